/- Contracts of a key's block, and of what tells it under a number. -/
import Derived.Test.YtknkmblacaaegaaDoorMacMem
import Derived.Deep.DeepCutAuto
namespace Go.Proofs.YtknkmblacaaegaaDoor
open Go.RowKit
set_option linter.unusedVariables false
set_option linter.unusedSimpArgs false
set_option maxRecDepth 100000

/-- The first k bytes are turned. -/
def half (n : Int) (l : List Int) (k : Nat) : List Int := under n (l.take k) ++ l.drop k
theorem half_length (n : Int) (l : List Int) (k : Nat) : (half n l k).length = l.length := by simp [half, under_length]; omega
theorem half_zero (n : Int) (l : List Int) : half n l 0 = l := by simp [half, under]
theorem half_all (n : Int) {l : List Int} {k : Nat} (h : l.length ≤ k) : half n l k = under n l := by
  unfold half; rw [List.take_of_length_le h, List.drop_of_length_le h, List.append_nil]
theorem nth_half {n : Int} {l : List Int} {k : Nat} (h : k < l.length) : nth (half n l k) k = nth l k := by
  have hl : (under n (l.take k)).length = k := by rw [under_length, List.length_take]; omega
  unfold half
  rw [nth_append_right (by omega), hl, Nat.sub_self, nth_drop, Nat.add_zero]
theorem half_set {n : Int} {l : List Int} {k : Nat} (h : k < l.length) : (half n l k).set k (bits .xor .u8 (nth l k) n) = half n l (k + 1) := by
  have hl : (under n (l.take k)).length = k := by rw [under_length, List.length_take]; omega
  unfold half
  rw [List.set_append_right _ _ (by omega), hl, Nat.sub_self, List.drop_eq_getElem_cons h, List.set_cons_zero, List.take_succ_eq_append_getElem h, nth_of h]
  simp only [List.map_append, List.map_cons, List.map_nil, under, List.append_assoc, List.singleton_append]

set_option maxHeartbeats 2000000 in
/-- What tells the block under n. -/
theorem turnerAt (n : Int) (b : Nat) (l : List Int) (w : World) (hC : Ay 38 w b l) (hl : l.length = 64) :
    Calls Tryd.prog 59 #[.int .u8 n, .pointer (some ⟨b, 0, none⟩)] w fun e w' => ∃ g, e = .returned (.slice (some ⟨g, 0, none⟩) 64 64) ∧ w.heap.size ≤ g ∧ Ay 38 w' g (under n l) ∧ Below w.heap.size w w' := by
  have HC := Lib.hid hC
  have HL := Lib.hid hl
  clear hC hl
  go_enter Tryd.func59, Tryd.ntmps59
  go_upto_region 1 with fail
  apply wp_region_lit
  refine wpList_load_ay rfl 38 64 arbB (.tmp 1) rfl b rfl l HC.out HL.out ?_
  refine wpList_alloc_ay rfl 38 64 arbB rfl ?_
  intro g w1 hg h1 hb1
  refine wpList_store_ay rfl 38 64 arbB (.tmp 4) (.tmp 6) rfl g l _ rfl rfl h1 (by rfl) HL.out ?_
  intro w2 h2 hb2
  have B2 := Lib.hid (((Below.refl w.heap.size w).grown hb1 (Nat.le_refl _) (fun k e => by cases e)).grown hb2 hb1.size (fun k e => by cases e; omega))
  have hg0 : w.heap.size ≤ g := by omega
  have HG := Lib.hid hg0
  have A2 : Hid (Ay 38 w2 g (half n l 0)) := Lib.hid (by rw [half_zero]; exact h2)
  clear h1 hb1 h2 hb2 hg hg0
  go_wp2
  go_loopw [7] (fun i wr => ∃ k : Nat, k ≤ 64 ∧ i = .int .i64 k ∧ Hid (Ay 38 wr g (half n l k)) ∧ Hid (Below w.heap.size w wr)) (fun i _ => 64 - (intOf i).toNat)
  case atStart => exact ⟨0, Nat.zero_le _, rfl, A2, B2⟩
  case round =>
    clear A2 B2
    obtain ⟨k, hk, rfl, A, B⟩ := hrel
    by_cases hlt : k < 64
    · have hd : decide ((k : Int) < 64) = true := by simp; omega
      have c := (A.out).cell (j := k) (by rw [half_length, HL.out]; exact hlt)
      rw [nth_half (by rw [HL.out]; exact hlt)] at c
      have z := (A.out).cel.frozen k
      have A3 := Lib.hid ((A.out).set k (bits .xor .u8 (nth l k) n))
      have B3 := Lib.hid ((B.out).setCell (p := ⟨g, k, none⟩) (HG.out) (.int .u8 (bits .xor .u8 (nth l k) n)))
      rw [half_set (by rw [HL.out]; exact hlt)] at A3
      clear A B
      generalize nth l k = x at *
      go_wp2
      go_roundw
      case rel => exact ⟨k + 1, by omega, by go_num, A3, B3⟩
      case measure => simp [intOf]; omega
    · have hd : decide ((k : Int) < 64) = false := by simp; omega
      obtain rfl : k = 64 := by omega
      go_wp2
      go_ret
      refine ⟨g, rfl, HG.out, ?_, B.out⟩
      have := A.out
      rwa [half_all n (by rw [HL.out]; exact Nat.le_refl _)] at this

theorem turner (l : List Int) (w : World) (hl : l.length = 64) :
    Calls Tryd.prog 29 #[.agg (bv l).toArray] w fun e w' => ∃ b, e = .returned (.func (.func 59) #[] #[.pointer (some ⟨b, 0, none⟩)]) ∧ Ay 38 w' b l ∧ Below w.heap.size w w' := by
  have hmf : ∀ (fn : Fn) (first cap : Array Value) (w : World), (Instr.makeFunc fn first cap).run Tryd.prog w = .ok (.func fn first cap) w := fun _ _ _ _ => rfl
  go_enter Tryd.func29, Tryd.ntmps29
  apply wp_seq
  apply wp_region_lit
  refine wpList_box_ay rfl 38 64 arbB (.tmp 0) rfl l rfl ?_
  intro g w1 hg h1 hb1
  have B1 := Lib.hid ((Below.refl w.heap.size w).grown hb1 (Nat.le_refl _) (fun k e => by cases e))
  have H1 := Lib.hid h1
  clear h1 hb1 hg
  go_wp2
  go_ret
  exact ⟨g, rfl, H1.out, B1.out⟩

set_option maxHeartbeats 2000000 in
theorem blockOf (v : Value) (l : List Int) (w : World) (T : Tabs w) (h : Bs w v l) (ho : Oct l) (hl : l.length ≤ 50000) :
    Calls Tryd.prog 20 #[v] w fun e w' => e = .returned (.agg (bv (kblock l)).toArray) ∧ Below w.heap.size w w' := by
  obtain ⟨ao, cap, hsh⟩ := h.shape
  subst hsh
  have H := Lib.hid h
  have HT := Lib.hid T
  have HO := Lib.hid ho
  have HLE := Lib.hid hl
  clear h T ho
  generalize hn : l.length = n at *
  have HN := Lib.hid hn
  clear hn
  go_enter Tryd.func20, Tryd.ntmps20
  go_upto_region 2 with fail
  change Code.wp _ _ _ _ ((w.alloc (.cells (bv (List.replicate 64 0)).toArray 38)).alloc (.cells (bv (List.replicate 64 0)).toArray 38))
  have XA1 : Ay 38 ((w.alloc (.cells (bv (List.replicate 64 0)).toArray 38)).alloc (.cells (bv (List.replicate 64 0)).toArray 38)) w.heap.size (List.replicate 64 0) := (Ay.made _ w _).alloc _
  have XA2 : Ay 38 ((w.alloc (.cells (bv (List.replicate 64 0)).toArray 38)).alloc (.cells (bv (List.replicate 64 0)).toArray 38)) (w.heap.size + 1) (List.replicate 64 0) := by
    have := Ay.made 38 (w.alloc (.cells (bv (List.replicate 64 0)).toArray 38)) (List.replicate 64 0)
    simpa using this
  have B1 := Lib.hid (bel_two (Below.refl w.heap.size w) (.cells (bv (List.replicate 64 0)).toArray 38) (.cells (bv (List.replicate 64 0)).toArray 38))
  have A1 := Lib.hid XA1
  clear XA1
  have A2 := Lib.hid XA2
  clear XA2
  generalize (w.alloc (.cells (bv (List.replicate 64 0)).toArray 38)).alloc (.cells (bv (List.replicate 64 0)).toArray 38) = w1 at *
  obtain ⟨R, hR⟩ : ∃ R, R = w.heap.size + 1 := ⟨_, rfl⟩
  rw [← hR] at A2 ⊢
  have HR := Lib.hid hR
  clear hR
  generalize hA : w.heap.size = A at *
  have HA := Lib.hid hA
  clear hA
  go_upto_if 6 with fail
  go_cut [0] (fun v0 wx => ∃ (a : Option Addr) (m c : Nat), v0 = .slice a m c ∧ Hid (m = (short l).length) ∧ Hid (Bs wx (.slice a m c) (short l)) ∧ Hid (Ay 38 wx A (List.replicate 64 0)) ∧ Hid (Ay 38 wx R (List.replicate 64 0)) ∧ Hid (Below A w wx))
  case first =>
    by_cases hlt : 64 < n
    · have hd : decide ((64 : Int) < (n : Int)) = true := by simp; omega
      have hsh : short l = digest l := by unfold short; rw [if_pos (by rw [HN.out]; exact hlt)]
      have SM := Lib.hid (shaSum32 (.slice ao n cap) l w1 ((HT.out).below B1.out (by have := (HT.out).2.lt; have := HA.out; omega)) ((H.out).below ((H.out).under.mono (by have := HA.out; omega)) B1.out) HO.out (by have := HN.out; omega))
      have HSH := Lib.hid hsh
      clear hsh
      go_wp2_with fail
      refine (SM.out).mono ?_; rintro e w2 ⟨a2, c2, rfl, ho2, hb2⟩
      have S2 := Lib.hid ho2.bs
      have B2 := Lib.hid hb2
      clear ho2 hb2 SM
      go_wp2_with fail
      go_meet
      refine ⟨a2, 32, c2, rfl, Lib.hid (by rw [HSH.out, digest_length]), Lib.hid (by rw [HSH.out]; exact S2.out), Lib.hid ((A1.out).past B2.out), Lib.hid ((A2.out).past B2.out), Lib.hid ((B1.out).trans ((B2.out).mono (by have := (B1.out).size; have := HA.out; omega)))⟩
    · have hd : decide ((64 : Int) < (n : Int)) = false := by simp; omega
      have hsh : short l = l := by unfold short; rw [if_neg (by rw [HN.out]; exact hlt)]
      have HSH := Lib.hid hsh
      clear hsh
      go_wp2_with fail
      go_meet
      refine ⟨ao, n, cap, rfl, Lib.hid (by rw [HSH.out, HN.out]), Lib.hid (by rw [HSH.out]; exact (H.out).below ((H.out).under.mono (by have := HA.out; omega)) B1.out), A1, A2, B1⟩
  case rest =>
    obtain ⟨a, m, c, rfl, HM, HS, A3, A4, B3⟩ := hcut
    clear A1 A2 B1
    have hm64 : m ≤ 64 := by have := HM.out; have := short_le l; omega
    have hmin : Nat.min m 64 = m := Nat.min_eq_left hm64
    have HMM := Lib.hid hmin
    clear hmin
    have HP : Hid (0 < (bv (short l)).length → (some ⟨R, 0, none⟩ : Option Addr) = some ⟨R, 0, none⟩ ∧ ∃ ad, a = some ad ∧ ∀ j v, (bv (short l))[j]? = some v → wc.cell? (ad.add j) = some v) := Lib.hid fun hp => by
      obtain ⟨b, off, c', hsh, -, -, -, cells⟩ := (HS.out).at (by simpa [bv] using hp)
      injection hsh with ha _ _
      refine ⟨rfl, ⟨b, off, none⟩, ha, fun j v hv => ?_⟩
      have hj : j < (short l).length := by
        have := (List.getElem?_eq_some_iff.1 hv).1
        simpa [bv] using this
      rw [bv_get hj] at hv
      cases hv
      rw [add_none]
      exact cells j hj
    go_wp2_with (refine wpList_copy_splice (o := ⟨some 11, _, _, _, _, _⟩) rfl (.tmp 9) (.tmp 10) 22 22 rfl 5 Tryd.underlying22 (by kernel_rfl) (some ⟨R, 0, none⟩) a 64 64 m c rfl rfl R 0 (bv (List.replicate 64 0)) 38 A4.out (bv (short l)) (by rw [length_bv, HMM.out, HM.out]) HP.out (by rw [length_bv, length_bv, List.length_replicate, ← HM.out]; omega) (bv_oneCell _) R wc (Below.refl R wc) (Nat.le_refl _) ?_)
    intro w2 hc2 hb2
    have A5 : Hid (Ay 38 w2 R (kblock l)) := Lib.hid (by
      have e : splice (bv (List.replicate 64 0)) 0 (bv (short l)) = bv (kblock l) := by
        have hs := short_le l
        simp only [splice, kblock, List.take_zero, List.nil_append, Nat.zero_add, bv_append]
        congr 1
        rw [length_bv]
        simp only [bv, ← List.map_drop, List.drop_replicate]
      unfold Ay
      rw [← e]
      exact hc2.out)
    have A6 : Hid (Ay 38 w2 A (List.replicate 64 0)) := Lib.hid ((hb2.block A (by have := HR.out; omega)).trans A3.out)
    have B5 : Hid (Below A w w2) := Lib.hid ((B3.out).trans (hb2.mono (by have := HR.out; omega)))
    clear hc2 hb2 A3 A4 B3 HP
    go_upto_region 5 with fail
    apply wp_region_lit
    refine wpList_load_ay rfl 38 64 arbB (.tmp 3) rfl R rfl _ (A5.out) (kblock_length l) ?_
    refine wpList_store_ay rfl 38 64 arbB (.tmp 2) (.tmp 12) rfl A (kblock l) _ rfl rfl (A6.out) (by rfl) (kblock_length l) ?_
    intro w3 h3 g3
    have A7 := Lib.hid h3
    have B7 := Lib.hid ((B5.out).grown g3 (by have := (B5.out).size; have := HA.out; omega) (fun k hk => by cases hk; exact Nat.le_refl _))
    clear h3 g3
    go_wp2
    refine ret_ay 38 64 arbB 2 ?hr A ?hp _ (A7.out) (kblock_length l) ?hd ?hR
    case hr => kernel_rfl
    case hp => simp only [Act.put, List.setIfInBounds_toArray, List.set_cons_zero, List.set_cons_succ]; rfl
    case hd => simp only [Act.put]
    case hR =>
      rw [HA.out]
      exact ⟨rfl, B7.out⟩
end Go.Proofs.YtknkmblacaaegaaDoor
