/- The end of a message, bytes copied; a state's bytes. -/
import Derived.Test.YtknkmblacaaegaaDoorShaBehind
import Derived.Lib.SliceRun
namespace Go.Proofs.YtknkmblacaaegaaDoor
open Go.RowKit
set_option linter.unusedVariables false
set_option linter.unusedSimpArgs false
set_option maxRecDepth 100000

/-- How long a slice is. -/
def sliceLen : Value → Nat
  | .slice _ n _ => n
  | _ => 0
theorem clone (v : Value) (l : List Int) (w : World) (h : Bs w v l) (hl : l.length ≤ 1000000) :
    Calls Tryd.prog 57 #[v] w fun e w' => Fresh l w e w' := by
  obtain ⟨ao, cap, hsh⟩ := h.shape
  have HL := Lib.hid hl
  subst hsh
  cases ao with
  | none =>
    have hn : l = [] := by
      obtain ⟨_, _, e, h1, _, h3, _⟩ := h
      cases e
      have := h3 rfl
      exact List.eq_nil_of_length_eq_zero (by omega)
    subst hn
    clear h
    have EQ := fun w => Go.Lib.run_eql_slice_nil (P := Tryd.prog) w 22 5 none 0 cap 0 0 Tryd.underlying22
    simp only [List.length_nil]
    go_enter Tryd.func57, Tryd.ntmps57
    go_wp2
    go_ret
    exact ⟨_, rfl, Own.nil _ _, Below.refl _ _⟩
  | some a =>
    have EQ := fun w => Go.Lib.run_eql_slice_nil (P := Tryd.prog) w 22 5 (some a) l.length cap 0 0 Tryd.underlying22
    have H := Lib.hid (h.alloc (.cells #[] 5))
    have O := Lib.hid (made_now w w.heap.size (Nat.le_refl _))
    clear h
    go_enter Tryd.func57, Tryd.ntmps57
    go_wp2_with (at_builtin; refine wpList_append_bs _ rfl _ _ rfl w.heap.size _ [] rfl O.out _ _ rfl H.out (by have := HL.out; simp; omega) (by simp) ?_)
    intro v' w' ho hg
    have HO := Lib.hid ho
    have B : Below w.heap.size w w' := (alloc_below w _).grown hg (by simp) (fun k hk => by cases hk; exact Nat.le_refl _)
    have HB := Lib.hid B
    clear ho hg B O
    go_wp2
    go_ret
    exact ⟨_, rfl, by simpa using HO.out, HB.out⟩

theorem pad_more {m j : Nat} (h : j < padOf m) : ¬ (m + 1 + j) % 64 = 56 := by unfold padOf at h; omega
theorem padOf_lt (m : Nat) : padOf m < 64 := Nat.mod_lt _ (by decide)
theorem padOf_mod {m n : Nat} (h : m % 64 = n % 64) : padOf m = padOf n := by unfold padOf; rw [h]

set_option maxHeartbeats 2000000 in
theorem lastBlocks (v : Value) (l : List Int) (n : Nat) (w : World) (h : Bs w v l) (hl : l.length ≤ 100000) (hn : n < 536870912) (hm : l.length % 64 = n % 64) :
    Calls Tryd.prog 26 #[v, .int .i64 n] w fun e w' => Fresh (l ++ (128 :: tailOf n)) w e w' := by
  obtain ⟨ao, cap, hsh⟩ := h.shape
  have HL := Lib.hid hl
  have C := Lib.hid (clone v l w h (by omega))
  have HP := Lib.hid (padOf_mod hm)
  have bs1 : (n : Int) * 8 = ((8 * n : Nat) : Int) := by omega
  have bs2 : ((8 * n : Nat) : Int) / 4294967296 = 0 := by omega
  have AW := Lib.hid (fun base v xs k w => appendWord base v xs k w)
  have hn8 : 8 * n < 4294967296 := by omega
  have HT : Hid (tailOf n = List.replicate (padOf n) 0 ++ (w4 ((0 : Nat) : Int) ++ w4 ((8 * n : Nat) : Int))) := Lib.hid rfl
  subst hsh
  clear h hl hm
  go_enter Tryd.func26, Tryd.ntmps26
  go_wp2_with fail
  refine (C.out).mono ?_; rintro e1 w1 ⟨v1, rfl, ho1, hb1⟩
  obtain ⟨ao1, cap1, hsh1⟩ := ho1.bs.shape
  have O1 := Lib.hid (ho1.alloc (.cells #[.int .u8 128] 5))
  have L1 := Lib.hid (bs_lit w1 128)
  have hz1 : w.heap.size ≤ w1.heap.size := hb1.size
  have B1 := Lib.hid (hb1.trans ((alloc_below w1 (.cells #[.int .u8 128] 5)).mono hz1))
  have HV := Lib.hid hsh1
  subst hsh1
  clear ho1 hb1 C
  go_wp2_with (at_builtin; refine wpList_append_bs _ rfl _ _ rfl w.heap.size _ l rfl O1.out _ _ rfl L1.out (by have := HL.out; simp; omega) (by simp; omega) ?_)
  intro v2 w2 ho2 hg2
  have B2 := (B1.out).grown hg2 (by simp; omega) (fun k hk => ((O1.out).lt k hk).1)
  obtain ⟨ao2, cap2, hsh2⟩ := ho2.bs.shape
  have O2 : Hid (Own w2 w.heap.size v2 (l ++ (128 :: List.replicate 0 0))) := Lib.hid ho2
  have B2 := Lib.hid B2
  clear ho2 hg2 O1 L1 B1 HV
  obtain ⟨m, hmm⟩ : ∃ m, m = l.length := ⟨_, rfl⟩
  have HM := Lib.hid hmm
  have hs2 : v2 = .slice ao2 (m + 1) cap2 := by rw [hsh2, hmm]; simp
  clear hsh2 hmm
  subst hs2
  go_wp2
  go_loopw [5] (fun x wr => ∃ (j k : Nat) (a : Option Addr) (c : Nat), j ≤ padOf m ∧ Hid (k = m + 1 + j) ∧ x = .slice a k c ∧ Hid (Own wr w.heap.size (.slice a k c) (l ++ (128 :: List.replicate j 0))) ∧ Hid (Below w.heap.size w wr)) (fun x _ => m + 64 - sliceLen x)
  case atStart => exact ⟨0, m + 1, ao2, cap2, Nat.zero_le _, Lib.hid rfl, rfl, O2, B2⟩
  case round =>
    clear O2 B2
    obtain ⟨j, k, a, c, hj, HK, rfl, O, B⟩ := hrel
    by_cases hlt : j < padOf m
    · have hkr : ¬ k % 64 = 56 := by rw [HK.out]; exact pad_more hlt
      have hkb : k ≤ 200000 := by have := HK.out; have := padOf_lt m; have := HM.out; have := HL.out; omega
      have hd : ((k : Int) % 64 != 56) = true := by simp; omega
      have O1 := Lib.hid ((O.out).alloc (.cells #[.int .u8 0] 5))
      have L1 := Lib.hid (bs_lit wr 0)
      have hz : w.heap.size ≤ wr.heap.size := (B.out).size
      have B1 := Lib.hid ((B.out).trans ((alloc_below wr (.cells #[.int .u8 0] 5)).mono hz))
      have hap : l ++ (128 :: (List.replicate j (0 : Int) ++ [0])) = l ++ (128 :: List.replicate (j + 1) 0) := by
        rw [← List.replicate_succ']
      have HAP := Lib.hid hap
      have hlk : (l ++ (128 :: List.replicate j 0)).length = k := by have := HK.out; have := HM.out; simp; omega
      have HLK := Lib.hid hlk
      clear hap hlk O B hkr
      go_wp2_with (at_builtin; refine wpList_append_bs _ rfl _ _ rfl w.heap.size _ (l ++ (128 :: List.replicate j 0)) rfl O1.out _ _ rfl L1.out (by rw [HLK.out]; simp; omega) (by simp; omega) ?_)
      intro v3 w3 ho3 hg3
      have B3 := Lib.hid ((B1.out).grown hg3 (by simp; omega) (fun k hk => ((O1.out).lt k hk).1))
      rw [HAP.out] at ho3
      obtain ⟨a3, c3, hs3⟩ := ho3.bs.shape
      have hl3 : (l ++ (128 :: List.replicate (j + 1) (0 : Int))).length = k + 1 := by have := HLK.out; simp at this ⊢; omega
      have hs4 : v3 = .slice a3 (k + 1) c3 := by rw [hs3, hl3]
      subst hs4
      have O3 := Lib.hid ho3
      clear ho3 hg3 B1 O1 L1 hs3 hl3
      go_wp2
      go_roundw
      case rel => exact ⟨j + 1, k + 1, a3, c3, by omega, Lib.hid (by have := HK.out; omega), rfl, O3, B3⟩
      case measure => have := HK.out; have := padOf_lt m; simp [sliceLen]; omega
    · have hjm : j = padOf m := by omega
      have hkr : k % 64 = 56 := by rw [HK.out, hjm]; exact padOf_eq m
      have hd : ((k : Int) % 64 != 56) = false := by simp; omega
      have hkb : k ≤ 200000 := by have := HK.out; have := padOf_lt m; have := HM.out; have := HL.out; omega
      have hlk : (l ++ (128 :: List.replicate j 0)).length = k := by have := HK.out; have := HM.out; simp; omega
      have hz : w.heap.size ≤ wr.heap.size := (B.out).size
      have A1 := Lib.hid ((AW.out) w.heap.size (.slice a k c) (l ++ (128 :: List.replicate j 0)) 0 wr (O.out) hz (by rw [hlk]; omega) (by decide))
      have hout : l ++ (128 :: List.replicate j 0) ++ w4 ((0 : Nat) : Int) ++ w4 ((8 * n : Nat) : Int) = l ++ (128 :: tailOf n) := by
        rw [HT.out, ← HP.out, ← HM.out, hjm]; simp
      have HOUT := Lib.hid hout
      have HLK := Lib.hid hlk
      clear hout hlk hkr
      obtain ⟨n8, hn8'⟩ : ∃ q, q = 8 * n := ⟨_, rfl⟩
      rw [← hn8'] at bs1 bs2 hn8 HOUT
      clear hn8'
      go_wp2_with fail
      refine (A1.out).mono ?_; rintro e2 w2 ⟨v2, rfl, ho2, hg2⟩
      have hz2 := hg2.size
      have B2 := Lib.hid ((B.out).grown hg2 hz (fun k hk => ((O.out).lt k hk).1))
      have A2 := Lib.hid ((AW.out) w.heap.size v2 _ n8 w2 ho2 (by omega) (by simp [w4_length] at *; have := HLK.out; omega) hn8)
      have O2 := Lib.hid ho2
      clear ho2 hg2 O B A1
      go_wp2_with fail
      refine (A2.out).mono ?_; rintro e3 w3 ⟨v3, rfl, ho3, hg3⟩
      have B3 := Lib.hid ((B2.out).grown hg3 (by omega) (fun k hk => ((O2.out).lt k hk).1))
      rw [HOUT.out] at ho3
      have O3 := Lib.hid ho3
      clear ho3 hg3 O2 B2 A2
      go_wp2
      go_ret
      exact ⟨v3, rfl, O3.out, B3.out⟩

set_option maxHeartbeats 2000000 in
theorem stateBytes (s : Sta) (w : World) (hs : s.ok) :
    Calls Tryd.prog 27 #[.agg (wv s.list).toArray] w fun e w' => Fresh s.bytes w e w' := by
  have HS := Lib.hid hs
  have AW := Lib.hid (fun base v xs k w => appendWord base v xs k w)
  clear hs
  go_enter Tryd.func27, Tryd.ntmps27
  go_upto_region 2 with fail
  change Code.wp _ _ _ _ (w.alloc (.cells (wv s.list).toArray 67))
  have C1 := Cel.made w (wv s.list) 67
  apply wp_region_lit
  refine wpList_load_cel rfl 67 8 arrS (.tmp 1) rfl w.heap.size rfl _ C1 rfl ?_
  simp only [Act.put, List.setIfInBounds_toArray, List.set_cons_zero, List.set_cons_succ]
  have B1 := Lib.hid (alloc_below w (.cells (wv s.list).toArray 67))
  clear C1
  generalize w.alloc (.cells (wv s.list).toArray 67) = w1 at *
  have O1 : Hid (Own w1 w.heap.size (.slice none 0 0) ((s.list.take 0).flatMap fun n => w4 (n : Nat))) := Lib.hid (Own.nil _ _)
  go_wp2
  go_loopw [3, 7] (fun x i wr => ∃ (k : Nat) (a : Option Addr) (n c : Nat), k ≤ 8 ∧ x = .slice a n c ∧ i = .int .i64 k ∧ Hid (Own wr w.heap.size (.slice a n c) ((s.list.take k).flatMap fun n => w4 (n : Nat))) ∧ Hid (Below w.heap.size w wr)) (fun _ i _ => 8 - (intOf i).toNat)
  case atStart => exact ⟨0, none, 0, 0, Nat.zero_le _, rfl, rfl, O1, B1⟩
  case round =>
    clear O1 B1
    obtain ⟨k, a, n, c, hk, rfl, rfl, O, B⟩ := hrel
    by_cases hlt : k < 8
    · have hd : decide ((k : Int) < 8) = true := by simp; omega
      have IX := fun w => arr_index arrS (wv s.list) k (.int .u32 (wth s.list k : Nat)) (list_at s hlt) hlt w
      have hstep : ((s.list.take k).flatMap fun n => w4 (n : Nat)) ++ w4 (wth s.list k : Nat) = (s.list.take (k + 1)).flatMap fun n => w4 (n : Nat) := by
        rw [List.take_succ_eq_append_getElem (by simpa [Sta.list] using hlt), List.flatMap_append, wth_of (by simpa [Sta.list] using hlt)]
        simp
      have hlen : ((s.list.take k).flatMap fun n => w4 (n : Nat)).length ≤ 32 := by
        rw [List.length_flatMap]
        have : ((s.list.take k).map fun n => (w4 ((n : Nat) : Int)).length) = List.replicate k 4 := by
          obtain rfl | rfl | rfl | rfl | rfl | rfl | rfl | rfl : k = 0 ∨ k = 1 ∨ k = 2 ∨ k = 3 ∨ k = 4 ∨ k = 5 ∨ k = 6 ∨ k = 7 := by omega
          all_goals rfl
        rw [this]
        simp
        omega
      have A1 := (AW.out) w.heap.size (.slice a n c) _ (wth s.list k) wr O.out (B.out).size (by omega) ((list_wrd HS.out).wth k)
      unfold Adds at A1
      rw [hstep] at A1
      have A2 := Lib.hid A1
      clear A1 hstep hlen
      generalize wth s.list k = x at *
      go_wp2_with fail
      refine (A2.out).mono ?_; rintro e2 w2 ⟨v2, rfl, ho2, hg2⟩
      have B2 := Lib.hid ((B.out).grown hg2 (B.out).size (fun k hk => ((O.out).lt k hk).1))
      obtain ⟨a2, c2, hs2⟩ := ho2.bs.shape
      have O2 := Lib.hid ho2
      subst hs2
      generalize ((s.list.take (k + 1)).flatMap fun n => w4 ((n : Nat) : Int)).length = n2 at *
      clear ho2 hg2 O B A2
      go_wp2
      go_roundw
      case rel => exact ⟨k + 1, a2, n2, c2, by omega, rfl, by go_num, O2, B2⟩
      case measure => simp [intOf]; omega
    · have hd : decide ((k : Int) < 8) = false := by simp; omega
      obtain rfl : k = 8 := by omega
      have O2 : Hid (Own wr w.heap.size (.slice a n c) s.bytes) := O
      clear O
      go_wp2
      go_ret
      exact ⟨_, rfl, O2.out, B.out⟩
end Go.Proofs.YtknkmblacaaegaaDoor
