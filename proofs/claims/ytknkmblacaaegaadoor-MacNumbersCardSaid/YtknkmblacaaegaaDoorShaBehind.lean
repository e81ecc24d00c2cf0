/- The state behind any number of blocks. -/
import Derived.Test.YtknkmblacaaegaaDoorShaBlock
namespace Go.Proofs.YtknkmblacaaegaaDoor
open Go.RowKit
set_option linter.unusedVariables false
set_option linter.unusedSimpArgs false
set_option maxRecDepth 100000

theorem Tabs.below {w w' : World} {B : Nat} (h : Tabs w) (hb : Below B w w') (hB : 1 < B) : Tabs w' := ⟨h.1.below hb (by omega), h.2.below hb hB⟩
theorem Tabs.past {w w' : World} (h : Tabs w) (hb : Below w.heap.size w w') : Tabs w' := h.below hb h.2.lt

set_option maxHeartbeats 2000000 in
theorem behind (s : Sta) (v : Value) (l : List Int) (p : Nat) (w : World) (T : Tabs w) (hs : s.ok) (h : Bs w v l) (ho : Oct l) (hl : l.length = 64 * p) :
    Calls Tryd.prog 25 #[.agg (wv s.list).toArray, v] w fun e w' => e = .returned (.agg (wv (runs s l p).list).toArray) ∧ Below w.heap.size w w' := by
  obtain ⟨ao, cap, hsh⟩ := h.shape
  have hlen := h.len
  rw [hl] at hsh hlen
  subst hsh
  have HV := Lib.hid h
  have HO := Lib.hid ho
  have HL := Lib.hid hl
  have HS := Lib.hid hs
  have HT := Lib.hid T
  clear h ho hl hs T
  go_enter Tryd.func25, Tryd.ntmps25
  go_upto_region 1 with fail
  change Code.wp _ _ _ _ ((w.alloc (.cells (wv s.list).toArray 67)).alloc (.cells (wv (List.replicate 8 0)).toArray 67))
  have hI : InB w w.heap.size (wv s.list) (wv (List.replicate 8 0)) ((w.alloc (.cells (wv s.list).toArray 67)).alloc (.cells (wv (List.replicate 8 0)).toArray 67)) :=
    ⟨(Cel.made w _ _).alloc _, by simpa using Cel.made (w.alloc (.cells (wv s.list).toArray 67)) (wv (List.replicate 8 0)) 67, bel_two (Below.refl w.heap.size w) _ _, by simp⟩
  generalize (w.alloc (.cells (wv s.list).toArray 67)).alloc (.cells (wv (List.replicate 8 0)).toArray 67) = w1 at *
  have hUn := Lib.hid ((HV.out).under)
  have h1A := Lib.hid ((HT.out).2.lt)
  generalize hA : w.heap.size = A at *
  have HA := Lib.hid hA
  clear hA
  have HI0 : Hid (InB w A (wv (runs s l 0).list) (wv (List.replicate 8 0)) w1) := Lib.hid hI
  clear hI
  go_wp2
  obtain ⟨n, hn⟩ : ∃ n, n = 64 * p := ⟨_, rfl⟩
  rw [← hn] at hlen HL HV hUn ⊢
  have HN := Lib.hid hn
  clear hn
  go_loopw [5] (fun i wr => ∃ k q : Nat, k ≤ p ∧ Hid (q = 64 * k) ∧ i = .int .i64 (q : Nat) ∧ Hid (InB w A (wv (runs s l k).list) (wv (List.replicate 8 0)) wr)) (fun i _ => n - (intOf i).toNat)
  case atStart => exact ⟨0, 0, Nat.zero_le _, Lib.hid rfl, rfl, HI0⟩
  case round =>
    clear HI0
    obtain ⟨k, q, hk, HQ, rfl, HI⟩ := hrel
    by_cases hlt : k < p
    · have hqn : q + 64 ≤ n := by have := HQ.out; have := HN.out; omega
      have hd : decide (q < n) = true := by simp; omega
      obtain ⟨b, off, cap', hsh, hc1, -, -, -⟩ := (HV.out).at (by have := HL.out; omega)
      rw [HL.out] at hc1 hsh
      injection hsh with hao _ hcc
      subst hao hcc
      have hbs := ((HV.out).below hUn.out (HI.out).2.2.1).drop (n := q) (by have := HL.out; omega)
      rw [if_neg (by omega)] at hbs
      have hbs2 := hbs.take (n := 64) (by have := HL.out; simp; omega)
      have hadd : (some (⟨b, off, none⟩ : Addr)).map (·.add q) = some ⟨b, off + q, none⟩ := by simp [add_none]
      rw [hadd] at hbs2
      have HR : Hid (runs s l (k + 1) = blk (runs s l k) ((l.drop q).take 64)) := Lib.hid (by rw [HQ.out]; rfl)
      have HO2 := Lib.hid (((HO.out).drop q).take 64)
      have HL2 : Hid (((l.drop q).take 64).length = 64) := Lib.hid (by have := HL.out; simp; omega)
      have ok := Lib.hid (runs_ok HS.out l k)
      have HB := Lib.hid hbs2
      have T1 := Lib.hid ((HT.out).below (HI.out).2.2.1 h1A.out)
      clear hbs hbs2 hadd
      generalize (l.drop q).take 64 = blo at *
      generalize hr : runs s l k = r at *
      clear hr
      obtain ⟨ra, rb, rc, rd, re, rf, rg, rh⟩ := r
      have BB : Hid (∀ w', Below wr.heap.size wr w' → Calls Tryd.prog 56 #[.agg #[.int .u32 ra, .int .u32 rb, .int .u32 rc, .int .u32 rd, .int .u32 re, .int .u32 rf, .int .u32 rg, .int .u32 rh], .slice (some ⟨b, off + q, none⟩) 64 (cap - q)] w' fun e w'' => e = .returned (.agg (wv (runs s l (k + 1)).list).toArray) ∧ Below w'.heap.size w' w'') :=
        Lib.hid fun w' hb => by
          rw [HR.out]
          exact behindBlock ⟨ra, rb, rc, rd, re, rf, rg, rh⟩ _ blo w' ((T1.out).past hb) ok.out ((HB.out).past hb) HO2.out HL2.out
      clear HB T1 HR
      have HI1 : Hid (InB w A (wv [ra, rb, rc, rd, re, rf, rg, rh]) (wv (List.replicate 8 0)) wr) := HI
      have c0 : wr.cell? ⟨A, 0, none⟩ = some (.int .u32 ra) := (HI.out).1.cell rfl
      have c1 : wr.cell? ⟨A, 1, none⟩ = some (.int .u32 rb) := (HI.out).1.cell rfl
      have c2 : wr.cell? ⟨A, 2, none⟩ = some (.int .u32 rc) := (HI.out).1.cell rfl
      have c3 : wr.cell? ⟨A, 3, none⟩ = some (.int .u32 rd) := (HI.out).1.cell rfl
      have c4 : wr.cell? ⟨A, 4, none⟩ = some (.int .u32 re) := (HI.out).1.cell rfl
      have c5 : wr.cell? ⟨A, 5, none⟩ = some (.int .u32 rf) := (HI.out).1.cell rfl
      have c6 : wr.cell? ⟨A, 6, none⟩ = some (.int .u32 rg) := (HI.out).1.cell rfl
      have c7 : wr.cell? ⟨A, 7, none⟩ = some (.int .u32 rh) := (HI.out).1.cell rfl
      have wk2 : IntKind.i64.wrap ((q : Int) + 64) = (q : Int) + 64 := IntWalk.i64_in _ (by omega)
      have m1 : max ((q : Int) + 64) 0 = (q : Int) + 64 := by omega
      have t1 : ((q : Int) + 64).toNat = q + 64 := by omega
      have n1 : q + 64 - q = 64 := by omega
      have le1 : (q : Int) + 64 ≤ (cap : Int) := by omega
      have le0 : 0 ≤ (q : Int) + 64 := by omega
      have le2 : (q : Int) ≤ (q : Int) + 64 := by omega
      have ne1 : ¬ cap = q := by omega
      clear HI
      go_wp2
      go_still_tail 6, (by kernel_rfl)
      change wpList _ _ _ _ _ wr.drew
      have HI2 := Lib.hid ((HI1.out).drew)
      have C := Lib.hid ((BB.out) wr.drew (((Still.refl wr).drewN 1).below _))
      clear BB HI1 c0 c1 c2 c3 c4 c5 c6 c7
      generalize wr.drew = w2 at *
      generalize hrn : runs s l (k + 1) = rn at *
      have HRN := Lib.hid hrn
      clear hrn
      go_wp2_with fail
      refine (C.out).mono ?_; rintro e3 w3 ⟨rfl, hb3⟩
      have HI3 := Lib.hid ((HI2.out).past hb3)
      clear HI2 hb3 C wk2 m1 t1 n1 le1 le0 le2 ne1
      go_wp2_with ((refine wpList_store_cel ?g0 67 8 arrS (.tmp 2) (.tmp 18) ?g1 A (wv rn.list) _ ?g2 ?g3 (HI3.out).1 ?g4 ?g5 ?g6 ?g7); (case g0 => rfl); (case g1 => rfl); (case g2 => rfl); (case g3 => rfl); (case g4 => rfl); (case g5 => rfl); (case g6 => exact wv_one _))
      intro w4 hc4 hg4
      have HI4 : InB w A (wv (runs s l (k + 1)).list) (wv (List.replicate 8 0)) w4 := by
        rw [HRN.out]
        exact ⟨hc4, (HI3.out).2.1.grown hg4 (fun e => by have := Option.some.inj e; omega), (HI3.out).2.2.1.grown hg4 (by have := (HI3.out).2.2.2; omega) (fun k e => by cases e; exact Nat.le_refl _), Nat.le_trans (HI3.out).2.2.2 hg4.size⟩
      have HI4 := Lib.hid HI4
      clear hc4 hg4 HI3
      go_wp2
      go_roundw
      case rel => exact ⟨k + 1, q + 64, by omega, Lib.hid (by have := HQ.out; omega), by go_num, HI4⟩
      case measure => simp [intOf]; omega
    · have hkp : k = p := by omega
      subst hkp
      have hqn : q = n := by have := HQ.out; have := HN.out; omega
      subst hqn
      have hd : decide (q < q) = false := by simp
      go_upto_region 5 with fail
      apply wp_region_lit
      refine wpList_load_cel rfl 67 8 arrS (.tmp 2) rfl A rfl _ ((HI.out).1) rfl ?_
      refine wpList_store_cel rfl 67 8 arrS (.tmp 4) (.tmp 19) rfl (A + 1) (wv (runs s l k).list) _ rfl rfl ((HI.out).2.1) rfl rfl (wv_one _) ?_
      intro w8 c8 g8
      have C8 := Lib.hid c8
      have B8 := Lib.hid ((HI.out).2.2.1.grown g8 (by have := (HI.out).2.2.2; omega) (fun k hk => by cases hk; omega))
      clear c8 g8
      go_wp2
      refine ret_cel 67 8 arrS 4 ?hr (A + 1) ?hp _ (C8.out) ?hl ?hd ?hR
      case hr => kernel_rfl
      case hp => simp only [Act.put, List.setIfInBounds_toArray, List.set_cons_zero, List.set_cons_succ]; rfl
      case hl => rfl
      case hd => simp only [Act.put]
      case hR =>
        rw [HA.out]
        exact ⟨rfl, B8.out⟩
end Go.Proofs.YtknkmblacaaegaaDoor
