/- What an instruction is shown as: its parts. -/
import Derived.Test.YthfkmackodbmkaaGreatDoorTextWords
import Derived.Test.YthfkmackodbmkaaGreatDoorTextRead
import Derived.Test.YthfkmackodbmkaaGreatDoorTextToks
import Derived.Laws.BitsLemmas
namespace Go.Proofs.YthfkmackodbmkaaGreatDoor
open Go.RowKit
set_option linter.unusedVariables false
set_option linter.unusedSimpArgs false
set_option maxRecDepth 100000
set_option maxHeartbeats 1000000

theorem regs_get (n : Int) (h0 : 0 ≤ n) (h1 : n ≤ 10) : regs.getD n.toNat [] = regS n := by
  unfold regS; rw [List.getD_eq_getElem?_getD]
theorem regS_len (n : Int) : (regS n).length ≤ 3 := by
  unfold regS
  have h : ∀ k : Nat, k < 11 → (regs[k]?.getD []).length ≤ 3 := by decide +kernel
  by_cases hk : n.toNat < 11
  · exact h _ hk
  · have : regs[n.toNat]? = none := List.getElem?_eq_none (by have : regs.length = 11 := rfl; omega)
    simp [this]
theorem itoa_short (n : Int) (h0 : -9223372036854775808 ≤ n) (h1 : n ≤ 9223372036854775807) : (Lib.itoa n).length ≤ 20 := itoa_len n h0 h1
theorem farP (off : Int) (gap : Str) (h0 : -32768 ≤ off) (h1 : off < 32768) (hg : gap.length ≤ 10) (w : World) (L : Lay w) :
    Calls Tryz.prog 172 #[.int .i64 off, str gap] w fun e w' => e = .returned (str (farS off gap)) ∧ Below w.heap.size w w' := by
  by_cases hn : off < 0
  · have hd : decide (off < 0) = true := by simpa using hn
    have I := itoaP (-off) (by omega) (by omega) w L
    have hl := itoa_short (-off) (by omega) (by omega)
    have hw : wrap64 (-off) = -off := IntWalk.wrap64_in _ ⟨by omega, by omega⟩
    have hw2 : IntKind.i64.wrap (-off) = -off := by rw [IntKind.wrap_i64]; omega
    have hf : farS off gap = 45 :: (gap ++ Lib.itoa (-off)) := by unfold farS; rw [if_pos hn]
    rw [hf]
    have C1 := run_cat (P := Tryz.prog) [45] gap (by simp; omega)
    have C2 := run_cat (P := Tryz.prog) ([45] ++ gap) (Lib.itoa (-off)) (by simp; omega)
    clear hf L
    go_enter Tryz.func172, Tryz.ntmps172
    go_wp2_with fail
    refine I.mono ?_; rintro e w' ⟨rfl, hb⟩
    go_wp2_with fail
    go_ret
    exact ⟨by rw [str_cat]; rfl, hb⟩
  · have hd : decide (off < 0) = false := by simpa using hn
    have I := itoaP off (by omega) (by omega) w L
    have hl := itoa_short off (by omega) (by omega)
    have hf : farS off gap = 43 :: (gap ++ Lib.itoa off) := by unfold farS; rw [if_neg hn]
    rw [hf]
    have C1 := run_cat (P := Tryz.prog) [43] gap (by simp; omega)
    have C2 := run_cat (P := Tryz.prog) ([43] ++ gap) (Lib.itoa off) (by simp; omega)
    clear hf L
    go_enter Tryz.func172, Tryz.ntmps172
    go_wp2_with fail
    refine I.mono ?_; rintro e w' ⟨rfl, hb⟩
    go_wp2_with fail
    go_ret
    exact ⟨by rw [str_cat]; rfl, hb⟩
theorem secondP' (i : Ins) (h0 : i.ui = true ∨ (0 ≤ i.src ∧ i.src ≤ 10)) (h2 : -9223372036854775808 ≤ i.im) (h3 : i.im ≤ 9223372036854775807) (w : World) (L : Lay w) :
    Calls Tryz.prog 171 #[agg i] w fun e w' => e = .returned (str (secondS i)) ∧ Below w.heap.size w w' := by
  obtain ⟨op, nw, dst, src, ui, off, im, sz⟩ := i
  have O := oc_new w 47 (.int .u8 op) (.bool nw) (.int .i64 dst) (.int .i64 src) (.bool ui) (.int .i64 off) (.int .i64 im) (.int .i64 sz)
  have B := alloc_below w (.cells #[.int .u8 op, .bool nw, .int .i64 dst, .int .i64 src, .bool ui, .int .i64 off, .int .i64 im, .int .i64 sz] 47)
  obtain ⟨z0, z1, z2, z3, z4, z5, z6, z7⟩ := O.cells
  cases ui with
  | true =>
    have I := itoaP im h2 h3 _ (L.past B)
    have hs : secondS ⟨op, nw, dst, src, true, off, im, sz⟩ = Lib.itoa im := rfl
    rw [hs]
    unfold agg
    simp only
    clear O L hs
    go_enter Tryz.func171, Tryz.ntmps171
    go_wp2_with fail
    refine I.mono ?_; rintro e w' ⟨rfl, hb⟩
    have B' := B.trans (hb.mono B.size)
    go_wp2_with fail
    go_ret
    exact ⟨rfl, B'⟩
  | false =>
    have hs : secondS ⟨op, nw, dst, src, false, off, im, sz⟩ = regS src := rfl
    rw [hs]
    have hr := h0.resolve_left (by simp)
    simp only at hr
    obtain ⟨n, rfl⟩ := Int.eq_ofNat_of_zero_le hr.1
    have hn : n ≤ 10 := by omega
    have hr2 : regS (n : Int) = regs.getD n [] := (regs_get n hr.1 hr.2).symm.trans (by simp)
    rw [hr2]
    obtain ⟨rs, hrs⟩ : ∃ rs, rs = regs.getD n [] := ⟨_, rfl⟩
    rw [← hrs]
    have HRS := Lib.hid hrs
    have HN := Lib.hid hn
    clear hr hr2 hs hn h0 hrs
    unfold agg
    simp only
    have HO := Lib.hid O
    have HB := Lib.hid B
    clear O L z0 z1 z2 z4 z5 z6 z7 B
    go_enter Tryz.func171, Tryz.ntmps171
    go_wp2_with fail
    generalize w.alloc (.cells #[.int .u8 op, .bool nw, .int .i64 dst, .int .i64 n, .bool false, .int .i64 off, .int .i64 im, .int .i64 sz] 47) = w1 at *
    have hw.heap.size : w.heap.size < w1.heap.size := (HO.out).lt
    refine wp_region_held_drew (S := fun w' => w'.cell? ⟨w.heap.size, 3, none⟩ = some (.int .i64 n)) (by kernel_rfl) z3 (fun S0 => ?_)
    refine wpAnyH_take (i := 1) (v := ?v1t1) rfl (by kernel_rfl) (by kernel_rfl) (by kernel_rfl) (fun _ _ _ h => h) (Or.inl ⟨by rfl, ?y1t1⟩) S0 ?z1t1
    case y1t1 => intro w_ hSw; go_simp; with_reducible rfl
    try simp only [List.getElem_toArray, List.getElem_cons_zero, List.getElem_cons_succ, Act.put, List.setIfInBounds_toArray, List.set_cons_zero, List.set_cons_succ]
    refine wpAnyH_take (i := 2) (v := ?v2t2) rfl (by kernel_rfl) (by kernel_rfl) (by kernel_rfl) (fun _ _ _ h => h) (Or.inl ⟨by rfl, ?y2t2⟩) S0 ?z2t2
    case y2t2 => intro w_ hSw; (try dsimp only at hSw); go_simp; with_reducible rfl
    try simp only [List.getElem_toArray, List.getElem_cons_zero, List.getElem_cons_succ, Act.put, List.setIfInBounds_toArray, List.set_cons_zero, List.set_cons_succ]
    refine wpAnyH_ready (rs := [0]) (by kernel_rfl) (by simp) ?_
    refine AllReadyH.cons rfl (fun K hK => ?_) AllReadyH.nil
    go_simp
    refine (registersP w1.drew).mono ?_; rintro e w2 ⟨v, rfl, hv, hb⟩
    have S2 := (hb.cell (p := ⟨w.heap.size, 3, none⟩) (by exact hw.heap.size)).trans S0
    have HB2 := Lib.hid ((HB.out).trans ((show Below w1.heap.size w1 w2 from ⟨hb.os, hb.tape, hb.output, hb.size, fun k h => hb.block k h⟩).mono (HB.out).size))
    obtain ⟨ao, cap, hsh⟩ := hv.shape
    have e11 : regs.length = 11 := rfl
    rw [e11] at hsh
    subst hsh
    obtain ⟨g, o, rfl, y0, y1, y2, y3, y4⟩ := hv.at (by decide)
    have y5 := y4 n (by have : regs.length = 11 := rfl; have := HN.out; omega)
    rw [← HRS.out] at y5
    have p2 : (n : Int) < 11 := by have := HN.out; omega
    clear hb hv y4 S0 y0 y1 y2 y3 e11
    try go_wp2_with fail
    refine hK.out _ _ S2 (fun _ => ?_)
    clear hK K
    try simp only [List.getElem_toArray, List.getElem_cons_zero, List.getElem_cons_succ, Act.put, List.setIfInBounds_toArray, List.set_cons_zero, List.set_cons_succ]
    refine wpAnyH_ready (rs := [3]) (by kernel_rfl) (by simp) ?_
    refine AllReadyH.cons rfl (fun K hK => ?_) AllReadyH.nil
    go_simp
    refine hK.out _ _ S2 (fun _ => ?_)
    clear hK K
    try simp only [List.getElem_toArray, List.getElem_cons_zero, List.getElem_cons_succ, Act.put, List.setIfInBounds_toArray, List.set_cons_zero, List.set_cons_succ]
    refine wpAnyH_ready (rs := [4]) (by kernel_rfl) (by simp) ?_
    refine AllReadyH.cons rfl (fun K hK => ?_) AllReadyH.nil
    go_simp
    refine hK.out _ _ S2 (fun _ => ?_)
    clear hK K
    try simp only [List.getElem_toArray, List.getElem_cons_zero, List.getElem_cons_succ, Act.put, List.setIfInBounds_toArray, List.set_cons_zero, List.set_cons_succ]
    refine wpAnyH_take (i := 5) (v := ?v5t3) rfl (by kernel_rfl) (by kernel_rfl) (by kernel_rfl) (fun _ _ _ h => h) (Or.inl ⟨by rfl, ?y5t3⟩) S2 ?z5t3
    case y5t3 => intro w_ hSw; go_simp; with_reducible rfl
    try simp only [List.getElem_toArray, List.getElem_cons_zero, List.getElem_cons_succ, Act.put, List.setIfInBounds_toArray, List.set_cons_zero, List.set_cons_succ]
    refine wpAnyH_done (by kernel_rfl) ?_ _
    go_wp2_with fail
    go_ret
    exact ⟨rfl, HB2.out⟩
theorem cellP' (n : Nat) (off : Int) (hn : n ≤ 10) (h0 : -32768 ≤ off) (h1 : off < 32768) (w : World) (L : Lay w) :
    Calls Tryz.prog 170 #[.int .i64 n, .int .i64 off] w fun e w' => e = .returned (str (cellS n off)) ∧ Below w.heap.size w w' := by
  have hs : cellS n off = (([91] ++ regs.getD n []) ++ [32] ++ farS off [32]) ++ [93] := by
    unfold cellS
    rw [← regs_get n (by omega) (by omega)]
    simp
  obtain ⟨rs, hrs⟩ : ∃ rs, rs = regs.getD n [] := ⟨_, rfl⟩
  rw [hs, ← hrs]
  have HRS := Lib.hid hrs
  have HN := Lib.hid hn
  have FA := Lib.hid (fun W (LW : Lay W) => farP off [32] h0 h1 (by decide) W LW)
  have HL := Lib.hid L
  have hfl : (farS off [32]).length ≤ 30 := by
    unfold farS
    split
    · have := itoa_short (-off) (by omega) (by omega); simp; omega
    · have := itoa_short off (by omega) (by omega); simp; omega
  have hrl : rs.length ≤ 3 := by have := regs_get (n : Int) (by omega) (by omega); rw [hrs]; rw [Int.toNat_natCast] at this; rw [this]; exact regS_len n
  generalize farS off [32] = fs at FA hfl ⊢
  have C1 := run_cat (P := Tryz.prog) [91] rs (by simp; omega)
  have C2 := run_cat (P := Tryz.prog) (91 :: rs) [32] (by simp; omega)
  have C3 := run_cat (P := Tryz.prog) (91 :: (rs ++ [32])) fs (by simp; omega)
  have C4 := run_cat (P := Tryz.prog) (91 :: (rs ++ 32 :: fs)) [93] (by simp; omega)
  simp only [List.cons_append, List.append_assoc, List.nil_append] at C1 C2 C3 C4
  clear hfl hrl hs hrs hn L h0 h1
  go_enter Tryz.func170, Tryz.ntmps170
  go_wp2_with fail
  refine wp_region_held_drew (S := fun _ => True) (by kernel_rfl) trivial (fun _ => ?_)
  refine wpAnyH_take (i := 1) (v := ?v1t4) rfl (by kernel_rfl) (by kernel_rfl) (by kernel_rfl) (fun _ _ _ h => h) (Or.inl ⟨by rfl, ?y1t4⟩) trivial ?z1t4
  case y1t4 => intro w_ hSw; go_simp; with_reducible rfl
  try simp only [List.getElem_toArray, List.getElem_cons_zero, List.getElem_cons_succ, Act.put, List.setIfInBounds_toArray, List.set_cons_zero, List.set_cons_succ]
  refine wpAnyH_take (i := 6) (v := ?v6t5) rfl (by kernel_rfl) (by kernel_rfl) (by kernel_rfl) (fun _ _ _ h => h) (Or.inl ⟨by rfl, ?y6t5⟩) trivial ?z6t5
  case y6t5 => intro w_ hSw; go_simp; with_reducible rfl
  try simp only [List.getElem_toArray, List.getElem_cons_zero, List.getElem_cons_succ, Act.put, List.setIfInBounds_toArray, List.set_cons_zero, List.set_cons_succ]
  refine wpAnyH_ready (rs := [0]) (by kernel_rfl) (by simp) ?_
  refine AllReadyH.cons rfl (fun K hK => ?_) AllReadyH.nil
  go_simp
  refine (registersP w.drew).mono ?_; rintro e w2 ⟨v, rfl, hv, hb⟩
  have HB2 := Lib.hid (show Below w.heap.size w w2 from ⟨hb.os, hb.tape, hb.output, hb.size, fun k h => hb.block k h⟩)
  obtain ⟨ao, cap, hsh⟩ := hv.shape
  have e11 : regs.length = 11 := rfl
  rw [e11] at hsh
  subst hsh
  obtain ⟨g, o, rfl, y0, y1, y2, y3, y4⟩ := hv.at (by decide)
  have y5 := y4 n (by have : regs.length = 11 := rfl; have := HN.out; omega)
  rw [← HRS.out] at y5
  have p2 : (n : Int) < 11 := by have := HN.out; omega
  have HV := Lib.hid (World.block_lt_of_cell? w2 _ y5)
  clear hb hv y4 y0 y1 y2 y3 e11
  try go_wp2_with fail
  refine hK.out _ _ trivial (fun _ => ?_)
  clear hK K
  try simp only [List.getElem_toArray, List.getElem_cons_zero, List.getElem_cons_succ, Act.put, List.setIfInBounds_toArray, List.set_cons_zero, List.set_cons_succ]
  refine wpAnyH_take (i := 2) (v := ?v2t6) rfl (by kernel_rfl) (by kernel_rfl) (by kernel_rfl) (fun _ _ _ h => h) (Or.inl ⟨by rfl, ?y2t6⟩) trivial ?z2t6
  case y2t6 => intro w_ hSw; go_simp; with_reducible rfl
  try simp only [List.getElem_toArray, List.getElem_cons_zero, List.getElem_cons_succ, Act.put, List.setIfInBounds_toArray, List.set_cons_zero, List.set_cons_succ]
  refine wpAnyH_ready (rs := [3, 7]) (by kernel_rfl) (by simp) ?_
  refine AllReadyH.cons rfl (fun K hK => ?_) (AllReadyH.cons rfl (fun K hK => ?_) AllReadyH.nil)
  · go_simp
    refine hK.out _ _ trivial (fun _ => ?_)
    clear hK K
    try simp only [List.getElem_toArray, List.getElem_cons_zero, List.getElem_cons_succ, Act.put, List.setIfInBounds_toArray, List.set_cons_zero, List.set_cons_succ]
    refine wpAnyH_take (i := 4) (v := ?v4t7) rfl (by kernel_rfl) (by kernel_rfl) (by kernel_rfl) (fun _ _ _ h => h) (Or.inl ⟨by rfl, ?y4t7⟩) trivial ?z4t7
    case y4t7 => intro w_ hSw; go_simp; with_reducible rfl
    try simp only [List.getElem_toArray, List.getElem_cons_zero, List.getElem_cons_succ, Act.put, List.setIfInBounds_toArray, List.set_cons_zero, List.set_cons_succ]
    refine wpAnyH_take (i := 5) (v := ?v5t8) rfl (by kernel_rfl) (by kernel_rfl) (by kernel_rfl) (fun _ _ _ h => h) (Or.inl ⟨by rfl, ?y5t8⟩) trivial ?z5t8
    case y5t8 => intro w_ hSw; go_simp; with_reducible rfl
    try simp only [List.getElem_toArray, List.getElem_cons_zero, List.getElem_cons_succ, Act.put, List.setIfInBounds_toArray, List.set_cons_zero, List.set_cons_succ]
    refine wpAnyH_ready (rs := [7]) (by kernel_rfl) (by simp) ?_
    refine AllReadyH.cons rfl (fun K hK => ?_) AllReadyH.nil
    go_simp
    refine ((FA.out) w2 ((HL.out).past HB2.out)).mono ?_; rintro e w3 ⟨rfl, b3⟩
    have HB3 := Lib.hid ((HB2.out).trans (b3.mono (HB2.out).size))
    clear b3
    try go_wp2_with fail
    refine hK.out _ _ trivial (fun _ => ?_)
    clear hK K
    try simp only [List.getElem_toArray, List.getElem_cons_zero, List.getElem_cons_succ, Act.put, List.setIfInBounds_toArray, List.set_cons_zero, List.set_cons_succ]
    refine wpAnyH_take (i := 8) (v := ?v8t9) rfl (by kernel_rfl) (by kernel_rfl) (by kernel_rfl) (fun _ _ _ h => h) (Or.inl ⟨by rfl, ?y8t9⟩) trivial ?z8t9
    case y8t9 => intro w_ hSw; go_simp; with_reducible rfl
    try simp only [List.getElem_toArray, List.getElem_cons_zero, List.getElem_cons_succ, Act.put, List.setIfInBounds_toArray, List.set_cons_zero, List.set_cons_succ]
    refine wpAnyH_take (i := 9) (v := ?v9t10) rfl (by kernel_rfl) (by kernel_rfl) (by kernel_rfl) (fun _ _ _ h => h) (Or.inl ⟨by rfl, ?y9t10⟩) trivial ?z9t10
    case y9t10 => intro w_ hSw; go_simp; with_reducible rfl
    try simp only [List.getElem_toArray, List.getElem_cons_zero, List.getElem_cons_succ, Act.put, List.setIfInBounds_toArray, List.set_cons_zero, List.set_cons_succ]
    refine wpAnyH_take (i := 10) (v := ?v10t11) rfl (by kernel_rfl) (by kernel_rfl) (by kernel_rfl) (fun _ _ _ h => h) (Or.inl ⟨by rfl, ?y10t11⟩) trivial ?z10t11
    case y10t11 => intro w_ hSw; go_simp; with_reducible rfl
    try simp only [List.getElem_toArray, List.getElem_cons_zero, List.getElem_cons_succ, Act.put, List.setIfInBounds_toArray, List.set_cons_zero, List.set_cons_succ]
    refine wpAnyH_done (by kernel_rfl) ?_ _
    go_wp2_with fail
    go_ret
    refine ⟨?_, HB3.out⟩
    first | rfl | (simp [str_cat])
  · go_simp
    refine ((FA.out) w2 ((HL.out).past HB2.out)).mono ?_; rintro e w3 ⟨rfl, b3⟩
    have HB3 := Lib.hid ((HB2.out).trans (b3.mono (HB2.out).size))
    have y6 := (b3.cell (p := ⟨g, o + n, none⟩) (by exact HV.out)).trans y5
    clear b3 y5
    try go_wp2_with fail
    refine hK.out _ _ trivial (fun _ => ?_)
    clear hK K
    try simp only [List.getElem_toArray, List.getElem_cons_zero, List.getElem_cons_succ, Act.put, List.setIfInBounds_toArray, List.set_cons_zero, List.set_cons_succ]
    refine wpAnyH_ready (rs := [3]) (by kernel_rfl) (by simp) ?_
    refine AllReadyH.cons rfl (fun K hK => ?_) AllReadyH.nil
    go_simp
    refine hK.out _ _ trivial (fun _ => ?_)
    clear hK K
    try simp only [List.getElem_toArray, List.getElem_cons_zero, List.getElem_cons_succ, Act.put, List.setIfInBounds_toArray, List.set_cons_zero, List.set_cons_succ]
    refine wpAnyH_take (i := 4) (v := ?v4t12) rfl (by kernel_rfl) (by kernel_rfl) (by kernel_rfl) (fun _ _ _ h => h) (Or.inl ⟨by rfl, ?y4t12⟩) trivial ?z4t12
    case y4t12 => intro w_ hSw; go_simp; with_reducible rfl
    try simp only [List.getElem_toArray, List.getElem_cons_zero, List.getElem_cons_succ, Act.put, List.setIfInBounds_toArray, List.set_cons_zero, List.set_cons_succ]
    refine wpAnyH_take (i := 5) (v := ?v5t13) rfl (by kernel_rfl) (by kernel_rfl) (by kernel_rfl) (fun _ _ _ h => h) (Or.inl ⟨by rfl, ?y5t13⟩) trivial ?z5t13
    case y5t13 => intro w_ hSw; go_simp; with_reducible rfl
    try simp only [List.getElem_toArray, List.getElem_cons_zero, List.getElem_cons_succ, Act.put, List.setIfInBounds_toArray, List.set_cons_zero, List.set_cons_succ]
    refine wpAnyH_take (i := 8) (v := ?v8t14) rfl (by kernel_rfl) (by kernel_rfl) (by kernel_rfl) (fun _ _ _ h => h) (Or.inl ⟨by rfl, ?y8t14⟩) trivial ?z8t14
    case y8t14 => intro w_ hSw; go_simp; with_reducible rfl
    try simp only [List.getElem_toArray, List.getElem_cons_zero, List.getElem_cons_succ, Act.put, List.setIfInBounds_toArray, List.set_cons_zero, List.set_cons_succ]
    refine wpAnyH_take (i := 9) (v := ?v9t15) rfl (by kernel_rfl) (by kernel_rfl) (by kernel_rfl) (fun _ _ _ h => h) (Or.inl ⟨by rfl, ?y9t15⟩) trivial ?z9t15
    case y9t15 => intro w_ hSw; go_simp; with_reducible rfl
    try simp only [List.getElem_toArray, List.getElem_cons_zero, List.getElem_cons_succ, Act.put, List.setIfInBounds_toArray, List.set_cons_zero, List.set_cons_succ]
    refine wpAnyH_take (i := 10) (v := ?v10t16) rfl (by kernel_rfl) (by kernel_rfl) (by kernel_rfl) (fun _ _ _ h => h) (Or.inl ⟨by rfl, ?y10t16⟩) trivial ?z10t16
    case y10t16 => intro w_ hSw; go_simp; with_reducible rfl
    try simp only [List.getElem_toArray, List.getElem_cons_zero, List.getElem_cons_succ, Act.put, List.setIfInBounds_toArray, List.set_cons_zero, List.set_cons_succ]
    refine wpAnyH_done (by kernel_rfl) ?_ _
    go_wp2_with fail
    go_ret
    refine ⟨?_, HB3.out⟩
    first | rfl | (simp [str_cat])
end Go.Proofs.YthfkmackodbmkaaGreatDoor
