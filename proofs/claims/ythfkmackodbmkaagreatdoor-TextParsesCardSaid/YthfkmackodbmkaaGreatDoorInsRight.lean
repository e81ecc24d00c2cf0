/- The program: whether an instruction is right; whether it jumps. -/
import Derived.Test.YthfkmackodbmkaaGreatDoorInsBare
import Derived.Test.YthfkmackodbmkaaGreatDoorInsEq
import Derived.Deep.RegionHeld3
namespace Go.Proofs.YthfkmackodbmkaaGreatDoor
open Go.RowKit
set_option linter.unusedVariables false
set_option linter.unusedSimpArgs false
set_option maxRecDepth 100000

/-- Eight cells stay. -/
theorem eight_past {w w' : World} {b : Nat} {c0 c1 c2 c3 c4 c5 c6 c7 : Value} (h : w.cell? ⟨b, 0, none⟩ = some c0 ∧ w.cell? ⟨b, 1, none⟩ = some c1 ∧ w.cell? ⟨b, 2, none⟩ = some c2 ∧ w.cell? ⟨b, 3, none⟩ = some c3 ∧ w.cell? ⟨b, 4, none⟩ = some c4 ∧ w.cell? ⟨b, 5, none⟩ = some c5 ∧ w.cell? ⟨b, 6, none⟩ = some c6 ∧ w.cell? ⟨b, 7, none⟩ = some c7) (hb : Below w.heap.size w w') :
    w'.cell? ⟨b, 0, none⟩ = some c0 ∧ w'.cell? ⟨b, 1, none⟩ = some c1 ∧ w'.cell? ⟨b, 2, none⟩ = some c2 ∧ w'.cell? ⟨b, 3, none⟩ = some c3 ∧ w'.cell? ⟨b, 4, none⟩ = some c4 ∧ w'.cell? ⟨b, 5, none⟩ = some c5 ∧ w'.cell? ⟨b, 6, none⟩ = some c6 ∧ w'.cell? ⟨b, 7, none⟩ = some c7 :=
  ⟨cellP h.1 hb, cellP h.2.1 hb, cellP h.2.2.1 hb, cellP h.2.2.2.1 hb, cellP h.2.2.2.2.1 hb, cellP h.2.2.2.2.2.1 hb, cellP h.2.2.2.2.2.2.1 hb, cellP h.2.2.2.2.2.2.2 hb⟩
/-- e returns whether, and what was there is as it was. -/
def Says (b : Bool) (w : World) (e : Ending) (w' : World) : Prop := e = .returned (.bool b) ∧ Below w.heap.size w w'

attribute [local go_sem high] eql_cells

set_option maxHeartbeats 8000000 in
theorem rightP_has (i : Ins) (h : Int) (hop : fl i.op = h) (h0 : 0 ≤ i.op) (h1 : i.op ≤ 255) (hh : h = 1 ∨ h = 33 ∨ h = 107 ∨ h = 117 ∨ h = 131 ∨ h = 147 ∨ h = 181) (w : World) : Calls Tryz.prog 21 #[agg i] w (Says (right i) w) := by
  have hr : right i = (decide (i = bare i h) && fitsI i h) := by
    rw [right_eq, hop]
    have : bit h 1 = true := by rcases hh with rfl | rfl | rfl | rfl | rfl | rfl | rfl <;> decide
    rw [this, Bool.true_and]
  have FO := fieldsOf i.op
  rw [hop] at FO
  have HFO := Lib.hid (fun W => FO W h0 h1)
  have BA := bared i h hh
  have HFI := Lib.hid (fits i h hh)
  have hd1 : (bits BinOp.and IntKind.u64 h 1 != 0) = true := by rcases hh with rfl | rfl | rfl | rfl | rfl | rfl | rfl <;> decide
  clear FO hop h0 h1 hh
  rw [hr]
  clear hr
  have hs := same8_of i (bare i h)
  generalize bare i h = j at BA hs ⊢
  rw [← hs]
  have HBA := Lib.hid BA
  clear hs BA
  have B0 := Lib.hid (alloc_below w (Obj.cells #[.int .u8 i.op, .bool i.nw, .int .i64 i.dst, .int .i64 i.src, .bool i.ui, .int .i64 i.off, .int .i64 i.im, .int .i64 i.sz] 47))
  have O0 := Lib.hid (oc_new w 47 (.int .u8 i.op) (.bool i.nw) (.int .i64 i.dst) (.int .i64 i.src) (.bool i.ui) (.int .i64 i.off) (.int .i64 i.im) (.int .i64 i.sz))
  obtain ⟨op, nw, dst, src, ui, off, im, sz⟩ := i
  obtain ⟨op', nw', dst', src', ui', off', im', sz'⟩ := j
  unfold agg at HFI HBA ⊢
  simp only at HFI HBA HFO B0 O0 ⊢
  generalize fitsI ⟨op, nw, dst, src, ui, off, im, sz⟩ h = fv at HFI ⊢
  generalize hsv : same8 op nw dst src ui off im sz op' nw' dst' src' ui' off' im' sz' = sv
  go_enter Tryz.func21, Tryz.ntmps21
  go_wp2_with fail
  refine (HFO.out _).mono ?_; rintro e w1 ⟨rfl, hst⟩
  have O1 := (O0.out).past (hst.below _)
  have B1 := Lib.hid ((B0.out).trans (hst.below _))
  clear hst B0 O0
  have S0 := eight_past O1.cells ((Below.refl w1.heap.size w1).drew)
  obtain ⟨r0, r1, r2, r3, r4, r5, r6, r7⟩ := O1.cells
  cases sv with
  | true =>
    go_wp2_with fail
    go_region_held3 (fun w' => w'.cell? ⟨w.heap.size, 0, none⟩ = some (.int .u8 op) ∧ w'.cell? ⟨w.heap.size, 1, none⟩ = some (.bool nw) ∧ w'.cell? ⟨w.heap.size, 2, none⟩ = some (.int .i64 dst) ∧ w'.cell? ⟨w.heap.size, 3, none⟩ = some (.int .i64 src) ∧ w'.cell? ⟨w.heap.size, 4, none⟩ = some (.bool ui) ∧ w'.cell? ⟨w.heap.size, 5, none⟩ = some (.int .i64 off) ∧ w'.cell? ⟨w.heap.size, 6, none⟩ = some (.int .i64 im) ∧ w'.cell? ⟨w.heap.size, 7, none⟩ = some (.int .i64 sz)) (first | (with_reducible assumption) | go_keep) (first | (go_at_call 49; refine ((HBA.out) _).mono ?_; rintro e w2 ⟨rfl, b2⟩; have S1 := eight_past S0 b2) | (go_at_call 50; refine ((HFI.out) _).mono ?_; rintro e w3 ⟨rfl, b3⟩; have S2 := eight_past S1 b3))
    go_wp2_with fail
    go_ret
    exact ⟨rfl, (B1.out).trans (((Below.refl w1.heap.size w1).drew.trans (b2.mono (Nat.le_refl _))).trans (b3.mono b2.size) |>.mono (B1.out).size)⟩
  | false =>
    go_wp2_with fail
    refine wp_region_held_drew (S := (fun w' => w'.cell? ⟨w.heap.size, 0, none⟩ = some (.int .u8 op) ∧ w'.cell? ⟨w.heap.size, 1, none⟩ = some (.bool nw) ∧ w'.cell? ⟨w.heap.size, 2, none⟩ = some (.int .i64 dst) ∧ w'.cell? ⟨w.heap.size, 3, none⟩ = some (.int .i64 src) ∧ w'.cell? ⟨w.heap.size, 4, none⟩ = some (.bool ui) ∧ w'.cell? ⟨w.heap.size, 5, none⟩ = some (.int .i64 off) ∧ w'.cell? ⟨w.heap.size, 6, none⟩ = some (.int .i64 im) ∧ w'.cell? ⟨w.heap.size, 7, none⟩ = some (.int .i64 sz))) (by kernel_rfl) S0 (fun S0 => ?_)
    refine wpAnyH_take (i := 0) (v := ?v0t1) rfl (by kernel_rfl) (by kernel_rfl) (by kernel_rfl) (fun _ _ _ h => h) (Or.inl ⟨by rfl, ?y0t1⟩) S0 ?z0t1
    case y0t1 => intro w_ hSw; go_simp; with_reducible rfl
    try simp only [List.getElem_toArray, List.getElem_cons_zero, List.getElem_cons_succ, Act.put, List.setIfInBounds_toArray, List.set_cons_zero, List.set_cons_succ]
    refine wpAnyH_take (i := 1) (v := ?v1t2) rfl (by kernel_rfl) (by kernel_rfl) (by kernel_rfl) (fun _ _ _ h => h) (Or.inl ⟨by rfl, ?y1t2⟩) S0 ?z1t2
    case y1t2 => intro w_ hSw; go_simp; with_reducible rfl
    try simp only [List.getElem_toArray, List.getElem_cons_zero, List.getElem_cons_succ, Act.put, List.setIfInBounds_toArray, List.set_cons_zero, List.set_cons_succ]
    refine wpAnyH_take (i := 2) (v := ?v2t3) rfl (by kernel_rfl) (by kernel_rfl) (by kernel_rfl) (fun _ _ _ h => h) (Or.inl ⟨by rfl, ?y2t3⟩) S0 ?z2t3
    case y2t3 => intro w_ hSw; go_simp; with_reducible rfl
    try simp only [List.getElem_toArray, List.getElem_cons_zero, List.getElem_cons_succ, Act.put, List.setIfInBounds_toArray, List.set_cons_zero, List.set_cons_succ]
    refine wpAnyH_take (i := 3) (v := ?v3t4) rfl (by kernel_rfl) (by kernel_rfl) (by kernel_rfl) (fun _ _ _ h => h) (Or.inl ⟨by rfl, ?y3t4⟩) S0 ?z3t4
    case y3t4 => intro w_ hSw; go_simp; with_reducible rfl
    try simp only [List.getElem_toArray, List.getElem_cons_zero, List.getElem_cons_succ, Act.put, List.setIfInBounds_toArray, List.set_cons_zero, List.set_cons_succ]
    refine wpAnyH_take (i := 4) (v := ?v4t5) rfl (by kernel_rfl) (by kernel_rfl) (by kernel_rfl) (fun _ _ _ h => h) (Or.inl ⟨by rfl, ?y4t5⟩) S0 ?z4t5
    case y4t5 => intro w_ hSw; (try dsimp only at hSw); go_simp; with_reducible rfl
    try simp only [List.getElem_toArray, List.getElem_cons_zero, List.getElem_cons_succ, Act.put, List.setIfInBounds_toArray, List.set_cons_zero, List.set_cons_succ]
    refine wpAnyH_take (i := 5) (v := ?v5t6) rfl (by kernel_rfl) (by kernel_rfl) (by kernel_rfl) (fun _ _ _ h => h) (Or.inl ⟨by rfl, ?y5t6⟩) S0 ?z5t6
    case y5t6 => intro w_ hSw; (try dsimp only at hSw); go_simp; with_reducible rfl
    try simp only [List.getElem_toArray, List.getElem_cons_zero, List.getElem_cons_succ, Act.put, List.setIfInBounds_toArray, List.set_cons_zero, List.set_cons_succ]
    refine wpAnyH_take (i := 6) (v := ?v6t7) rfl (by kernel_rfl) (by kernel_rfl) (by kernel_rfl) (fun _ _ _ h => h) (Or.inl ⟨by rfl, ?y6t7⟩) S0 ?z6t7
    case y6t7 => intro w_ hSw; go_simp; with_reducible rfl
    try simp only [List.getElem_toArray, List.getElem_cons_zero, List.getElem_cons_succ, Act.put, List.setIfInBounds_toArray, List.set_cons_zero, List.set_cons_succ]
    refine wpAnyH_ready (rs := [7]) (by kernel_rfl) (by simp) ?_
    refine AllReadyH.cons rfl (fun K hK => ?_) AllReadyH.nil
    go_simp
    refine ((HBA.out) _).mono ?_; rintro e w2 ⟨rfl, b2⟩; have S1 := eight_past S0 b2
    try go_wp2_with fail
    refine hK.out _ _ S1 (fun _ => ?_)
    clear hK K
    try simp only [List.getElem_toArray, List.getElem_cons_zero, List.getElem_cons_succ, Act.put, List.setIfInBounds_toArray, List.set_cons_zero, List.set_cons_succ]
    refine wpAnyH_take (i := 8) (v := ?v8t8) rfl (by kernel_rfl) (by kernel_rfl) (by kernel_rfl) (fun _ _ _ h => h) (Or.inl ⟨by rfl, ?y8t8⟩) S1 ?z8t8
    case y8t8 => intro w_ hSw; go_simp; with_reducible rfl
    try simp only [List.getElem_toArray, List.getElem_cons_zero, List.getElem_cons_succ, Act.put, List.setIfInBounds_toArray, List.set_cons_zero, List.set_cons_succ]
    refine wpAnyH_take (i := 9) (v := ?v9t9) rfl (by kernel_rfl) (by kernel_rfl) (by kernel_rfl) (fun _ _ _ h => h) (Or.inl ⟨by rfl, ?y9t9⟩) S1 ?z9t9
    case y9t9 => intro w_ hSw; go_simp; with_reducible rfl
    try simp only [List.getElem_toArray, List.getElem_cons_zero, List.getElem_cons_succ, Act.put, List.setIfInBounds_toArray, List.set_cons_zero, List.set_cons_succ]
    refine wpAnyH_take (i := 10) (v := ?v10t10) rfl (by kernel_rfl) (by kernel_rfl) (by kernel_rfl) (fun _ _ _ h => h) (Or.inl ⟨by rfl, ?y10t10⟩) S1 ?z10t10
    case y10t10 => intro w_ hSw; go_simp; with_reducible rfl
    try simp only [List.getElem_toArray, List.getElem_cons_zero, List.getElem_cons_succ, Act.put, List.setIfInBounds_toArray, List.set_cons_zero, List.set_cons_succ]
    refine wpAnyH_take (i := 11) (v := undef) rfl (by kernel_rfl) (by kernel_rfl) (by kernel_rfl) (fun _ _ _ h => h) (Or.inr ⟨by rfl, rfl⟩) S1 ?_
    try simp only [List.getElem_toArray, List.getElem_cons_zero, List.getElem_cons_succ, Act.put, List.setIfInBounds_toArray, List.set_cons_zero, List.set_cons_succ]
    refine wpAnyH_take (i := 12) (v := undef) rfl (by kernel_rfl) (by kernel_rfl) (by kernel_rfl) (fun _ _ _ h => h) (Or.inr ⟨by rfl, rfl⟩) S1 ?_
    try simp only [List.getElem_toArray, List.getElem_cons_zero, List.getElem_cons_succ, Act.put, List.setIfInBounds_toArray, List.set_cons_zero, List.set_cons_succ]
    refine wpAnyH_take (i := 13) (v := undef) rfl (by kernel_rfl) (by kernel_rfl) (by kernel_rfl) (fun _ _ _ h => h) (Or.inr ⟨by rfl, rfl⟩) S1 ?_
    try simp only [List.getElem_toArray, List.getElem_cons_zero, List.getElem_cons_succ, Act.put, List.setIfInBounds_toArray, List.set_cons_zero, List.set_cons_succ]
    refine wpAnyH_take (i := 14) (v := ?v14t11) rfl (by kernel_rfl) (by kernel_rfl) (by kernel_rfl) (fun _ _ _ h => h) (Or.inl ⟨by rfl, ?y14t11⟩) S1 ?z14t11
    case y14t11 => intro w_ hSw; go_simp; with_reducible rfl
    try simp only [List.getElem_toArray, List.getElem_cons_zero, List.getElem_cons_succ, Act.put, List.setIfInBounds_toArray, List.set_cons_zero, List.set_cons_succ]
    refine wpAnyH_take (i := 15) (v := ?v15t12) rfl (by kernel_rfl) (by kernel_rfl) (by kernel_rfl) (fun _ _ _ h => h) (Or.inl ⟨by rfl, ?y15t12⟩) S1 ?z15t12
    case y15t12 => intro w_ hSw; go_simp; with_reducible rfl
    try simp only [List.getElem_toArray, List.getElem_cons_zero, List.getElem_cons_succ, Act.put, List.setIfInBounds_toArray, List.set_cons_zero, List.set_cons_succ]
    refine wpAnyH_done (by kernel_rfl) ?_ _
    go_wp2_with fail
    go_ret
    exact ⟨rfl, (B1.out).trans (((Below.refl w1.heap.size w1).drew.trans (b2.mono (Nat.le_refl _))).mono (B1.out).size)⟩

set_option maxHeartbeats 8000000 in
theorem rightP (i : Ins) (h0 : 0 ≤ i.op) (h1 : i.op ≤ 255) (w : World) : Calls Tryz.prog 21 #[agg i] w (Says (right i) w) := by
  rcases fl_cases i.op with h | h | h | h | h | h | h | h
  · have hr : right i = false := by rw [right_eq, h]; simp [show bit 0 1 = false from by decide]
    rw [hr]
    have FO := fieldsOf i.op
    rw [h] at FO
    have HFO := Lib.hid (fun W => FO W h0 h1)
    have hd1 : (bits BinOp.and IntKind.u64 0 1 != 0) = false := by decide
    clear FO h hr h0 h1
    have B0 := Lib.hid (alloc_below w (Obj.cells #[.int .u8 i.op, .bool i.nw, .int .i64 i.dst, .int .i64 i.src, .bool i.ui, .int .i64 i.off, .int .i64 i.im, .int .i64 i.sz] 47))
    have O0 := Lib.hid (oc_new w 47 (.int .u8 i.op) (.bool i.nw) (.int .i64 i.dst) (.int .i64 i.src) (.bool i.ui) (.int .i64 i.off) (.int .i64 i.im) (.int .i64 i.sz))
    obtain ⟨op, nw, dst, src, ui, off, im, sz⟩ := i
    unfold agg
    simp only at HFO B0 O0 ⊢
    go_enter Tryz.func21, Tryz.ntmps21
    go_wp2_with fail
    refine (HFO.out _).mono ?_; rintro e w1 ⟨rfl, hst⟩
    have O1 := (O0.out).past (hst.below _)
    have B1 := Lib.hid ((B0.out).trans (hst.below _))
    clear hst B0 O0
    have S0 := eight_past O1.cells ((Below.refl w1.heap.size w1).drew)
    obtain ⟨r0, r1, r2, r3, r4, r5, r6, r7⟩ := O1.cells
    go_wp2_with fail
    refine wp_region_held_drew (S := (fun w' => w'.cell? ⟨w.heap.size, 0, none⟩ = some (.int .u8 op) ∧ w'.cell? ⟨w.heap.size, 1, none⟩ = some (.bool nw) ∧ w'.cell? ⟨w.heap.size, 2, none⟩ = some (.int .i64 dst) ∧ w'.cell? ⟨w.heap.size, 3, none⟩ = some (.int .i64 src) ∧ w'.cell? ⟨w.heap.size, 4, none⟩ = some (.bool ui) ∧ w'.cell? ⟨w.heap.size, 5, none⟩ = some (.int .i64 off) ∧ w'.cell? ⟨w.heap.size, 6, none⟩ = some (.int .i64 im) ∧ w'.cell? ⟨w.heap.size, 7, none⟩ = some (.int .i64 sz))) (by kernel_rfl) S0 (fun S0 => ?_)
    refine wpAnyH_take (i := 0) (v := ?v0t13) rfl (by kernel_rfl) (by kernel_rfl) (by kernel_rfl) (fun _ _ _ h => h) (Or.inl ⟨by rfl, ?y0t13⟩) S0 ?z0t13
    case y0t13 => intro w_ hSw; go_simp; with_reducible rfl
    try simp only [List.getElem_toArray, List.getElem_cons_zero, List.getElem_cons_succ, Act.put, List.setIfInBounds_toArray, List.set_cons_zero, List.set_cons_succ]
    refine wpAnyH_take (i := 1) (v := ?v1t14) rfl (by kernel_rfl) (by kernel_rfl) (by kernel_rfl) (fun _ _ _ h => h) (Or.inl ⟨by rfl, ?y1t14⟩) S0 ?z1t14
    case y1t14 => intro w_ hSw; go_simp; with_reducible rfl
    try simp only [List.getElem_toArray, List.getElem_cons_zero, List.getElem_cons_succ, Act.put, List.setIfInBounds_toArray, List.set_cons_zero, List.set_cons_succ]
    refine wpAnyH_take (i := 2) (v := ?v2t15) rfl (by kernel_rfl) (by kernel_rfl) (by kernel_rfl) (fun _ _ _ h => h) (Or.inl ⟨by rfl, ?y2t15⟩) S0 ?z2t15
    case y2t15 => intro w_ hSw; go_simp; with_reducible rfl
    try simp only [List.getElem_toArray, List.getElem_cons_zero, List.getElem_cons_succ, Act.put, List.setIfInBounds_toArray, List.set_cons_zero, List.set_cons_succ]
    refine wpAnyH_take (i := 3) (v := ?v3t16) rfl (by kernel_rfl) (by kernel_rfl) (by kernel_rfl) (fun _ _ _ h => h) (Or.inl ⟨by rfl, ?y3t16⟩) S0 ?z3t16
    case y3t16 => intro w_ hSw; go_simp; with_reducible rfl
    try simp only [List.getElem_toArray, List.getElem_cons_zero, List.getElem_cons_succ, Act.put, List.setIfInBounds_toArray, List.set_cons_zero, List.set_cons_succ]
    refine wpAnyH_take (i := 4) (v := undef) rfl (by kernel_rfl) (by kernel_rfl) (by kernel_rfl) (fun _ _ _ h => h) (Or.inr ⟨by rfl, rfl⟩) S0 ?_
    try simp only [List.getElem_toArray, List.getElem_cons_zero, List.getElem_cons_succ, Act.put, List.setIfInBounds_toArray, List.set_cons_zero, List.set_cons_succ]
    refine wpAnyH_take (i := 5) (v := undef) rfl (by kernel_rfl) (by kernel_rfl) (by kernel_rfl) (fun _ _ _ h => h) (Or.inr ⟨by rfl, rfl⟩) S0 ?_
    try simp only [List.getElem_toArray, List.getElem_cons_zero, List.getElem_cons_succ, Act.put, List.setIfInBounds_toArray, List.set_cons_zero, List.set_cons_succ]
    refine wpAnyH_take (i := 6) (v := undef) rfl (by kernel_rfl) (by kernel_rfl) (by kernel_rfl) (fun _ _ _ h => h) (Or.inr ⟨by rfl, rfl⟩) S0 ?_
    try simp only [List.getElem_toArray, List.getElem_cons_zero, List.getElem_cons_succ, Act.put, List.setIfInBounds_toArray, List.set_cons_zero, List.set_cons_succ]
    refine wpAnyH_take (i := 7) (v := undef) rfl (by kernel_rfl) (by kernel_rfl) (by kernel_rfl) (fun _ _ _ h => h) (Or.inr ⟨by rfl, rfl⟩) S0 ?_
    try simp only [List.getElem_toArray, List.getElem_cons_zero, List.getElem_cons_succ, Act.put, List.setIfInBounds_toArray, List.set_cons_zero, List.set_cons_succ]
    refine wpAnyH_take (i := 8) (v := undef) rfl (by kernel_rfl) (by kernel_rfl) (by kernel_rfl) (fun _ _ _ h => h) (Or.inr ⟨by rfl, rfl⟩) S0 ?_
    try simp only [List.getElem_toArray, List.getElem_cons_zero, List.getElem_cons_succ, Act.put, List.setIfInBounds_toArray, List.set_cons_zero, List.set_cons_succ]
    refine wpAnyH_take (i := 9) (v := ?v9t17) rfl (by kernel_rfl) (by kernel_rfl) (by kernel_rfl) (fun _ _ _ h => h) (Or.inl ⟨by rfl, ?y9t17⟩) S0 ?z9t17
    case y9t17 => intro w_ hSw; go_simp; with_reducible rfl
    try simp only [List.getElem_toArray, List.getElem_cons_zero, List.getElem_cons_succ, Act.put, List.setIfInBounds_toArray, List.set_cons_zero, List.set_cons_succ]
    refine wpAnyH_take (i := 10) (v := ?v10t18) rfl (by kernel_rfl) (by kernel_rfl) (by kernel_rfl) (fun _ _ _ h => h) (Or.inl ⟨by rfl, ?y10t18⟩) S0 ?z10t18
    case y10t18 => intro w_ hSw; go_simp; with_reducible rfl
    try simp only [List.getElem_toArray, List.getElem_cons_zero, List.getElem_cons_succ, Act.put, List.setIfInBounds_toArray, List.set_cons_zero, List.set_cons_succ]
    refine wpAnyH_take (i := 11) (v := undef) rfl (by kernel_rfl) (by kernel_rfl) (by kernel_rfl) (fun _ _ _ h => h) (Or.inr ⟨by rfl, rfl⟩) S0 ?_
    try simp only [List.getElem_toArray, List.getElem_cons_zero, List.getElem_cons_succ, Act.put, List.setIfInBounds_toArray, List.set_cons_zero, List.set_cons_succ]
    refine wpAnyH_take (i := 12) (v := undef) rfl (by kernel_rfl) (by kernel_rfl) (by kernel_rfl) (fun _ _ _ h => h) (Or.inr ⟨by rfl, rfl⟩) S0 ?_
    try simp only [List.getElem_toArray, List.getElem_cons_zero, List.getElem_cons_succ, Act.put, List.setIfInBounds_toArray, List.set_cons_zero, List.set_cons_succ]
    refine wpAnyH_take (i := 13) (v := undef) rfl (by kernel_rfl) (by kernel_rfl) (by kernel_rfl) (fun _ _ _ h => h) (Or.inr ⟨by rfl, rfl⟩) S0 ?_
    try simp only [List.getElem_toArray, List.getElem_cons_zero, List.getElem_cons_succ, Act.put, List.setIfInBounds_toArray, List.set_cons_zero, List.set_cons_succ]
    refine wpAnyH_take (i := 14) (v := ?v14t19) rfl (by kernel_rfl) (by kernel_rfl) (by kernel_rfl) (fun _ _ _ h => h) (Or.inl ⟨by rfl, ?y14t19⟩) S0 ?z14t19
    case y14t19 => intro w_ hSw; go_simp; with_reducible rfl
    try simp only [List.getElem_toArray, List.getElem_cons_zero, List.getElem_cons_succ, Act.put, List.setIfInBounds_toArray, List.set_cons_zero, List.set_cons_succ]
    refine wpAnyH_take (i := 15) (v := ?v15t20) rfl (by kernel_rfl) (by kernel_rfl) (by kernel_rfl) (fun _ _ _ h => h) (Or.inl ⟨by rfl, ?y15t20⟩) S0 ?z15t20
    case y15t20 => intro w_ hSw; go_simp; with_reducible rfl
    try simp only [List.getElem_toArray, List.getElem_cons_zero, List.getElem_cons_succ, Act.put, List.setIfInBounds_toArray, List.set_cons_zero, List.set_cons_succ]
    refine wpAnyH_done (by kernel_rfl) ?_ _
    go_wp2_with fail
    go_ret
    exact ⟨rfl, (B1.out).drew⟩
  · exact rightP_has i _ h h0 h1 (by simp) w
  · exact rightP_has i _ h h0 h1 (by simp) w
  · exact rightP_has i _ h h0 h1 (by simp) w
  · exact rightP_has i _ h h0 h1 (by simp) w
  · exact rightP_has i _ h h0 h1 (by simp) w
  · exact rightP_has i _ h h0 h1 (by simp) w
  · exact rightP_has i _ h h0 h1 (by simp) w

set_option maxHeartbeats 4000000 in
theorem jumpsP (i : Ins) (w : World) : Calls Tryz.prog 173 #[agg i] w (Says (jumpsI i) w) := by
  have B0 := Lib.hid (alloc_below w (Obj.cells #[.int .u8 i.op, .bool i.nw, .int .i64 i.dst, .int .i64 i.src, .bool i.ui, .int .i64 i.off, .int .i64 i.im, .int .i64 i.sz] 47))
  unfold jumpsI
  obtain ⟨op, nw, dst, src, ui, off, im, sz⟩ := i
  unfold agg
  simp only at B0 ⊢
  go_enter Tryz.func173, Tryz.ntmps173
  by_cases c : 16 ≤ op
  · have d1 : decide (16 ≤ op) = true := by simpa using c
    rw [d1]
    go_wp2_with fail
    go_ret
    exact ⟨rfl, B0.out⟩
  · have d1 : decide (16 ≤ op) = false := by simpa using c
    rw [d1]
    go_wp2_with fail
    go_ret
    exact ⟨rfl, B0.out⟩
end Go.Proofs.YthfkmackodbmkaaGreatDoor
