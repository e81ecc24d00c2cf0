/- The program's small functions: what an Op has, sizes, bounds. -/
import Derived.Test.YthfkmackodbmkaaGreatDoorInsMem
import Derived.Tactics2
import Derived.Deep.QuietTactic
namespace Go.Proofs.YthfkmackodbmkaaGreatDoor
open Go.RowKit
set_option linter.unusedVariables false
set_option linter.unusedSimpArgs false
set_option maxRecDepth 100000

set_option maxHeartbeats 4000000 in
theorem fieldsOf_w (op : Int) (w : World) (h0 : 0 ≤ op) (h1 : op ≤ 255) : Calls Tryz.prog 48 #[.int .u8 op] w fun e w' => e = .returned (.int .u64 (fl op)) ∧ w' = w := by
  obtain ⟨F, hF⟩ : ∃ F, F = fl op := ⟨_, rfl⟩
  rw [← hF]
  have HF := Lib.hid hF
  clear hF
  go_enter Tryz.func48, Tryz.ntmps48
  by_cases c1 : 1 ≤ op ∧ op ≤ 12
  · have d1 : decide (1 ≤ op) = true := by simpa using c1.1
    have d2 : decide (op ≤ 12) = true := by simpa using c1.2
    go_wp2_with fail
    go_ret
    exact ⟨by rw [HF.out]; simp [fl, c1], rfl⟩
  by_cases c2 : op = 13
  · subst c2
    go_wp2_with fail
    go_ret
    exact ⟨by rw [HF.out]; simp [fl], rfl⟩
  by_cases c3 : op = 14
  · subst c3
    go_wp2_with fail
    go_ret
    exact ⟨by rw [HF.out]; simp [fl], rfl⟩
  by_cases c4 : op = 15
  · subst c4
    go_wp2_with fail
    go_ret
    exact ⟨by rw [HF.out]; simp [fl], rfl⟩
  by_cases c5 : op = 16
  · subst c5
    go_wp2_with fail
    go_ret
    exact ⟨by rw [HF.out]; simp [fl], rfl⟩
  by_cases c7 : op = 28
  · subst c7
    go_wp2_with fail
    go_ret
    exact ⟨by rw [HF.out]; simp [fl], rfl⟩
  have e2 : decide (op = 13) = false := by simpa using c2
  have e3 : decide (op = 14) = false := by simpa using c3
  have e4 : decide (op = 15) = false := by simpa using c4
  have e5 : decide (op = 16) = false := by simpa using c5
  have e7 : decide (op = 28) = false := by simpa using c7
  by_cases c8 : op = 0
  · subst c8
    go_wp2_with fail
    go_ret
    exact ⟨by rw [HF.out]; simp [fl], rfl⟩
  have d1 : decide (1 ≤ op) = true := by simp; omega
  have d2 : decide (op ≤ 12) = false := by simp; omega
  have f1 : decide (17 ≤ op) = true := by simp; omega
  by_cases c6 : op ≤ 27
  · have f2 : decide (op ≤ 27) = true := by simpa using c6
    go_wp2_with fail
    go_ret
    exact ⟨by rw [HF.out, show fl op = 181 from by unfold fl; rw [if_neg c1, if_neg c2, if_neg c3, if_neg c4, if_neg c5, if_pos (by omega)]]; rfl, rfl⟩
  · have f2 : decide (op ≤ 27) = false := by simpa using c6
    go_wp2_with fail
    go_ret
    exact ⟨by rw [HF.out, show fl op = 0 from by unfold fl; rw [if_neg c1, if_neg c2, if_neg c3, if_neg c4, if_neg c5, if_neg (by omega), if_neg c7]]; rfl, rfl⟩

theorem fieldsOf (op : Int) (w : World) (h0 : 0 ≤ op) (h1 : op ≤ 255) : Calls Tryz.prog 48 #[.int .u8 op] w fun e w' => Tells (.int .u64 (fl op)) w e w' :=
  (fieldsOf_w op w h0 h1).mono fun e w' ⟨h, k⟩ => ⟨h, ⟨0, k⟩⟩

set_option maxHeartbeats 4000000 in
theorem isSize (n : Int) (w : World) : Calls Tryz.prog 119 #[.int .i64 n] w fun e w' => Tells (.bool (okSize n)) w e w' := by
  obtain ⟨F, hF⟩ : ∃ F, F = okSize n := ⟨_, rfl⟩
  rw [← hF]
  have HF := Lib.hid hF
  clear hF
  go_enter Tryz.func119, Tryz.ntmps119
  by_cases c1 : n = 1
  · subst c1
    go_wp2_with fail
    go_ret
    exact ⟨ret_bool (by rw [HF.out]; rfl), ⟨0, rfl⟩⟩
  by_cases c2 : n = 2
  · subst c2
    go_wp2_with fail
    go_ret
    exact ⟨ret_bool (by rw [HF.out]; rfl), ⟨0, rfl⟩⟩
  by_cases c3 : n = 4
  · subst c3
    go_wp2_with fail
    go_ret
    exact ⟨ret_bool (by rw [HF.out]; rfl), ⟨0, rfl⟩⟩
  by_cases c4 : n = 8
  · subst c4
    go_wp2_with fail
    go_ret
    exact ⟨ret_bool (by rw [HF.out]; rfl), ⟨0, rfl⟩⟩
  have e1 : decide (n = 1) = false := by simpa using c1
  have e2 : decide (n = 2) = false := by simpa using c2
  have e3 : decide (n = 4) = false := by simpa using c3
  have e4 : decide (n = 8) = false := by simpa using c4
  go_wp2_with fail
  go_ret
  exact ⟨ret_bool (by rw [HF.out]; simp [okSize, c1, c2, c3, c4]), ⟨0, rfl⟩⟩

set_option maxHeartbeats 8000000 in
theorem fitsOne (i : Ins) (w : World) : Calls Tryz.prog 50 #[agg i, .int .u64 1] w fun e w' => e = .returned (.bool (fitsI i 1)) ∧ Below w.heap.size w w' := by
  obtain ⟨F, hF⟩ : ∃ F, F = fitsI i 1 := ⟨_, rfl⟩
  rw [← hF]
  have HF := Lib.hid hF
  clear hF
  have EB : (if bit 1 2 = true then (9 : Int) else 10) = 10 := by decide
  have EC : bit 1 64 = false := by decide
  unfold agg
  have B0 := Lib.hid (alloc_below w (Obj.cells #[.int .u8 i.op, .bool i.nw, .int .i64 i.dst, .int .i64 i.src, .bool i.ui, .int .i64 i.off, .int .i64 i.im, .int .i64 i.sz] 47))
  go_enter Tryz.func50, Tryz.ntmps50
  by_cases a : 0 ≤ i.dst
  case neg =>
    have da : decide (0 ≤ i.dst) = false := by simpa using a
    go_wp2_with fail
    go_ret
    exact ⟨ret_bool (by rw [HF.out]; simp only [fitsI, EB, EC, da, Bool.false_and, Bool.true_and, Bool.and_false, Bool.and_true]), B0.out⟩
  have da : decide (0 ≤ i.dst) = true := by simpa using a
  by_cases b : i.dst ≤ 10
  case neg =>
    have db : decide (i.dst ≤ 10) = false := by simpa using b
    go_wp2_with fail
    go_ret
    exact ⟨ret_bool (by rw [HF.out]; simp only [fitsI, EB, EC, da, db, Bool.false_and, Bool.true_and, Bool.and_false, Bool.and_true]), B0.out⟩
  have db : decide (i.dst ≤ 10) = true := by simpa using b
  by_cases c : 0 ≤ i.src
  case neg =>
    have dc : decide (0 ≤ i.src) = false := by simpa using c
    go_wp2_with fail
    go_ret
    exact ⟨ret_bool (by rw [HF.out]; simp only [fitsI, EB, EC, da, db, dc, Bool.false_and, Bool.true_and, Bool.and_false, Bool.and_true]), B0.out⟩
  have dc : decide (0 ≤ i.src) = true := by simpa using c
  by_cases d : i.src ≤ 10
  case neg =>
    have dd : decide (i.src ≤ 10) = false := by simpa using d
    go_wp2_with fail
    go_ret
    exact ⟨ret_bool (by rw [HF.out]; simp only [fitsI, EB, EC, da, db, dc, dd, Bool.false_and, Bool.true_and, Bool.and_false, Bool.and_true]), B0.out⟩
  have dd : decide (i.src ≤ 10) = true := by simpa using d
  by_cases e : -32768 ≤ i.off
  case neg =>
    have de : decide (-32768 ≤ i.off) = false := by simpa using e
    go_wp2_with fail
    go_ret
    exact ⟨ret_bool (by rw [HF.out]; simp only [fitsI, EB, EC, da, db, dc, dd, de, Bool.false_and, Bool.true_and, Bool.and_false, Bool.and_true]), B0.out⟩
  have de : decide (-32768 ≤ i.off) = true := by simpa using e
  by_cases f : i.off < 32768
  case neg =>
    have df : decide (i.off < 32768) = false := by simpa using f
    go_wp2_with fail
    go_ret
    exact ⟨ret_bool (by rw [HF.out]; simp only [fitsI, EB, EC, da, db, dc, dd, de, df, Bool.false_and, Bool.true_and, Bool.and_false, Bool.and_true]), B0.out⟩
  have df : decide (i.off < 32768) = true := by simpa using f
  by_cases g : -2147483648 ≤ i.im
  case neg =>
    have dg : decide (-2147483648 ≤ i.im) = false := by simpa using g
    go_wp2_with fail
    go_ret
    exact ⟨ret_bool (by rw [HF.out]; simp only [fitsI, EB, EC, da, db, dc, dd, de, df, dg, Bool.false_and, Bool.true_and, Bool.and_false, Bool.and_true]), B0.out⟩
  have dg : decide (-2147483648 ≤ i.im) = true := by simpa using g
  by_cases h : i.im ≤ 2147483647
  case neg =>
    have dh : decide (i.im ≤ 2147483647) = false := by simpa using h
    go_wp2_with fail
    go_ret
    exact ⟨ret_bool (by rw [HF.out]; simp only [fitsI, EB, EC, da, db, dc, dd, de, df, dg, dh, Bool.false_and, Bool.true_and, Bool.and_false, Bool.and_true]), B0.out⟩
  have dh : decide (i.im ≤ 2147483647) = true := by simpa using h
  go_wp2_with fail
  go_ret
  exact ⟨ret_bool (by rw [HF.out]; simp only [fitsI, EB, EC, da, db, dc, dd, de, df, dg, dh, Bool.false_and, Bool.true_and, Bool.not_false, Bool.true_or, Bool.and_true]), B0.out⟩

set_option maxHeartbeats 8000000 in
theorem fits33 (i : Ins) (w : World) : Calls Tryz.prog 50 #[agg i, .int .u64 33] w fun e w' => e = .returned (.bool (fitsI i 33)) ∧ Below w.heap.size w w' := by
  obtain ⟨F, hF⟩ : ∃ F, F = fitsI i 33 := ⟨_, rfl⟩
  rw [← hF]
  have HF := Lib.hid hF
  clear hF
  have EB : (if bit 33 2 = true then (9 : Int) else 10) = 10 := by decide
  have EC : bit 33 64 = false := by decide
  unfold agg
  have B0 := Lib.hid (alloc_below w (Obj.cells #[.int .u8 i.op, .bool i.nw, .int .i64 i.dst, .int .i64 i.src, .bool i.ui, .int .i64 i.off, .int .i64 i.im, .int .i64 i.sz] 47))
  go_enter Tryz.func50, Tryz.ntmps50
  by_cases a : 0 ≤ i.dst
  case neg =>
    have da : decide (0 ≤ i.dst) = false := by simpa using a
    go_wp2_with fail
    go_ret
    exact ⟨ret_bool (by rw [HF.out]; simp only [fitsI, EB, EC, da, Bool.false_and, Bool.true_and, Bool.and_false, Bool.and_true]), B0.out⟩
  have da : decide (0 ≤ i.dst) = true := by simpa using a
  by_cases b : i.dst ≤ 10
  case neg =>
    have db : decide (i.dst ≤ 10) = false := by simpa using b
    go_wp2_with fail
    go_ret
    exact ⟨ret_bool (by rw [HF.out]; simp only [fitsI, EB, EC, da, db, Bool.false_and, Bool.true_and, Bool.and_false, Bool.and_true]), B0.out⟩
  have db : decide (i.dst ≤ 10) = true := by simpa using b
  by_cases c : 0 ≤ i.src
  case neg =>
    have dc : decide (0 ≤ i.src) = false := by simpa using c
    go_wp2_with fail
    go_ret
    exact ⟨ret_bool (by rw [HF.out]; simp only [fitsI, EB, EC, da, db, dc, Bool.false_and, Bool.true_and, Bool.and_false, Bool.and_true]), B0.out⟩
  have dc : decide (0 ≤ i.src) = true := by simpa using c
  by_cases d : i.src ≤ 10
  case neg =>
    have dd : decide (i.src ≤ 10) = false := by simpa using d
    go_wp2_with fail
    go_ret
    exact ⟨ret_bool (by rw [HF.out]; simp only [fitsI, EB, EC, da, db, dc, dd, Bool.false_and, Bool.true_and, Bool.and_false, Bool.and_true]), B0.out⟩
  have dd : decide (i.src ≤ 10) = true := by simpa using d
  by_cases e : -32768 ≤ i.off
  case neg =>
    have de : decide (-32768 ≤ i.off) = false := by simpa using e
    go_wp2_with fail
    go_ret
    exact ⟨ret_bool (by rw [HF.out]; simp only [fitsI, EB, EC, da, db, dc, dd, de, Bool.false_and, Bool.true_and, Bool.and_false, Bool.and_true]), B0.out⟩
  have de : decide (-32768 ≤ i.off) = true := by simpa using e
  by_cases f : i.off < 32768
  case neg =>
    have df : decide (i.off < 32768) = false := by simpa using f
    go_wp2_with fail
    go_ret
    exact ⟨ret_bool (by rw [HF.out]; simp only [fitsI, EB, EC, da, db, dc, dd, de, df, Bool.false_and, Bool.true_and, Bool.and_false, Bool.and_true]), B0.out⟩
  have df : decide (i.off < 32768) = true := by simpa using f
  by_cases g : -2147483648 ≤ i.im
  case neg =>
    have dg : decide (-2147483648 ≤ i.im) = false := by simpa using g
    go_wp2_with fail
    go_ret
    exact ⟨ret_bool (by rw [HF.out]; simp only [fitsI, EB, EC, da, db, dc, dd, de, df, dg, Bool.false_and, Bool.true_and, Bool.and_false, Bool.and_true]), B0.out⟩
  have dg : decide (-2147483648 ≤ i.im) = true := by simpa using g
  by_cases h : i.im ≤ 2147483647
  case neg =>
    have dh : decide (i.im ≤ 2147483647) = false := by simpa using h
    go_wp2_with fail
    go_ret
    exact ⟨ret_bool (by rw [HF.out]; simp only [fitsI, EB, EC, da, db, dc, dd, de, df, dg, dh, Bool.false_and, Bool.true_and, Bool.and_false, Bool.and_true]), B0.out⟩
  have dh : decide (i.im ≤ 2147483647) = true := by simpa using h
  go_wp2_with fail
  go_ret
  exact ⟨ret_bool (by rw [HF.out]; simp only [fitsI, EB, EC, da, db, dc, dd, de, df, dg, dh, Bool.false_and, Bool.true_and, Bool.not_false, Bool.true_or, Bool.and_true]), B0.out⟩

set_option maxHeartbeats 8000000 in
theorem fits107 (i : Ins) (w : World) : Calls Tryz.prog 50 #[agg i, .int .u64 107] w fun e w' => e = .returned (.bool (fitsI i 107)) ∧ Below w.heap.size w w' := by
  obtain ⟨F, hF⟩ : ∃ F, F = fitsI i 107 := ⟨_, rfl⟩
  rw [← hF]
  have HF := Lib.hid hF
  clear hF
  have EB : (if bit 107 2 = true then (9 : Int) else 10) = 9 := by decide
  have EC : bit 107 64 = true := by decide
  unfold agg
  have B0 := Lib.hid (alloc_below w (Obj.cells #[.int .u8 i.op, .bool i.nw, .int .i64 i.dst, .int .i64 i.src, .bool i.ui, .int .i64 i.off, .int .i64 i.im, .int .i64 i.sz] 47))
  go_enter Tryz.func50, Tryz.ntmps50
  by_cases a : 0 ≤ i.dst
  case neg =>
    have da : decide (0 ≤ i.dst) = false := by simpa using a
    go_wp2_with fail
    go_ret
    exact ⟨ret_bool (by rw [HF.out]; simp only [fitsI, EB, EC, da, Bool.false_and, Bool.true_and, Bool.and_false, Bool.and_true]), B0.out⟩
  have da : decide (0 ≤ i.dst) = true := by simpa using a
  by_cases b : i.dst ≤ 9
  case neg =>
    have db : decide (i.dst ≤ 9) = false := by simpa using b
    go_wp2_with fail
    go_ret
    exact ⟨ret_bool (by rw [HF.out]; simp only [fitsI, EB, EC, da, db, Bool.false_and, Bool.true_and, Bool.and_false, Bool.and_true]), B0.out⟩
  have db : decide (i.dst ≤ 9) = true := by simpa using b
  by_cases c : 0 ≤ i.src
  case neg =>
    have dc : decide (0 ≤ i.src) = false := by simpa using c
    go_wp2_with fail
    go_ret
    exact ⟨ret_bool (by rw [HF.out]; simp only [fitsI, EB, EC, da, db, dc, Bool.false_and, Bool.true_and, Bool.and_false, Bool.and_true]), B0.out⟩
  have dc : decide (0 ≤ i.src) = true := by simpa using c
  by_cases d : i.src ≤ 10
  case neg =>
    have dd : decide (i.src ≤ 10) = false := by simpa using d
    go_wp2_with fail
    go_ret
    exact ⟨ret_bool (by rw [HF.out]; simp only [fitsI, EB, EC, da, db, dc, dd, Bool.false_and, Bool.true_and, Bool.and_false, Bool.and_true]), B0.out⟩
  have dd : decide (i.src ≤ 10) = true := by simpa using d
  by_cases e : -32768 ≤ i.off
  case neg =>
    have de : decide (-32768 ≤ i.off) = false := by simpa using e
    go_wp2_with fail
    go_ret
    exact ⟨ret_bool (by rw [HF.out]; simp only [fitsI, EB, EC, da, db, dc, dd, de, Bool.false_and, Bool.true_and, Bool.and_false, Bool.and_true]), B0.out⟩
  have de : decide (-32768 ≤ i.off) = true := by simpa using e
  by_cases f : i.off < 32768
  case neg =>
    have df : decide (i.off < 32768) = false := by simpa using f
    go_wp2_with fail
    go_ret
    exact ⟨ret_bool (by rw [HF.out]; simp only [fitsI, EB, EC, da, db, dc, dd, de, df, Bool.false_and, Bool.true_and, Bool.and_false, Bool.and_true]), B0.out⟩
  have df : decide (i.off < 32768) = true := by simpa using f
  by_cases g : -2147483648 ≤ i.im
  case neg =>
    have dg : decide (-2147483648 ≤ i.im) = false := by simpa using g
    go_wp2_with fail
    go_ret
    exact ⟨ret_bool (by rw [HF.out]; simp only [fitsI, EB, EC, da, db, dc, dd, de, df, dg, Bool.false_and, Bool.true_and, Bool.and_false, Bool.and_true]), B0.out⟩
  have dg : decide (-2147483648 ≤ i.im) = true := by simpa using g
  by_cases h : i.im ≤ 2147483647
  case neg =>
    have dh : decide (i.im ≤ 2147483647) = false := by simpa using h
    go_wp2_with fail
    go_ret
    exact ⟨ret_bool (by rw [HF.out]; simp only [fitsI, EB, EC, da, db, dc, dd, de, df, dg, dh, Bool.false_and, Bool.true_and, Bool.and_false, Bool.and_true]), B0.out⟩
  have dh : decide (i.im ≤ 2147483647) = true := by simpa using h
  go_wp2_with fail
  refine (isSize i.sz _).mono ?_; rintro e w1 ⟨rfl, hst⟩
  have B1 := Lib.hid ((B0.out).trans (hst.below w.heap.size))
  go_wp2_with fail
  go_ret
  exact ⟨ret_bool (by rw [HF.out]; simp only [fitsI, EB, EC, da, db, dc, dd, de, df, dg, dh, Bool.false_and, Bool.true_and, Bool.not_true, Bool.false_or, Bool.and_true]; first | done | rfl | (generalize okSize i.sz = z; cases z <;> decide)), B1.out⟩

set_option maxHeartbeats 8000000 in
theorem fits117 (i : Ins) (w : World) : Calls Tryz.prog 50 #[agg i, .int .u64 117] w fun e w' => e = .returned (.bool (fitsI i 117)) ∧ Below w.heap.size w w' := by
  obtain ⟨F, hF⟩ : ∃ F, F = fitsI i 117 := ⟨_, rfl⟩
  rw [← hF]
  have HF := Lib.hid hF
  clear hF
  have EB : (if bit 117 2 = true then (9 : Int) else 10) = 10 := by decide
  have EC : bit 117 64 = true := by decide
  unfold agg
  have B0 := Lib.hid (alloc_below w (Obj.cells #[.int .u8 i.op, .bool i.nw, .int .i64 i.dst, .int .i64 i.src, .bool i.ui, .int .i64 i.off, .int .i64 i.im, .int .i64 i.sz] 47))
  go_enter Tryz.func50, Tryz.ntmps50
  by_cases a : 0 ≤ i.dst
  case neg =>
    have da : decide (0 ≤ i.dst) = false := by simpa using a
    go_wp2_with fail
    go_ret
    exact ⟨ret_bool (by rw [HF.out]; simp only [fitsI, EB, EC, da, Bool.false_and, Bool.true_and, Bool.and_false, Bool.and_true]), B0.out⟩
  have da : decide (0 ≤ i.dst) = true := by simpa using a
  by_cases b : i.dst ≤ 10
  case neg =>
    have db : decide (i.dst ≤ 10) = false := by simpa using b
    go_wp2_with fail
    go_ret
    exact ⟨ret_bool (by rw [HF.out]; simp only [fitsI, EB, EC, da, db, Bool.false_and, Bool.true_and, Bool.and_false, Bool.and_true]), B0.out⟩
  have db : decide (i.dst ≤ 10) = true := by simpa using b
  by_cases c : 0 ≤ i.src
  case neg =>
    have dc : decide (0 ≤ i.src) = false := by simpa using c
    go_wp2_with fail
    go_ret
    exact ⟨ret_bool (by rw [HF.out]; simp only [fitsI, EB, EC, da, db, dc, Bool.false_and, Bool.true_and, Bool.and_false, Bool.and_true]), B0.out⟩
  have dc : decide (0 ≤ i.src) = true := by simpa using c
  by_cases d : i.src ≤ 10
  case neg =>
    have dd : decide (i.src ≤ 10) = false := by simpa using d
    go_wp2_with fail
    go_ret
    exact ⟨ret_bool (by rw [HF.out]; simp only [fitsI, EB, EC, da, db, dc, dd, Bool.false_and, Bool.true_and, Bool.and_false, Bool.and_true]), B0.out⟩
  have dd : decide (i.src ≤ 10) = true := by simpa using d
  by_cases e : -32768 ≤ i.off
  case neg =>
    have de : decide (-32768 ≤ i.off) = false := by simpa using e
    go_wp2_with fail
    go_ret
    exact ⟨ret_bool (by rw [HF.out]; simp only [fitsI, EB, EC, da, db, dc, dd, de, Bool.false_and, Bool.true_and, Bool.and_false, Bool.and_true]), B0.out⟩
  have de : decide (-32768 ≤ i.off) = true := by simpa using e
  by_cases f : i.off < 32768
  case neg =>
    have df : decide (i.off < 32768) = false := by simpa using f
    go_wp2_with fail
    go_ret
    exact ⟨ret_bool (by rw [HF.out]; simp only [fitsI, EB, EC, da, db, dc, dd, de, df, Bool.false_and, Bool.true_and, Bool.and_false, Bool.and_true]), B0.out⟩
  have df : decide (i.off < 32768) = true := by simpa using f
  by_cases g : -2147483648 ≤ i.im
  case neg =>
    have dg : decide (-2147483648 ≤ i.im) = false := by simpa using g
    go_wp2_with fail
    go_ret
    exact ⟨ret_bool (by rw [HF.out]; simp only [fitsI, EB, EC, da, db, dc, dd, de, df, dg, Bool.false_and, Bool.true_and, Bool.and_false, Bool.and_true]), B0.out⟩
  have dg : decide (-2147483648 ≤ i.im) = true := by simpa using g
  by_cases h : i.im ≤ 2147483647
  case neg =>
    have dh : decide (i.im ≤ 2147483647) = false := by simpa using h
    go_wp2_with fail
    go_ret
    exact ⟨ret_bool (by rw [HF.out]; simp only [fitsI, EB, EC, da, db, dc, dd, de, df, dg, dh, Bool.false_and, Bool.true_and, Bool.and_false, Bool.and_true]), B0.out⟩
  have dh : decide (i.im ≤ 2147483647) = true := by simpa using h
  go_wp2_with fail
  refine (isSize i.sz _).mono ?_; rintro e w1 ⟨rfl, hst⟩
  have B1 := Lib.hid ((B0.out).trans (hst.below w.heap.size))
  go_wp2_with fail
  go_ret
  exact ⟨ret_bool (by rw [HF.out]; simp only [fitsI, EB, EC, da, db, dc, dd, de, df, dg, dh, Bool.false_and, Bool.true_and, Bool.not_true, Bool.false_or, Bool.and_true]; first | done | rfl | (generalize okSize i.sz = z; cases z <;> decide)), B1.out⟩

set_option maxHeartbeats 8000000 in
theorem fits131 (i : Ins) (w : World) : Calls Tryz.prog 50 #[agg i, .int .u64 131] w fun e w' => e = .returned (.bool (fitsI i 131)) ∧ Below w.heap.size w w' := by
  obtain ⟨F, hF⟩ : ∃ F, F = fitsI i 131 := ⟨_, rfl⟩
  rw [← hF]
  have HF := Lib.hid hF
  clear hF
  have EB : (if bit 131 2 = true then (9 : Int) else 10) = 9 := by decide
  have EC : bit 131 64 = false := by decide
  unfold agg
  have B0 := Lib.hid (alloc_below w (Obj.cells #[.int .u8 i.op, .bool i.nw, .int .i64 i.dst, .int .i64 i.src, .bool i.ui, .int .i64 i.off, .int .i64 i.im, .int .i64 i.sz] 47))
  go_enter Tryz.func50, Tryz.ntmps50
  by_cases a : 0 ≤ i.dst
  case neg =>
    have da : decide (0 ≤ i.dst) = false := by simpa using a
    go_wp2_with fail
    go_ret
    exact ⟨ret_bool (by rw [HF.out]; simp only [fitsI, EB, EC, da, Bool.false_and, Bool.true_and, Bool.and_false, Bool.and_true]), B0.out⟩
  have da : decide (0 ≤ i.dst) = true := by simpa using a
  by_cases b : i.dst ≤ 9
  case neg =>
    have db : decide (i.dst ≤ 9) = false := by simpa using b
    go_wp2_with fail
    go_ret
    exact ⟨ret_bool (by rw [HF.out]; simp only [fitsI, EB, EC, da, db, Bool.false_and, Bool.true_and, Bool.and_false, Bool.and_true]), B0.out⟩
  have db : decide (i.dst ≤ 9) = true := by simpa using b
  by_cases c : 0 ≤ i.src
  case neg =>
    have dc : decide (0 ≤ i.src) = false := by simpa using c
    go_wp2_with fail
    go_ret
    exact ⟨ret_bool (by rw [HF.out]; simp only [fitsI, EB, EC, da, db, dc, Bool.false_and, Bool.true_and, Bool.and_false, Bool.and_true]), B0.out⟩
  have dc : decide (0 ≤ i.src) = true := by simpa using c
  by_cases d : i.src ≤ 10
  case neg =>
    have dd : decide (i.src ≤ 10) = false := by simpa using d
    go_wp2_with fail
    go_ret
    exact ⟨ret_bool (by rw [HF.out]; simp only [fitsI, EB, EC, da, db, dc, dd, Bool.false_and, Bool.true_and, Bool.and_false, Bool.and_true]), B0.out⟩
  have dd : decide (i.src ≤ 10) = true := by simpa using d
  by_cases e : -32768 ≤ i.off
  case neg =>
    have de : decide (-32768 ≤ i.off) = false := by simpa using e
    go_wp2_with fail
    go_ret
    exact ⟨ret_bool (by rw [HF.out]; simp only [fitsI, EB, EC, da, db, dc, dd, de, Bool.false_and, Bool.true_and, Bool.and_false, Bool.and_true]), B0.out⟩
  have de : decide (-32768 ≤ i.off) = true := by simpa using e
  by_cases f : i.off < 32768
  case neg =>
    have df : decide (i.off < 32768) = false := by simpa using f
    go_wp2_with fail
    go_ret
    exact ⟨ret_bool (by rw [HF.out]; simp only [fitsI, EB, EC, da, db, dc, dd, de, df, Bool.false_and, Bool.true_and, Bool.and_false, Bool.and_true]), B0.out⟩
  have df : decide (i.off < 32768) = true := by simpa using f
  by_cases g : -2147483648 ≤ i.im
  case neg =>
    have dg : decide (-2147483648 ≤ i.im) = false := by simpa using g
    go_wp2_with fail
    go_ret
    exact ⟨ret_bool (by rw [HF.out]; simp only [fitsI, EB, EC, da, db, dc, dd, de, df, dg, Bool.false_and, Bool.true_and, Bool.and_false, Bool.and_true]), B0.out⟩
  have dg : decide (-2147483648 ≤ i.im) = true := by simpa using g
  by_cases h : i.im ≤ 2147483647
  case neg =>
    have dh : decide (i.im ≤ 2147483647) = false := by simpa using h
    go_wp2_with fail
    go_ret
    exact ⟨ret_bool (by rw [HF.out]; simp only [fitsI, EB, EC, da, db, dc, dd, de, df, dg, dh, Bool.false_and, Bool.true_and, Bool.and_false, Bool.and_true]), B0.out⟩
  have dh : decide (i.im ≤ 2147483647) = true := by simpa using h
  go_wp2_with fail
  go_ret
  exact ⟨ret_bool (by rw [HF.out]; simp only [fitsI, EB, EC, da, db, dc, dd, de, df, dg, dh, Bool.false_and, Bool.true_and, Bool.not_false, Bool.true_or, Bool.and_true]), B0.out⟩

set_option maxHeartbeats 8000000 in
theorem fits147 (i : Ins) (w : World) : Calls Tryz.prog 50 #[agg i, .int .u64 147] w fun e w' => e = .returned (.bool (fitsI i 147)) ∧ Below w.heap.size w w' := by
  obtain ⟨F, hF⟩ : ∃ F, F = fitsI i 147 := ⟨_, rfl⟩
  rw [← hF]
  have HF := Lib.hid hF
  clear hF
  have EB : (if bit 147 2 = true then (9 : Int) else 10) = 9 := by decide
  have EC : bit 147 64 = false := by decide
  unfold agg
  have B0 := Lib.hid (alloc_below w (Obj.cells #[.int .u8 i.op, .bool i.nw, .int .i64 i.dst, .int .i64 i.src, .bool i.ui, .int .i64 i.off, .int .i64 i.im, .int .i64 i.sz] 47))
  go_enter Tryz.func50, Tryz.ntmps50
  by_cases a : 0 ≤ i.dst
  case neg =>
    have da : decide (0 ≤ i.dst) = false := by simpa using a
    go_wp2_with fail
    go_ret
    exact ⟨ret_bool (by rw [HF.out]; simp only [fitsI, EB, EC, da, Bool.false_and, Bool.true_and, Bool.and_false, Bool.and_true]), B0.out⟩
  have da : decide (0 ≤ i.dst) = true := by simpa using a
  by_cases b : i.dst ≤ 9
  case neg =>
    have db : decide (i.dst ≤ 9) = false := by simpa using b
    go_wp2_with fail
    go_ret
    exact ⟨ret_bool (by rw [HF.out]; simp only [fitsI, EB, EC, da, db, Bool.false_and, Bool.true_and, Bool.and_false, Bool.and_true]), B0.out⟩
  have db : decide (i.dst ≤ 9) = true := by simpa using b
  by_cases c : 0 ≤ i.src
  case neg =>
    have dc : decide (0 ≤ i.src) = false := by simpa using c
    go_wp2_with fail
    go_ret
    exact ⟨ret_bool (by rw [HF.out]; simp only [fitsI, EB, EC, da, db, dc, Bool.false_and, Bool.true_and, Bool.and_false, Bool.and_true]), B0.out⟩
  have dc : decide (0 ≤ i.src) = true := by simpa using c
  by_cases d : i.src ≤ 10
  case neg =>
    have dd : decide (i.src ≤ 10) = false := by simpa using d
    go_wp2_with fail
    go_ret
    exact ⟨ret_bool (by rw [HF.out]; simp only [fitsI, EB, EC, da, db, dc, dd, Bool.false_and, Bool.true_and, Bool.and_false, Bool.and_true]), B0.out⟩
  have dd : decide (i.src ≤ 10) = true := by simpa using d
  by_cases e : -32768 ≤ i.off
  case neg =>
    have de : decide (-32768 ≤ i.off) = false := by simpa using e
    go_wp2_with fail
    go_ret
    exact ⟨ret_bool (by rw [HF.out]; simp only [fitsI, EB, EC, da, db, dc, dd, de, Bool.false_and, Bool.true_and, Bool.and_false, Bool.and_true]), B0.out⟩
  have de : decide (-32768 ≤ i.off) = true := by simpa using e
  by_cases f : i.off < 32768
  case neg =>
    have df : decide (i.off < 32768) = false := by simpa using f
    go_wp2_with fail
    go_ret
    exact ⟨ret_bool (by rw [HF.out]; simp only [fitsI, EB, EC, da, db, dc, dd, de, df, Bool.false_and, Bool.true_and, Bool.and_false, Bool.and_true]), B0.out⟩
  have df : decide (i.off < 32768) = true := by simpa using f
  by_cases g : -2147483648 ≤ i.im
  case neg =>
    have dg : decide (-2147483648 ≤ i.im) = false := by simpa using g
    go_wp2_with fail
    go_ret
    exact ⟨ret_bool (by rw [HF.out]; simp only [fitsI, EB, EC, da, db, dc, dd, de, df, dg, Bool.false_and, Bool.true_and, Bool.and_false, Bool.and_true]), B0.out⟩
  have dg : decide (-2147483648 ≤ i.im) = true := by simpa using g
  by_cases h : i.im ≤ 2147483647
  case neg =>
    have dh : decide (i.im ≤ 2147483647) = false := by simpa using h
    go_wp2_with fail
    go_ret
    exact ⟨ret_bool (by rw [HF.out]; simp only [fitsI, EB, EC, da, db, dc, dd, de, df, dg, dh, Bool.false_and, Bool.true_and, Bool.and_false, Bool.and_true]), B0.out⟩
  have dh : decide (i.im ≤ 2147483647) = true := by simpa using h
  go_wp2_with fail
  go_ret
  exact ⟨ret_bool (by rw [HF.out]; simp only [fitsI, EB, EC, da, db, dc, dd, de, df, dg, dh, Bool.false_and, Bool.true_and, Bool.not_false, Bool.true_or, Bool.and_true]), B0.out⟩

set_option maxHeartbeats 8000000 in
theorem fits181 (i : Ins) (w : World) : Calls Tryz.prog 50 #[agg i, .int .u64 181] w fun e w' => e = .returned (.bool (fitsI i 181)) ∧ Below w.heap.size w w' := by
  obtain ⟨F, hF⟩ : ∃ F, F = fitsI i 181 := ⟨_, rfl⟩
  rw [← hF]
  have HF := Lib.hid hF
  clear hF
  have EB : (if bit 181 2 = true then (9 : Int) else 10) = 10 := by decide
  have EC : bit 181 64 = false := by decide
  unfold agg
  have B0 := Lib.hid (alloc_below w (Obj.cells #[.int .u8 i.op, .bool i.nw, .int .i64 i.dst, .int .i64 i.src, .bool i.ui, .int .i64 i.off, .int .i64 i.im, .int .i64 i.sz] 47))
  go_enter Tryz.func50, Tryz.ntmps50
  by_cases a : 0 ≤ i.dst
  case neg =>
    have da : decide (0 ≤ i.dst) = false := by simpa using a
    go_wp2_with fail
    go_ret
    exact ⟨ret_bool (by rw [HF.out]; simp only [fitsI, EB, EC, da, Bool.false_and, Bool.true_and, Bool.and_false, Bool.and_true]), B0.out⟩
  have da : decide (0 ≤ i.dst) = true := by simpa using a
  by_cases b : i.dst ≤ 10
  case neg =>
    have db : decide (i.dst ≤ 10) = false := by simpa using b
    go_wp2_with fail
    go_ret
    exact ⟨ret_bool (by rw [HF.out]; simp only [fitsI, EB, EC, da, db, Bool.false_and, Bool.true_and, Bool.and_false, Bool.and_true]), B0.out⟩
  have db : decide (i.dst ≤ 10) = true := by simpa using b
  by_cases c : 0 ≤ i.src
  case neg =>
    have dc : decide (0 ≤ i.src) = false := by simpa using c
    go_wp2_with fail
    go_ret
    exact ⟨ret_bool (by rw [HF.out]; simp only [fitsI, EB, EC, da, db, dc, Bool.false_and, Bool.true_and, Bool.and_false, Bool.and_true]), B0.out⟩
  have dc : decide (0 ≤ i.src) = true := by simpa using c
  by_cases d : i.src ≤ 10
  case neg =>
    have dd : decide (i.src ≤ 10) = false := by simpa using d
    go_wp2_with fail
    go_ret
    exact ⟨ret_bool (by rw [HF.out]; simp only [fitsI, EB, EC, da, db, dc, dd, Bool.false_and, Bool.true_and, Bool.and_false, Bool.and_true]), B0.out⟩
  have dd : decide (i.src ≤ 10) = true := by simpa using d
  by_cases e : -32768 ≤ i.off
  case neg =>
    have de : decide (-32768 ≤ i.off) = false := by simpa using e
    go_wp2_with fail
    go_ret
    exact ⟨ret_bool (by rw [HF.out]; simp only [fitsI, EB, EC, da, db, dc, dd, de, Bool.false_and, Bool.true_and, Bool.and_false, Bool.and_true]), B0.out⟩
  have de : decide (-32768 ≤ i.off) = true := by simpa using e
  by_cases f : i.off < 32768
  case neg =>
    have df : decide (i.off < 32768) = false := by simpa using f
    go_wp2_with fail
    go_ret
    exact ⟨ret_bool (by rw [HF.out]; simp only [fitsI, EB, EC, da, db, dc, dd, de, df, Bool.false_and, Bool.true_and, Bool.and_false, Bool.and_true]), B0.out⟩
  have df : decide (i.off < 32768) = true := by simpa using f
  by_cases g : -2147483648 ≤ i.im
  case neg =>
    have dg : decide (-2147483648 ≤ i.im) = false := by simpa using g
    go_wp2_with fail
    go_ret
    exact ⟨ret_bool (by rw [HF.out]; simp only [fitsI, EB, EC, da, db, dc, dd, de, df, dg, Bool.false_and, Bool.true_and, Bool.and_false, Bool.and_true]), B0.out⟩
  have dg : decide (-2147483648 ≤ i.im) = true := by simpa using g
  by_cases h : i.im ≤ 2147483647
  case neg =>
    have dh : decide (i.im ≤ 2147483647) = false := by simpa using h
    go_wp2_with fail
    go_ret
    exact ⟨ret_bool (by rw [HF.out]; simp only [fitsI, EB, EC, da, db, dc, dd, de, df, dg, dh, Bool.false_and, Bool.true_and, Bool.and_false, Bool.and_true]), B0.out⟩
  have dh : decide (i.im ≤ 2147483647) = true := by simpa using h
  go_wp2_with fail
  go_ret
  exact ⟨ret_bool (by rw [HF.out]; simp only [fitsI, EB, EC, da, db, dc, dd, de, df, dg, dh, Bool.false_and, Bool.true_and, Bool.not_false, Bool.true_or, Bool.and_true]), B0.out⟩

theorem fits (i : Ins) (h : Int) (hh : h = 1 ∨ h = 33 ∨ h = 107 ∨ h = 117 ∨ h = 131 ∨ h = 147 ∨ h = 181) (w : World) :
    Calls Tryz.prog 50 #[agg i, .int .u64 h] w fun e w' => e = .returned (.bool (fitsI i h)) ∧ Below w.heap.size w w' := by
  rcases hh with rfl | rfl | rfl | rfl | rfl | rfl | rfl
  · exact fitsOne i w
  · exact fits33 i w
  · exact fits107 i w
  · exact fits117 i w
  · exact fits131 i w
  · exact fits147 i w
  · exact fits181 i w
end Go.Proofs.YthfkmackodbmkaaGreatDoor
