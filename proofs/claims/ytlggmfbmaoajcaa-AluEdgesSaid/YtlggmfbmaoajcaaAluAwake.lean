/- The examples hold; ranges of arguments; worlds one behind the other. -/
import Derived.Test.YtlggmfbmaoajcaaAluAll
import Derived.Test.YtlggmfbmaoajcaaAluRefAll
namespace Go.Proofs.Ytlggmfbmaoajcaa
open Go.RowKit
set_option linter.unusedVariables false
theorem u64_range {a : Int} (h : (Lit.int .u64 a).wf = true) : 0 ≤ a ∧ a < m64 := by
  unfold m64
  simp [Lit.wf, IntKind.min, IntKind.max, IntKind.signed, IntKind.bits] at h
  omega
theorem bel_trans {w a b : World} (h : Below w.heap.size w a) (k : Below a.heap.size a b) : Below w.heap.size w b := h.trans (k.mono h.size)
theorem do_sub (w : World) : Calls Try.prog 9 #[.int .u8 2, .bool false, .int .u64 3, .int .u64 5] w (Pair (.int .u64 18446744073709551614) 0 w) :=
  aluDo 2 false 3 5 (by decide) (by decide) (by decide) (by decide) w
theorem do_sar (w : World) : Calls Try.prog 9 #[.int .u8 11, .bool true, .int .u64 2147483648, .int .u64 33] w (Pair (.int .u64 3221225472) 0 w) :=
  aluDo 11 true 2147483648 33 (by decide) (by decide) (by decide) (by decide) w
theorem is_slt (w : World) : Calls Try.prog 11 #[.int .u8 25, .bool true, .int .u64 2147483648, .int .u64 0] w (Pair (.bool true) 0 w) :=
  aluIs 25 true 2147483648 0 (by decide) (by decide) (by decide) (by decide) w
theorem do_div0 (w : World) : Calls Try.prog 9 #[.int .u8 4, .bool false, .int .u64 1, .int .u64 0] w (Pair (.int .u64 0) 113 w) :=
  aluDo 4 false 1 0 (by decide) (by decide) (by decide) (by decide) w
theorem wide_1 (w : World) : Calls Try.prog 13 #[.int .i64 (-1)] w fun e w' => w = w' ∧ e = .returned (.int .u64 18446744073709551615) := aluWide (-1) w
set_option maxHeartbeats 400000 in
theorem awake (w : World) : Calls Try.prog 8 #[] w fun e w' => e = .returned (.bool true) ∧ Below w.heap.size w w' := by
  go_enter Try.func8, Try.ntmps8
  go_wp2_with fail
  refine (do_sub _).mono ?_; rintro e w1 ⟨rfl, b1⟩; have B1 := Lib.hid b1; clear b1
  go_wp2_with fail
  refine (do_sar _).mono ?_; rintro e w2 ⟨rfl, b2⟩; have B2 := Lib.hid b2; clear b2
  go_wp2_with fail
  refine (is_slt _).mono ?_; rintro e w3 ⟨rfl, b3⟩; have B3 := Lib.hid b3; clear b3
  go_wp2_with fail
  refine (do_div0 _).mono ?_; rintro e w4 ⟨rfl, b4⟩; have B4 := Lib.hid b4; clear b4
  go_wp2_with fail
  refine (wide_1 _).mono ?_; rintro e w' ⟨rfl, rfl⟩
  go_wp2
  go_ret
  exact ⟨rfl, bel_trans (bel_trans (bel_trans B1.out B2.out) B3.out) B4.out⟩
end Go.Proofs.Ytlggmfbmaoajcaa
