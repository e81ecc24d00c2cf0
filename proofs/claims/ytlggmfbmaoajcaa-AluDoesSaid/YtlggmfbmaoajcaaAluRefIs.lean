/- The document's own answers for the relations: each returns what AluSpec says. -/
import Derived.Test.YtlggmfbmaoajcaaAluRefDo
namespace Go.Proofs.Ytlggmfbmaoajcaa
open Go.RowKit
set_option linter.unusedVariables false
theorem fit_eq (a b : Int) : (a == b) = decide (a = b) := rfl
theorem fit_ne (a b : Int) : (a != b) = !decide (a = b) := rfl
theorem fit_set64 (x y : Int) (x0 : 0 ≤ x) (x1 : x < m64) (y0 : 0 ≤ y) (y1 : y < m64) : (ev 6 x y != 0) = is64 27 x y := by
  rw [ev64 6 x y (by decide) x0 x1 y0 y1]; rfl
theorem fit_set32 (x y : Int) (x0 : 0 ≤ x) (x1 : x < m32) (y0 : 0 ≤ y) (y1 : y < m32) : (ev 6 x y != 0) = is32 27 x y := by
  have x1' := x1; have y1' := y1
  unfold m32 at x1' y1'
  have e : ev 6 x y = bits .and .u32 x y := by
    rw [ev_and x y x0 (by unfold m64; omega)]; exact (Go.u32_and x y x0 x1' y0 y1').symm
  rw [e]; rfl

set_option maxHeartbeats 400000 in
theorem refIs32_17 (a b x y : Int) (hx : bits .and .u64 a 4294967295 = x) (hy : bits .and .u64 b 4294967295 = y) (h0 : 0 ≤ a) (h1 : a < m64) (k0 : 0 ≤ b) (k1 : b < m64) (x0 : 0 ≤ x) (x1 : x < m32) (y0 : 0 ≤ y) (y1 : y < m32) (w : World) : Calls Try.prog 12 #[.int .u8 17, .bool true, .int .u64 a, .int .u64 b] w (Pair (.bool (is32 17 x y)) 0 w) := by
  have h1' : a < 18446744073709551616 := h1
  have k1' : b < 18446744073709551616 := k1
  have x1' : x < 4294967296 := x1
  have y1' : y < 4294967296 := y1
  have x2 : x < m64 := by unfold m64; omega
  have y2 : y < m64 := by unfold m64; omega
  go_enter Try.func12, Try.ntmps12
  go_wp2_with fail
  go_ret2
  exact ⟨ret_yes (fit_eq _ _), Below.refl _ _⟩

set_option maxHeartbeats 400000 in
theorem refIs32_18 (a b x y : Int) (hx : bits .and .u64 a 4294967295 = x) (hy : bits .and .u64 b 4294967295 = y) (h0 : 0 ≤ a) (h1 : a < m64) (k0 : 0 ≤ b) (k1 : b < m64) (x0 : 0 ≤ x) (x1 : x < m32) (y0 : 0 ≤ y) (y1 : y < m32) (w : World) : Calls Try.prog 12 #[.int .u8 18, .bool true, .int .u64 a, .int .u64 b] w (Pair (.bool (is32 18 x y)) 0 w) := by
  have h1' : a < 18446744073709551616 := h1
  have k1' : b < 18446744073709551616 := k1
  have x1' : x < 4294967296 := x1
  have y1' : y < 4294967296 := y1
  have x2 : x < m64 := by unfold m64; omega
  have y2 : y < m64 := by unfold m64; omega
  go_enter Try.func12, Try.ntmps12
  go_wp2_with fail
  go_ret2
  exact ⟨ret_yes (fit_ne _ _), Below.refl _ _⟩

set_option maxHeartbeats 400000 in
theorem refIs32_19 (a b x y : Int) (hx : bits .and .u64 a 4294967295 = x) (hy : bits .and .u64 b 4294967295 = y) (h0 : 0 ≤ a) (h1 : a < m64) (k0 : 0 ≤ b) (k1 : b < m64) (x0 : 0 ≤ x) (x1 : x < m32) (y0 : 0 ≤ y) (y1 : y < m32) (w : World) : Calls Try.prog 12 #[.int .u8 19, .bool true, .int .u64 a, .int .u64 b] w (Pair (.bool (is32 19 x y)) 0 w) := by
  have h1' : a < 18446744073709551616 := h1
  have k1' : b < 18446744073709551616 := k1
  have x1' : x < 4294967296 := x1
  have y1' : y < 4294967296 := y1
  have x2 : x < m64 := by unfold m64; omega
  have y2 : y < m64 := by unfold m64; omega
  go_enter Try.func12, Try.ntmps12
  go_wp2_with fail
  go_ret2
  exact ⟨ret_yes (rfl), Below.refl _ _⟩

set_option maxHeartbeats 400000 in
theorem refIs32_20 (a b x y : Int) (hx : bits .and .u64 a 4294967295 = x) (hy : bits .and .u64 b 4294967295 = y) (h0 : 0 ≤ a) (h1 : a < m64) (k0 : 0 ≤ b) (k1 : b < m64) (x0 : 0 ≤ x) (x1 : x < m32) (y0 : 0 ≤ y) (y1 : y < m32) (w : World) : Calls Try.prog 12 #[.int .u8 20, .bool true, .int .u64 a, .int .u64 b] w (Pair (.bool (is32 20 x y)) 0 w) := by
  have h1' : a < 18446744073709551616 := h1
  have k1' : b < 18446744073709551616 := k1
  have x1' : x < 4294967296 := x1
  have y1' : y < 4294967296 := y1
  have x2 : x < m64 := by unfold m64; omega
  have y2 : y < m64 := by unfold m64; omega
  go_enter Try.func12, Try.ntmps12
  go_wp2_with fail
  go_ret2
  exact ⟨ret_yes (rfl), Below.refl _ _⟩

set_option maxHeartbeats 400000 in
theorem refIs32_21 (a b x y : Int) (hx : bits .and .u64 a 4294967295 = x) (hy : bits .and .u64 b 4294967295 = y) (h0 : 0 ≤ a) (h1 : a < m64) (k0 : 0 ≤ b) (k1 : b < m64) (x0 : 0 ≤ x) (x1 : x < m32) (y0 : 0 ≤ y) (y1 : y < m32) (w : World) : Calls Try.prog 12 #[.int .u8 21, .bool true, .int .u64 a, .int .u64 b] w (Pair (.bool (is32 21 x y)) 0 w) := by
  have h1' : a < 18446744073709551616 := h1
  have k1' : b < 18446744073709551616 := k1
  have x1' : x < 4294967296 := x1
  have y1' : y < 4294967296 := y1
  have x2 : x < m64 := by unfold m64; omega
  have y2 : y < m64 := by unfold m64; omega
  go_enter Try.func12, Try.ntmps12
  go_wp2_with fail
  go_ret2
  exact ⟨ret_yes (rfl), Below.refl _ _⟩

set_option maxHeartbeats 400000 in
theorem refIs32_22 (a b x y : Int) (hx : bits .and .u64 a 4294967295 = x) (hy : bits .and .u64 b 4294967295 = y) (h0 : 0 ≤ a) (h1 : a < m64) (k0 : 0 ≤ b) (k1 : b < m64) (x0 : 0 ≤ x) (x1 : x < m32) (y0 : 0 ≤ y) (y1 : y < m32) (w : World) : Calls Try.prog 12 #[.int .u8 22, .bool true, .int .u64 a, .int .u64 b] w (Pair (.bool (is32 22 x y)) 0 w) := by
  have h1' : a < 18446744073709551616 := h1
  have k1' : b < 18446744073709551616 := k1
  have x1' : x < 4294967296 := x1
  have y1' : y < 4294967296 := y1
  have x2 : x < m64 := by unfold m64; omega
  have y2 : y < m64 := by unfold m64; omega
  go_enter Try.func12, Try.ntmps12
  go_wp2_with fail
  go_ret2
  exact ⟨ret_yes (rfl), Below.refl _ _⟩

set_option maxHeartbeats 400000 in
theorem refIs32_23 (a b x y : Int) (hx : bits .and .u64 a 4294967295 = x) (hy : bits .and .u64 b 4294967295 = y) (h0 : 0 ≤ a) (h1 : a < m64) (k0 : 0 ≤ b) (k1 : b < m64) (x0 : 0 ≤ x) (x1 : x < m32) (y0 : 0 ≤ y) (y1 : y < m32) (w : World) : Calls Try.prog 12 #[.int .u8 23, .bool true, .int .u64 a, .int .u64 b] w (Pair (.bool (is32 23 x y)) 0 w) := by
  have h1' : a < 18446744073709551616 := h1
  have k1' : b < 18446744073709551616 := k1
  have x1' : x < 4294967296 := x1
  have y1' : y < 4294967296 := y1
  have x2 : x < m64 := by unfold m64; omega
  have y2 : y < m64 := by unfold m64; omega
  have tx := top32 x x0 x1
  have ty := top32 y y0 y1
  have TX := Lib.hid tx
  have TY := Lib.hid ty
  clear tx ty
  go_enter Try.func12, Try.ntmps12
  go_wp2_with fail
  go_ret2
  exact ⟨ret_yes ((congr (congrArg (fun a b => decide (a < b)) TY.out) TX.out).trans (lt_shift _ _ _)), Below.refl _ _⟩

set_option maxHeartbeats 400000 in
theorem refIs32_24 (a b x y : Int) (hx : bits .and .u64 a 4294967295 = x) (hy : bits .and .u64 b 4294967295 = y) (h0 : 0 ≤ a) (h1 : a < m64) (k0 : 0 ≤ b) (k1 : b < m64) (x0 : 0 ≤ x) (x1 : x < m32) (y0 : 0 ≤ y) (y1 : y < m32) (w : World) : Calls Try.prog 12 #[.int .u8 24, .bool true, .int .u64 a, .int .u64 b] w (Pair (.bool (is32 24 x y)) 0 w) := by
  have h1' : a < 18446744073709551616 := h1
  have k1' : b < 18446744073709551616 := k1
  have x1' : x < 4294967296 := x1
  have y1' : y < 4294967296 := y1
  have x2 : x < m64 := by unfold m64; omega
  have y2 : y < m64 := by unfold m64; omega
  have tx := top32 x x0 x1
  have ty := top32 y y0 y1
  have TX := Lib.hid tx
  have TY := Lib.hid ty
  clear tx ty
  go_enter Try.func12, Try.ntmps12
  go_wp2_with fail
  go_ret2
  exact ⟨ret_yes ((congr (congrArg (fun a b => decide (a ≤ b)) TY.out) TX.out).trans (le_shift _ _ _)), Below.refl _ _⟩

set_option maxHeartbeats 400000 in
theorem refIs32_25 (a b x y : Int) (hx : bits .and .u64 a 4294967295 = x) (hy : bits .and .u64 b 4294967295 = y) (h0 : 0 ≤ a) (h1 : a < m64) (k0 : 0 ≤ b) (k1 : b < m64) (x0 : 0 ≤ x) (x1 : x < m32) (y0 : 0 ≤ y) (y1 : y < m32) (w : World) : Calls Try.prog 12 #[.int .u8 25, .bool true, .int .u64 a, .int .u64 b] w (Pair (.bool (is32 25 x y)) 0 w) := by
  have h1' : a < 18446744073709551616 := h1
  have k1' : b < 18446744073709551616 := k1
  have x1' : x < 4294967296 := x1
  have y1' : y < 4294967296 := y1
  have x2 : x < m64 := by unfold m64; omega
  have y2 : y < m64 := by unfold m64; omega
  have tx := top32 x x0 x1
  have ty := top32 y y0 y1
  have TX := Lib.hid tx
  have TY := Lib.hid ty
  clear tx ty
  go_enter Try.func12, Try.ntmps12
  go_wp2_with fail
  go_ret2
  exact ⟨ret_yes ((congr (congrArg (fun a b => decide (a < b)) TX.out) TY.out).trans (lt_shift _ _ _)), Below.refl _ _⟩

set_option maxHeartbeats 400000 in
theorem refIs32_26 (a b x y : Int) (hx : bits .and .u64 a 4294967295 = x) (hy : bits .and .u64 b 4294967295 = y) (h0 : 0 ≤ a) (h1 : a < m64) (k0 : 0 ≤ b) (k1 : b < m64) (x0 : 0 ≤ x) (x1 : x < m32) (y0 : 0 ≤ y) (y1 : y < m32) (w : World) : Calls Try.prog 12 #[.int .u8 26, .bool true, .int .u64 a, .int .u64 b] w (Pair (.bool (is32 26 x y)) 0 w) := by
  have h1' : a < 18446744073709551616 := h1
  have k1' : b < 18446744073709551616 := k1
  have x1' : x < 4294967296 := x1
  have y1' : y < 4294967296 := y1
  have x2 : x < m64 := by unfold m64; omega
  have y2 : y < m64 := by unfold m64; omega
  have tx := top32 x x0 x1
  have ty := top32 y y0 y1
  have TX := Lib.hid tx
  have TY := Lib.hid ty
  clear tx ty
  go_enter Try.func12, Try.ntmps12
  go_wp2_with fail
  go_ret2
  exact ⟨ret_yes ((congr (congrArg (fun a b => decide (a ≤ b)) TX.out) TY.out).trans (le_shift _ _ _)), Below.refl _ _⟩

set_option maxHeartbeats 400000 in
theorem refIs32_27 (a b x y : Int) (hx : bits .and .u64 a 4294967295 = x) (hy : bits .and .u64 b 4294967295 = y) (h0 : 0 ≤ a) (h1 : a < m64) (k0 : 0 ≤ b) (k1 : b < m64) (x0 : 0 ≤ x) (x1 : x < m32) (y0 : 0 ≤ y) (y1 : y < m32) (w : World) : Calls Try.prog 12 #[.int .u8 27, .bool true, .int .u64 a, .int .u64 b] w (Pair (.bool (is32 27 x y)) 0 w) := by
  have h1' : a < 18446744073709551616 := h1
  have k1' : b < 18446744073709551616 := k1
  have x1' : x < 4294967296 := x1
  have y1' : y < 4294967296 := y1
  have x2 : x < m64 := by unfold m64; omega
  have y2 : y < m64 := by unfold m64; omega
  go_enter Try.func12, Try.ntmps12
  go_wp2_with (go_at_call 17; refine (eachI _ _ _ x0 x2 y0 y2 _).mono ?_; rintro e w' ⟨rfl, rfl⟩)
  go_ret2
  exact ⟨ret_yes (fit_set32 x y x0 x1 y0 y1), Below.refl _ _⟩

set_option maxHeartbeats 400000 in
theorem refIs64_17 (a b : Int) (h0 : 0 ≤ a) (h1 : a < m64) (k0 : 0 ≤ b) (k1 : b < m64) (w : World) : Calls Try.prog 12 #[.int .u8 17, .bool false, .int .u64 a, .int .u64 b] w (Pair (.bool (is64 17 a b)) 0 w) := by
  have h1' : a < 18446744073709551616 := h1
  have k1' : b < 18446744073709551616 := k1
  go_enter Try.func12, Try.ntmps12
  go_wp2_with fail
  go_ret2
  exact ⟨ret_yes (fit_eq _ _), Below.refl _ _⟩

set_option maxHeartbeats 400000 in
theorem refIs64_18 (a b : Int) (h0 : 0 ≤ a) (h1 : a < m64) (k0 : 0 ≤ b) (k1 : b < m64) (w : World) : Calls Try.prog 12 #[.int .u8 18, .bool false, .int .u64 a, .int .u64 b] w (Pair (.bool (is64 18 a b)) 0 w) := by
  have h1' : a < 18446744073709551616 := h1
  have k1' : b < 18446744073709551616 := k1
  go_enter Try.func12, Try.ntmps12
  go_wp2_with fail
  go_ret2
  exact ⟨ret_yes (fit_ne _ _), Below.refl _ _⟩

set_option maxHeartbeats 400000 in
theorem refIs64_19 (a b : Int) (h0 : 0 ≤ a) (h1 : a < m64) (k0 : 0 ≤ b) (k1 : b < m64) (w : World) : Calls Try.prog 12 #[.int .u8 19, .bool false, .int .u64 a, .int .u64 b] w (Pair (.bool (is64 19 a b)) 0 w) := by
  have h1' : a < 18446744073709551616 := h1
  have k1' : b < 18446744073709551616 := k1
  go_enter Try.func12, Try.ntmps12
  go_wp2_with fail
  go_ret2
  exact ⟨ret_yes (rfl), Below.refl _ _⟩

set_option maxHeartbeats 400000 in
theorem refIs64_20 (a b : Int) (h0 : 0 ≤ a) (h1 : a < m64) (k0 : 0 ≤ b) (k1 : b < m64) (w : World) : Calls Try.prog 12 #[.int .u8 20, .bool false, .int .u64 a, .int .u64 b] w (Pair (.bool (is64 20 a b)) 0 w) := by
  have h1' : a < 18446744073709551616 := h1
  have k1' : b < 18446744073709551616 := k1
  go_enter Try.func12, Try.ntmps12
  go_wp2_with fail
  go_ret2
  exact ⟨ret_yes (rfl), Below.refl _ _⟩

set_option maxHeartbeats 400000 in
theorem refIs64_21 (a b : Int) (h0 : 0 ≤ a) (h1 : a < m64) (k0 : 0 ≤ b) (k1 : b < m64) (w : World) : Calls Try.prog 12 #[.int .u8 21, .bool false, .int .u64 a, .int .u64 b] w (Pair (.bool (is64 21 a b)) 0 w) := by
  have h1' : a < 18446744073709551616 := h1
  have k1' : b < 18446744073709551616 := k1
  go_enter Try.func12, Try.ntmps12
  go_wp2_with fail
  go_ret2
  exact ⟨ret_yes (rfl), Below.refl _ _⟩

set_option maxHeartbeats 400000 in
theorem refIs64_22 (a b : Int) (h0 : 0 ≤ a) (h1 : a < m64) (k0 : 0 ≤ b) (k1 : b < m64) (w : World) : Calls Try.prog 12 #[.int .u8 22, .bool false, .int .u64 a, .int .u64 b] w (Pair (.bool (is64 22 a b)) 0 w) := by
  have h1' : a < 18446744073709551616 := h1
  have k1' : b < 18446744073709551616 := k1
  go_enter Try.func12, Try.ntmps12
  go_wp2_with fail
  go_ret2
  exact ⟨ret_yes (rfl), Below.refl _ _⟩

set_option maxHeartbeats 400000 in
theorem refIs64_23 (a b : Int) (h0 : 0 ≤ a) (h1 : a < m64) (k0 : 0 ≤ b) (k1 : b < m64) (w : World) : Calls Try.prog 12 #[.int .u8 23, .bool false, .int .u64 a, .int .u64 b] w (Pair (.bool (is64 23 a b)) 0 w) := by
  have h1' : a < 18446744073709551616 := h1
  have k1' : b < 18446744073709551616 := k1
  have tx := top64 a h0 h1
  have ty := top64 b k0 k1
  have TX := Lib.hid tx
  have TY := Lib.hid ty
  clear tx ty
  go_enter Try.func12, Try.ntmps12
  go_wp2_with fail
  go_ret2
  exact ⟨ret_yes ((congr (congrArg (fun a b => decide (a < b)) TY.out) TX.out).trans (lt_shift _ _ _)), Below.refl _ _⟩

set_option maxHeartbeats 400000 in
theorem refIs64_24 (a b : Int) (h0 : 0 ≤ a) (h1 : a < m64) (k0 : 0 ≤ b) (k1 : b < m64) (w : World) : Calls Try.prog 12 #[.int .u8 24, .bool false, .int .u64 a, .int .u64 b] w (Pair (.bool (is64 24 a b)) 0 w) := by
  have h1' : a < 18446744073709551616 := h1
  have k1' : b < 18446744073709551616 := k1
  have tx := top64 a h0 h1
  have ty := top64 b k0 k1
  have TX := Lib.hid tx
  have TY := Lib.hid ty
  clear tx ty
  go_enter Try.func12, Try.ntmps12
  go_wp2_with fail
  go_ret2
  exact ⟨ret_yes ((congr (congrArg (fun a b => decide (a ≤ b)) TY.out) TX.out).trans (le_shift _ _ _)), Below.refl _ _⟩

set_option maxHeartbeats 400000 in
theorem refIs64_25 (a b : Int) (h0 : 0 ≤ a) (h1 : a < m64) (k0 : 0 ≤ b) (k1 : b < m64) (w : World) : Calls Try.prog 12 #[.int .u8 25, .bool false, .int .u64 a, .int .u64 b] w (Pair (.bool (is64 25 a b)) 0 w) := by
  have h1' : a < 18446744073709551616 := h1
  have k1' : b < 18446744073709551616 := k1
  have tx := top64 a h0 h1
  have ty := top64 b k0 k1
  have TX := Lib.hid tx
  have TY := Lib.hid ty
  clear tx ty
  go_enter Try.func12, Try.ntmps12
  go_wp2_with fail
  go_ret2
  exact ⟨ret_yes ((congr (congrArg (fun a b => decide (a < b)) TX.out) TY.out).trans (lt_shift _ _ _)), Below.refl _ _⟩

set_option maxHeartbeats 400000 in
theorem refIs64_26 (a b : Int) (h0 : 0 ≤ a) (h1 : a < m64) (k0 : 0 ≤ b) (k1 : b < m64) (w : World) : Calls Try.prog 12 #[.int .u8 26, .bool false, .int .u64 a, .int .u64 b] w (Pair (.bool (is64 26 a b)) 0 w) := by
  have h1' : a < 18446744073709551616 := h1
  have k1' : b < 18446744073709551616 := k1
  have tx := top64 a h0 h1
  have ty := top64 b k0 k1
  have TX := Lib.hid tx
  have TY := Lib.hid ty
  clear tx ty
  go_enter Try.func12, Try.ntmps12
  go_wp2_with fail
  go_ret2
  exact ⟨ret_yes ((congr (congrArg (fun a b => decide (a ≤ b)) TX.out) TY.out).trans (le_shift _ _ _)), Below.refl _ _⟩

set_option maxHeartbeats 400000 in
theorem refIs64_27 (a b : Int) (h0 : 0 ≤ a) (h1 : a < m64) (k0 : 0 ≤ b) (k1 : b < m64) (w : World) : Calls Try.prog 12 #[.int .u8 27, .bool false, .int .u64 a, .int .u64 b] w (Pair (.bool (is64 27 a b)) 0 w) := by
  have h1' : a < 18446744073709551616 := h1
  have k1' : b < 18446744073709551616 := k1
  go_enter Try.func12, Try.ntmps12
  go_wp2_with (go_at_call 17; refine (eachI _ _ _ h0 h1 k0 k1 _).mono ?_; rintro e w' ⟨rfl, rfl⟩)
  go_ret2
  exact ⟨ret_yes (fit_set64 a b h0 h1 k0 k1), Below.refl _ _⟩

set_option maxHeartbeats 400000 in
theorem refDo_bad_true (a b op : Int) (h0 : 0 ≤ a) (h1 : a < m64) (k0 : 0 ≤ b) (k1 : b < m64) (h : op < 1 ∨ 13 < op) (w : World) : Calls Try.prog 10 #[.int .u8 op, .bool true, .int .u64 a, .int .u64 b] w (Pair (.int .u64 0) 2 w) := by
  have h1' : a < 18446744073709551616 := h1
  have k1' : b < 18446744073709551616 := k1
  have e1 : (op == 1) = false := by simp; omega
  have e2 : (op == 2) = false := by simp; omega
  have e3 : (op == 3) = false := by simp; omega
  have e4 : (op == 4) = false := by simp; omega
  have e5 : (op == 5) = false := by simp; omega
  have e6 : (op == 6) = false := by simp; omega
  have e7 : (op == 7) = false := by simp; omega
  have e8 : (op == 8) = false := by simp; omega
  have e9 : (op == 9) = false := by simp; omega
  have e10 : (op == 10) = false := by simp; omega
  have e11 : (op == 11) = false := by simp; omega
  have e12 : (op == 12) = false := by simp; omega
  have e13 : (op == 13) = false := by simp; omega
  clear h
  go_enter Try.func10, Try.ntmps10
  go_wp2_with fail
  go_ret2
  exact ⟨rfl, Below.refl _ _⟩
set_option maxHeartbeats 400000 in
theorem refIs_bad_true (a b op : Int) (h0 : 0 ≤ a) (h1 : a < m64) (k0 : 0 ≤ b) (k1 : b < m64) (h : op < 17 ∨ 27 < op) (w : World) : Calls Try.prog 12 #[.int .u8 op, .bool true, .int .u64 a, .int .u64 b] w (Pair (.bool false) 2 w) := by
  have h1' : a < 18446744073709551616 := h1
  have k1' : b < 18446744073709551616 := k1
  have e17 : (op == 17) = false := by simp; omega
  have e18 : (op == 18) = false := by simp; omega
  have e19 : (op == 19) = false := by simp; omega
  have e20 : (op == 20) = false := by simp; omega
  have e21 : (op == 21) = false := by simp; omega
  have e22 : (op == 22) = false := by simp; omega
  have e23 : (op == 23) = false := by simp; omega
  have e24 : (op == 24) = false := by simp; omega
  have e25 : (op == 25) = false := by simp; omega
  have e26 : (op == 26) = false := by simp; omega
  have e27 : (op == 27) = false := by simp; omega
  rcases h with h | h
  · have g : decide (23 ≤ op) = false := by simp; omega
    clear h
    go_enter Try.func12, Try.ntmps12
    go_wp2_with fail
    go_ret2
    exact ⟨rfl, Below.refl _ _⟩
  · have g1 : 23 ≤ op := by omega
    have g : decide (op ≤ 26) = false := by simp; omega
    clear h
    go_enter Try.func12, Try.ntmps12
    go_wp2_with fail
    go_ret2
    exact ⟨rfl, Below.refl _ _⟩

set_option maxHeartbeats 400000 in
theorem refDo_bad_false (a b op : Int) (h0 : 0 ≤ a) (h1 : a < m64) (k0 : 0 ≤ b) (k1 : b < m64) (h : op < 1 ∨ 13 < op) (w : World) : Calls Try.prog 10 #[.int .u8 op, .bool false, .int .u64 a, .int .u64 b] w (Pair (.int .u64 0) 2 w) := by
  have h1' : a < 18446744073709551616 := h1
  have k1' : b < 18446744073709551616 := k1
  have e1 : (op == 1) = false := by simp; omega
  have e2 : (op == 2) = false := by simp; omega
  have e3 : (op == 3) = false := by simp; omega
  have e4 : (op == 4) = false := by simp; omega
  have e5 : (op == 5) = false := by simp; omega
  have e6 : (op == 6) = false := by simp; omega
  have e7 : (op == 7) = false := by simp; omega
  have e8 : (op == 8) = false := by simp; omega
  have e9 : (op == 9) = false := by simp; omega
  have e10 : (op == 10) = false := by simp; omega
  have e11 : (op == 11) = false := by simp; omega
  have e12 : (op == 12) = false := by simp; omega
  have e13 : (op == 13) = false := by simp; omega
  clear h
  go_enter Try.func10, Try.ntmps10
  go_wp2_with fail
  go_ret2
  exact ⟨rfl, Below.refl _ _⟩
set_option maxHeartbeats 400000 in
theorem refIs_bad_false (a b op : Int) (h0 : 0 ≤ a) (h1 : a < m64) (k0 : 0 ≤ b) (k1 : b < m64) (h : op < 17 ∨ 27 < op) (w : World) : Calls Try.prog 12 #[.int .u8 op, .bool false, .int .u64 a, .int .u64 b] w (Pair (.bool false) 2 w) := by
  have h1' : a < 18446744073709551616 := h1
  have k1' : b < 18446744073709551616 := k1
  have e17 : (op == 17) = false := by simp; omega
  have e18 : (op == 18) = false := by simp; omega
  have e19 : (op == 19) = false := by simp; omega
  have e20 : (op == 20) = false := by simp; omega
  have e21 : (op == 21) = false := by simp; omega
  have e22 : (op == 22) = false := by simp; omega
  have e23 : (op == 23) = false := by simp; omega
  have e24 : (op == 24) = false := by simp; omega
  have e25 : (op == 25) = false := by simp; omega
  have e26 : (op == 26) = false := by simp; omega
  have e27 : (op == 27) = false := by simp; omega
  rcases h with h | h
  · have g : decide (23 ≤ op) = false := by simp; omega
    clear h
    go_enter Try.func12, Try.ntmps12
    go_wp2_with fail
    go_ret2
    exact ⟨rfl, Below.refl _ _⟩
  · have g1 : 23 ≤ op := by omega
    have g : decide (op ≤ 26) = false := by simp; omega
    clear h
    go_enter Try.func12, Try.ntmps12
    go_wp2_with fail
    go_ret2
    exact ⟨rfl, Below.refl _ _⟩

set_option maxHeartbeats 400000 in
theorem refDo32_zero4 (a b : Int) (hy : bits .and .u64 b 4294967295 = 0) (h0 : 0 ≤ a) (h1 : a < m64) (w : World) : Calls Try.prog 10 #[.int .u8 4, .bool true, .int .u64 a, .int .u64 b] w (Pair (.int .u64 0) 113 w) := by
  go_enter Try.func10, Try.ntmps10
  go_wp2_with fail
  go_ret2
  exact ⟨rfl, Below.refl _ _⟩
set_option maxHeartbeats 400000 in
theorem refDo64_zero4 (a : Int) (h0 : 0 ≤ a) (h1 : a < m64) (w : World) : Calls Try.prog 10 #[.int .u8 4, .bool false, .int .u64 a, .int .u64 0] w (Pair (.int .u64 0) 113 w) := by
  go_enter Try.func10, Try.ntmps10
  go_wp2_with fail
  go_ret2
  exact ⟨rfl, Below.refl _ _⟩

set_option maxHeartbeats 400000 in
theorem refDo32_zero5 (a b : Int) (hy : bits .and .u64 b 4294967295 = 0) (h0 : 0 ≤ a) (h1 : a < m64) (w : World) : Calls Try.prog 10 #[.int .u8 5, .bool true, .int .u64 a, .int .u64 b] w (Pair (.int .u64 0) 113 w) := by
  go_enter Try.func10, Try.ntmps10
  go_wp2_with fail
  go_ret2
  exact ⟨rfl, Below.refl _ _⟩
set_option maxHeartbeats 400000 in
theorem refDo64_zero5 (a : Int) (h0 : 0 ≤ a) (h1 : a < m64) (w : World) : Calls Try.prog 10 #[.int .u8 5, .bool false, .int .u64 a, .int .u64 0] w (Pair (.int .u64 0) 113 w) := by
  go_enter Try.func10, Try.ntmps10
  go_wp2_with fail
  go_ret2
  exact ⟨rfl, Below.refl _ _⟩

end Go.Proofs.Ytlggmfbmaoajcaa
