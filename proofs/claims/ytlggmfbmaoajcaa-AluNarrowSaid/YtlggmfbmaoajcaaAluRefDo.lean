/- The document's own answers for the operators and the relations: each returns what AluSpec says. -/
import Derived.Test.YtlggmfbmaoajcaaAluRef
import Derived.Test.YtlggmfbmaoajcaaAluFit
import Derived.Test.YtlggmfbmaoajcaaFnMap
namespace Go.Proofs.Ytlggmfbmaoajcaa
open Go.RowKit
set_option linter.unusedVariables false
theorem ret_two {k : IntKind} {a b c : Int} (h : a = b) : Ending.returned (.tuple #[.int k a, .int .i64 c]) = .returned (.tuple #[.int k b, .int .i64 c]) := by rw [h]
theorem ret_yes {a b : Bool} {c : Int} (h : a = b) : Ending.returned (.tuple #[.bool a, .int .i64 c]) = .returned (.tuple #[.bool b, .int .i64 c]) := by rw [h]
theorem bitI (x n : Int) (x0 : 0 ≤ x) (x1 : x < m64) (h0 : 0 ≤ n) (hn : n < 64) (w : World) : Calls Try.prog 19 #[.int .u64 x, .int .i64 n] w fun e w' => w = w' ∧ e = .returned (.bool (x.toNat.testBit n.toNat)) := by
  obtain ⟨X, rfl⟩ := Int.eq_ofNat_of_zero_le x0
  unfold m64 at x1
  rw [Int.toNat_natCast]
  exact bit_any X n (by omega) h0 hn w
theorem eachI (op x y : Int) (x0 : 0 ≤ x) (x1 : x < m64) (y0 : 0 ≤ y) (y1 : y < m64) (w : World) : Calls Try.prog 17 #[.int .u8 op, .int .u64 x, .int .u64 y] w fun e w' => w = w' ∧ e = .returned (.int .u64 (ev op x y)) := by
  obtain ⟨X, rfl⟩ := Int.eq_ofNat_of_zero_le x0
  obtain ⟨Y, rfl⟩ := Int.eq_ofNat_of_zero_le y0
  unfold m64 at x1 y1
  unfold ev
  rw [Int.toNat_natCast, Int.toNat_natCast]
  exact each_any op X Y (by omega) (by omega) w

theorem moved32 (x sh : Int) (inb : Bool) (x0 : 0 ≤ x) (x1 : x < m64) (h0 : -64 < sh) (h1 : sh < 64) (w : World) : Calls Try.prog 18 #[.int .u64 x, .int .i64 sh, .int .i64 32, .bool inb] w fun e w' => w = w' ∧ e = .returned (.int .u64 (mv 32 x sh inb)) := by
  obtain ⟨X, rfl⟩ := Int.eq_ofNat_of_zero_le x0
  unfold m64 at x1
  unfold mv
  rw [Int.toNat_natCast]
  exact moved_any X sh 32 inb (by omega) h0 h1 (by decide) w

theorem moved64 (x sh : Int) (inb : Bool) (x0 : 0 ≤ x) (x1 : x < m64) (h0 : -64 < sh) (h1 : sh < 64) (w : World) : Calls Try.prog 18 #[.int .u64 x, .int .i64 sh, .int .i64 64, .bool inb] w fun e w' => w = w' ∧ e = .returned (.int .u64 (mv 64 x sh inb)) := by
  obtain ⟨X, rfl⟩ := Int.eq_ofNat_of_zero_le x0
  unfold m64 at x1
  unfold mv
  rw [Int.toNat_natCast]
  exact moved_any X sh 64 inb (by omega) h0 h1 (by decide) w

set_option maxHeartbeats 400000 in
theorem refDo32_1 (a b x y : Int) (hx : bits .and .u64 a 4294967295 = x) (hy : bits .and .u64 b 4294967295 = y) (h0 : 0 ≤ a) (h1 : a < m64) (k0 : 0 ≤ b) (k1 : b < m64) (x0 : 0 ≤ x) (x1 : x < m32) (y0 : 0 ≤ y) (y1 : y < m32) (w : World) : Calls Try.prog 10 #[.int .u8 1, .bool true, .int .u64 a, .int .u64 b] w (Pair (.int .u64 (do32 1 x y)) 0 w) := by
  have h1' : a < 18446744073709551616 := h1
  have k1' : b < 18446744073709551616 := k1
  have x1' : x < 4294967296 := x1
  have y1' : y < 4294967296 := y1
  have x2 : x < m64 := by unfold m64; omega
  have y2 : y < m64 := by unfold m64; omega
  have HX := Lib.hid hx
  go_enter Try.func10, Try.ntmps10
  go_wp2_with fail
  go_ret2
  exact ⟨ret_two (f32_1 x y x0 x1 y0 y1), Below.refl _ _⟩

set_option maxHeartbeats 400000 in
theorem refDo32_2 (a b x y : Int) (hx : bits .and .u64 a 4294967295 = x) (hy : bits .and .u64 b 4294967295 = y) (h0 : 0 ≤ a) (h1 : a < m64) (k0 : 0 ≤ b) (k1 : b < m64) (x0 : 0 ≤ x) (x1 : x < m32) (y0 : 0 ≤ y) (y1 : y < m32) (w : World) : Calls Try.prog 10 #[.int .u8 2, .bool true, .int .u64 a, .int .u64 b] w (Pair (.int .u64 (do32 2 x y)) 0 w) := by
  have h1' : a < 18446744073709551616 := h1
  have k1' : b < 18446744073709551616 := k1
  have x1' : x < 4294967296 := x1
  have y1' : y < 4294967296 := y1
  have x2 : x < m64 := by unfold m64; omega
  have y2 : y < m64 := by unfold m64; omega
  have HX := Lib.hid hx
  go_enter Try.func10, Try.ntmps10
  go_wp2_with fail
  go_ret2
  exact ⟨ret_two (f32_2 x y), Below.refl _ _⟩

set_option maxHeartbeats 400000 in
theorem refDo32_3 (a b x y : Int) (hx : bits .and .u64 a 4294967295 = x) (hy : bits .and .u64 b 4294967295 = y) (h0 : 0 ≤ a) (h1 : a < m64) (k0 : 0 ≤ b) (k1 : b < m64) (x0 : 0 ≤ x) (x1 : x < m32) (y0 : 0 ≤ y) (y1 : y < m32) (w : World) : Calls Try.prog 10 #[.int .u8 3, .bool true, .int .u64 a, .int .u64 b] w (Pair (.int .u64 (do32 3 x y)) 0 w) := by
  have h1' : a < 18446744073709551616 := h1
  have k1' : b < 18446744073709551616 := k1
  have x1' : x < 4294967296 := x1
  have y1' : y < 4294967296 := y1
  have x2 : x < m64 := by unfold m64; omega
  have y2 : y < m64 := by unfold m64; omega
  have HX := Lib.hid hx
  go_enter Try.func10, Try.ntmps10
  go_wp2_with fail
  go_ret2
  exact ⟨ret_two (f32_3 x y), Below.refl _ _⟩

set_option maxHeartbeats 400000 in
theorem refDo32_4 (a b x y : Int) (hx : bits .and .u64 a 4294967295 = x) (hy : bits .and .u64 b 4294967295 = y) (h0 : 0 ≤ a) (h1 : a < m64) (k0 : 0 ≤ b) (k1 : b < m64) (x0 : 0 ≤ x) (x1 : x < m32) (y0 : 0 ≤ y) (y1 : y < m32) (yp : 0 < y) (w : World) : Calls Try.prog 10 #[.int .u8 4, .bool true, .int .u64 a, .int .u64 b] w (Pair (.int .u64 (do32 4 x y)) 0 w) := by
  have h1' : a < 18446744073709551616 := h1
  have k1' : b < 18446744073709551616 := k1
  have x1' : x < 4294967296 := x1
  have y1' : y < 4294967296 := y1
  have x2 : x < m64 := by unfold m64; omega
  have y2 : y < m64 := by unfold m64; omega
  have HX := Lib.hid hx
  have hz : (y == 0) = false := by simp; omega
  go_enter Try.func10, Try.ntmps10
  go_wp2_with fail
  go_ret2
  exact ⟨ret_two (f32_4 x y x0 x1 yp), Below.refl _ _⟩

set_option maxHeartbeats 400000 in
theorem refDo32_5 (a b x y : Int) (hx : bits .and .u64 a 4294967295 = x) (hy : bits .and .u64 b 4294967295 = y) (h0 : 0 ≤ a) (h1 : a < m64) (k0 : 0 ≤ b) (k1 : b < m64) (x0 : 0 ≤ x) (x1 : x < m32) (y0 : 0 ≤ y) (y1 : y < m32) (yp : 0 < y) (w : World) : Calls Try.prog 10 #[.int .u8 5, .bool true, .int .u64 a, .int .u64 b] w (Pair (.int .u64 (do32 5 x y)) 0 w) := by
  have h1' : a < 18446744073709551616 := h1
  have k1' : b < 18446744073709551616 := k1
  have x1' : x < 4294967296 := x1
  have y1' : y < 4294967296 := y1
  have x2 : x < m64 := by unfold m64; omega
  have y2 : y < m64 := by unfold m64; omega
  have HX := Lib.hid hx
  have hz : (y == 0) = false := by simp; omega
  go_enter Try.func10, Try.ntmps10
  go_wp2_with fail
  go_ret2
  exact ⟨ret_two (f32_5 x y x0 x1 yp), Below.refl _ _⟩

set_option maxHeartbeats 400000 in
theorem refDo32_6 (a b x y : Int) (hx : bits .and .u64 a 4294967295 = x) (hy : bits .and .u64 b 4294967295 = y) (h0 : 0 ≤ a) (h1 : a < m64) (k0 : 0 ≤ b) (k1 : b < m64) (x0 : 0 ≤ x) (x1 : x < m32) (y0 : 0 ≤ y) (y1 : y < m32) (w : World) : Calls Try.prog 10 #[.int .u8 6, .bool true, .int .u64 a, .int .u64 b] w (Pair (.int .u64 (do32 6 x y)) 0 w) := by
  have h1' : a < 18446744073709551616 := h1
  have k1' : b < 18446744073709551616 := k1
  have x1' : x < 4294967296 := x1
  have y1' : y < 4294967296 := y1
  have x2 : x < m64 := by unfold m64; omega
  have y2 : y < m64 := by unfold m64; omega
  have HX := Lib.hid hx
  go_enter Try.func10, Try.ntmps10
  go_wp2_with (go_at_call 17; refine (eachI _ _ _ x0 x2 y0 y2 _).mono ?_; rintro e w' ⟨rfl, rfl⟩)
  go_ret2
  exact ⟨ret_two (ev32 6 x y (by decide) x0 x1 y0 y1), Below.refl _ _⟩

set_option maxHeartbeats 400000 in
theorem refDo32_7 (a b x y : Int) (hx : bits .and .u64 a 4294967295 = x) (hy : bits .and .u64 b 4294967295 = y) (h0 : 0 ≤ a) (h1 : a < m64) (k0 : 0 ≤ b) (k1 : b < m64) (x0 : 0 ≤ x) (x1 : x < m32) (y0 : 0 ≤ y) (y1 : y < m32) (w : World) : Calls Try.prog 10 #[.int .u8 7, .bool true, .int .u64 a, .int .u64 b] w (Pair (.int .u64 (do32 7 x y)) 0 w) := by
  have h1' : a < 18446744073709551616 := h1
  have k1' : b < 18446744073709551616 := k1
  have x1' : x < 4294967296 := x1
  have y1' : y < 4294967296 := y1
  have x2 : x < m64 := by unfold m64; omega
  have y2 : y < m64 := by unfold m64; omega
  have HX := Lib.hid hx
  go_enter Try.func10, Try.ntmps10
  go_wp2_with (go_at_call 17; refine (eachI _ _ _ x0 x2 y0 y2 _).mono ?_; rintro e w' ⟨rfl, rfl⟩)
  go_ret2
  exact ⟨ret_two (ev32 7 x y (by decide) x0 x1 y0 y1), Below.refl _ _⟩

set_option maxHeartbeats 400000 in
theorem refDo32_8 (a b x y : Int) (hx : bits .and .u64 a 4294967295 = x) (hy : bits .and .u64 b 4294967295 = y) (h0 : 0 ≤ a) (h1 : a < m64) (k0 : 0 ≤ b) (k1 : b < m64) (x0 : 0 ≤ x) (x1 : x < m32) (y0 : 0 ≤ y) (y1 : y < m32) (w : World) : Calls Try.prog 10 #[.int .u8 8, .bool true, .int .u64 a, .int .u64 b] w (Pair (.int .u64 (do32 8 x y)) 0 w) := by
  have h1' : a < 18446744073709551616 := h1
  have k1' : b < 18446744073709551616 := k1
  have x1' : x < 4294967296 := x1
  have y1' : y < 4294967296 := y1
  have x2 : x < m64 := by unfold m64; omega
  have y2 : y < m64 := by unfold m64; omega
  have HX := Lib.hid hx
  go_enter Try.func10, Try.ntmps10
  go_wp2_with (go_at_call 17; refine (eachI _ _ _ x0 x2 y0 y2 _).mono ?_; rintro e w' ⟨rfl, rfl⟩)
  go_ret2
  exact ⟨ret_two (ev32 8 x y (by decide) x0 x1 y0 y1), Below.refl _ _⟩

set_option maxHeartbeats 400000 in
theorem refDo32_9 (a b x y : Int) (hx : bits .and .u64 a 4294967295 = x) (hy : bits .and .u64 b 4294967295 = y) (h0 : 0 ≤ a) (h1 : a < m64) (k0 : 0 ≤ b) (k1 : b < m64) (x0 : 0 ≤ x) (x1 : x < m32) (y0 : 0 ≤ y) (y1 : y < m32) (w : World) : Calls Try.prog 10 #[.int .u8 9, .bool true, .int .u64 a, .int .u64 b] w (Pair (.int .u64 (do32 9 x y)) 0 w) := by
  have h1' : a < 18446744073709551616 := h1
  have k1' : b < 18446744073709551616 := k1
  have x1' : x < 4294967296 := x1
  have y1' : y < 4294967296 := y1
  have x2 : x < m64 := by unfold m64; omega
  have y2 : y < m64 := by unfold m64; omega
  have HX := Lib.hid hx
  go_enter Try.func10, Try.ntmps10
  go_wp2_with (go_at_call 18; refine (moved32 _ _ _ x0 x2 (by omega) (by omega) _).mono ?_; rintro e w' ⟨rfl, rfl⟩)
  go_ret2
  exact ⟨ret_two (f32_9 x y x0), Below.refl _ _⟩

set_option maxHeartbeats 400000 in
theorem refDo32_10 (a b x y : Int) (hx : bits .and .u64 a 4294967295 = x) (hy : bits .and .u64 b 4294967295 = y) (h0 : 0 ≤ a) (h1 : a < m64) (k0 : 0 ≤ b) (k1 : b < m64) (x0 : 0 ≤ x) (x1 : x < m32) (y0 : 0 ≤ y) (y1 : y < m32) (w : World) : Calls Try.prog 10 #[.int .u8 10, .bool true, .int .u64 a, .int .u64 b] w (Pair (.int .u64 (do32 10 x y)) 0 w) := by
  have h1' : a < 18446744073709551616 := h1
  have k1' : b < 18446744073709551616 := k1
  have x1' : x < 4294967296 := x1
  have y1' : y < 4294967296 := y1
  have x2 : x < m64 := by unfold m64; omega
  have y2 : y < m64 := by unfold m64; omega
  have HX := Lib.hid hx
  go_enter Try.func10, Try.ntmps10
  go_wp2_with (go_at_call 18; refine (moved32 _ _ _ x0 x2 (by omega) (by omega) _).mono ?_; rintro e w' ⟨rfl, rfl⟩)
  go_ret2
  exact ⟨ret_two (f32_10 x y x0 x1), Below.refl _ _⟩

set_option maxHeartbeats 400000 in
theorem refDo32_11 (a b x y : Int) (hx : bits .and .u64 a 4294967295 = x) (hy : bits .and .u64 b 4294967295 = y) (h0 : 0 ≤ a) (h1 : a < m64) (k0 : 0 ≤ b) (k1 : b < m64) (x0 : 0 ≤ x) (x1 : x < m32) (y0 : 0 ≤ y) (y1 : y < m32) (w : World) : Calls Try.prog 10 #[.int .u8 11, .bool true, .int .u64 a, .int .u64 b] w (Pair (.int .u64 (do32 11 x y)) 0 w) := by
  have h1' : a < 18446744073709551616 := h1
  have k1' : b < 18446744073709551616 := k1
  have x1' : x < 4294967296 := x1
  have y1' : y < 4294967296 := y1
  have x2 : x < m64 := by unfold m64; omega
  have y2 : y < m64 := by unfold m64; omega
  have HX := Lib.hid hx
  go_enter Try.func10, Try.ntmps10
  go_wp2_with fail
  go_quiet ((first | (go_at_call 19; exact Calls.quiet_of_same ((bitI _ _ x0 x2 (by omega) (by omega) _).mono fun _ _ h => ⟨h.2, h.1.symm⟩)) | (go_at_call 18; exact Calls.quiet_of_same ((moved32 _ _ _ x0 x2 (by omega) (by omega) _).mono fun _ _ h => ⟨h.2, h.1.symm⟩))))
  go_wp2
  go_ret2
  exact ⟨ret_two (f32_11 x y x0 x1), below_drewN (Below.refl _ _) _⟩

set_option maxHeartbeats 400000 in
theorem refDo32_12 (a b x y : Int) (hx : bits .and .u64 a 4294967295 = x) (hy : bits .and .u64 b 4294967295 = y) (h0 : 0 ≤ a) (h1 : a < m64) (k0 : 0 ≤ b) (k1 : b < m64) (x0 : 0 ≤ x) (x1 : x < m32) (y0 : 0 ≤ y) (y1 : y < m32) (w : World) : Calls Try.prog 10 #[.int .u8 12, .bool true, .int .u64 a, .int .u64 b] w (Pair (.int .u64 (do32 12 x y)) 0 w) := by
  have h1' : a < 18446744073709551616 := h1
  have k1' : b < 18446744073709551616 := k1
  have x1' : x < 4294967296 := x1
  have y1' : y < 4294967296 := y1
  have x2 : x < m64 := by unfold m64; omega
  have y2 : y < m64 := by unfold m64; omega
  have HX := Lib.hid hx
  go_enter Try.func10, Try.ntmps10
  go_wp2_with fail
  go_ret2
  exact ⟨ret_two (f32_12 y y0 y1), Below.refl _ _⟩

set_option maxHeartbeats 400000 in
theorem refDo32_13 (a b x y : Int) (hx : bits .and .u64 a 4294967295 = x) (hy : bits .and .u64 b 4294967295 = y) (h0 : 0 ≤ a) (h1 : a < m64) (k0 : 0 ≤ b) (k1 : b < m64) (x0 : 0 ≤ x) (x1 : x < m32) (y0 : 0 ≤ y) (y1 : y < m32) (w : World) : Calls Try.prog 10 #[.int .u8 13, .bool true, .int .u64 a, .int .u64 b] w (Pair (.int .u64 (do32 13 x y)) 0 w) := by
  have h1' : a < 18446744073709551616 := h1
  have k1' : b < 18446744073709551616 := k1
  have x1' : x < 4294967296 := x1
  have y1' : y < 4294967296 := y1
  have x2 : x < m64 := by unfold m64; omega
  have y2 : y < m64 := by unfold m64; omega
  have HX := Lib.hid hx
  go_enter Try.func10, Try.ntmps10
  go_wp2_with fail
  go_ret2
  exact ⟨ret_two (f32_13 x), Below.refl _ _⟩

set_option maxHeartbeats 400000 in
theorem refDo64_1 (a b : Int) (h0 : 0 ≤ a) (h1 : a < m64) (k0 : 0 ≤ b) (k1 : b < m64) (w : World) : Calls Try.prog 10 #[.int .u8 1, .bool false, .int .u64 a, .int .u64 b] w (Pair (.int .u64 (do64 1 a b)) 0 w) := by
  have h1' : a < 18446744073709551616 := h1
  have k1' : b < 18446744073709551616 := k1
  go_enter Try.func10, Try.ntmps10
  go_wp2_with fail
  go_ret2
  exact ⟨ret_two (wrap_u64_of _), Below.refl _ _⟩

set_option maxHeartbeats 400000 in
theorem refDo64_2 (a b : Int) (h0 : 0 ≤ a) (h1 : a < m64) (k0 : 0 ≤ b) (k1 : b < m64) (w : World) : Calls Try.prog 10 #[.int .u8 2, .bool false, .int .u64 a, .int .u64 b] w (Pair (.int .u64 (do64 2 a b)) 0 w) := by
  have h1' : a < 18446744073709551616 := h1
  have k1' : b < 18446744073709551616 := k1
  go_enter Try.func10, Try.ntmps10
  go_wp2_with fail
  go_ret2
  exact ⟨ret_two (wrap_u64_of _), Below.refl _ _⟩

set_option maxHeartbeats 400000 in
theorem refDo64_3 (a b : Int) (h0 : 0 ≤ a) (h1 : a < m64) (k0 : 0 ≤ b) (k1 : b < m64) (w : World) : Calls Try.prog 10 #[.int .u8 3, .bool false, .int .u64 a, .int .u64 b] w (Pair (.int .u64 (do64 3 a b)) 0 w) := by
  have h1' : a < 18446744073709551616 := h1
  have k1' : b < 18446744073709551616 := k1
  go_enter Try.func10, Try.ntmps10
  go_wp2_with fail
  go_ret2
  exact ⟨ret_two (wrap_u64_of _), Below.refl _ _⟩

set_option maxHeartbeats 400000 in
theorem refDo64_4 (a b : Int) (h0 : 0 ≤ a) (h1 : a < m64) (k0 : 0 ≤ b) (k1 : b < m64) (yp : 0 < b) (w : World) : Calls Try.prog 10 #[.int .u8 4, .bool false, .int .u64 a, .int .u64 b] w (Pair (.int .u64 (do64 4 a b)) 0 w) := by
  have h1' : a < 18446744073709551616 := h1
  have k1' : b < 18446744073709551616 := k1
  have hz : (b == 0) = false := by simp; omega
  go_enter Try.func10, Try.ntmps10
  go_wp2_with fail
  go_ret2
  exact ⟨ret_two (rfl), Below.refl _ _⟩

set_option maxHeartbeats 400000 in
theorem refDo64_5 (a b : Int) (h0 : 0 ≤ a) (h1 : a < m64) (k0 : 0 ≤ b) (k1 : b < m64) (yp : 0 < b) (w : World) : Calls Try.prog 10 #[.int .u8 5, .bool false, .int .u64 a, .int .u64 b] w (Pair (.int .u64 (do64 5 a b)) 0 w) := by
  have h1' : a < 18446744073709551616 := h1
  have k1' : b < 18446744073709551616 := k1
  have hz : (b == 0) = false := by simp; omega
  go_enter Try.func10, Try.ntmps10
  go_wp2_with fail
  go_ret2
  exact ⟨ret_two (f64_5 a b h0 h1 yp), Below.refl _ _⟩

set_option maxHeartbeats 400000 in
theorem refDo64_6 (a b : Int) (h0 : 0 ≤ a) (h1 : a < m64) (k0 : 0 ≤ b) (k1 : b < m64) (w : World) : Calls Try.prog 10 #[.int .u8 6, .bool false, .int .u64 a, .int .u64 b] w (Pair (.int .u64 (do64 6 a b)) 0 w) := by
  have h1' : a < 18446744073709551616 := h1
  have k1' : b < 18446744073709551616 := k1
  go_enter Try.func10, Try.ntmps10
  go_wp2_with (go_at_call 17; refine (eachI _ _ _ h0 h1 k0 k1 _).mono ?_; rintro e w' ⟨rfl, rfl⟩)
  go_ret2
  exact ⟨ret_two (ev64 6 a b (by decide) h0 h1 k0 k1), Below.refl _ _⟩

set_option maxHeartbeats 400000 in
theorem refDo64_7 (a b : Int) (h0 : 0 ≤ a) (h1 : a < m64) (k0 : 0 ≤ b) (k1 : b < m64) (w : World) : Calls Try.prog 10 #[.int .u8 7, .bool false, .int .u64 a, .int .u64 b] w (Pair (.int .u64 (do64 7 a b)) 0 w) := by
  have h1' : a < 18446744073709551616 := h1
  have k1' : b < 18446744073709551616 := k1
  go_enter Try.func10, Try.ntmps10
  go_wp2_with (go_at_call 17; refine (eachI _ _ _ h0 h1 k0 k1 _).mono ?_; rintro e w' ⟨rfl, rfl⟩)
  go_ret2
  exact ⟨ret_two (ev64 7 a b (by decide) h0 h1 k0 k1), Below.refl _ _⟩

set_option maxHeartbeats 400000 in
theorem refDo64_8 (a b : Int) (h0 : 0 ≤ a) (h1 : a < m64) (k0 : 0 ≤ b) (k1 : b < m64) (w : World) : Calls Try.prog 10 #[.int .u8 8, .bool false, .int .u64 a, .int .u64 b] w (Pair (.int .u64 (do64 8 a b)) 0 w) := by
  have h1' : a < 18446744073709551616 := h1
  have k1' : b < 18446744073709551616 := k1
  go_enter Try.func10, Try.ntmps10
  go_wp2_with (go_at_call 17; refine (eachI _ _ _ h0 h1 k0 k1 _).mono ?_; rintro e w' ⟨rfl, rfl⟩)
  go_ret2
  exact ⟨ret_two (ev64 8 a b (by decide) h0 h1 k0 k1), Below.refl _ _⟩

set_option maxHeartbeats 400000 in
theorem refDo64_9 (a b : Int) (h0 : 0 ≤ a) (h1 : a < m64) (k0 : 0 ≤ b) (k1 : b < m64) (w : World) : Calls Try.prog 10 #[.int .u8 9, .bool false, .int .u64 a, .int .u64 b] w (Pair (.int .u64 (do64 9 a b)) 0 w) := by
  have h1' : a < 18446744073709551616 := h1
  have k1' : b < 18446744073709551616 := k1
  go_enter Try.func10, Try.ntmps10
  go_wp2_with (go_at_call 18; refine (moved64 _ _ _ h0 h1 (by omega) (by omega) _).mono ?_; rintro e w' ⟨rfl, rfl⟩)
  go_ret2
  exact ⟨ret_two (f64_9 a b h0), Below.refl _ _⟩

set_option maxHeartbeats 400000 in
theorem refDo64_10 (a b : Int) (h0 : 0 ≤ a) (h1 : a < m64) (k0 : 0 ≤ b) (k1 : b < m64) (w : World) : Calls Try.prog 10 #[.int .u8 10, .bool false, .int .u64 a, .int .u64 b] w (Pair (.int .u64 (do64 10 a b)) 0 w) := by
  have h1' : a < 18446744073709551616 := h1
  have k1' : b < 18446744073709551616 := k1
  go_enter Try.func10, Try.ntmps10
  go_wp2_with (go_at_call 18; refine (moved64 _ _ _ h0 h1 (by omega) (by omega) _).mono ?_; rintro e w' ⟨rfl, rfl⟩)
  go_ret2
  exact ⟨ret_two (f64_10 a b h0 h1), Below.refl _ _⟩

set_option maxHeartbeats 400000 in
theorem refDo64_11 (a b : Int) (h0 : 0 ≤ a) (h1 : a < m64) (k0 : 0 ≤ b) (k1 : b < m64) (w : World) : Calls Try.prog 10 #[.int .u8 11, .bool false, .int .u64 a, .int .u64 b] w (Pair (.int .u64 (do64 11 a b)) 0 w) := by
  have h1' : a < 18446744073709551616 := h1
  have k1' : b < 18446744073709551616 := k1
  go_enter Try.func10, Try.ntmps10
  go_wp2_with fail
  go_quiet ((first | (go_at_call 19; exact Calls.quiet_of_same ((bitI _ _ h0 h1 (by omega) (by omega) _).mono fun _ _ h => ⟨h.2, h.1.symm⟩)) | (go_at_call 18; exact Calls.quiet_of_same ((moved64 _ _ _ h0 h1 (by omega) (by omega) _).mono fun _ _ h => ⟨h.2, h.1.symm⟩))))
  go_wp2
  go_ret2
  exact ⟨ret_two (f64_11 a b h0 h1), below_drewN (Below.refl _ _) _⟩

set_option maxHeartbeats 400000 in
theorem refDo64_12 (a b : Int) (h0 : 0 ≤ a) (h1 : a < m64) (k0 : 0 ≤ b) (k1 : b < m64) (w : World) : Calls Try.prog 10 #[.int .u8 12, .bool false, .int .u64 a, .int .u64 b] w (Pair (.int .u64 (do64 12 a b)) 0 w) := by
  have h1' : a < 18446744073709551616 := h1
  have k1' : b < 18446744073709551616 := k1
  go_enter Try.func10, Try.ntmps10
  go_wp2_with fail
  go_ret2
  exact ⟨ret_two (rfl), Below.refl _ _⟩

set_option maxHeartbeats 400000 in
theorem refDo64_13 (a b : Int) (h0 : 0 ≤ a) (h1 : a < m64) (k0 : 0 ≤ b) (k1 : b < m64) (w : World) : Calls Try.prog 10 #[.int .u8 13, .bool false, .int .u64 a, .int .u64 b] w (Pair (.int .u64 (do64 13 a b)) 0 w) := by
  have h1' : a < 18446744073709551616 := h1
  have k1' : b < 18446744073709551616 := k1
  go_enter Try.func10, Try.ntmps10
  go_wp2_with fail
  go_ret2
  exact ⟨ret_two (wrap_u64_of _), Below.refl _ _⟩

end Go.Proofs.Ytlggmfbmaoajcaa
