/- What the answers bit by bit come to, in the words of AluSpec. -/
import Derived.Test.YtlggmfbmaoajcaaAluShift
import Derived.Laws.MathBits
namespace Go.Proofs.Ytlggmfbmaoajcaa
open Go.RowKit
set_option linter.unusedVariables false
def ev (op x y : Int) : Int := ((ofBits (eachG op x.toNat y.toNat) 64 : Nat) : Int)
def mv (s : Nat) (x sh : Int) (inb : Bool) : Int := ((ofBits (movedG x.toNat sh s inb) s : Nat) : Int)
theorem mask_of (z : Int) (h0 : 0 ≤ z) (h1 : z < m64) : bits .and .u64 z 4294967295 = z % m32 := by
  unfold m64 at h1; exact Go.and_low32 z h0 h1
theorem wrap_u64_of (z : Int) : IntKind.u64.wrap z = z % m64 := by unfold m64; exact IntKind.wrap_u64 z
theorem mod_mod (z : Int) : z % m64 % m32 = z % m32 := by unfold m64 m32; omega
theorem mod_range (z : Int) : 0 ≤ z % m64 ∧ z % m64 < m64 := by unfold m64; omega
theorem mask_wrap (z : Int) : bits .and .u64 (IntKind.u64.wrap z) 4294967295 = z % m32 := by
  rw [wrap_u64_of, mask_of _ (mod_range z).1 (mod_range z).2, mod_mod]
theorem toNat_lt {x : Int} {n : Nat} (h0 : 0 ≤ x) (h1 : x < (n : Int)) : x.toNat < n := by omega
theorem ev_and (x y : Int) (x0 : 0 ≤ x) (x1 : x < m64) : ev 6 x y = ((x.toNat &&& y.toNat : Nat) : Int) := by
  unfold ev; unfold m64 at x1
  rw [ofBits_eq (x := x.toNat &&& y.toNat)]
  intro i
  rw [Nat.testBit_and]
  by_cases hi : i < 64
  · simp [eachG, hi]
  · rw [Nat.testBit_lt_two_pow (Nat.lt_of_lt_of_le (by omega : x.toNat < 2 ^ 64) (Nat.pow_le_pow_right (by decide) (by omega)))]; simp [hi]
theorem ev_or (x y : Int) (x0 : 0 ≤ x) (x1 : x < m64) (y0 : 0 ≤ y) (y1 : y < m64) : ev 7 x y = ((x.toNat ||| y.toNat : Nat) : Int) := by
  unfold ev; unfold m64 at x1 y1
  rw [ofBits_eq (x := x.toNat ||| y.toNat)]
  intro i
  rw [Nat.testBit_or]
  by_cases hi : i < 64
  · simp [eachG, hi]
  · rw [Nat.testBit_lt_two_pow (Nat.lt_of_lt_of_le (by omega : x.toNat < 2 ^ 64) (Nat.pow_le_pow_right (by decide) (by omega))), Nat.testBit_lt_two_pow (Nat.lt_of_lt_of_le (by omega : y.toNat < 2 ^ 64) (Nat.pow_le_pow_right (by decide) (by omega)))]; simp [hi]
theorem ev_xor (x y : Int) (x0 : 0 ≤ x) (x1 : x < m64) (y0 : 0 ≤ y) (y1 : y < m64) : ev 8 x y = ((x.toNat ^^^ y.toNat : Nat) : Int) := by
  unfold ev; unfold m64 at x1 y1
  rw [ofBits_eq (x := x.toNat ^^^ y.toNat)]
  intro i
  rw [Nat.testBit_xor]
  by_cases hi : i < 64
  · simp [eachG, hi]
  · rw [Nat.testBit_lt_two_pow (Nat.lt_of_lt_of_le (by omega : x.toNat < 2 ^ 64) (Nat.pow_le_pow_right (by decide) (by omega))), Nat.testBit_lt_two_pow (Nat.lt_of_lt_of_le (by omega : y.toNat < 2 ^ 64) (Nat.pow_le_pow_right (by decide) (by omega)))]; simp [hi]
theorem ev64 (k x y : Int) (hk : k = 6 ∨ k = 7 ∨ k = 8) (x0 : 0 ≤ x) (x1 : x < m64) (y0 : 0 ≤ y) (y1 : y < m64) : ev k x y = do64 k x y := by
  have x1' := x1; have y1' := y1
  unfold m64 at x1' y1'
  rcases hk with rfl | rfl | rfl
  · rw [ev_and x y x0 x1]; simp only [do64]; exact (Go.u64_and x y x0 x1' y0 y1').symm
  · rw [ev_or x y x0 x1 y0 y1]; simp only [do64]; exact (Go.u64_or x y x0 x1' y0 y1').symm
  · rw [ev_xor x y x0 x1 y0 y1]; simp only [do64]; exact (Go.u64_xor x y x0 x1' y0 y1').symm
theorem mask_nat (z : Nat) (h : z < 4294967296) : bits .and .u64 (z : Int) 4294967295 = (z : Int) := by
  rw [mask_of _ (by omega) (by unfold m64; omega)]; unfold m32; omega
theorem ev32 (k x y : Int) (hk : k = 6 ∨ k = 7 ∨ k = 8) (x0 : 0 ≤ x) (x1 : x < m32) (y0 : 0 ≤ y) (y1 : y < m32) : bits .and .u64 (ev k x y) 4294967295 = do32 k x y := by
  have x1' := x1; have y1' := y1
  unfold m32 at x1' y1'
  have x2 : x < m64 := by unfold m64; omega
  have y2 : y < m64 := by unfold m64; omega
  have hx : x.toNat < 2 ^ 32 := by omega
  have hy : y.toNat < 2 ^ 32 := by omega
  rcases hk with rfl | rfl | rfl
  · rw [ev_and x y x0 x2, mask_nat _ (Nat.lt_of_le_of_lt Nat.and_le_left hx)]; simp only [do32]; exact (Go.u32_and x y x0 x1' y0 y1').symm
  · rw [ev_or x y x0 x2 y0 y2, mask_nat _ (Nat.or_lt_two_pow hx hy)]; simp only [do32]; exact (Go.u32_or x y x0 x1' y0 y1').symm
  · rw [ev_xor x y x0 x2 y0 y2, mask_nat _ (Nat.xor_lt_two_pow hx hy)]; simp only [do32]; exact (Go.u32_xor x y x0 x1' y0 y1').symm
theorem mv_lt (s : Nat) (x sh : Int) (inb : Bool) : mv s x sh inb < ((2 ^ s : Nat) : Int) := by
  unfold mv; exact_mod_cast ofBits_lt _ s
theorem mask_mv (x sh : Int) (inb : Bool) : bits .and .u64 (mv 32 x sh inb) 4294967295 = mv 32 x sh inb := by
  have := ofBits_lt (movedG x.toNat sh 32 inb) 32
  unfold mv; exact mask_nat _ this
theorem mv_shl_int (n : Nat) (x y : Int) (x0 : 0 ≤ x) (hn : 0 < n) : mv n x (y % n) false = x * 2 ^ (y % n).toNat % ((2 ^ n : Nat) : Int) := by
  obtain ⟨X, rfl⟩ := Int.eq_ofNat_of_zero_le x0
  obtain ⟨S, hS⟩ := Int.eq_ofNat_of_zero_le (Int.emod_nonneg y (by omega : (n : Int) ≠ 0))
  unfold mv
  rw [hS, Int.toNat_natCast, Int.toNat_natCast, mv_shl]
  norm_cast
theorem mv_shr_int (n : Nat) (x y : Int) (x0 : 0 ≤ x) (x1 : x < ((2 ^ n : Nat) : Int)) (hn : 0 < n) : mv n x (-(y % n)) false = x / 2 ^ (y % n).toNat := by
  obtain ⟨X, rfl⟩ := Int.eq_ofNat_of_zero_le x0
  obtain ⟨S, hS⟩ := Int.eq_ofNat_of_zero_le (Int.emod_nonneg y (by omega : (n : Int) ≠ 0))
  unfold mv
  rw [hS, Int.toNat_natCast, Int.toNat_natCast, mv_shr _ _ _ (by exact_mod_cast x1)]
  norm_cast
theorem mv_sar_int (n : Nat) (x y : Int) (x0 : 0 ≤ x) (x1 : x < ((2 ^ (n + 1) : Nat) : Int)) : mv (n + 1) x (-(y % ((n + 1 : Nat) : Int))) (x.toNat.testBit n) = (if x < ((2 ^ n : Nat) : Int) then x else x - ((2 ^ (n + 1) : Nat) : Int)) / 2 ^ (y % ((n + 1 : Nat) : Int)).toNat % ((2 ^ (n + 1) : Nat) : Int) := by
  obtain ⟨X, rfl⟩ := Int.eq_ofNat_of_zero_le x0
  obtain ⟨S, hS⟩ := Int.eq_ofNat_of_zero_le (Int.emod_nonneg y (by omega : ((n + 1 : Nat) : Int) ≠ 0))
  unfold mv
  rw [hS, Int.toNat_natCast, Int.toNat_natCast, mv_sar n X S (by exact_mod_cast x1)]
  congr 2
  by_cases hx : X < 2 ^ n
  · rw [if_pos hx, if_pos (by exact_mod_cast hx)]
  · rw [if_neg hx, if_neg (by exact_mod_cast hx)]
theorem f32_1 (x y : Int) (x0 : 0 ≤ x) (x1 : x < m32) (y0 : 0 ≤ y) (y1 : y < m32) : bits .and .u64 (x + y) 4294967295 = dAdd m32 x y := by
  rw [mask_of _ (by omega) (by unfold m32 at x1 y1; unfold m64; omega)]; rfl
theorem f32_2 (x y : Int) : bits .and .u64 (IntKind.u64.wrap (x - y)) 4294967295 = dSub m32 x y := mask_wrap _
theorem f32_3 (x y : Int) : bits .and .u64 (IntKind.u64.wrap (x * y)) 4294967295 = dMul m32 x y := mask_wrap _
theorem div_range (x y : Int) (x0 : 0 ≤ x) (y0 : 0 < y) : 0 ≤ x / y ∧ x / y ≤ x := ⟨Int.ediv_nonneg x0 (by omega), Int.ediv_le_self _ x0⟩
theorem f32_4 (x y : Int) (x0 : 0 ≤ x) (x1 : x < m32) (y0 : 0 < y) : bits .and .u64 (x / y) 4294967295 = dDiv x y := by
  have := div_range x y x0 y0
  unfold m32 at x1
  rw [mask_of _ this.1 (by unfold m64; omega)]; unfold dDiv m32; omega
theorem f32_9 (x y : Int) (x0 : 0 ≤ x) : bits .and .u64 (mv 32 x (y % 32) false) 4294967295 = dShl m32 32 x y := by
  rw [mask_mv]; exact mv_shl_int 32 x y x0 (by decide)
theorem f32_10 (x y : Int) (x0 : 0 ≤ x) (x1 : x < m32) : bits .and .u64 (mv 32 x (-(y % 32)) false) 4294967295 = dShr 32 x y := by
  rw [mask_mv]; exact mv_shr_int 32 x y x0 x1 (by decide)
theorem f32_11 (x y : Int) (x0 : 0 ≤ x) (x1 : x < m32) : bits .and .u64 (mv 32 x (-(y % 32)) (x.toNat.testBit 31)) 4294967295 = dSar m32 (sgn32 x) 32 y := by
  rw [mask_mv]; exact mv_sar_int 31 x y x0 x1
theorem f32_12 (y : Int) (y0 : 0 ≤ y) (y1 : y < m32) : bits .and .u64 y 4294967295 = y := by
  unfold m32 at y1
  rw [mask_of _ y0 (by unfold m64; omega)]; unfold m32; omega
theorem f32_13 (x : Int) : bits .and .u64 (IntKind.u64.wrap (-x)) 4294967295 = dNeg m32 x := mask_wrap _
theorem f64_9 (x y : Int) (x0 : 0 ≤ x) : mv 64 x (y % 64) false = dShl m64 64 x y := mv_shl_int 64 x y x0 (by decide)
theorem f64_10 (x y : Int) (x0 : 0 ≤ x) (x1 : x < m64) : mv 64 x (-(y % 64)) false = dShr 64 x y := mv_shr_int 64 x y x0 x1 (by decide)
theorem f64_11 (x y : Int) (x0 : 0 ≤ x) (x1 : x < m64) : mv 64 x (-(y % 64)) (x.toNat.testBit 63) = dSar m64 (sgn64 x) 64 y := mv_sar_int 63 x y x0 x1
theorem rest_of (x y : Int) (x0 : 0 ≤ x) (x1 : x < m64) (y0 : 0 < y) : IntKind.u64.wrap (x - IntKind.u64.wrap (x / y * y)) = x % y := by
  have h1 := Int.mul_ediv_add_emod x y
  have h2 := Int.emod_nonneg x (by omega : y ≠ 0)
  have h3 := Int.mul_nonneg (by omega : 0 ≤ y) (div_range x y x0 y0).1
  have e : x / y * y = x - x % y := by rw [Int.mul_comm]; omega
  rw [wrap_u64_of, wrap_u64_of, e]
  have h4 : (x - x % y) % m64 = x - x % y := Int.emod_eq_of_lt (by omega) (by omega)
  rw [h4, show x - (x - x % y) = x % y from by omega]
  have h5 := Int.emod_lt_of_pos x y0
  exact Int.emod_eq_of_lt h2 (by omega)
theorem f64_5 (x y : Int) (x0 : 0 ≤ x) (x1 : x < m64) (y0 : 0 < y) : IntKind.u64.wrap (x - IntKind.u64.wrap (x / y * y)) = do64 5 x y := rest_of x y x0 x1 y0
theorem f32_5 (x y : Int) (x0 : 0 ≤ x) (x1 : x < m32) (y0 : 0 < y) : bits .and .u64 (IntKind.u64.wrap (x - IntKind.u64.wrap (x / y * y))) 4294967295 = do32 5 x y := by
  have x2 : x < m64 := by unfold m32 at x1; unfold m64; omega
  have h1 := Int.mul_ediv_add_emod x y
  have h2 := Int.emod_nonneg x (by omega : y ≠ 0)
  have h3 := Int.mul_nonneg (by omega : 0 ≤ y) (div_range x y x0 y0).1
  rw [rest_of x y x0 x2 y0, mask_of _ h2 (by omega)]
  exact Int.emod_eq_of_lt h2 (by omega)
theorem xor_top (n : Nat) (X : Nat) (h : X < 2 ^ (n + 1)) : ((X ^^^ 2 ^ n : Nat) : Int) = if X < 2 ^ n then (X : Int) + ((2 ^ n : Nat) : Int) else (X : Int) - ((2 ^ n : Nat) : Int) := by
  have hp : 2 ^ (n + 1) = 2 ^ n + 2 ^ n := by rw [Nat.pow_succ]; omega
  by_cases hx : X < 2 ^ n
  · rw [if_pos hx]
    have e : X ^^^ 2 ^ n = X + 2 ^ n := by
      apply Nat.eq_of_testBit_eq; intro i
      rw [Nat.testBit_xor, Nat.add_comm, Nat.testBit_two_pow]
      by_cases hi : n = i
      · subst hi
        rw [Nat.testBit_two_pow_add_eq, Nat.testBit_lt_two_pow hx]; simp
      · by_cases hl : i < n
        · rw [Nat.testBit_two_pow_add_gt hl]; simp [hi]
        · have hgt : n + 1 ≤ i := by omega
          rw [Nat.testBit_lt_two_pow (Nat.lt_of_lt_of_le hx (Nat.pow_le_pow_right (by decide) (by omega))), Nat.testBit_lt_two_pow (Nat.lt_of_lt_of_le (by omega : 2 ^ n + X < 2 ^ (n + 1)) (Nat.pow_le_pow_right (by decide) hgt))]; simp [hi]
    rw [e]; omega
  · rw [if_neg hx]
    obtain ⟨Y, hY⟩ : ∃ Y, X = 2 ^ n + Y := ⟨X - 2 ^ n, by omega⟩
    have hY2 : Y < 2 ^ n := by omega
    have e : X ^^^ 2 ^ n = Y := by
      apply Nat.eq_of_testBit_eq; intro i
      rw [Nat.testBit_xor, hY, Nat.testBit_two_pow]
      by_cases hi : n = i
      · subst hi
        rw [Nat.testBit_two_pow_add_eq, Nat.testBit_lt_two_pow hY2]; simp
      · by_cases hl : i < n
        · rw [Nat.testBit_two_pow_add_gt hl]; simp [hi]
        · have hgt : n + 1 ≤ i := by omega
          rw [Nat.testBit_lt_two_pow (Nat.lt_of_lt_of_le hY2 (Nat.pow_le_pow_right (by decide) (by omega))), Nat.testBit_lt_two_pow (Nat.lt_of_lt_of_le (by omega : 2 ^ n + Y < 2 ^ (n + 1)) (Nat.pow_le_pow_right (by decide) hgt))]; simp [hi]
    rw [e]; omega
theorem top32 (x : Int) (x0 : 0 ≤ x) (x1 : x < m32) : bits .xor .u64 x 2147483648 = sgn32 x + 2147483648 := by
  unfold m32 at x1
  rw [Go.u64_xor x 2147483648 x0 (by omega) (by decide) (by decide)]
  have := xor_top 31 x.toNat (by omega)
  rw [show (2147483648 : Int).toNat = 2 ^ 31 from by decide, this]
  unfold sgn32
  split <;> split <;> omega
theorem top64 (x : Int) (x0 : 0 ≤ x) (x1 : x < m64) : bits .xor .u64 x 9223372036854775808 = sgn64 x + 9223372036854775808 := by
  unfold m64 at x1
  rw [Go.u64_xor x 9223372036854775808 x0 (by omega) (by decide) (by decide)]
  have := xor_top 63 x.toNat (by omega)
  rw [show (9223372036854775808 : Int).toNat = 2 ^ 63 from by decide, this]
  unfold sgn64
  split <;> split <;> omega
theorem lt_shift (a b c : Int) : decide (a + c < b + c) = decide (a < b) := by
  have : (a + c < b + c) ↔ a < b := by omega
  simp [this]
theorem le_shift (a b c : Int) : decide (a + c ≤ b + c) = decide (a ≤ b) := by
  have : (a + c ≤ b + c) ↔ a ≤ b := by omega
  simp [this]
end Go.Proofs.Ytlggmfbmaoajcaa
