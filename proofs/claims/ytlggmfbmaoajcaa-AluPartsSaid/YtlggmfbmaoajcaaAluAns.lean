/- The answers of Do and Is in one word each, and their ranges. -/
import Derived.Test.YtlggmfbmaoajcaaAluFit
namespace Go.Proofs.Ytlggmfbmaoajcaa
open Go.RowKit
set_option linter.unusedVariables false
def cutI (narrow : Bool) (a : Int) : Int := if narrow then a % m32 else a
def doE (op : Int) (narrow : Bool) (b : Int) : Int := if op < 1 ∨ 13 < op then 2 else if (op = 4 ∨ op = 5) ∧ cutI narrow b = 0 then 113 else 0
def doV (op : Int) (narrow : Bool) (a b : Int) : Int := if doE op narrow b = 0 then (if narrow then do32 op (a % m32) (b % m32) else do64 op a b) else 0
def isE (op : Int) : Int := if op < 17 ∨ 27 < op then 2 else 0
def isV (op : Int) (narrow : Bool) (a b : Int) : Bool := if isE op = 0 then (if narrow then is32 op (a % m32) (b % m32) else is64 op a b) else false
theorem range32 (z : Int) : 0 ≤ z % m32 ∧ z % m32 < m32 := by unfold m32; omega
theorem range_div (x k : Int) (x0 : 0 ≤ x) (hk : 0 ≤ k) : 0 ≤ x / k ∧ x / k ≤ x := ⟨Int.ediv_nonneg x0 hk, Int.ediv_le_self _ x0⟩
theorem pow_nonneg2 (n : Nat) : (0 : Int) ≤ 2 ^ n := Int.le_of_lt (Int.pow_pos (by decide))
theorem nat_range32 (z : Nat) (h : z < 2 ^ 32) : 0 ≤ (z : Int) ∧ (z : Int) < m32 := by unfold m32; omega
theorem nat_range64 (z : Nat) (h : z < 2 ^ 64) : 0 ≤ (z : Int) ∧ (z : Int) < m64 := by unfold m64; omega
theorem dMod_range (x y m : Int) (x0 : 0 ≤ x) (x1 : x < m) (y0 : 0 ≤ y) (y1 : y < m) : 0 ≤ dMod x y ∧ dMod x y < m := by
  unfold dMod
  by_cases hy : y = 0
  · subst hy; rw [Int.emod_zero]; exact ⟨x0, x1⟩
  · have h1 := Int.emod_nonneg x hy
    have h2 := Int.emod_lt_of_pos x (by omega : 0 < y)
    omega
def In (m v : Int) : Prop := 0 ≤ v ∧ v < m
theorem ite_in {c : Prop} [Decidable c] {m a b : Int} (ha : In m a) (hb : In m b) : In m (if c then a else b) := by
  by_cases h : c
  · rw [if_pos h]; exact ha
  · rw [if_neg h]; exact hb
theorem do32_range (op x y : Int) (x0 : 0 ≤ x) (x1 : x < m32) (y0 : 0 ≤ y) (y1 : y < m32) : 0 ≤ do32 op x y ∧ do32 op x y < m32 := by
  have x1' := x1; have y1' := y1
  unfold m32 at x1' y1'
  have hx : x.toNat < 2 ^ 32 := by omega
  have hy : y.toNat < 2 ^ 32 := by omega
  have hd := range_div x y x0 y0
  have hs := range_div x (2 ^ (y % 32).toNat) x0 (pow_nonneg2 _)
  have c4 : In m32 (dDiv x y) := by unfold In dDiv; omega
  have c10 : In m32 (dShr 32 x y) := by unfold In dShr; omega
  have c6 : In m32 (bits .and .u32 x y) := by rw [Go.u32_and x y x0 x1' y0 y1']; exact nat_range32 _ (Nat.lt_of_le_of_lt Nat.and_le_left hx)
  have c7 : In m32 (bits .or .u32 x y) := by rw [Go.u32_or x y x0 x1' y0 y1']; exact nat_range32 _ (Nat.or_lt_two_pow hx hy)
  have c8 : In m32 (bits .xor .u32 x y) := by rw [Go.u32_xor x y x0 x1' y0 y1']; exact nat_range32 _ (Nat.xor_lt_two_pow hx hy)
  have c5 : In m32 (dMod x y) := dMod_range x y m32 x0 x1 y0 y1
  have c12 : In m32 y := ⟨y0, y1⟩
  have all : ∀ z, In m32 (z % m32) := fun z => range32 _
  show In m32 (do32 op x y)
  unfold do32
  exact ite_in (all _) (ite_in (all _) (ite_in (all _) (ite_in c4 (ite_in c5 (ite_in c6 (ite_in c7 (ite_in c8 (ite_in (all _) (ite_in c10 (ite_in (all _) (ite_in c12 (all _))))))))))))
theorem do64_range (op x y : Int) (x0 : 0 ≤ x) (x1 : x < m64) (y0 : 0 ≤ y) (y1 : y < m64) : 0 ≤ do64 op x y ∧ do64 op x y < m64 := by
  have x1' := x1; have y1' := y1
  unfold m64 at x1' y1'
  have hx : x.toNat < 2 ^ 64 := by omega
  have hy : y.toNat < 2 ^ 64 := by omega
  have hd := range_div x y x0 y0
  have hs := range_div x (2 ^ (y % 64).toNat) x0 (pow_nonneg2 _)
  have c4 : In m64 (dDiv x y) := by unfold In dDiv; omega
  have c10 : In m64 (dShr 64 x y) := by unfold In dShr; omega
  have c6 : In m64 (bits .and .u64 x y) := by rw [Go.u64_and x y x0 x1' y0 y1']; exact nat_range64 _ (Nat.lt_of_le_of_lt Nat.and_le_left hx)
  have c7 : In m64 (bits .or .u64 x y) := by rw [Go.u64_or x y x0 x1' y0 y1']; exact nat_range64 _ (Nat.or_lt_two_pow hx hy)
  have c8 : In m64 (bits .xor .u64 x y) := by rw [Go.u64_xor x y x0 x1' y0 y1']; exact nat_range64 _ (Nat.xor_lt_two_pow hx hy)
  have c5 : In m64 (dMod x y) := dMod_range x y m64 x0 x1 y0 y1
  have c12 : In m64 y := ⟨y0, y1⟩
  have all : ∀ z, In m64 (z % m64) := fun z => mod_range _
  show In m64 (do64 op x y)
  unfold do64
  exact ite_in (all _) (ite_in (all _) (ite_in (all _) (ite_in c4 (ite_in c5 (ite_in c6 (ite_in c7 (ite_in c8 (ite_in (all _) (ite_in c10 (ite_in (all _) (ite_in c12 (all _))))))))))))
theorem doV_range (op : Int) (narrow : Bool) (a b : Int) (h0 : 0 ≤ a) (h1 : a < m64) (k0 : 0 ≤ b) (k1 : b < m64) : 0 ≤ doV op narrow a b ∧ doV op narrow a b < m64 := by
  have h := do32_range op (a % m32) (b % m32) (range32 a).1 (range32 a).2 (range32 b).1 (range32 b).2
  have hm : m32 < m64 := by decide
  have hm0 : 0 < m64 := by decide
  unfold doV
  split
  · split
    · omega
    · exact do64_range op a b h0 h1 k0 k1
  · omega
theorem doV_narrow (op : Int) (a b : Int) : 0 ≤ doV op true a b ∧ doV op true a b < m32 := by
  have h := do32_range op (a % m32) (b % m32) (range32 a).1 (range32 a).2 (range32 b).1 (range32 b).2
  have hm0 : 0 < m32 := by decide
  unfold doV
  split
  · exact h
  · omega
theorem ops_of (op : Int) (h : ¬ (op < 1 ∨ 13 < op)) : op = 1 ∨ op = 2 ∨ op = 3 ∨ op = 4 ∨ op = 5 ∨ op = 6 ∨ op = 7 ∨ op = 8 ∨ op = 9 ∨ op = 10 ∨ op = 11 ∨ op = 12 ∨ op = 13 := by omega
theorem rels_of (op : Int) (h : ¬ (op < 17 ∨ 27 < op)) : op = 17 ∨ op = 18 ∨ op = 19 ∨ op = 20 ∨ op = 21 ∨ op = 22 ∨ op = 23 ∨ op = 24 ∨ op = 25 ∨ op = 26 ∨ op = 27 := by omega
/-- one answer of reckon: its value, and its error -/
def rkE (op b : Int) : Int := if op < 1 ∨ 13 < op then 2 else if (op = 4 ∨ op = 5) ∧ b = 0 then 113 else 0
theorem doE_true (op b : Int) : doE op true b = rkE op (b % m32) := rfl
theorem doE_false (op b : Int) : doE op false b = rkE op b := rfl
theorem rkE_bad {op b : Int} (h : op < 1 ∨ 13 < op) : rkE op b = 2 := if_pos h
theorem rkE_zero {op : Int} (h : op = 4 ∨ op = 5) : rkE op 0 = 113 := by
  unfold rkE; rw [if_neg (by omega), if_pos ⟨h, rfl⟩]
theorem rkE_ok {op b : Int} (h : ¬ (op < 1 ∨ 13 < op)) (hb : ¬ ((op = 4 ∨ op = 5) ∧ b = 0)) : rkE op b = 0 := by
  unfold rkE; rw [if_neg h, if_neg hb]
end Go.Proofs.Ytlggmfbmaoajcaa
