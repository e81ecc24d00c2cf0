/- Plain facts on bits of whole numbers, for the answers that go bit by bit. -/
import Derived.RowKit
import Derived.ProofKit
import Derived.Laws.BitsAllLaws
import Derived.Laws.Bits64
namespace Go.Proofs.Ytlggmfbmaoajcaa
open Go.RowKit
/-- The number whose lowest k bits are g's. -/
def ofBits (g : Nat → Bool) : Nat → Nat
  | 0 => 0
  | k + 1 => if g k then ofBits g k ||| 2 ^ k else ofBits g k
theorem testBit_ofBits (g : Nat → Bool) : ∀ k i, (ofBits g k).testBit i = (decide (i < k) && g i)
  | 0, i => by simp [ofBits]
  | k + 1, i => by
    unfold ofBits
    have ih := testBit_ofBits g k i
    by_cases hg : g k = true
    · rw [if_pos hg, Nat.testBit_or, ih, Nat.testBit_two_pow]
      by_cases hi : i = k
      · subst hi; simp [hg]
      · have h1 : decide (k = i) = false := by simp; omega
        have h2 : decide (i < k + 1) = decide (i < k) := by simp; omega
        rw [h1, h2]; simp
    · rw [if_neg hg, ih]
      by_cases hi : i = k
      · subst hi; simp [Bool.not_eq_true _ ▸ hg]
      · have h2 : decide (i < k + 1) = decide (i < k) := by simp; omega
        rw [h2]
theorem ofBits_lt (g : Nat → Bool) (k : Nat) : ofBits g k < 2 ^ k := by
  refine Nat.lt_pow_two_of_testBit _ fun i hi => ?_
  rw [testBit_ofBits]
  have : decide (i < k) = false := by simp; omega
  rw [this]; rfl
theorem ofBits_eq {g : Nat → Bool} {k x : Nat} (h : ∀ i, x.testBit i = (decide (i < k) && g i)) : ofBits g k = x :=
  Nat.eq_of_testBit_eq fun i => by rw [testBit_ofBits, h]
theorem ofBits_congr {g h : Nat → Bool} {k : Nat} (e : ∀ i, i < k → g i = h i) : ofBits g k = ofBits h k :=
  ofBits_eq fun i => by
    rw [testBit_ofBits]
    by_cases hi : i < k
    · simp [hi, e i hi]
    · simp [hi]
theorem ofBits_yes {g : Nat → Bool} {k : Nat} (h : g k = true) : ofBits g (k + 1) = ofBits g k ||| 2 ^ k := by simp [ofBits, h]
theorem ofBits_no {g : Nat → Bool} {k : Nat} (h : g k = false) : ofBits g (k + 1) = ofBits g k := by simp [ofBits, h]
theorem bit_is (A n : Nat) (h : A < 18446744073709551616) : (bits .and .u64 ((A : Int) / 2 ^ n) 1 == 1) = A.testBit n := by
  have e : ((A : Int) / 2 ^ n) = ((A / 2 ^ n : Nat) : Int) := by norm_cast
  have h2 : A / 2 ^ n < 18446744073709551616 := Nat.lt_of_le_of_lt (Nat.div_le_self _ _) h
  rw [e, show (1 : Int) = ((1 : Nat) : Int) from rfl, Go.u64_and_nat _ _ h2 (by decide)]
  rw [Nat.testBit_eq_decide_div_mod_eq, Nat.and_one_is_mod, Bool.eq_iff_iff]
  simp only [beq_iff_eq, decide_eq_true_eq]
  omega
theorem or_step {g : Nat → Bool} {k : Nat} (hk : k < 64) (hg : g k = true) : bits .or .u64 ((ofBits g k : Nat) : Int) (IntKind.u64.wrap (2 ^ k)) = ((ofBits g (k + 1) : Nat) : Int) := by
  have h1 : ofBits g k < 18446744073709551616 := Nat.lt_of_lt_of_le (ofBits_lt g k) (Nat.pow_le_pow_right (by decide) (by omega : k ≤ 64))
  have h2 : (2 : Nat) ^ k < 18446744073709551616 := Nat.pow_lt_pow_right (by decide) (by omega : k < 64)
  have e : IntKind.u64.wrap (2 ^ k) = ((2 ^ k : Nat) : Int) := by
    rw [show ((2 : Int) ^ k) = ((2 ^ k : Nat) : Int) from by norm_cast]
    generalize 2 ^ k = z at *
    rw [IntKind.wrap_u64]; omega
  rw [e, Go.u64_or_nat _ _ h1 h2, ofBits_yes hg]
def eachG (op : Int) (A B : Nat) (i : Nat) : Bool := if op = 7 then A.testBit i || B.testBit i else if op = 8 then A.testBit i != B.testBit i else A.testBit i && B.testBit i
def movedG (A : Nat) (sh : Int) (size : Nat) (inb : Bool) (i : Nat) : Bool := if 0 ≤ (i : Int) - sh ∧ (i : Int) - sh < size then A.testBit ((i : Int) - sh).toNat else inb
theorem movedG_in {A : Nat} {sh : Int} {size : Nat} {inb : Bool} {i : Nat} (h0 : sh ≤ i) (h1 : (i : Int) - sh < size) : movedG A sh size inb i = A.testBit ((i : Int) - sh).toNat := by
  unfold movedG; rw [if_pos ⟨by omega, h1⟩]
theorem movedG_out {A : Nat} {sh : Int} {size : Nat} {inb : Bool} {i : Nat} (h : (i : Int) < sh ∨ (size : Int) ≤ (i : Int) - sh) : movedG A sh size inb i = inb := by
  unfold movedG; rw [if_neg (by omega)]
end Go.Proofs.Ytlggmfbmaoajcaa
