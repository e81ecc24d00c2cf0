/- The document's constants out of roots, as plain lists and numbers. No function of the program in it. -/
import Derived.Test.YtknkmblacaaegaaDoorShaMath
namespace Go.Proofs.YtknkmblacaaegaaDoor
open Go.RowKit
set_option linter.unusedVariables false
set_option maxRecDepth 100000

/-- Is a number (up to 323) a prime? -/
def prOk (n : Nat) : Bool := decide (1 < n) && (List.range 18).all fun k => decide (k < 2) || decide (n < k * k) || decide (n % k ≠ 0)
/-- The first k places of a row, by one word of another number: the row, what is carried over. -/
def inn (b : List Nat) (ai i : Nat) (out : List Nat) : Nat → List Nat × Nat
  | 0 => (out, 0)
  | k + 1 => match inn b ai i out k with
    | (o, v) => (o.set (i + k) ((wth o (i + k) + ai * wth b k + v) % 4294967296), (wth o (i + k) + ai * wth b k + v) / 4294967296)
def outr (a b : List Nat) : Nat → List Nat
  | 0 => List.replicate (a.length + b.length) 0
  | i + 1 => (inn b (wth a i) i (outr a b i) b.length).1.set (i + b.length) (inn b (wth a i) i (outr a b i) b.length).2
/-- A great number by another one. -/
def tim (a b : List Nat) : List Nat := outr a b a.length
/-- Is one above the other, by the first n words? -/
def abv (a b : List Nat) : Nat → Bool
  | 0 => false
  | i + 1 => if wth a i = wth b i then abv a b i else decide (wth b i < wth a i)
def two (x : Nat) : List Nat := [x % 4294967296, x / 4294967296]
def pw (x : Nat) : Nat → List Nat
  | 0 => two x
  | i + 1 => tim (pw x i) (two x)
def goalOf (p power : Nat) : List Nat := List.replicate power 0 ++ [p]
/-- The root's bits, from the highest one down, s of them tried. -/
def rt (p power : Nat) : Nat → Nat
  | 0 => 0
  | s + 1 => if abv (pw (rt p power s ||| 2 ^ (36 - s)) (power - 1)) (goalOf p power) (max (pw (rt p power s ||| 2 ^ (36 - s)) (power - 1)).length (goalOf p power).length) = true then rt p power s else rt p power s ||| 2 ^ (36 - s)
def rootOf (p power : Nat) : Nat := rt p power 37 % 4294967296
/-- The roots of the primes among the first j numbers from 2 on. -/
def rts (power : Nat) : Nat → List Nat
  | 0 => []
  | j + 1 => if prOk (2 + j) = true then rts power j ++ [rootOf (2 + j) power] else rts power j
def cnt : Nat → Nat
  | 0 => 0
  | j + 1 => if prOk (2 + j) = true then cnt j + 1 else cnt j
theorem rts_length (power : Nat) : ∀ j, (rts power j).length = cnt j
  | 0 => rfl
  | j + 1 => by
    unfold rts cnt
    by_cases h : prOk (2 + j) = true
    · simp [h, rts_length power j]
    · simp [h, rts_length power j]
theorem cnt_mono : ∀ {a b : Nat}, a ≤ b → cnt a ≤ cnt b := by
  intro a b h
  induction b with
  | zero => obtain rfl : a = 0 := by omega
            exact Nat.le_refl _
  | succ b ih =>
    by_cases hab : a = b + 1
    · subst hab; exact Nat.le_refl _
    · have := ih (by omega)
      show cnt a ≤ if prOk (2 + b) = true then cnt b + 1 else cnt b
      split <;> omega
theorem cnt_eight : cnt 17 = 7 := by decide +kernel
theorem cnt_all : cnt 309 = 63 := by decide +kernel
theorem rts_eight : rts 2 18 = hon.list := by decide +kernel
theorem rts_all : rts 3 310 = kon := by decide +kernel

theorem inn_length (b : List Nat) (ai i : Nat) (out : List Nat) : ∀ k, (inn b ai i out k).1.length = out.length
  | 0 => rfl
  | k + 1 => by
    unfold inn
    simp [inn_length b ai i out k]
theorem outr_length (a b : List Nat) : ∀ i, (outr a b i).length = a.length + b.length
  | 0 => by simp [outr]
  | i + 1 => by unfold outr; rw [List.length_set, inn_length, outr_length a b i]
theorem tim_length (a b : List Nat) : (tim a b).length = a.length + b.length := outr_length a b _
theorem Wrd.set {l : List Nat} (h : Wrd l) (i : Nat) {n : Nat} (hn : n < 4294967296) : Wrd (l.set i n) := fun x hx => by
  rcases List.mem_or_eq_of_mem_set hx with h' | rfl
  · exact h x h'
  · exact hn
theorem mul_bound {a b : Nat} (ha : a < 4294967296) (hb : b < 4294967296) : a * b ≤ 18446744065119617025 := Nat.mul_le_mul (show a ≤ 4294967295 by omega) (show b ≤ 4294967295 by omega)
theorem inn_wrd {b : List Nat} {ai i : Nat} {out : List Nat} (hb : Wrd b) (ha : ai < 4294967296) (ho : Wrd out) : ∀ k, Wrd (inn b ai i out k).1 ∧ (inn b ai i out k).2 < 4294967296
  | 0 => ⟨ho, Nat.zero_lt_succ _⟩
  | k + 1 => by
    obtain ⟨h1, h2⟩ := inn_wrd (i := i) hb ha ho k
    have h3 := mul_bound ha (hb.wth k)
    have h4 := h1.wth (i + k)
    unfold inn
    exact ⟨h1.set _ (Nat.mod_lt _ (by decide)), by simp only; omega⟩
theorem outr_wrd {a b : List Nat} (ha : Wrd a) (hb : Wrd b) : ∀ i, Wrd (outr a b i)
  | 0 => fun n hn => by rw [List.eq_of_mem_replicate hn]; decide
  | i + 1 => by
    have h := inn_wrd (i := i) hb (ha.wth i) (outr_wrd ha hb i) b.length
    exact h.1.set _ h.2
theorem tim_wrd {a b : List Nat} (ha : Wrd a) (hb : Wrd b) : Wrd (tim a b) := outr_wrd ha hb _
theorem two_wrd {x : Nat} (h : x < 137438953472) : Wrd (two x) := fun n hn => by
  simp only [two, List.mem_cons, List.not_mem_nil, or_false] at hn
  omega
theorem pw_wrd {x : Nat} (h : x < 137438953472) : ∀ i, Wrd (pw x i)
  | 0 => two_wrd h
  | i + 1 => tim_wrd (pw_wrd h i) (two_wrd h)
theorem pw_length (x : Nat) : ∀ i, (pw x i).length = 2 * i + 2
  | 0 => rfl
  | i + 1 => by unfold pw; rw [tim_length, pw_length x i]; simp [two]; omega
theorem rt_lt (p power : Nat) : ∀ s, rt p power s < 137438953472
  | 0 => Nat.zero_lt_succ _
  | s + 1 => by
    have h := rt_lt p power s
    unfold rt
    split
    · exact h
    · exact Nat.or_lt_two_pow (n := 37) h (Nat.pow_lt_pow_right (by decide) (by omega))
end Go.Proofs.YtknkmblacaaegaaDoor
