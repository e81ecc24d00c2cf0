/- Bits that are turned, one behind the other. -/
import Derived.Test.YtkiagnlpnphghaaDoorFrameMath
namespace Go.Proofs.YtkiagnlpnphghaaDoor
set_option linter.unusedVariables false
set_option linter.unusedSimpArgs false

/-- The bits of t, the lowest ones, turned from place p on. -/
def flips (t p : Nat) : Nat → List Int → List Int
  | 0, d => d
  | k + 1, d => if t / 2 ^ k % 2 = 1 then flipBit (flips t p k d) (p + k) else flips t p k d
theorem flips_length (t p : Nat) : ∀ (k : Nat) (d : List Int), (flips t p k d).length = d.length
  | 0, d => rfl
  | k + 1, d => by
    unfold flips
    split
    · rw [flipBit_length, flips_length t p k d]
    · exact flips_length t p k d
theorem flipBit_oct {d : List Int} (ho : Oct d) (p : Nat) (hp : p < 8 * d.length) : Oct (flipBit d p) := by
  intro x hx
  rcases List.mem_or_eq_of_mem_set hx with h | h
  · exact ho x h
  · have hj : p / 8 < d.length := by omega
    have hv := ho (d.getD (p / 8) 0) (by simp [List.getD, hj])
    have := flip_byte hv.1 hv.2 (Nat.mod_lt p (show 0 < 8 by decide))
    subst h
    omega
theorem flips_oct (t p : Nat) : ∀ (k : Nat) {d : List Int} (ho : Oct d) (hk : p + k ≤ 8 * d.length), Oct (flips t p k d)
  | 0, d, ho, _ => ho
  | k + 1, d, ho, hk => by
    unfold flips
    have h := flips_oct t p k ho (by omega)
    split
    · exact flipBit_oct h _ (by rw [flips_length]; omega)
    · exact h
theorem mod_bit (t k : Nat) : t % 2 ^ (k + 1) = if t / 2 ^ k % 2 = 1 then t % 2 ^ k ^^^ 2 ^ k else t % 2 ^ k := by
  have hb : t.testBit k = decide (t / 2 ^ k % 2 = 1) := by
    rw [Nat.testBit_eq_decide_div_mod_eq]
  split
  · rename_i h
    rw [decide_eq_true h] at hb
    refine Nat.eq_of_testBit_eq fun i => ?_
    rw [Nat.testBit_xor, Nat.testBit_mod_two_pow, Nat.testBit_mod_two_pow, Nat.testBit_two_pow]
    by_cases h1 : i < k
    · simp [h1, show i < k + 1 by omega, show ¬ k = i by omega]
    · by_cases h2 : k = i
      · subst h2; simp [hb]
      · simp [h1, h2, show ¬ i < k + 1 by omega]
  · rename_i h
    rw [decide_eq_false h] at hb
    refine Nat.eq_of_testBit_eq fun i => ?_
    rw [Nat.testBit_mod_two_pow, Nat.testBit_mod_two_pow]
    by_cases h1 : i < k
    · simp [h1, show i < k + 1 by omega]
    · by_cases h2 : k = i
      · subst h2; simp [hb]
      · simp [h1, show ¬ i < k + 1 by omega]
theorem flips_num (t p : Nat) : ∀ (k : Nat) {d : List Int} (hk : p + k ≤ 8 * d.length), leNum (flips t p k d) = leNum d ^^^ (t % 2 ^ k * 2 ^ p)
  | 0, d, _ => by simp [flips, Nat.mod_one]
  | k + 1, d, hk => by
    have h := flips_num t p k (d := d) (by omega)
    unfold flips
    rw [mod_bit]
    split
    · rw [leNum_flip _ _ (by rw [flips_length]; omega), h, xor_mul_pow, Nat.xor_assoc, ← Nat.pow_add, Nat.add_comm k p]
    · exact h
theorem crc_flips {h5 d : List Int} {t p : Nat} (hp : p + 32 ≤ 8 * d.length) (ht : t < 4294967296) (h0 : t ≠ 0) : crc (h5 ++ flips t p 32 d) ≠ crc (h5 ++ d) := by
  intro e
  have e1 : crcGo 4294967295 (h5 ++ flips t p 32 d) = crcGo 4294967295 (h5 ++ d) := by
    have := congrArg (fun x => 4294967295 ^^^ x) e
    unfold crc at this
    simpa [← Nat.xor_assoc, Nat.xor_self] using this
  rw [crcGo_append, crcGo_append] at e1
  have hn := flips_num t p 32 (d := d) hp
  rw [Nat.mod_eq_of_lt (show t < 2 ^ 32 from ht)] at hn
  exact h0 (crcGo_burst (flips_length t p 32 d) hn (by omega) ht e1)
/-- What is behind and ahead stays. -/
theorem set_mid (a b c : List Int) (i : Nat) (x : Int) (hi : i < b.length) : (a ++ (b ++ c)).set (a.length + i) x = a ++ (b.set i x ++ c) := by
  rw [List.set_append_right _ _ (by omega), List.set_append_left _ _ (by omega)]
  congr 2
  congr 1
  omega
end Go.Proofs.YtkiagnlpnphghaaDoor
