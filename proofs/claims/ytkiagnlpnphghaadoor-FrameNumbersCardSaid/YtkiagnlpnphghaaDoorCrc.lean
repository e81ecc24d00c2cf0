/- The sum of bytes, as plain numbers: bit by bit, by half bytes, linear, and what turned bits make of it. No function of the program in it. -/
import Derived.RowKit
import Derived.ProofKit
import Derived.Laws.BitsAllLaws
namespace Go.Proofs.YtkiagnlpnphghaaDoor
open Go.RowKit
set_option linter.unusedVariables false

/-- One bit's step. -/
def bstep (c : Nat) : Nat := if c % 2 = 1 then (c / 2) ^^^ 2197175160 else c / 2
def bsteps : Nat → Nat → Nat
  | 0, c => c
  | k + 1, c => bsteps k (bstep c)
/-- What a byte makes of the word. -/
def bbyte (c b : Nat) : Nat := bsteps 8 (c ^^^ b)
def crcGo (c : Nat) : List Int → Nat
  | [] => c
  | b :: l => crcGo (bbyte c b.toNat) l
/-- The sum. -/
def crc (l : List Int) : Nat := 4294967295 ^^^ crcGo 4294967295 l

theorem div_xor (a b k : Nat) : (a ^^^ b) / 2 ^ k = a / 2 ^ k ^^^ b / 2 ^ k := by
  simp only [← Nat.shiftRight_eq_div_pow, Nat.shiftRight_xor_distrib]
theorem div2_xor (a b : Nat) : (a ^^^ b) / 2 = a / 2 ^^^ b / 2 := div_xor a b 1
theorem mod2_xor (a b : Nat) : (a ^^^ b) % 2 = (a % 2 + b % 2) % 2 := by
  have h := Nat.testBit_xor a b 0
  simp only [Nat.testBit_zero] at h
  have ha := Nat.mod_two_eq_zero_or_one a
  have hb := Nat.mod_two_eq_zero_or_one b
  have hc := Nat.mod_two_eq_zero_or_one (a ^^^ b)
  rcases ha with ha | ha <;> rcases hb with hb | hb <;> rcases hc with hc | hc <;> simp [ha, hb, hc] at h ⊢
theorem bstep_xor (a b : Nat) : bstep (a ^^^ b) = bstep a ^^^ bstep b := by
  have h := mod2_xor a b
  unfold bstep
  rw [div2_xor]
  rcases Nat.mod_two_eq_zero_or_one a with ha | ha <;> rcases Nat.mod_two_eq_zero_or_one b with hb | hb <;> rw [h, ha, hb] <;> simp
  · ac_rfl
  · ac_rfl
  · calc a / 2 ^^^ b / 2 = (a / 2 ^^^ b / 2) ^^^ (2197175160 ^^^ 2197175160) := by simp
      _ = _ := by ac_rfl
theorem bstep_zero : bstep 0 = 0 := rfl
theorem bsteps_zero : ∀ k, bsteps k 0 = 0
  | 0 => rfl
  | k + 1 => by unfold bsteps; rw [bstep_zero, bsteps_zero k]
theorem bsteps_xor : ∀ k a b, bsteps k (a ^^^ b) = bsteps k a ^^^ bsteps k b
  | 0, _, _ => rfl
  | k + 1, a, b => by unfold bsteps; rw [bstep_xor, bsteps_xor k]
theorem bsteps_add : ∀ j k c, bsteps (j + k) c = bsteps k (bsteps j c)
  | 0, k, c => by rw [Nat.zero_add]; rfl
  | j + 1, k, c => by rw [show j + 1 + k = (j + k) + 1 from by omega]; exact bsteps_add j k (bstep c)
theorem bstep_double (c : Nat) : bstep (c * 2) = c := by
  unfold bstep; rw [if_neg (by omega)]; omega
theorem bsteps_pow : ∀ k c, bsteps k (c * 2 ^ k) = c
  | 0, c => by simp [bsteps]
  | k + 1, c => by unfold bsteps; rw [Nat.pow_succ, ← Nat.mul_assoc, bstep_double, bsteps_pow k]
theorem bstep_lt {c : Nat} (h : c < 4294967296) : bstep c < 4294967296 := by
  unfold bstep
  split
  · exact Nat.xor_lt_two_pow (n := 32) (by omega) (by decide)
  · omega
theorem bsteps_lt : ∀ k {c : Nat}, c < 4294967296 → bsteps k c < 4294967296
  | 0, _, h => h
  | k + 1, _, h => bsteps_lt k (bstep_lt h)
theorem bbyte_lt {c b : Nat} (hc : c < 4294967296) (hb : b < 4294967296) : bbyte c b < 4294967296 := bsteps_lt 8 (Nat.xor_lt_two_pow (n := 32) hc hb)
theorem bstep_ne {c : Nat} (h : c < 4294967296) (h0 : bstep c = 0) : c = 0 := by
  unfold bstep at h0
  split at h0
  · have h1 : c / 2 = 2197175160 := by
      have := congrArg (fun x => x ^^^ 2197175160) h0
      simpa [Nat.xor_assoc] using this
    omega
  · omega
theorem bsteps_ne : ∀ k {c : Nat}, c < 4294967296 → bsteps k c = 0 → c = 0
  | 0, _, _, h0 => h0
  | k + 1, _, h, h0 => bstep_ne h (bsteps_ne k (bstep_lt h) h0)
theorem crcGo_lt : ∀ (l : List Int) {c : Nat}, (∀ b ∈ l, 0 ≤ b ∧ b < 256) → c < 4294967296 → crcGo c l < 4294967296
  | [], _, _, h => h
  | b :: l, c, ho, h => by
    have hb := ho b (List.mem_cons_self ..)
    exact crcGo_lt l (fun x hx => ho x (List.mem_cons_of_mem _ hx)) (bbyte_lt h (by omega))
theorem crc_lt {l : List Int} (ho : ∀ b ∈ l, 0 ≤ b ∧ b < 256) : crc l < 4294967296 :=
  Nat.xor_lt_two_pow (n := 32) (by decide) (crcGo_lt l ho (by decide))
theorem crcGo_append : ∀ (a b : List Int) (c : Nat), crcGo c (a ++ b) = crcGo (crcGo c a) b
  | [], _, _ => rfl
  | x :: a, b, c => crcGo_append a b _

/-- What four steps make, by the lowest half byte. -/
def fourSteps (i : Nat) : Nat := [0x00000000, 0x105EC76F, 0x20BD8EDE, 0x30E349B1, 0x417B1DBC, 0x5125DAD3, 0x61C69362, 0x7198540D,
  0x82F63B78, 0x92A8FC17, 0xA24BB5A6, 0xB21572C9, 0xC38D26C4, 0xD3D3E1AB, 0xE330A81A, 0xF36E6F75].getD i 0
theorem fourSteps_is : ∀ i, i < 16 → bsteps 4 i = fourSteps i := by decide
theorem fourSteps_lt : ∀ i, i < 16 → fourSteps i < 4294967296 := by decide
theorem low_high (c k : Nat) : c = (c / 2 ^ k * 2 ^ k) ^^^ (c % 2 ^ k) := by
  have h : c / 2 ^ k * 2 ^ k ^^^ c % 2 ^ k = c / 2 ^ k * 2 ^ k + c % 2 ^ k := by
    have h1 := Nat.two_pow_add_eq_or_of_lt (Nat.mod_lt c (Nat.two_pow_pos k)) (c / 2 ^ k)
    rw [Nat.mul_comm] at h1
    rw [h1]
    refine Nat.eq_of_testBit_eq fun i => ?_
    rw [Nat.testBit_xor, Nat.testBit_or, Nat.testBit_mul_two_pow, Nat.testBit_mod_two_pow]
    by_cases hi : k ≤ i
    · have : ¬ i < k := by omega
      simp [this]
    · simp [hi]
  rw [h, Nat.mul_comm]
  exact (Nat.div_add_mod c (2 ^ k)).symm
theorem four_steps (c : Nat) : bsteps 4 c = c / 16 ^^^ fourSteps (c % 16) := by
  have h := low_high c 4
  calc bsteps 4 c = bsteps 4 ((c / 2 ^ 4 * 2 ^ 4) ^^^ (c % 2 ^ 4)) := by rw [← h]
    _ = bsteps 4 (c / 2 ^ 4 * 2 ^ 4) ^^^ bsteps 4 (c % 2 ^ 4) := bsteps_xor 4 _ _
    _ = c / 2 ^ 4 ^^^ fourSteps (c % 2 ^ 4) := by rw [bsteps_pow, fourSteps_is _ (Nat.mod_lt _ (by decide))]
    _ = _ := by rw [show (2 : Nat) ^ 4 = 16 from rfl]
/-- A byte, by half bytes. -/
theorem bbyte_half (c b : Nat) : bbyte c b = bsteps 4 (bsteps 4 (c ^^^ b)) := bsteps_add 4 4 _

/-- The number that bytes are, the lowest first. -/
def leNum : List Int → Nat
  | [] => 0
  | b :: l => b.toNat ^^^ (leNum l * 2 ^ 8)
theorem crcGo_le : ∀ (l : List Int) (c : Nat), crcGo c l = bsteps (8 * l.length) (c ^^^ leNum l)
  | [], c => by
    rw [leNum, Nat.xor_zero]
    rfl
  | b :: l, c => by
    unfold crcGo leNum
    rw [crcGo_le l, List.length_cons, show 8 * (l.length + 1) = 8 + 8 * l.length from by omega, bsteps_add, ← Nat.xor_assoc, bsteps_xor 8 (c ^^^ b.toNat), bsteps_pow]
    rfl
/-- Some of 32 bits, one behind the other, turned: another sum. -/
theorem crcGo_burst {l l' : List Int} (hl : l'.length = l.length) {t p : Nat} (h : leNum l' = leNum l ^^^ (t * 2 ^ p)) (hp : p ≤ 8 * l.length) (ht : t < 4294967296) {c : Nat} (he : crcGo c l' = crcGo c l) : t = 0 := by
  rw [crcGo_le, crcGo_le, hl, h, ← Nat.xor_assoc, bsteps_xor (8 * l.length) (c ^^^ leNum l)] at he
  have h0 : bsteps (8 * l.length) (t * 2 ^ p) = 0 := by
    have := congrArg (fun x => bsteps (8 * l.length) (c ^^^ leNum l) ^^^ x) he
    simpa [← Nat.xor_assoc] using this
  rw [show 8 * l.length = p + (8 * l.length - p) from by omega, bsteps_add, bsteps_pow] at h0
  exact bsteps_ne _ ht h0
/-- A bit of them, turned. -/
def flipBit (l : List Int) (p : Nat) : List Int := l.set (p / 8) (((l.getD (p / 8) 0).toNat ^^^ 2 ^ (p % 8) : Nat) : Int)
theorem flipBit_length (l : List Int) (p : Nat) : (flipBit l p).length = l.length := by simp [flipBit]
theorem xor_mul_pow (a b k : Nat) : (a ^^^ b) * 2 ^ k = a * 2 ^ k ^^^ b * 2 ^ k := by
  simp only [← Nat.shiftLeft_eq, Nat.shiftLeft_xor_distrib]
theorem leNum_flip : ∀ (l : List Int) (p : Nat), p < 8 * l.length → leNum (flipBit l p) = leNum l ^^^ 2 ^ p
  | [], p, h => by simp at h
  | b :: l, p, h => by
    by_cases h8 : p < 8
    · have e : p / 8 = 0 := by omega
      have e2 : p % 8 = p := by omega
      unfold flipBit
      rw [e, e2]
      simp only [List.set_cons_zero, List.getD_cons_zero, leNum, Int.toNat_natCast]
      ac_rfl
    · obtain ⟨q, rfl⟩ : ∃ q, p = q + 8 := ⟨p - 8, by omega⟩
      have ih := leNum_flip l q (by simp only [List.length_cons] at h; omega)
      have e : (q + 8) / 8 = q / 8 + 1 := by omega
      have e2 : (q + 8) % 8 = q % 8 := by omega
      have e3 : flipBit (b :: l) (q + 8) = b :: flipBit l q := by
        unfold flipBit
        rw [e, e2]
        simp only [List.set_cons_succ, List.getD_cons_succ]
      rw [e3, leNum, ih, leNum, xor_mul_pow, Nat.pow_add, Nat.xor_assoc]
theorem flip_byte {x : Int} {k : Nat} (h0 : 0 ≤ x) (h1 : x < 256) (hk : k < 8) : x.toNat ^^^ 2 ^ k < 256 :=
  Nat.xor_lt_two_pow (n := 8) (by omega) (Nat.pow_lt_pow_right (by decide) hk)
end Go.Proofs.YtkiagnlpnphghaaDoor
