/- HMAC as plain lists. No function of the program in it. -/
import Derived.Test.YtknkmblacaaegaaDoorShaMath
namespace Go.Proofs.YtknkmblacaaegaaDoor
open Go.RowKit
set_option linter.unusedVariables false
set_option maxRecDepth 100000

/-- What stands for a key: itself, or its digest. -/
def short (key : List Int) : List Int := if 64 < key.length then digest key else key
/-- A key's block. -/
def kblock (key : List Int) : List Int := short key ++ List.replicate (64 - (short key).length) 0
/-- Each byte with the bits of n turned. -/
def under (n : Int) (l : List Int) : List Int := l.map fun x => bits .xor .u8 x n
def mac (key b : List Int) : List Int := digest (under 92 (kblock key) ++ digest (under 54 (kblock key) ++ b))

theorem short_le (key : List Int) : (short key).length ≤ 64 := by
  unfold short; split
  · rw [digest_length]; omega
  · omega
theorem short_oct {key : List Int} (h : Oct key) : Oct (short key) := by
  unfold short; split
  · exact digest_oct _
  · exact h
theorem zeros_oct (n : Nat) : Oct (List.replicate n 0) := fun x hx => by rw [List.eq_of_mem_replicate hx]; decide
theorem kblock_length (key : List Int) : (kblock key).length = 64 := by
  have := short_le key
  unfold kblock; rw [List.length_append, List.length_replicate]; omega
theorem kblock_oct {key : List Int} (h : Oct key) : Oct (kblock key) := (short_oct h).append (zeros_oct _)
theorem turned_oct {x n : Int} (hx : 0 ≤ x ∧ x < 256) (hn : 0 ≤ n ∧ n < 256) : 0 ≤ bits .xor .u8 x n ∧ bits .xor .u8 x n < 256 := by
  have e : bits .xor .u8 x n = ((x.toNat ^^^ n.toNat : Nat) : Int) := by
    have := Go.u8_xor_nat x.toNat n.toNat (by omega) (by omega)
    rwa [Int.toNat_of_nonneg hx.1, Int.toNat_of_nonneg hn.1] at this
  have := Nat.xor_lt_two_pow (n := 8) (show x.toNat < 2 ^ 8 by omega) (show n.toNat < 2 ^ 8 by omega)
  omega
theorem under_length (n : Int) (l : List Int) : (under n l).length = l.length := by simp [under]
theorem under_oct {n : Int} {l : List Int} (h : Oct l) (hn : 0 ≤ n ∧ n < 256) : Oct (under n l) := fun x hx => by
  simp only [under, List.mem_map] at hx
  obtain ⟨y, hy, rfl⟩ := hx
  exact turned_oct (h y hy) hn
theorem nth_under {n : Int} {l : List Int} {j : Nat} (h : j < l.length) : nth (under n l) j = bits .xor .u8 (nth l j) n := by
  rw [nth_of (by rw [under_length]; exact h), nth_of h]; simp [under]
theorem mac_length (key b : List Int) : (mac key b).length = 32 := digest_length _
theorem mac_oct (key b : List Int) : Oct (mac key b) := digest_oct _
theorem short_of_short {k : List Int} (h : k.length ≤ 64) : short k = k := by unfold short; rw [if_neg (by omega)]
/-- Noughts behind a key, up to a block. -/
theorem kblock_zeros {key : List Int} (h : key.length ≤ 64) : kblock (key ++ List.replicate (64 - key.length) 0) = kblock key := by
  have h1 : (key ++ List.replicate (64 - key.length) 0).length = 64 := by rw [List.length_append, List.length_replicate]; omega
  unfold kblock
  rw [short_of_short (by omega), short_of_short h, h1]
  simp
theorem kblock_digest {key : List Int} (h : 64 < key.length) : kblock (digest key) = kblock key := by
  unfold kblock
  rw [short_of_short (by rw [digest_length]; omega), show short key = digest key from by unfold short; rw [if_pos h]]
theorem mac_zeros {key : List Int} (h : key.length ≤ 64) (b : List Int) : mac (key ++ List.replicate (64 - key.length) 0) b = mac key b := by unfold mac; rw [kblock_zeros h]
theorem mac_digest {key : List Int} (h : 64 < key.length) (b : List Int) : mac (digest key) b = mac key b := by unfold mac; rw [kblock_digest h]
/-- A turned bit makes another byte. -/
theorem turned_ne {x n : Int} (hx : 0 ≤ x ∧ x < 256) (hn : 0 < n ∧ n < 256) : bits .xor .u8 x n ≠ x := by
  have e : bits .xor .u8 x n = ((x.toNat ^^^ n.toNat : Nat) : Int) := by
    have := Go.u8_xor_nat x.toNat n.toNat (by omega) (by omega)
    rwa [Int.toNat_of_nonneg hx.1, Int.toNat_of_nonneg (show 0 ≤ n by omega)] at this
  intro h
  have h2 : x.toNat ^^^ n.toNat = x.toNat := by omega
  have h3 : x.toNat ^^^ (x.toNat ^^^ n.toNat) = 0 := by rw [h2, Nat.xor_self]
  rw [← Nat.xor_assoc, Nat.xor_self, Nat.zero_xor] at h3
  omega
end Go.Proofs.YtknkmblacaaegaaDoor
