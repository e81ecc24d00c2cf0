/- Contracts of what all statements share: equality of bytes, marks, what is lent, kept, written over; numbers brought into a range. -/
import Derived.Test.YthfkmackodbmkaaGreatDoorMem
import Derived.Test.YthfkmackodbmkaaGreatDoorRows
import Derived.ProofKit
import Derived.Outline
import Derived.BigQuiet
import Derived.StillTailTactics
namespace Go.Proofs.YthfkmackodbmkaaGreatDoor
open Go.RowKit
set_option linter.unusedVariables false

theorem mark (k i : Int) (h0 : 0 ≤ k) (h1 : k ≤ 1000000) (h2 : 0 ≤ i) (h3 : i ≤ 1000000000000000) (w : World) :
    Calls Tryz.prog 94 #[.int .i64 k, .int .i64 i] w fun e w' => w = w' ∧ e = .returned (.int .i64 (1000003 * (k + 7) + i)) := by
  go_enter Tryz.func94, Tryz.ntmps94
  go_wp2
  go_ret
  exact ⟨rfl, rfl⟩
/-- The mark of a place in a list of bytes. -/
def mkb (k i : Int) : Int := IntKind.u64.wrap ((1000003 * (k + 7) + i) * 11400714819323198485) / 72057594037927936 % 256
theorem mkb_oct (k i : Int) : 0 ≤ mkb k i ∧ mkb k i < 256 := by unfold mkb; omega

theorem markByte (k i : Int) (h0 : 0 ≤ k) (h1 : k ≤ 1000000) (h2 : 0 ≤ i) (h3 : i ≤ 1000000000000000) (w : World) :
    Calls Tryz.prog 146 #[.int .i64 k, .int .i64 i] w fun e w' => w = w' ∧ e = .returned (.int .u8 (mkb k i)) := by
  have M := Lib.hid (mark k i h0 h1 h2 h3)
  go_enter Tryz.func146, Tryz.ntmps146
  go_wp2_with fail
  refine (M.out _).mono ?_; rintro e w' ⟨rfl, rfl⟩
  go_wp2
  go_ret
  exact ⟨rfl, ret_int rfl⟩

theorem tmod_pos {x n : Int} (h : 0 ≤ x.tmod n) (hn : 1 ≤ n) : x.tmod n = x % n := by
  have hz : n ≠ 0 := by omega
  have ha := Int.natAbs_of_nonneg (show 0 ≤ n by omega)
  rw [Int.tmod_eq_emod] at h ⊢
  split
  · omega
  · rename_i hc
    rw [if_neg hc] at h
    have := Int.emod_lt_of_pos x (show 0 < n by omega)
    omega
theorem tmod_neg {x n : Int} (h : x.tmod n < 0) (hn : 1 ≤ n) : x.tmod n + n = x % n := by
  have ha := Int.natAbs_of_nonneg (show 0 ≤ n by omega)
  rw [Int.tmod_eq_emod] at h ⊢
  have := Int.emod_nonneg x (show n ≠ 0 by omega)
  split
  · rename_i hc
    rw [if_pos hc] at h
    omega
  · omega


theorem take_same {x y : List Int} {k : Nat} (h : x.take k = y.take k) (he : nth x k = nth y k) (h1 : k < x.length) (h2 : k < y.length) : x.take (k + 1) = y.take (k + 1) := by
  rw [List.take_succ_eq_append_getElem h1, List.take_succ_eq_append_getElem h2, h, ← nth_of h1, ← nth_of h2, he]

/-- Whether two slices of bytes have the same. -/
theorem sameBytes (u v : Value) (x y : List Int) (w : World) (hu : Bs w u x) (hv : Bs w v y) :
    Calls Tryz.prog 198 #[u, v] w fun e w' => Tells (.bool (decide (x = y))) w e w' := by
  have lx := hu.len
  have ly := hv.len
  by_cases hl : x.length = y.length
  · by_cases h0 : x.length = 0
    · obtain ⟨au, cu, rfl⟩ := hu.shape
      obtain ⟨av, cv, rfl⟩ := hv.shape
      have e0 : x = [] := List.eq_nil_of_length_eq_zero h0
      have e1 : y = [] := List.eq_nil_of_length_eq_zero (by omega)
      subst e0 e1
      clear hu hv lx ly hl h0
      go_enter Tryz.func198, Tryz.ntmps198
      go_wp2
      refine wp_loop_rounds 1 ?_; rw [rounds_succ]
      go_wp2
      go_ret
      exact ⟨rfl, Still.refl _⟩
    · obtain ⟨bu, ou, cu, rfl, -, -, -, cellu⟩ := hu.at (by omega)
      obtain ⟨bv', ov, cv, rfl, -, -, -, cellv⟩ := hv.at (by omega)
      have CU := Lib.hid cellu
      have CV := Lib.hid cellv
      clear hu hv cellu cellv
      generalize hn : x.length = n at *
      have hN := Lib.hid hn
      have hL := Lib.hid hl
      clear hn
      rw [← hl]
      clear hl
      go_enter Tryz.func198, Tryz.ntmps198
      go_wp2
      go_loopw [4, 5] (fun r i wr => ∃ k : Nat, k ≤ n ∧ r = .bool false ∧ i = .int .i64 k ∧ x.take k = y.take k ∧ Still w wr) (fun _ i _ => n - (intOf i).toNat)
      case atStart => exact ⟨0, Nat.zero_le _, rfl, rfl, rfl, Still.refl _⟩
      case round =>
        obtain ⟨k, hk, rfl, rfl, htk, hst⟩ := hrel
        have HT := Lib.hid htk
        clear htk
        obtain ⟨d, rfl⟩ := hst
        by_cases hlt : k < n
        · have gu := CU.out k hlt
          have gv := CV.out k (by have := hL.out; omega)
          have hd : decide (k < n) = true := by simpa using hlt
          go_wp2
          go_quiet (fail)
          by_cases he : nth x k = nth y k
          · have hb : (nth x k != nth y k) = false := by simp [he]
            go_wp2
            go_roundw
            case rel => exact ⟨k + 1, by omega, rfl, by go_num, take_same HT.out he (by have := hN.out; omega) (by have := hN.out; have := hL.out; omega), ⟨_, rfl⟩⟩
            case measure => simp [intOf]; omega
          · have hb : (nth x k != nth y k) = true := by simp [he]
            go_wp2
            go_ret
            refine ⟨ret_bool ?_, Still.drewN ⟨_, rfl⟩ _⟩
            symm
            simp only [decide_eq_false_iff_not]
            intro hxy
            exact he (by rw [hxy])
        · go_wp2
          go_ret
          refine ⟨ret_bool ?_, ⟨_, rfl⟩⟩
          symm
          simp only [decide_eq_true_eq]
          have h1 := HT.out
          rwa [List.take_of_length_le (by have := hN.out; omega), List.take_of_length_le (by have := hL.out; omega)] at h1
  · obtain ⟨au, cu, rfl⟩ := hu.shape
    obtain ⟨av, cv, rfl⟩ := hv.shape
    clear hu hv
    have hd : decide (x = y) = false := by simp; intro h; exact hl (by rw [h])
    rw [hd]
    clear hd
    go_enter Tryz.func198, Tryz.ntmps198
    go_wp2
    go_ret
    exact ⟨rfl, Still.refl _⟩
end Go.Proofs.YthfkmackodbmkaaGreatDoor
