/- Contracts of the bit by bit answers: bit, each, moved. -/
import Derived.Test.YtlggmfbmaoajcaaAluLeaf
import Derived.Test.YtlggmfbmaoajcaaAluBits
import Derived.Lib.Hide
namespace Go.Proofs.Ytlggmfbmaoajcaa
open Go.RowKit
set_option linter.unusedVariables false
theorem bit_any (A : Nat) (n : Int) (h : A < 18446744073709551616) (h0 : 0 ≤ n) (hn : n < 64) (w : World) : Calls Try.prog 19 #[.int .u64 (A : Int), .int .i64 n] w fun e w' => w = w' ∧ e = .returned (.bool (A.testBit n.toNat)) := by
  have hi : (A : Int) < 18446744073709551616 := by omega
  go_enter Try.func19, Try.ntmps19
  go_wp2
  go_ret
  exact ⟨rfl, ret_bool (bit_is A n.toNat h)⟩
theorem each_any (op : Int) (A B : Nat) (ha : A < 18446744073709551616) (hb : B < 18446744073709551616) (w : World) : Calls Try.prog 17 #[.int .u8 op, .int .u64 (A : Int), .int .u64 (B : Int)] w fun e w' => w = w' ∧ e = .returned (.int .u64 ((ofBits (eachG op A B) 64 : Nat) : Int)) := by
  go_enter Try.func17, Try.ntmps17
  go_wp2
  go_loop [7, 8, 9, 10, 11] (fun o i _ _ _ => ∃ k : Nat, k ≤ 64 ∧ i = .int .i64 k ∧ o = .int .u64 ((ofBits (eachG op A B) k : Nat) : Int)) (fun _ i _ _ _ => 64 - (intOf i).toNat)
  case atStart => exact ⟨0, by omega, rfl, rfl⟩
  case round =>
    obtain ⟨k, hk, rfl, rfl⟩ := hrel
    by_cases hlt : k < 64
    · go_wp2_with (go_at_call 19; refine (bit_any _ _ (by assumption) (by omega) (by omega) _).mono ?_; rintro e w' ⟨rfl, rfl⟩)
      all_goals
        go_round
        case rel =>
          refine ⟨k + 1, by omega, by go_num, congrArg (Value.int .u64) ?_⟩
          first
            | exact or_step hlt (by simp_all [eachG])
            | exact congrArg Nat.cast (ofBits_no (by simp_all [eachG])).symm
        case measure => simp [intOf]; omega
    · go_wp2
      go_ret
      obtain rfl : k = 64 := by omega
      exact ⟨rfl, rfl⟩
theorem moved_any (A : Nat) (sh : Int) (size : Nat) (inb : Bool) (ha : A < 18446744073709551616) (h0 : -64 < sh) (h1 : sh < 64) (hs : size ≤ 64) (w : World) : Calls Try.prog 18 #[.int .u64 (A : Int), .int .i64 sh, .int .i64 (size : Int), .bool inb] w fun e w' => w = w' ∧ e = .returned (.int .u64 ((ofBits (movedG A sh size inb) size : Nat) : Int)) := by
  go_enter Try.func18, Try.ntmps18
  go_wp2
  go_loop [9, 10, 11, 12] (fun o i _ _ => ∃ k : Nat, k ≤ size ∧ i = .int .i64 k ∧ o = .int .u64 ((ofBits (movedG A sh size inb) k : Nat) : Int)) (fun _ i _ _ => size - (intOf i).toNat)
  case atStart => exact ⟨0, by omega, rfl, rfl⟩
  case round =>
    obtain ⟨k, hk, rfl, rfl⟩ := hrel
    by_cases hlt : k < size
    · by_cases hr : sh ≤ (k : Int) ∧ (k : Int) - sh < size
      · obtain ⟨hr1, hr2⟩ := hr
        have HG := Lib.hid (movedG_in (A := A) (inb := inb) hr1 hr2)
        cases hx : A.testBit ((k : Int) - sh).toNat
        all_goals
          go_wp2_with (go_at_call 19; refine (bit_any _ _ (by assumption) (by omega) (by omega) _).mono ?_; rintro e w' ⟨rfl, rfl⟩)
          go_round
          case rel =>
            refine ⟨k + 1, by omega, by go_num, congrArg (Value.int .u64) ?_⟩
            first
              | exact or_step (by omega) (by rw [HG.out]; exact hx)
              | exact congrArg Nat.cast (ofBits_no (by rw [HG.out]; exact hx)).symm
          case measure => simp [intOf]; omega
      · have HG := Lib.hid (movedG_out (A := A) (sh := sh) (size := size) (inb := inb) (i := k) (by omega))
        have hr' : (k : Int) < sh ∨ (size : Int) ≤ (k : Int) - sh := by omega
        clear hr
        rcases hr' with hr' | hr'
        all_goals
          cases inb
          all_goals
            go_wp2
            go_round
            case rel =>
              refine ⟨k + 1, by omega, by go_num, congrArg (Value.int .u64) ?_⟩
              first
                | exact or_step (by omega) HG.out
                | exact congrArg Nat.cast (ofBits_no HG.out).symm
            case measure => simp [intOf]; omega
    · go_wp2
      go_ret
      obtain rfl : k = size := by omega
      exact ⟨rfl, rfl⟩

end Go.Proofs.Ytlggmfbmaoajcaa
