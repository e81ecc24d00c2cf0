/- What was put is read back: numbers, bytes, entries, as lists. -/
import Derived.Test.YtggbpdkejkmakaaRdr
namespace Go.Proofs.Ytggbpdkejkmakaa
open Go.RowKit
set_option linter.unusedVariables false
set_option linter.unusedSimpArgs false

theorem be_num8 (n : Int) (r : List Int) : be (num8 n ++ r) 8 = IntKind.u64.wrap n := by
  have h : 0 ≤ IntKind.u64.wrap n ∧ IntKind.u64.wrap n < 18446744073709551616 := by rw [IntKind.wrap_u64]; omega
  simp only [be, nth, num8, List.cons_append, List.nil_append, List.getD_cons_zero, List.getD_cons_succ]
  generalize IntKind.u64.wrap n = u at *
  omega
theorem val_num8 (n : Int) (r : List Int) (h0 : -9223372036854775808 ≤ n) (h1 : n ≤ 9223372036854775807) : val (num8 n ++ r) = n := by
  unfold val
  rw [be_num8, IntKind.wrap_u64]
  unfold wrap64
  omega
theorem rdNum_num8 (n : Int) (r : List Int) (h0 : -9223372036854775808 ≤ n) (h1 : n ≤ 9223372036854775807) : rdNum (num8 n ++ r) = some (n, r) := by
  unfold rdNum
  rw [if_pos (by rw [List.length_append, num8_length]; omega), val_num8 n r h0 h1, List.drop_append_of_le_length (by rw [num8_length]; omega)]
  rw [List.drop_of_length_le (by rw [num8_length]; omega), List.nil_append]
theorem rdIn_num8 (m n : Int) (r : List Int) (h0 : 0 ≤ n) (h1 : n ≤ m) (hm : m ≤ 255) : rdIn m (num8 n ++ r) = some (n, r) := by
  unfold rdIn
  rw [rdNum_num8 n r (by omega) (by omega)]
  simp only [Option.bind_some]
  rw [if_pos ⟨h0, h1⟩]
theorem rdBytes_len8 (d r : List Int) (h : d.length ≤ 140737488355328) : rdBytes (len8 d ++ r) = some (d, r) := by
  unfold rdBytes len8
  rw [List.append_assoc, rdNum_num8 _ _ (by omega) (by omega)]
  simp only [Option.bind_some]
  rw [if_pos ⟨by omega, by rw [List.length_append]; omega⟩]
  simp
/-- Of less than the eight bytes, nothing is read. -/
theorem rdNum_short {l : List Int} (h : l.length < 8) : rdNum l = none := by unfold rdNum; rw [if_neg (by omega)]
end Go.Proofs.Ytggbpdkejkmakaa
