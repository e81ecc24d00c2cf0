/- Contracts of the document's own Do, Is, Wide, at all arguments: the same answers as in AluAns. -/
import Derived.Test.YtlggmfbmaoajcaaAluRefIs
import Derived.Test.YtlggmfbmaoajcaaAluAns
namespace Go.Proofs.Ytlggmfbmaoajcaa
open Go.RowKit
set_option linter.unusedVariables false

theorem refDo_false (op a b : Int) (h0 : 0 ≤ a) (h1 : a < m64) (k0 : 0 ≤ b) (k1 : b < m64) (w : World) : Calls Try.prog 10 #[.int .u8 op, .bool false, .int .u64 a, .int .u64 b] w (Pair (.int .u64 (if rkE op b = 0 then do64 op a b else 0)) (rkE op b) w) := by
  by_cases h : op < 1 ∨ 13 < op
  · rw [if_neg (by rw [rkE_bad h]; decide), rkE_bad h]
    exact refDo_bad_false a b op h0 h1 k0 k1 h w
  · rcases ops_of op h with rfl | rfl | rfl | rfl | rfl | rfl | rfl | rfl | rfl | rfl | rfl | rfl | rfl
    · have e := rkE_ok (op := 1) (b := b) (by omega) (by omega)
      rw [if_pos e, e]
      exact refDo64_1 a b h0 h1 k0 k1 w
    · have e := rkE_ok (op := 2) (b := b) (by omega) (by omega)
      rw [if_pos e, e]
      exact refDo64_2 a b h0 h1 k0 k1 w
    · have e := rkE_ok (op := 3) (b := b) (by omega) (by omega)
      rw [if_pos e, e]
      exact refDo64_3 a b h0 h1 k0 k1 w
    · by_cases hb : b = 0
      · subst hb
        rw [if_neg (by rw [rkE_zero (by omega)]; decide), rkE_zero (by omega)]
        exact refDo64_zero4 a h0 h1 w
      · have e := rkE_ok (op := 4) (b := b) (by omega) (fun h => hb h.2)
        rw [if_pos e, e]
        exact refDo64_4 a b h0 h1 k0 k1 (by omega) w
    · by_cases hb : b = 0
      · subst hb
        rw [if_neg (by rw [rkE_zero (by omega)]; decide), rkE_zero (by omega)]
        exact refDo64_zero5 a h0 h1 w
      · have e := rkE_ok (op := 5) (b := b) (by omega) (fun h => hb h.2)
        rw [if_pos e, e]
        exact refDo64_5 a b h0 h1 k0 k1 (by omega) w
    · have e := rkE_ok (op := 6) (b := b) (by omega) (by omega)
      rw [if_pos e, e]
      exact refDo64_6 a b h0 h1 k0 k1 w
    · have e := rkE_ok (op := 7) (b := b) (by omega) (by omega)
      rw [if_pos e, e]
      exact refDo64_7 a b h0 h1 k0 k1 w
    · have e := rkE_ok (op := 8) (b := b) (by omega) (by omega)
      rw [if_pos e, e]
      exact refDo64_8 a b h0 h1 k0 k1 w
    · have e := rkE_ok (op := 9) (b := b) (by omega) (by omega)
      rw [if_pos e, e]
      exact refDo64_9 a b h0 h1 k0 k1 w
    · have e := rkE_ok (op := 10) (b := b) (by omega) (by omega)
      rw [if_pos e, e]
      exact refDo64_10 a b h0 h1 k0 k1 w
    · have e := rkE_ok (op := 11) (b := b) (by omega) (by omega)
      rw [if_pos e, e]
      exact refDo64_11 a b h0 h1 k0 k1 w
    · have e := rkE_ok (op := 12) (b := b) (by omega) (by omega)
      rw [if_pos e, e]
      exact refDo64_12 a b h0 h1 k0 k1 w
    · have e := rkE_ok (op := 13) (b := b) (by omega) (by omega)
      rw [if_pos e, e]
      exact refDo64_13 a b h0 h1 k0 k1 w

theorem refDo_true (op a b : Int) (h0 : 0 ≤ a) (h1 : a < m64) (k0 : 0 ≤ b) (k1 : b < m64) (w : World) : Calls Try.prog 10 #[.int .u8 op, .bool true, .int .u64 a, .int .u64 b] w (Pair (.int .u64 (if rkE op (b % m32) = 0 then do32 op (a % m32) (b % m32) else 0)) (rkE op (b % m32)) w) := by
  have ra := range32 a
  have rb := range32 b
  have hx := mask_of a h0 h1
  have hy := mask_of b k0 k1
  by_cases h : op < 1 ∨ 13 < op
  · rw [if_neg (by rw [rkE_bad h]; decide), rkE_bad h]
    exact refDo_bad_true a b op h0 h1 k0 k1 h w
  · rcases ops_of op h with rfl | rfl | rfl | rfl | rfl | rfl | rfl | rfl | rfl | rfl | rfl | rfl | rfl
    · have e := rkE_ok (op := 1) (b := b % m32) (by omega) (by omega)
      rw [if_pos e, e]
      exact refDo32_1 a b _ _ hx hy h0 h1 k0 k1 ra.1 ra.2 rb.1 rb.2 w
    · have e := rkE_ok (op := 2) (b := b % m32) (by omega) (by omega)
      rw [if_pos e, e]
      exact refDo32_2 a b _ _ hx hy h0 h1 k0 k1 ra.1 ra.2 rb.1 rb.2 w
    · have e := rkE_ok (op := 3) (b := b % m32) (by omega) (by omega)
      rw [if_pos e, e]
      exact refDo32_3 a b _ _ hx hy h0 h1 k0 k1 ra.1 ra.2 rb.1 rb.2 w
    · by_cases hb : b % m32 = 0
      · rw [if_neg (by rw [hb, rkE_zero (by omega)]; decide), hb, rkE_zero (by omega)]
        exact refDo32_zero4 a b (hy.trans hb) h0 h1 w
      · have e := rkE_ok (op := 4) (b := b % m32) (by omega) (fun h => hb h.2)
        rw [if_pos e, e]
        exact refDo32_4 a b _ _ hx hy h0 h1 k0 k1 ra.1 ra.2 rb.1 rb.2 (by omega) w
    · by_cases hb : b % m32 = 0
      · rw [if_neg (by rw [hb, rkE_zero (by omega)]; decide), hb, rkE_zero (by omega)]
        exact refDo32_zero5 a b (hy.trans hb) h0 h1 w
      · have e := rkE_ok (op := 5) (b := b % m32) (by omega) (fun h => hb h.2)
        rw [if_pos e, e]
        exact refDo32_5 a b _ _ hx hy h0 h1 k0 k1 ra.1 ra.2 rb.1 rb.2 (by omega) w
    · have e := rkE_ok (op := 6) (b := b % m32) (by omega) (by omega)
      rw [if_pos e, e]
      exact refDo32_6 a b _ _ hx hy h0 h1 k0 k1 ra.1 ra.2 rb.1 rb.2 w
    · have e := rkE_ok (op := 7) (b := b % m32) (by omega) (by omega)
      rw [if_pos e, e]
      exact refDo32_7 a b _ _ hx hy h0 h1 k0 k1 ra.1 ra.2 rb.1 rb.2 w
    · have e := rkE_ok (op := 8) (b := b % m32) (by omega) (by omega)
      rw [if_pos e, e]
      exact refDo32_8 a b _ _ hx hy h0 h1 k0 k1 ra.1 ra.2 rb.1 rb.2 w
    · have e := rkE_ok (op := 9) (b := b % m32) (by omega) (by omega)
      rw [if_pos e, e]
      exact refDo32_9 a b _ _ hx hy h0 h1 k0 k1 ra.1 ra.2 rb.1 rb.2 w
    · have e := rkE_ok (op := 10) (b := b % m32) (by omega) (by omega)
      rw [if_pos e, e]
      exact refDo32_10 a b _ _ hx hy h0 h1 k0 k1 ra.1 ra.2 rb.1 rb.2 w
    · have e := rkE_ok (op := 11) (b := b % m32) (by omega) (by omega)
      rw [if_pos e, e]
      exact refDo32_11 a b _ _ hx hy h0 h1 k0 k1 ra.1 ra.2 rb.1 rb.2 w
    · have e := rkE_ok (op := 12) (b := b % m32) (by omega) (by omega)
      rw [if_pos e, e]
      exact refDo32_12 a b _ _ hx hy h0 h1 k0 k1 ra.1 ra.2 rb.1 rb.2 w
    · have e := rkE_ok (op := 13) (b := b % m32) (by omega) (by omega)
      rw [if_pos e, e]
      exact refDo32_13 a b _ _ hx hy h0 h1 k0 k1 ra.1 ra.2 rb.1 rb.2 w

theorem refDo (op : Int) (narrow : Bool) (a b : Int) (h0 : 0 ≤ a) (h1 : a < m64) (k0 : 0 ≤ b) (k1 : b < m64) (w : World) : Calls Try.prog 10 #[.int .u8 op, .bool narrow, .int .u64 a, .int .u64 b] w (Pair (.int .u64 (doV op narrow a b)) (doE op narrow b) w) := by
  cases narrow
  · exact refDo_false op a b h0 h1 k0 k1 w
  · exact refDo_true op a b h0 h1 k0 k1 w

theorem refIs_false (op a b : Int) (h0 : 0 ≤ a) (h1 : a < m64) (k0 : 0 ≤ b) (k1 : b < m64) (w : World) : Calls Try.prog 12 #[.int .u8 op, .bool false, .int .u64 a, .int .u64 b] w (Pair (.bool (if isE op = 0 then is64 op a b else false)) (isE op) w) := by
  by_cases h : op < 17 ∨ 27 < op
  · have e : isE op = 2 := if_pos h
    rw [e]
    exact refIs_bad_false a b op h0 h1 k0 k1 h w
  · have e : isE op = 0 := if_neg h
    rw [if_pos e, e]
    rcases rels_of op h with rfl | rfl | rfl | rfl | rfl | rfl | rfl | rfl | rfl | rfl | rfl
    · exact refIs64_17 a b h0 h1 k0 k1 w
    · exact refIs64_18 a b h0 h1 k0 k1 w
    · exact refIs64_19 a b h0 h1 k0 k1 w
    · exact refIs64_20 a b h0 h1 k0 k1 w
    · exact refIs64_21 a b h0 h1 k0 k1 w
    · exact refIs64_22 a b h0 h1 k0 k1 w
    · exact refIs64_23 a b h0 h1 k0 k1 w
    · exact refIs64_24 a b h0 h1 k0 k1 w
    · exact refIs64_25 a b h0 h1 k0 k1 w
    · exact refIs64_26 a b h0 h1 k0 k1 w
    · exact refIs64_27 a b h0 h1 k0 k1 w

theorem refIs_true (op a b : Int) (h0 : 0 ≤ a) (h1 : a < m64) (k0 : 0 ≤ b) (k1 : b < m64) (w : World) : Calls Try.prog 12 #[.int .u8 op, .bool true, .int .u64 a, .int .u64 b] w (Pair (.bool (if isE op = 0 then is32 op (a % m32) (b % m32) else false)) (isE op) w) := by
  have ra := range32 a
  have rb := range32 b
  have hx := mask_of a h0 h1
  have hy := mask_of b k0 k1
  by_cases h : op < 17 ∨ 27 < op
  · have e : isE op = 2 := if_pos h
    rw [e]
    exact refIs_bad_true a b op h0 h1 k0 k1 h w
  · have e : isE op = 0 := if_neg h
    rw [if_pos e, e]
    rcases rels_of op h with rfl | rfl | rfl | rfl | rfl | rfl | rfl | rfl | rfl | rfl | rfl
    · exact refIs32_17 a b _ _ hx hy h0 h1 k0 k1 ra.1 ra.2 rb.1 rb.2 w
    · exact refIs32_18 a b _ _ hx hy h0 h1 k0 k1 ra.1 ra.2 rb.1 rb.2 w
    · exact refIs32_19 a b _ _ hx hy h0 h1 k0 k1 ra.1 ra.2 rb.1 rb.2 w
    · exact refIs32_20 a b _ _ hx hy h0 h1 k0 k1 ra.1 ra.2 rb.1 rb.2 w
    · exact refIs32_21 a b _ _ hx hy h0 h1 k0 k1 ra.1 ra.2 rb.1 rb.2 w
    · exact refIs32_22 a b _ _ hx hy h0 h1 k0 k1 ra.1 ra.2 rb.1 rb.2 w
    · exact refIs32_23 a b _ _ hx hy h0 h1 k0 k1 ra.1 ra.2 rb.1 rb.2 w
    · exact refIs32_24 a b _ _ hx hy h0 h1 k0 k1 ra.1 ra.2 rb.1 rb.2 w
    · exact refIs32_25 a b _ _ hx hy h0 h1 k0 k1 ra.1 ra.2 rb.1 rb.2 w
    · exact refIs32_26 a b _ _ hx hy h0 h1 k0 k1 ra.1 ra.2 rb.1 rb.2 w
    · exact refIs32_27 a b _ _ hx hy h0 h1 k0 k1 ra.1 ra.2 rb.1 rb.2 w

theorem refIs (op : Int) (narrow : Bool) (a b : Int) (h0 : 0 ≤ a) (h1 : a < m64) (k0 : 0 ≤ b) (k1 : b < m64) (w : World) : Calls Try.prog 12 #[.int .u8 op, .bool narrow, .int .u64 a, .int .u64 b] w (Pair (.bool (isV op narrow a b)) (isE op) w) := by
  cases narrow
  · exact refIs_false op a b h0 h1 k0 k1 w
  · exact refIs_true op a b h0 h1 k0 k1 w
theorem refWide (n : Int) (w : World) : Calls Try.prog 14 #[.int .i64 n] w fun e w' => w = w' ∧ e = .returned (.int .u64 (n % m64)) := by
  go_enter Try.func14, Try.ntmps14
  go_wp2
  go_ret
  exact ⟨rfl, rfl⟩
end Go.Proofs.Ytlggmfbmaoajcaa
