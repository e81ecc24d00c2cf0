/- Contracts of Do, Is, Wide of package alu, at all arguments. -/
import Derived.Test.YtlggmfbmaoajcaaAluMid
import Derived.Test.YtlggmfbmaoajcaaAluAns
namespace Go.Proofs.Ytlggmfbmaoajcaa
open Go.RowKit
set_option linter.unusedVariables false

theorem reckon32_any (op a b : Int) (h0 : 0 ≤ a) (h1 : a < m32) (k0 : 0 ≤ b) (k1 : b < m32) (w : World) : Calls Try.prog 15 #[.int .u8 op, .int .u32 a, .int .u32 b] w (Pair (.int .u32 (if rkE op b = 0 then do32 op a b else 0)) (rkE op b) w) := by
  by_cases h : op < 1 ∨ 13 < op
  · rw [if_neg (by rw [rkE_bad h]; decide), rkE_bad h]
    exact reckon32_bad op a b h w
  · rcases ops_of op h with rfl | rfl | rfl | rfl | rfl | rfl | rfl | rfl | rfl | rfl | rfl | rfl | rfl
    · have e := rkE_ok (op := 1) (b := b) (by omega) (by omega)
      rw [if_pos e, e]
      exact reckon32_1 a b h0 h1 k0 k1 w
    · have e := rkE_ok (op := 2) (b := b) (by omega) (by omega)
      rw [if_pos e, e]
      exact reckon32_2 a b h0 h1 k0 k1 w
    · have e := rkE_ok (op := 3) (b := b) (by omega) (by omega)
      rw [if_pos e, e]
      exact reckon32_3 a b h0 h1 k0 k1 w
    · by_cases hb : b = 0
      · subst hb
        rw [if_neg (by rw [rkE_zero (by omega)]; decide), rkE_zero (by omega)]
        exact reckon32_zero4 a w
      · have e := rkE_ok (op := 4) (b := b) (by omega) (fun h => hb h.2)
        rw [if_pos e, e]
        exact reckon32_4 a b h0 h1 k0 k1 hb w
    · by_cases hb : b = 0
      · subst hb
        rw [if_neg (by rw [rkE_zero (by omega)]; decide), rkE_zero (by omega)]
        exact reckon32_zero5 a w
      · have e := rkE_ok (op := 5) (b := b) (by omega) (fun h => hb h.2)
        rw [if_pos e, e]
        exact reckon32_5 a b h0 h1 k0 k1 hb w
    · have e := rkE_ok (op := 6) (b := b) (by omega) (by omega)
      rw [if_pos e, e]
      exact reckon32_6 a b h0 h1 k0 k1 w
    · have e := rkE_ok (op := 7) (b := b) (by omega) (by omega)
      rw [if_pos e, e]
      exact reckon32_7 a b h0 h1 k0 k1 w
    · have e := rkE_ok (op := 8) (b := b) (by omega) (by omega)
      rw [if_pos e, e]
      exact reckon32_8 a b h0 h1 k0 k1 w
    · have e := rkE_ok (op := 9) (b := b) (by omega) (by omega)
      rw [if_pos e, e]
      exact reckon32_9 a b h0 h1 k0 k1 w
    · have e := rkE_ok (op := 10) (b := b) (by omega) (by omega)
      rw [if_pos e, e]
      exact reckon32_10 a b h0 h1 k0 k1 w
    · have e := rkE_ok (op := 11) (b := b) (by omega) (by omega)
      rw [if_pos e, e]
      exact reckon32_11 a b h0 h1 k0 k1 w
    · have e := rkE_ok (op := 12) (b := b) (by omega) (by omega)
      rw [if_pos e, e]
      exact reckon32_12 a b h0 h1 k0 k1 w
    · have e := rkE_ok (op := 13) (b := b) (by omega) (by omega)
      rw [if_pos e, e]
      exact reckon32_13 a b h0 h1 k0 k1 w

theorem compare32_any (op a b : Int) (h0 : 0 ≤ a) (h1 : a < m32) (k0 : 0 ≤ b) (k1 : b < m32) (w : World) : Calls Try.prog 20 #[.int .u8 op, .int .u32 a, .int .u32 b] w (Pair (.bool (if isE op = 0 then is32 op a b else false)) (isE op) w) := by
  by_cases h : op < 17 ∨ 27 < op
  · have e : isE op = 2 := if_pos h
    rw [e]
    exact compare32_bad op a b h w
  · have e : isE op = 0 := if_neg h
    rw [if_pos e, e]
    rcases rels_of op h with rfl | rfl | rfl | rfl | rfl | rfl | rfl | rfl | rfl | rfl | rfl
    · exact compare32_17 a b h0 h1 k0 k1 w
    · exact compare32_18 a b h0 h1 k0 k1 w
    · exact compare32_19 a b h0 h1 k0 k1 w
    · exact compare32_20 a b h0 h1 k0 k1 w
    · exact compare32_21 a b h0 h1 k0 k1 w
    · exact compare32_22 a b h0 h1 k0 k1 w
    · exact compare32_23 a b h0 h1 k0 k1 w
    · exact compare32_24 a b h0 h1 k0 k1 w
    · exact compare32_25 a b h0 h1 k0 k1 w
    · exact compare32_26 a b h0 h1 k0 k1 w
    · exact compare32_27 a b h0 h1 k0 k1 w

theorem reckon64_any (op a b : Int) (h0 : 0 ≤ a) (h1 : a < m64) (k0 : 0 ≤ b) (k1 : b < m64) (w : World) : Calls Try.prog 16 #[.int .u8 op, .int .u64 a, .int .u64 b] w (Pair (.int .u64 (if rkE op b = 0 then do64 op a b else 0)) (rkE op b) w) := by
  by_cases h : op < 1 ∨ 13 < op
  · rw [if_neg (by rw [rkE_bad h]; decide), rkE_bad h]
    exact reckon64_bad op a b h w
  · rcases ops_of op h with rfl | rfl | rfl | rfl | rfl | rfl | rfl | rfl | rfl | rfl | rfl | rfl | rfl
    · have e := rkE_ok (op := 1) (b := b) (by omega) (by omega)
      rw [if_pos e, e]
      exact reckon64_1 a b h0 h1 k0 k1 w
    · have e := rkE_ok (op := 2) (b := b) (by omega) (by omega)
      rw [if_pos e, e]
      exact reckon64_2 a b h0 h1 k0 k1 w
    · have e := rkE_ok (op := 3) (b := b) (by omega) (by omega)
      rw [if_pos e, e]
      exact reckon64_3 a b h0 h1 k0 k1 w
    · by_cases hb : b = 0
      · subst hb
        rw [if_neg (by rw [rkE_zero (by omega)]; decide), rkE_zero (by omega)]
        exact reckon64_zero4 a w
      · have e := rkE_ok (op := 4) (b := b) (by omega) (fun h => hb h.2)
        rw [if_pos e, e]
        exact reckon64_4 a b h0 h1 k0 k1 hb w
    · by_cases hb : b = 0
      · subst hb
        rw [if_neg (by rw [rkE_zero (by omega)]; decide), rkE_zero (by omega)]
        exact reckon64_zero5 a w
      · have e := rkE_ok (op := 5) (b := b) (by omega) (fun h => hb h.2)
        rw [if_pos e, e]
        exact reckon64_5 a b h0 h1 k0 k1 hb w
    · have e := rkE_ok (op := 6) (b := b) (by omega) (by omega)
      rw [if_pos e, e]
      exact reckon64_6 a b h0 h1 k0 k1 w
    · have e := rkE_ok (op := 7) (b := b) (by omega) (by omega)
      rw [if_pos e, e]
      exact reckon64_7 a b h0 h1 k0 k1 w
    · have e := rkE_ok (op := 8) (b := b) (by omega) (by omega)
      rw [if_pos e, e]
      exact reckon64_8 a b h0 h1 k0 k1 w
    · have e := rkE_ok (op := 9) (b := b) (by omega) (by omega)
      rw [if_pos e, e]
      exact reckon64_9 a b h0 h1 k0 k1 w
    · have e := rkE_ok (op := 10) (b := b) (by omega) (by omega)
      rw [if_pos e, e]
      exact reckon64_10 a b h0 h1 k0 k1 w
    · have e := rkE_ok (op := 11) (b := b) (by omega) (by omega)
      rw [if_pos e, e]
      exact reckon64_11 a b h0 h1 k0 k1 w
    · have e := rkE_ok (op := 12) (b := b) (by omega) (by omega)
      rw [if_pos e, e]
      exact reckon64_12 a b h0 h1 k0 k1 w
    · have e := rkE_ok (op := 13) (b := b) (by omega) (by omega)
      rw [if_pos e, e]
      exact reckon64_13 a b h0 h1 k0 k1 w

theorem compare64_any (op a b : Int) (h0 : 0 ≤ a) (h1 : a < m64) (k0 : 0 ≤ b) (k1 : b < m64) (w : World) : Calls Try.prog 21 #[.int .u8 op, .int .u64 a, .int .u64 b] w (Pair (.bool (if isE op = 0 then is64 op a b else false)) (isE op) w) := by
  by_cases h : op < 17 ∨ 27 < op
  · have e : isE op = 2 := if_pos h
    rw [e]
    exact compare64_bad op a b h w
  · have e : isE op = 0 := if_neg h
    rw [if_pos e, e]
    rcases rels_of op h with rfl | rfl | rfl | rfl | rfl | rfl | rfl | rfl | rfl | rfl | rfl
    · exact compare64_17 a b h0 h1 k0 k1 w
    · exact compare64_18 a b h0 h1 k0 k1 w
    · exact compare64_19 a b h0 h1 k0 k1 w
    · exact compare64_20 a b h0 h1 k0 k1 w
    · exact compare64_21 a b h0 h1 k0 k1 w
    · exact compare64_22 a b h0 h1 k0 k1 w
    · exact compare64_23 a b h0 h1 k0 k1 w
    · exact compare64_24 a b h0 h1 k0 k1 w
    · exact compare64_25 a b h0 h1 k0 k1 w
    · exact compare64_26 a b h0 h1 k0 k1 w
    · exact compare64_27 a b h0 h1 k0 k1 w

set_option maxHeartbeats 400000 in
theorem aluDo (op : Int) (narrow : Bool) (a b : Int) (h0 : 0 ≤ a) (h1 : a < m64) (k0 : 0 ≤ b) (k1 : b < m64) (w : World) : Calls Try.prog 9 #[.int .u8 op, .bool narrow, .int .u64 a, .int .u64 b] w (Pair (.int .u64 (doV op narrow a b)) (doE op narrow b) w) := by
  cases narrow
  · have HC : ∀ w, Calls Try.prog 16 #[.int .u8 op, .int .u64 a, .int .u64 b] w (Pair (.int .u64 (doV op false a b)) (doE op false b) w) := fun w => reckon64_any op a b h0 h1 k0 k1 w
    generalize doV op false a b = z at *
    generalize doE op false b = er at *
    have HR := Lib.hid HC
    clear HC
    go_enter Try.func9, Try.ntmps9
    go_wp2_with (go_at_call 16; refine (HR.out _).mono ?_; rintro e w' ⟨rfl, hb0⟩; have hbel := Lib.hid hb0; clear hb0)
    go_ret2
    exact ⟨rfl, hbel.out⟩
  · have r := doV_narrow op a b
    have ra := range32 a
    have rb := range32 b
    have HC : ∀ w, Calls Try.prog 15 #[.int .u8 op, .int .u32 (a % m32), .int .u32 (b % m32)] w (Pair (.int .u32 (doV op true a b)) (doE op true b) w) := fun w => reckon32_any op (a % m32) (b % m32) ra.1 ra.2 rb.1 rb.2 w
    generalize doV op true a b = z at *
    generalize doE op true b = er at *
    have HR := Lib.hid HC
    obtain ⟨r0, r1⟩ := r
    clear HC ra rb
    unfold m32 at r1
    go_enter Try.func9, Try.ntmps9
    go_wp2_with (go_at_call 15; refine (HR.out _).mono ?_; rintro e w' ⟨rfl, hb0⟩; have hbel := Lib.hid hb0; clear hb0)
    go_ret2
    exact ⟨rfl, hbel.out⟩
set_option maxHeartbeats 400000 in
theorem aluIs (op : Int) (narrow : Bool) (a b : Int) (h0 : 0 ≤ a) (h1 : a < m64) (k0 : 0 ≤ b) (k1 : b < m64) (w : World) : Calls Try.prog 11 #[.int .u8 op, .bool narrow, .int .u64 a, .int .u64 b] w (Pair (.bool (isV op narrow a b)) (isE op) w) := by
  cases narrow
  · have HC : ∀ w, Calls Try.prog 21 #[.int .u8 op, .int .u64 a, .int .u64 b] w (Pair (.bool (isV op false a b)) (isE op) w) := fun w => compare64_any op a b h0 h1 k0 k1 w
    generalize isV op false a b = z at *
    generalize isE op = er at *
    have HR := Lib.hid HC
    clear HC
    go_enter Try.func11, Try.ntmps11
    go_wp2_with (go_at_call 21; refine (HR.out _).mono ?_; rintro e w' ⟨rfl, hb0⟩; have hbel := Lib.hid hb0; clear hb0)
    go_ret2
    exact ⟨rfl, hbel.out⟩
  · have ra := range32 a
    have rb := range32 b
    have HC : ∀ w, Calls Try.prog 20 #[.int .u8 op, .int .u32 (a % m32), .int .u32 (b % m32)] w (Pair (.bool (isV op true a b)) (isE op) w) := fun w => compare32_any op (a % m32) (b % m32) ra.1 ra.2 rb.1 rb.2 w
    generalize isV op true a b = z at *
    generalize isE op = er at *
    have HR := Lib.hid HC
    clear HC ra rb
    go_enter Try.func11, Try.ntmps11
    go_wp2_with (go_at_call 20; refine (HR.out _).mono ?_; rintro e w' ⟨rfl, hb0⟩; have hbel := Lib.hid hb0; clear hb0)
    go_ret2
    exact ⟨rfl, hbel.out⟩
theorem aluWide (n : Int) (w : World) : Calls Try.prog 13 #[.int .i64 n] w fun e w' => w = w' ∧ e = .returned (.int .u64 (n % m64)) := by
  go_enter Try.func13, Try.ntmps13
  go_wp2
  go_ret
  exact ⟨rfl, rfl⟩
end Go.Proofs.Ytlggmfbmaoajcaa
