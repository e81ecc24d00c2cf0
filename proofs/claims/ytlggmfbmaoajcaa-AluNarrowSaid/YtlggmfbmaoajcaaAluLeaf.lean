/- Contracts of the operators, the relations, width and signed of package alu: each returns what it says, and turns nothing. -/
import Derived.Test.YtlggmfbmaoajcaaRows
import Derived.Test.YtlggmfbmaoajcaaAluSpec
import Derived.WalkKit
import Derived.ProofKit
import Derived.OpenShut
import Derived.Outline
import Derived.Laws.Shifts
import Derived.Laws.ShiftsVar
import Derived.Laws.ShiftsVarLaws
import Derived.Laws.BitsLemmas
import Derived.Deep.QuietTactic
import Derived.BigQuiet
namespace Go.Proofs.Ytlggmfbmaoajcaa
open Go.RowKit
set_option linter.unusedVariables false
theorem ret_int {k : IntKind} {a b : Int} (h : a = b) : Ending.returned (.int k a) = .returned (.int k b) := by rw [h]
theorem ret_bool {a b : Bool} (h : a = b) : Ending.returned (.bool a) = .returned (.bool b) := by rw [h]
/-- e returns v; the world has not turned. -/
def Gives (v : Value) (w : World) (e : Ending) (w' : World) : Prop := w = w' ∧ e = .returned v

theorem ones32 (w : World) : Calls Try.prog 78 #[.int .u64 4294967295] w fun e w' => w = w' ∧ e = .returned (.int .i64 32) := by
  go_enter Try.func78, Try.ntmps78
  go_wp2
  go_ret
  exact ⟨rfl, ret_int (by decide +kernel)⟩
theorem width32 (w : World) : Calls Try.prog 26 #[] w fun e w' => w = w' ∧ e = .returned (.int .i64 32) := by
  go_enter Try.func26, Try.ntmps26
  go_wp2_with (go_at_call 78; refine (ones32 _).mono ?_; rintro e w' ⟨rfl, rfl⟩)
  go_ret
  exact ⟨rfl, rfl⟩
theorem signed32 (a : Int) (h0 : 0 ≤ a) (h1 : a < m32) (w : World) : Calls Try.prog 38 #[.int .u32 a] w fun e w' => w = w' ∧ e = .returned (.int .i64 (sgn32 a)) := by
  have h1' : a < m32 := h1
  unfold m32 at h1'
  go_enter Try.func38, Try.ntmps38
  go_wp2_with (go_at_call 26; refine (width32 _).mono ?_; rintro e w' ⟨rfl, rfl⟩)
  go_ret
  exact ⟨rfl, ret_int (sgn32_of a h0 h1)⟩

theorem oAdd32 (a b : Int) (h0 : 0 ≤ a) (h1 : a < m32) (k0 : 0 ≤ b) (k1 : b < m32) (w : World) : Calls Try.prog 27 #[.int .u32 a, .int .u32 b] w fun e w' => w = w' ∧ e = .returned (.int .u32 (dAdd m32 a b)) := by
  have h1' : a < m32 := h1
  have k1' : b < m32 := k1
  unfold m32 at h1' k1'
  go_enter Try.func27, Try.ntmps27
  go_wp2
  go_ret
  exact ⟨rfl, ret_int rfl⟩

theorem oSub32 (a b : Int) (h0 : 0 ≤ a) (h1 : a < m32) (k0 : 0 ≤ b) (k1 : b < m32) (w : World) : Calls Try.prog 28 #[.int .u32 a, .int .u32 b] w fun e w' => w = w' ∧ e = .returned (.int .u32 (dSub m32 a b)) := by
  have h1' : a < m32 := h1
  have k1' : b < m32 := k1
  unfold m32 at h1' k1'
  go_enter Try.func28, Try.ntmps28
  go_wp2
  go_ret
  exact ⟨rfl, ret_int rfl⟩

theorem oMul32 (a b : Int) (h0 : 0 ≤ a) (h1 : a < m32) (k0 : 0 ≤ b) (k1 : b < m32) (w : World) : Calls Try.prog 29 #[.int .u32 a, .int .u32 b] w fun e w' => w = w' ∧ e = .returned (.int .u32 (dMul m32 a b)) := by
  have h1' : a < m32 := h1
  have k1' : b < m32 := k1
  unfold m32 at h1' k1'
  go_enter Try.func29, Try.ntmps29
  go_wp2
  go_ret
  exact ⟨rfl, ret_int rfl⟩

theorem oDiv32 (a b : Int) (h0 : 0 ≤ a) (h1 : a < m32) (k0 : 0 ≤ b) (k1 : b < m32) (hn : b ≠ 0) (w : World) : Calls Try.prog 30 #[.int .u32 a, .int .u32 b] w fun e w' => w = w' ∧ e = .returned (.int .u32 (dDiv a b)) := by
  have hz : (b == 0) = false := by simpa using hn
  have h1' : a < m32 := h1
  have k1' : b < m32 := k1
  unfold m32 at h1' k1'
  go_enter Try.func30, Try.ntmps30
  go_wp2
  go_ret
  exact ⟨rfl, ret_int rfl⟩

theorem oMod32 (a b : Int) (h0 : 0 ≤ a) (h1 : a < m32) (k0 : 0 ≤ b) (k1 : b < m32) (hn : b ≠ 0) (w : World) : Calls Try.prog 31 #[.int .u32 a, .int .u32 b] w fun e w' => w = w' ∧ e = .returned (.int .u32 (dMod a b)) := by
  have hz : (b == 0) = false := by simpa using hn
  have h1' : a < m32 := h1
  have k1' : b < m32 := k1
  unfold m32 at h1' k1'
  go_enter Try.func31, Try.ntmps31
  go_wp2
  go_ret
  exact ⟨rfl, ret_int rfl⟩

theorem oAnd32 (a b : Int) (h0 : 0 ≤ a) (h1 : a < m32) (k0 : 0 ≤ b) (k1 : b < m32) (w : World) : Calls Try.prog 32 #[.int .u32 a, .int .u32 b] w fun e w' => w = w' ∧ e = .returned (.int .u32 (bits .and .u32 a b)) := by
  have h1' : a < m32 := h1
  have k1' : b < m32 := k1
  unfold m32 at h1' k1'
  go_enter Try.func32, Try.ntmps32
  go_wp2
  go_ret
  exact ⟨rfl, ret_int rfl⟩

theorem oOr32 (a b : Int) (h0 : 0 ≤ a) (h1 : a < m32) (k0 : 0 ≤ b) (k1 : b < m32) (w : World) : Calls Try.prog 33 #[.int .u32 a, .int .u32 b] w fun e w' => w = w' ∧ e = .returned (.int .u32 (bits .or .u32 a b)) := by
  have h1' : a < m32 := h1
  have k1' : b < m32 := k1
  unfold m32 at h1' k1'
  go_enter Try.func33, Try.ntmps33
  go_wp2
  go_ret
  exact ⟨rfl, ret_int rfl⟩

theorem oXor32 (a b : Int) (h0 : 0 ≤ a) (h1 : a < m32) (k0 : 0 ≤ b) (k1 : b < m32) (w : World) : Calls Try.prog 34 #[.int .u32 a, .int .u32 b] w fun e w' => w = w' ∧ e = .returned (.int .u32 (bits .xor .u32 a b)) := by
  have h1' : a < m32 := h1
  have k1' : b < m32 := k1
  unfold m32 at h1' k1'
  go_enter Try.func34, Try.ntmps34
  go_wp2
  go_ret
  exact ⟨rfl, ret_int rfl⟩

theorem oShl32 (a b : Int) (h0 : 0 ≤ a) (h1 : a < m32) (k0 : 0 ≤ b) (k1 : b < m32) (c : Addr)  (w : World) (hc : w.cell? c = some (.int .u32 32)) : Calls Try.prog 35 #[.int .u32 a, .int .u32 b, .pointer (some c)] w fun e w' => w = w' ∧ e = .returned (.int .u32 (dShl m32 32 a b)) := by
  have h1' : a < m32 := h1
  have k1' : b < m32 := k1
  unfold m32 at h1' k1'
  go_enter Try.func35, Try.ntmps35
  go_wp2
  go_ret
  exact ⟨rfl, ret_int rfl⟩

theorem oShr32 (a b : Int) (h0 : 0 ≤ a) (h1 : a < m32) (k0 : 0 ≤ b) (k1 : b < m32) (c : Addr)  (w : World) (hc : w.cell? c = some (.int .u32 32)) : Calls Try.prog 36 #[.int .u32 a, .int .u32 b, .pointer (some c)] w fun e w' => w = w' ∧ e = .returned (.int .u32 (dShr 32 a b)) := by
  have h1' : a < m32 := h1
  have k1' : b < m32 := k1
  unfold m32 at h1' k1'
  go_enter Try.func36, Try.ntmps36
  go_wp2
  go_ret
  exact ⟨rfl, ret_int rfl⟩

theorem oSar32 (a b : Int) (h0 : 0 ≤ a) (h1 : a < m32) (k0 : 0 ≤ b) (k1 : b < m32) (c : Addr)  (w : World) (hc : w.cell? c = some (.int .u32 32)) : Calls Try.prog 37 #[.int .u32 a, .int .u32 b, .pointer (some c)] w fun e w' => (∃ n, w' = w.drewN n) ∧ e = .returned (.int .u32 (dSar m32 (sgn32 a) 32 b)) := by
  have h1' : a < m32 := h1
  have k1' : b < m32 := k1
  unfold m32 at h1' k1'
  go_enter Try.func37, Try.ntmps37
  go_wp2
  go_quiet ((go_at_call 38; exact Calls.quiet_of_same ((signed32 a h0 h1 _).mono fun _ _ h => ⟨h.2, h.1.symm⟩)))
  go_wp2
  go_ret
  exact ⟨⟨_, rfl⟩, ret_int rfl⟩

theorem oMov32 (a b : Int) (h0 : 0 ≤ a) (h1 : a < m32) (k0 : 0 ≤ b) (k1 : b < m32) (w : World) : Calls Try.prog 39 #[.int .u32 a, .int .u32 b] w fun e w' => w = w' ∧ e = .returned (.int .u32 (b)) := by
  have h1' : a < m32 := h1
  have k1' : b < m32 := k1
  unfold m32 at h1' k1'
  go_enter Try.func39, Try.ntmps39
  go_wp2
  go_ret
  exact ⟨rfl, ret_int rfl⟩

theorem oNeg32 (a b : Int) (h0 : 0 ≤ a) (h1 : a < m32) (k0 : 0 ≤ b) (k1 : b < m32) (w : World) : Calls Try.prog 40 #[.int .u32 a, .int .u32 b] w fun e w' => w = w' ∧ e = .returned (.int .u32 (dNeg m32 a)) := by
  have h1' : a < m32 := h1
  have k1' : b < m32 := k1
  unfold m32 at h1' k1'
  go_enter Try.func40, Try.ntmps40
  go_wp2
  go_ret
  exact ⟨rfl, ret_int rfl⟩

theorem rEq32 (a b : Int) (h0 : 0 ≤ a) (h1 : a < m32) (k0 : 0 ≤ b) (k1 : b < m32) (w : World) : Calls Try.prog 56 #[.int .u32 a, .int .u32 b] w fun e w' => w = w' ∧ e = .returned (.bool (decide (a = b))) := by
  have h1' : a < m32 := h1
  have k1' : b < m32 := k1
  unfold m32 at h1' k1'
  go_enter Try.func56, Try.ntmps56
  go_wp2
  go_ret
  exact ⟨rfl, rfl⟩

theorem rNe32 (a b : Int) (h0 : 0 ≤ a) (h1 : a < m32) (k0 : 0 ≤ b) (k1 : b < m32) (w : World) : Calls Try.prog 57 #[.int .u32 a, .int .u32 b] w fun e w' => w = w' ∧ e = .returned (.bool (!decide (a = b))) := by
  have h1' : a < m32 := h1
  have k1' : b < m32 := k1
  unfold m32 at h1' k1'
  go_enter Try.func57, Try.ntmps57
  go_wp2
  go_ret
  exact ⟨rfl, rfl⟩

theorem rGt32 (a b : Int) (h0 : 0 ≤ a) (h1 : a < m32) (k0 : 0 ≤ b) (k1 : b < m32) (w : World) : Calls Try.prog 58 #[.int .u32 a, .int .u32 b] w fun e w' => w = w' ∧ e = .returned (.bool (decide (b < a))) := by
  have h1' : a < m32 := h1
  have k1' : b < m32 := k1
  unfold m32 at h1' k1'
  go_enter Try.func58, Try.ntmps58
  go_wp2
  go_ret
  exact ⟨rfl, rfl⟩

theorem rGe32 (a b : Int) (h0 : 0 ≤ a) (h1 : a < m32) (k0 : 0 ≤ b) (k1 : b < m32) (w : World) : Calls Try.prog 59 #[.int .u32 a, .int .u32 b] w fun e w' => w = w' ∧ e = .returned (.bool (decide (b ≤ a))) := by
  have h1' : a < m32 := h1
  have k1' : b < m32 := k1
  unfold m32 at h1' k1'
  go_enter Try.func59, Try.ntmps59
  go_wp2
  go_ret
  exact ⟨rfl, rfl⟩

theorem rLt32 (a b : Int) (h0 : 0 ≤ a) (h1 : a < m32) (k0 : 0 ≤ b) (k1 : b < m32) (w : World) : Calls Try.prog 60 #[.int .u32 a, .int .u32 b] w fun e w' => w = w' ∧ e = .returned (.bool (decide (a < b))) := by
  have h1' : a < m32 := h1
  have k1' : b < m32 := k1
  unfold m32 at h1' k1'
  go_enter Try.func60, Try.ntmps60
  go_wp2
  go_ret
  exact ⟨rfl, rfl⟩

theorem rLe32 (a b : Int) (h0 : 0 ≤ a) (h1 : a < m32) (k0 : 0 ≤ b) (k1 : b < m32) (w : World) : Calls Try.prog 61 #[.int .u32 a, .int .u32 b] w fun e w' => w = w' ∧ e = .returned (.bool (decide (a ≤ b))) := by
  have h1' : a < m32 := h1
  have k1' : b < m32 := k1
  unfold m32 at h1' k1'
  go_enter Try.func61, Try.ntmps61
  go_wp2
  go_ret
  exact ⟨rfl, rfl⟩

theorem rSgt32 (a b : Int) (h0 : 0 ≤ a) (h1 : a < m32) (k0 : 0 ≤ b) (k1 : b < m32) (w : World) : Calls Try.prog 62 #[.int .u32 a, .int .u32 b] w fun e w' => w = w' ∧ e = .returned (.bool (decide (sgn32 b < sgn32 a))) := by
  have h1' : a < m32 := h1
  have k1' : b < m32 := k1
  unfold m32 at h1' k1'
  go_enter Try.func62, Try.ntmps62
  go_wp2_with (go_at_call 38; refine (signed32 _ (by assumption) (by assumption) _).mono ?_; rintro e w' ⟨rfl, rfl⟩)
  go_ret
  exact ⟨rfl, rfl⟩

theorem rSge32 (a b : Int) (h0 : 0 ≤ a) (h1 : a < m32) (k0 : 0 ≤ b) (k1 : b < m32) (w : World) : Calls Try.prog 63 #[.int .u32 a, .int .u32 b] w fun e w' => w = w' ∧ e = .returned (.bool (decide (sgn32 b ≤ sgn32 a))) := by
  have h1' : a < m32 := h1
  have k1' : b < m32 := k1
  unfold m32 at h1' k1'
  go_enter Try.func63, Try.ntmps63
  go_wp2_with (go_at_call 38; refine (signed32 _ (by assumption) (by assumption) _).mono ?_; rintro e w' ⟨rfl, rfl⟩)
  go_ret
  exact ⟨rfl, rfl⟩

theorem rSlt32 (a b : Int) (h0 : 0 ≤ a) (h1 : a < m32) (k0 : 0 ≤ b) (k1 : b < m32) (w : World) : Calls Try.prog 64 #[.int .u32 a, .int .u32 b] w fun e w' => w = w' ∧ e = .returned (.bool (decide (sgn32 a < sgn32 b))) := by
  have h1' : a < m32 := h1
  have k1' : b < m32 := k1
  unfold m32 at h1' k1'
  go_enter Try.func64, Try.ntmps64
  go_wp2_with (go_at_call 38; refine (signed32 _ (by assumption) (by assumption) _).mono ?_; rintro e w' ⟨rfl, rfl⟩)
  go_ret
  exact ⟨rfl, rfl⟩

theorem rSle32 (a b : Int) (h0 : 0 ≤ a) (h1 : a < m32) (k0 : 0 ≤ b) (k1 : b < m32) (w : World) : Calls Try.prog 65 #[.int .u32 a, .int .u32 b] w fun e w' => w = w' ∧ e = .returned (.bool (decide (sgn32 a ≤ sgn32 b))) := by
  have h1' : a < m32 := h1
  have k1' : b < m32 := k1
  unfold m32 at h1' k1'
  go_enter Try.func65, Try.ntmps65
  go_wp2_with (go_at_call 38; refine (signed32 _ (by assumption) (by assumption) _).mono ?_; rintro e w' ⟨rfl, rfl⟩)
  go_ret
  exact ⟨rfl, rfl⟩

theorem rSet32 (a b : Int) (h0 : 0 ≤ a) (h1 : a < m32) (k0 : 0 ≤ b) (k1 : b < m32) (w : World) : Calls Try.prog 66 #[.int .u32 a, .int .u32 b] w fun e w' => w = w' ∧ e = .returned (.bool (!decide (bits .and .u32 a b = 0))) := by
  have h1' : a < m32 := h1
  have k1' : b < m32 := k1
  unfold m32 at h1' k1'
  go_enter Try.func66, Try.ntmps66
  go_wp2
  go_ret
  exact ⟨rfl, rfl⟩

theorem ones64 (w : World) : Calls Try.prog 78 #[.int .u64 18446744073709551615] w fun e w' => w = w' ∧ e = .returned (.int .i64 64) := by
  go_enter Try.func78, Try.ntmps78
  go_wp2
  go_ret
  exact ⟨rfl, ret_int (by decide +kernel)⟩
theorem width64 (w : World) : Calls Try.prog 41 #[] w fun e w' => w = w' ∧ e = .returned (.int .i64 64) := by
  go_enter Try.func41, Try.ntmps41
  go_wp2_with (go_at_call 78; refine (ones64 _).mono ?_; rintro e w' ⟨rfl, rfl⟩)
  go_ret
  exact ⟨rfl, rfl⟩
theorem signed64 (a : Int) (h0 : 0 ≤ a) (h1 : a < m64) (w : World) : Calls Try.prog 53 #[.int .u64 a] w fun e w' => w = w' ∧ e = .returned (.int .i64 (sgn64 a)) := by
  have h1' : a < m64 := h1
  unfold m64 at h1'
  go_enter Try.func53, Try.ntmps53
  go_wp2_with (go_at_call 41; refine (width64 _).mono ?_; rintro e w' ⟨rfl, rfl⟩)
  go_ret
  exact ⟨rfl, ret_int (sgn64_of a h0 h1)⟩

theorem oAdd64 (a b : Int) (h0 : 0 ≤ a) (h1 : a < m64) (k0 : 0 ≤ b) (k1 : b < m64) (w : World) : Calls Try.prog 42 #[.int .u64 a, .int .u64 b] w fun e w' => w = w' ∧ e = .returned (.int .u64 (dAdd m64 a b)) := by
  have h1' : a < m64 := h1
  have k1' : b < m64 := k1
  unfold m64 at h1' k1'
  go_enter Try.func42, Try.ntmps42
  go_wp2
  go_ret
  exact ⟨rfl, ret_int rfl⟩

theorem oSub64 (a b : Int) (h0 : 0 ≤ a) (h1 : a < m64) (k0 : 0 ≤ b) (k1 : b < m64) (w : World) : Calls Try.prog 43 #[.int .u64 a, .int .u64 b] w fun e w' => w = w' ∧ e = .returned (.int .u64 (dSub m64 a b)) := by
  have h1' : a < m64 := h1
  have k1' : b < m64 := k1
  unfold m64 at h1' k1'
  go_enter Try.func43, Try.ntmps43
  go_wp2
  go_ret
  exact ⟨rfl, ret_int rfl⟩

theorem oMul64 (a b : Int) (h0 : 0 ≤ a) (h1 : a < m64) (k0 : 0 ≤ b) (k1 : b < m64) (w : World) : Calls Try.prog 44 #[.int .u64 a, .int .u64 b] w fun e w' => w = w' ∧ e = .returned (.int .u64 (dMul m64 a b)) := by
  have h1' : a < m64 := h1
  have k1' : b < m64 := k1
  unfold m64 at h1' k1'
  go_enter Try.func44, Try.ntmps44
  go_wp2
  go_ret
  exact ⟨rfl, ret_int rfl⟩

theorem oDiv64 (a b : Int) (h0 : 0 ≤ a) (h1 : a < m64) (k0 : 0 ≤ b) (k1 : b < m64) (hn : b ≠ 0) (w : World) : Calls Try.prog 45 #[.int .u64 a, .int .u64 b] w fun e w' => w = w' ∧ e = .returned (.int .u64 (dDiv a b)) := by
  have hz : (b == 0) = false := by simpa using hn
  have h1' : a < m64 := h1
  have k1' : b < m64 := k1
  unfold m64 at h1' k1'
  go_enter Try.func45, Try.ntmps45
  go_wp2
  go_ret
  exact ⟨rfl, ret_int rfl⟩

theorem oMod64 (a b : Int) (h0 : 0 ≤ a) (h1 : a < m64) (k0 : 0 ≤ b) (k1 : b < m64) (hn : b ≠ 0) (w : World) : Calls Try.prog 46 #[.int .u64 a, .int .u64 b] w fun e w' => w = w' ∧ e = .returned (.int .u64 (dMod a b)) := by
  have hz : (b == 0) = false := by simpa using hn
  have h1' : a < m64 := h1
  have k1' : b < m64 := k1
  unfold m64 at h1' k1'
  go_enter Try.func46, Try.ntmps46
  go_wp2
  go_ret
  exact ⟨rfl, ret_int rfl⟩

theorem oAnd64 (a b : Int) (h0 : 0 ≤ a) (h1 : a < m64) (k0 : 0 ≤ b) (k1 : b < m64) (w : World) : Calls Try.prog 47 #[.int .u64 a, .int .u64 b] w fun e w' => w = w' ∧ e = .returned (.int .u64 (bits .and .u64 a b)) := by
  have h1' : a < m64 := h1
  have k1' : b < m64 := k1
  unfold m64 at h1' k1'
  go_enter Try.func47, Try.ntmps47
  go_wp2
  go_ret
  exact ⟨rfl, ret_int rfl⟩

theorem oOr64 (a b : Int) (h0 : 0 ≤ a) (h1 : a < m64) (k0 : 0 ≤ b) (k1 : b < m64) (w : World) : Calls Try.prog 48 #[.int .u64 a, .int .u64 b] w fun e w' => w = w' ∧ e = .returned (.int .u64 (bits .or .u64 a b)) := by
  have h1' : a < m64 := h1
  have k1' : b < m64 := k1
  unfold m64 at h1' k1'
  go_enter Try.func48, Try.ntmps48
  go_wp2
  go_ret
  exact ⟨rfl, ret_int rfl⟩

theorem oXor64 (a b : Int) (h0 : 0 ≤ a) (h1 : a < m64) (k0 : 0 ≤ b) (k1 : b < m64) (w : World) : Calls Try.prog 49 #[.int .u64 a, .int .u64 b] w fun e w' => w = w' ∧ e = .returned (.int .u64 (bits .xor .u64 a b)) := by
  have h1' : a < m64 := h1
  have k1' : b < m64 := k1
  unfold m64 at h1' k1'
  go_enter Try.func49, Try.ntmps49
  go_wp2
  go_ret
  exact ⟨rfl, ret_int rfl⟩

theorem oShl64 (a b : Int) (h0 : 0 ≤ a) (h1 : a < m64) (k0 : 0 ≤ b) (k1 : b < m64) (c : Addr)  (w : World) (hc : w.cell? c = some (.int .u64 64)) : Calls Try.prog 50 #[.int .u64 a, .int .u64 b, .pointer (some c)] w fun e w' => w = w' ∧ e = .returned (.int .u64 (dShl m64 64 a b)) := by
  have h1' : a < m64 := h1
  have k1' : b < m64 := k1
  unfold m64 at h1' k1'
  go_enter Try.func50, Try.ntmps50
  go_wp2
  go_ret
  exact ⟨rfl, ret_int rfl⟩

theorem oShr64 (a b : Int) (h0 : 0 ≤ a) (h1 : a < m64) (k0 : 0 ≤ b) (k1 : b < m64) (c : Addr)  (w : World) (hc : w.cell? c = some (.int .u64 64)) : Calls Try.prog 51 #[.int .u64 a, .int .u64 b, .pointer (some c)] w fun e w' => w = w' ∧ e = .returned (.int .u64 (dShr 64 a b)) := by
  have h1' : a < m64 := h1
  have k1' : b < m64 := k1
  unfold m64 at h1' k1'
  go_enter Try.func51, Try.ntmps51
  go_wp2
  go_ret
  exact ⟨rfl, ret_int rfl⟩

theorem oSar64 (a b : Int) (h0 : 0 ≤ a) (h1 : a < m64) (k0 : 0 ≤ b) (k1 : b < m64) (c : Addr)  (w : World) (hc : w.cell? c = some (.int .u64 64)) : Calls Try.prog 52 #[.int .u64 a, .int .u64 b, .pointer (some c)] w fun e w' => (∃ n, w' = w.drewN n) ∧ e = .returned (.int .u64 (dSar m64 (sgn64 a) 64 b)) := by
  have h1' : a < m64 := h1
  have k1' : b < m64 := k1
  unfold m64 at h1' k1'
  go_enter Try.func52, Try.ntmps52
  go_wp2
  go_quiet ((go_at_call 53; exact Calls.quiet_of_same ((signed64 a h0 h1 _).mono fun _ _ h => ⟨h.2, h.1.symm⟩)))
  go_wp2
  go_ret
  exact ⟨⟨_, rfl⟩, ret_int rfl⟩

theorem oMov64 (a b : Int) (h0 : 0 ≤ a) (h1 : a < m64) (k0 : 0 ≤ b) (k1 : b < m64) (w : World) : Calls Try.prog 54 #[.int .u64 a, .int .u64 b] w fun e w' => w = w' ∧ e = .returned (.int .u64 (b)) := by
  have h1' : a < m64 := h1
  have k1' : b < m64 := k1
  unfold m64 at h1' k1'
  go_enter Try.func54, Try.ntmps54
  go_wp2
  go_ret
  exact ⟨rfl, ret_int rfl⟩

theorem oNeg64 (a b : Int) (h0 : 0 ≤ a) (h1 : a < m64) (k0 : 0 ≤ b) (k1 : b < m64) (w : World) : Calls Try.prog 55 #[.int .u64 a, .int .u64 b] w fun e w' => w = w' ∧ e = .returned (.int .u64 (dNeg m64 a)) := by
  have h1' : a < m64 := h1
  have k1' : b < m64 := k1
  unfold m64 at h1' k1'
  go_enter Try.func55, Try.ntmps55
  go_wp2
  go_ret
  exact ⟨rfl, ret_int rfl⟩

theorem rEq64 (a b : Int) (h0 : 0 ≤ a) (h1 : a < m64) (k0 : 0 ≤ b) (k1 : b < m64) (w : World) : Calls Try.prog 67 #[.int .u64 a, .int .u64 b] w fun e w' => w = w' ∧ e = .returned (.bool (decide (a = b))) := by
  have h1' : a < m64 := h1
  have k1' : b < m64 := k1
  unfold m64 at h1' k1'
  go_enter Try.func67, Try.ntmps67
  go_wp2
  go_ret
  exact ⟨rfl, rfl⟩

theorem rNe64 (a b : Int) (h0 : 0 ≤ a) (h1 : a < m64) (k0 : 0 ≤ b) (k1 : b < m64) (w : World) : Calls Try.prog 68 #[.int .u64 a, .int .u64 b] w fun e w' => w = w' ∧ e = .returned (.bool (!decide (a = b))) := by
  have h1' : a < m64 := h1
  have k1' : b < m64 := k1
  unfold m64 at h1' k1'
  go_enter Try.func68, Try.ntmps68
  go_wp2
  go_ret
  exact ⟨rfl, rfl⟩

theorem rGt64 (a b : Int) (h0 : 0 ≤ a) (h1 : a < m64) (k0 : 0 ≤ b) (k1 : b < m64) (w : World) : Calls Try.prog 69 #[.int .u64 a, .int .u64 b] w fun e w' => w = w' ∧ e = .returned (.bool (decide (b < a))) := by
  have h1' : a < m64 := h1
  have k1' : b < m64 := k1
  unfold m64 at h1' k1'
  go_enter Try.func69, Try.ntmps69
  go_wp2
  go_ret
  exact ⟨rfl, rfl⟩

theorem rGe64 (a b : Int) (h0 : 0 ≤ a) (h1 : a < m64) (k0 : 0 ≤ b) (k1 : b < m64) (w : World) : Calls Try.prog 70 #[.int .u64 a, .int .u64 b] w fun e w' => w = w' ∧ e = .returned (.bool (decide (b ≤ a))) := by
  have h1' : a < m64 := h1
  have k1' : b < m64 := k1
  unfold m64 at h1' k1'
  go_enter Try.func70, Try.ntmps70
  go_wp2
  go_ret
  exact ⟨rfl, rfl⟩

theorem rLt64 (a b : Int) (h0 : 0 ≤ a) (h1 : a < m64) (k0 : 0 ≤ b) (k1 : b < m64) (w : World) : Calls Try.prog 71 #[.int .u64 a, .int .u64 b] w fun e w' => w = w' ∧ e = .returned (.bool (decide (a < b))) := by
  have h1' : a < m64 := h1
  have k1' : b < m64 := k1
  unfold m64 at h1' k1'
  go_enter Try.func71, Try.ntmps71
  go_wp2
  go_ret
  exact ⟨rfl, rfl⟩

theorem rLe64 (a b : Int) (h0 : 0 ≤ a) (h1 : a < m64) (k0 : 0 ≤ b) (k1 : b < m64) (w : World) : Calls Try.prog 72 #[.int .u64 a, .int .u64 b] w fun e w' => w = w' ∧ e = .returned (.bool (decide (a ≤ b))) := by
  have h1' : a < m64 := h1
  have k1' : b < m64 := k1
  unfold m64 at h1' k1'
  go_enter Try.func72, Try.ntmps72
  go_wp2
  go_ret
  exact ⟨rfl, rfl⟩

theorem rSgt64 (a b : Int) (h0 : 0 ≤ a) (h1 : a < m64) (k0 : 0 ≤ b) (k1 : b < m64) (w : World) : Calls Try.prog 73 #[.int .u64 a, .int .u64 b] w fun e w' => w = w' ∧ e = .returned (.bool (decide (sgn64 b < sgn64 a))) := by
  have h1' : a < m64 := h1
  have k1' : b < m64 := k1
  unfold m64 at h1' k1'
  go_enter Try.func73, Try.ntmps73
  go_wp2_with (go_at_call 53; refine (signed64 _ (by assumption) (by assumption) _).mono ?_; rintro e w' ⟨rfl, rfl⟩)
  go_ret
  exact ⟨rfl, rfl⟩

theorem rSge64 (a b : Int) (h0 : 0 ≤ a) (h1 : a < m64) (k0 : 0 ≤ b) (k1 : b < m64) (w : World) : Calls Try.prog 74 #[.int .u64 a, .int .u64 b] w fun e w' => w = w' ∧ e = .returned (.bool (decide (sgn64 b ≤ sgn64 a))) := by
  have h1' : a < m64 := h1
  have k1' : b < m64 := k1
  unfold m64 at h1' k1'
  go_enter Try.func74, Try.ntmps74
  go_wp2_with (go_at_call 53; refine (signed64 _ (by assumption) (by assumption) _).mono ?_; rintro e w' ⟨rfl, rfl⟩)
  go_ret
  exact ⟨rfl, rfl⟩

theorem rSlt64 (a b : Int) (h0 : 0 ≤ a) (h1 : a < m64) (k0 : 0 ≤ b) (k1 : b < m64) (w : World) : Calls Try.prog 75 #[.int .u64 a, .int .u64 b] w fun e w' => w = w' ∧ e = .returned (.bool (decide (sgn64 a < sgn64 b))) := by
  have h1' : a < m64 := h1
  have k1' : b < m64 := k1
  unfold m64 at h1' k1'
  go_enter Try.func75, Try.ntmps75
  go_wp2_with (go_at_call 53; refine (signed64 _ (by assumption) (by assumption) _).mono ?_; rintro e w' ⟨rfl, rfl⟩)
  go_ret
  exact ⟨rfl, rfl⟩

theorem rSle64 (a b : Int) (h0 : 0 ≤ a) (h1 : a < m64) (k0 : 0 ≤ b) (k1 : b < m64) (w : World) : Calls Try.prog 76 #[.int .u64 a, .int .u64 b] w fun e w' => w = w' ∧ e = .returned (.bool (decide (sgn64 a ≤ sgn64 b))) := by
  have h1' : a < m64 := h1
  have k1' : b < m64 := k1
  unfold m64 at h1' k1'
  go_enter Try.func76, Try.ntmps76
  go_wp2_with (go_at_call 53; refine (signed64 _ (by assumption) (by assumption) _).mono ?_; rintro e w' ⟨rfl, rfl⟩)
  go_ret
  exact ⟨rfl, rfl⟩

theorem rSet64 (a b : Int) (h0 : 0 ≤ a) (h1 : a < m64) (k0 : 0 ≤ b) (k1 : b < m64) (w : World) : Calls Try.prog 77 #[.int .u64 a, .int .u64 b] w fun e w' => w = w' ∧ e = .returned (.bool (!decide (bits .and .u64 a b = 0))) := by
  have h1' : a < m64 := h1
  have k1' : b < m64 := k1
  unfold m64 at h1' k1'
  go_enter Try.func77, Try.ntmps77
  go_wp2
  go_ret
  exact ⟨rfl, rfl⟩

end Go.Proofs.Ytlggmfbmaoajcaa
