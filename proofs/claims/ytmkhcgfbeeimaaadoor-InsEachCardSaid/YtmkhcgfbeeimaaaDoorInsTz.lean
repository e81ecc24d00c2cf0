/- The program: trailing noughts of a size, from the table that is laid. -/
import Derived.Test.YtmkhcgfbeeimaaaDoorInsRight
namespace Go.Proofs.YtmkhcgfbeeimaaaDoor
open Go.RowKit
set_option linter.unusedVariables false
set_option linter.unusedSimpArgs false
set_option maxRecDepth 100000

/-- What is wanted of the table. -/
structure Tab (w : World) : Prop where
  lt : 1 < w.heap.size
  c0 : w.cell? ⟨1, 0, none⟩ = some (.int .u8 0)
  c1 : w.cell? ⟨1, 1, none⟩ = some (.int .u8 1)
  c3 : w.cell? ⟨1, 3, none⟩ = some (.int .u8 2)
  c7 : w.cell? ⟨1, 7, none⟩ = some (.int .u8 3)
theorem Tab.past {w w' : World} (h : Tab w) (hb : Below w.heap.size w w') : Tab w' := ⟨Nat.lt_of_lt_of_le h.lt hb.size, cellP h.c0 hb, cellP h.c1 hb, cellP h.c3 hb, cellP h.c7 hb⟩
theorem Tab.alloc {w : World} (h : Tab w) (o : Obj) : Tab (w.alloc o) := h.past (alloc_below w o)
def tz (n : Int) : Int := if n = 2 then 1 else if n = 4 then 2 else if n = 8 then 3 else 0

set_option maxHeartbeats 4000000 in
theorem tz64_at (n : Int) (k : Nat) (r : Int) (hn : 0 < n) (e1 : bits BinOp.and IntKind.u64 n (IntKind.u64.wrap (-n)) = n) (e2 : IntKind.u64.wrap (n * 285870213051353865) / 288230376151711744 = (k : Int)) (hk : k < 64) (w : World) (hc : w.cell? ⟨1, k, none⟩ = some (.int .u8 r)) (hr : IntKind.i64.wrap r = r) :
    Calls Tryd.prog 46 #[.int .u64 n] w fun e w' => e = .returned (.int .i64 r) ∧ w' = w := by
  have d0 : decide (n = 0) = false := by simp; omega
  have d1 : (k : Int) < 64 := by omega
  have d2 : 0 ≤ (k : Int) := by omega
  have d3 : ((k : Int)).toNat = k := by omega
  go_enter Tryd.func46, Tryd.ntmps46
  go_wp2_with fail
  go_ret
  exact ⟨rfl, rfl⟩
theorem tz64 (n : Int) (hn : n = 1 ∨ n = 2 ∨ n = 4 ∨ n = 8) (w : World) (T : Tab w) : Calls Tryd.prog 46 #[.int .u64 n] w fun e w' => e = .returned (.int .i64 (tz n)) ∧ w' = w := by
  rcases hn with rfl | rfl | rfl | rfl
  · exact tz64_at 1 0 0 (by decide) (by decide +kernel) (by decide +kernel) (by decide) w T.c0 (by decide)
  · exact tz64_at 2 1 1 (by decide) (by decide +kernel) (by decide +kernel) (by decide) w T.c1 (by decide)
  · exact tz64_at 4 3 2 (by decide) (by decide +kernel) (by decide +kernel) (by decide) w T.c3 (by decide)
  · exact tz64_at 8 7 3 (by decide) (by decide +kernel) (by decide +kernel) (by decide) w T.c7 (by decide)

set_option maxHeartbeats 4000000 in
theorem tzOf (n : Int) (hn : n = 1 ∨ n = 2 ∨ n = 4 ∨ n = 8) (w : World) (T : Tab w) : Calls Tryd.prog 44 #[.int .u64 n] w fun e w' => e = .returned (.int .i64 (tz n)) ∧ w' = w := by
  have H := Lib.hid (tz64 n hn w T)
  have hw : IntKind.u64.wrap n = n := by rcases hn with rfl | rfl | rfl | rfl <;> decide +kernel
  clear T hn
  go_enter Tryd.func44, Tryd.ntmps44
  go_wp2_with fail
  refine (H.out).mono ?_; rintro e w1 ⟨rfl, rfl⟩
  go_wp2_with fail
  go_ret
  exact ⟨rfl, rfl⟩
end Go.Proofs.YtmkhcgfbeeimaaaDoor
