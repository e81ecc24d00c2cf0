/- The digest with its shape; three rows that lie apart. -/
import Derived.Test.YtknkmblacaaegaaDoorShaSum
namespace Go.Proofs.YtknkmblacaaegaaDoor
open Go.RowKit
set_option linter.unusedVariables false
set_option linter.unusedSimpArgs false
set_option maxRecDepth 100000

/-- e returns v; nothing that was there has turned. -/
def Gives (v : Value) (w : World) (e : Ending) (w' : World) : Prop := e = .returned v ∧ Below w.heap.size w w'
/-- The digest, with its shape. -/
theorem shaSum32 (v : Value) (l : List Int) (w : World) (T : Tabs w) (h : Bs w v l) (ho : Oct l) (hl : l.length ≤ 50000) :
    Calls Tryd.prog 17 #[v] w fun e w' => Shaped 32 (digest l) w e w' :=
  (shaSum v l w T h ho hl).mono fun e w' h => h.shaped (digest_length l)

theorem bs_text (w : World) (l : List Int) (h : l.length ≤ 1000) (fr : Nat × Nat) : Bs (w.alloc (.cells (bv l).toArray 5 fr)) (.slice (some ⟨w.heap.size, 0, none⟩) l.length l.length) l :=
  Bs.mk (Nat.le_refl _) (by unfold maxLen; omega) fun j hj => by
    rw [cell_of_row _ w.heap.size (0 + j) (bv l).toArray 5 fr (heap_alloc_new w _)]
    have := bv_get hj
    simpa using this

def nums3 (a b c : Nat) (j : Nat) : Nat := [a, b, c].getD j 0
/-- Three rows; the last was made first. -/
theorem apartThree {W : World} {B lo1 hi1 lo2 hi2 lo3 hi3 : Nat} {v1 v2 v3 : Value} {x1 x2 x3 : List Int} (r1 : Row W lo1 hi1 v1 x1) (r2 : Row W lo2 hi2 v2 x2) (r3 : Row W lo3 hi3 v3 x3)
    (b : B ≤ lo3) (o3 : hi3 ≤ lo1) (o1 : hi1 ≤ lo2) : Rowy W B (vth [v1, v2, v3]) 3 (nums3 x1.length x2.length x3.length) := by
  have m1 := r1.2.2.2
  have m2 := r2.2.2.2
  have m3 := r3.2.2.2
  have key : ∀ j, j < 3 → ∃ lo hi l, Row W lo hi (vth [v1, v2, v3] j) l ∧ l.length = nums3 x1.length x2.length x3.length j ∧ B ≤ lo ∧
      (j = 0 → lo = lo1 ∧ hi = hi1) ∧ (j = 1 → lo = lo2 ∧ hi = hi2) ∧ (j = 2 → lo = lo3 ∧ hi = hi3) := fun j hj => by
    match j, hj with
    | 0, _ => exact ⟨lo1, hi1, x1, r1, rfl, by omega, by simp⟩
    | 1, _ => exact ⟨lo2, hi2, x2, r2, rfl, by omega, by simp⟩
    | 2, _ => exact ⟨lo3, hi3, x3, r3, rfl, by omega, by simp⟩
  refine ⟨fun j hj => ?_, fun i j hi hj hne Y ha hb => ?_⟩
  · obtain ⟨lo, hi, l, hr, hl, hB, _⟩ := key j hj
    exact ⟨l, hl, hr.1.mono hB⟩
  · obtain ⟨lo, hi', l, hr, _, _, c0, c1, c2⟩ := key i hi
    obtain ⟨lo', hi'', l', hr', _, _, d0, d1, d2⟩ := key j hj
    have e1 := (hr.1.lt Y ha).1
    have e2 := hr.2.1 Y ha
    have e3 := (hr'.1.lt Y hb).1
    have e4 := hr'.2.1 Y hb
    omega

end Go.Proofs.YtknkmblacaaegaaDoor
