/- What undoes what: the plain facts on the answers of Do and Is. -/
import Derived.Test.YtlggmfbmaoajcaaAluAns
namespace Go.Proofs.Ytlggmfbmaoajcaa
open Go.RowKit
set_option linter.unusedVariables false
theorem e_plain (op : Int) (nar : Bool) (b : Int) (h : op = 1 ∨ op = 2 ∨ op = 3 ∨ op = 13) : doE op nar b = 0 := by
  cases nar
  · rw [doE_false]; exact rkE_ok (by omega) (by omega)
  · rw [doE_true]; exact rkE_ok (by omega) (by omega)
theorem e_nought (op : Int) (nar : Bool) (b : Int) (h : op = 4 ∨ op = 5) (hb : cutI nar b = 0) : doE op nar b = 113 := by
  cases nar
  · rw [doE_false, show b = 0 from hb]; exact rkE_zero h
  · rw [doE_true, show b % m32 = 0 from hb]; exact rkE_zero h
theorem e_quot (op : Int) (nar : Bool) (b : Int) (h : op = 4 ∨ op = 5) (hb : cutI nar b ≠ 0) : doE op nar b = 0 := by
  cases nar
  · rw [doE_false]; exact rkE_ok (by omega) (fun g => hb g.2)
  · rw [doE_true]; exact rkE_ok (by omega) (fun g => hb g.2)
def modI (nar : Bool) : Int := if nar then m32 else m64
theorem v_wide (op a b : Int) (h : doE op false b = 0) : doV op false a b = do64 op a b := if_pos h
theorem v_narrow (op a b : Int) (h : doE op true b = 0) : doV op true a b = do32 op (a % m32) (b % m32) := if_pos h
theorem cut_range (nar : Bool) (a : Int) (h0 : 0 ≤ a) (h1 : a < m64) : 0 ≤ cutI nar a ∧ cutI nar a < modI nar := by
  cases nar
  · exact ⟨h0, h1⟩
  · exact range32 a
theorem v1 (nar : Bool) (a b : Int) : doV 1 nar a b = (cutI nar a + cutI nar b) % modI nar := by
  have h := e_plain 1 nar b (by omega)
  cases nar
  · rw [v_wide 1 a b h]; rfl
  · rw [v_narrow 1 a b h]; rfl
theorem v2 (nar : Bool) (a b : Int) : doV 2 nar a b = (cutI nar a - cutI nar b) % modI nar := by
  have h := e_plain 2 nar b (by omega)
  cases nar
  · rw [v_wide 2 a b h]; rfl
  · rw [v_narrow 2 a b h]; rfl
theorem v3 (nar : Bool) (a b : Int) : doV 3 nar a b = cutI nar a * cutI nar b % modI nar := by
  have h := e_plain 3 nar b (by omega)
  cases nar
  · rw [v_wide 3 a b h]; rfl
  · rw [v_narrow 3 a b h]; rfl
theorem v4 (nar : Bool) (a b : Int) (hb : cutI nar b ≠ 0) : doV 4 nar a b = cutI nar a / cutI nar b := by
  have h := e_quot 4 nar b (by omega) hb
  cases nar
  · rw [v_wide 4 a b h]; rfl
  · rw [v_narrow 4 a b h]; rfl
theorem v5 (nar : Bool) (a b : Int) (hb : cutI nar b ≠ 0) : doV 5 nar a b = cutI nar a % cutI nar b := by
  have h := e_quot 5 nar b (by omega) hb
  cases nar
  · rw [v_wide 5 a b h]; rfl
  · rw [v_narrow 5 a b h]; rfl
theorem v13 (nar : Bool) (a b : Int) : doV 13 nar a b = (-cutI nar a) % modI nar := by
  have h := e_plain 13 nar b (by omega)
  cases nar
  · rw [v_wide 13 a b h]; rfl
  · rw [v_narrow 13 a b h]; rfl
theorem mod_pos (nar : Bool) : 0 < modI nar := by cases nar <;> decide
theorem cut_small (nar : Bool) (z : Int) (h0 : 0 ≤ z) (h1 : z < modI nar) : cutI nar z = z := by
  cases nar
  · rfl
  · exact Int.emod_eq_of_lt h0 h1
theorem cut_mod (nar : Bool) (z : Int) : cutI nar (z % modI nar) = z % modI nar :=
  cut_small nar _ (Int.emod_nonneg _ (by have := mod_pos nar; omega)) (Int.emod_lt_of_pos _ (mod_pos nar))
theorem undo_add (nar : Bool) (a b : Int) (h0 : 0 ≤ a) (h1 : a < m64) : doV 2 nar (doV 1 nar a b) b = cutI nar a := by
  obtain ⟨x0, x1⟩ := cut_range nar a h0 h1
  rw [v2, v1, cut_mod, Int.sub_emod, Int.emod_emod, ← Int.sub_emod, Int.add_sub_cancel]
  exact Int.emod_eq_of_lt x0 x1
theorem undo_neg (nar : Bool) (a b c : Int) (h0 : 0 ≤ a) (h1 : a < m64) : doV 1 nar (doV 1 nar a b) (doV 13 nar b c) = cutI nar a := by
  obtain ⟨x0, x1⟩ := cut_range nar a h0 h1
  rw [v1, v1, v13, cut_mod, cut_mod, ← Int.add_emod, show cutI nar a + cutI nar b + -cutI nar b = cutI nar a from by omega]
  exact Int.emod_eq_of_lt x0 x1
theorem undo_div (nar : Bool) (a b : Int) (h0 : 0 ≤ a) (h1 : a < m64) (k0 : 0 ≤ b) (k1 : b < m64) (hb : cutI nar b ≠ 0) :
    doV 1 nar (doV 3 nar (doV 4 nar a b) b) (doV 5 nar a b) = cutI nar a ∧ doV 5 nar a b < cutI nar b := by
  obtain ⟨x0, x1⟩ := cut_range nar a h0 h1
  obtain ⟨y0, y1⟩ := cut_range nar b k0 k1
  rw [v5 nar a b hb, v4 nar a b hb, v3, v1, cut_mod]
  generalize cutI nar a = x at *
  generalize cutI nar b = y at *
  have hq := range_div x y x0 (by omega)
  have hr0 := Int.emod_nonneg x hb
  have hr1 := Int.emod_lt_of_pos x (by omega : 0 < y)
  have hm := Int.mul_ediv_add_emod x y
  have hz : 0 ≤ y * (x / y) := Int.mul_nonneg (by omega) hq.1
  rw [cut_small nar (x / y) hq.1 (by omega), cut_small nar (x % y) hr0 (by omega), Int.mul_comm, Int.emod_eq_of_lt hz (by omega), hm]
  exact ⟨Int.emod_eq_of_lt x0 x1, hr1⟩
theorem parts_is (k l : Int) (h : (k = 17 ∧ l = 18) ∨ (k = 19 ∧ l = 22) ∨ (k = 20 ∧ l = 21) ∨ (k = 23 ∧ l = 26) ∨ (k = 24 ∧ l = 25)) (nar : Bool) (a b : Int) :
    isE k = 0 ∧ isE l = 0 ∧ isV l nar a b = !isV k nar a b := by
  have hk : isE k = 0 := if_neg (by omega)
  have hl : isE l = 0 := if_neg (by omega)
  refine ⟨hk, hl, ?_⟩
  have f : ∀ x y : Int, decide (x < y) = !decide (y ≤ x) := fun x y => by
    by_cases g : x < y
    · have g2 : ¬ y ≤ x := by omega
      simp [g, g2]
    · have g2 : y ≤ x := by omega
      simp [g, g2]
  cases nar
  · have e : ∀ o, isE o = 0 → isV o false a b = is64 o a b := fun o ho => if_pos ho
    rw [e k hk, e l hl]
    rcases h with ⟨rfl, rfl⟩ | ⟨rfl, rfl⟩ | ⟨rfl, rfl⟩ | ⟨rfl, rfl⟩ | ⟨rfl, rfl⟩
    · rfl
    · show decide (a ≤ b) = !decide (b < a); rw [f]; simp
    · exact f a b
    · show decide (sgn64 a ≤ sgn64 b) = !decide (sgn64 b < sgn64 a); rw [f]; simp
    · exact f (sgn64 a) (sgn64 b)
  · have e : ∀ o, isE o = 0 → isV o true a b = is32 o (a % m32) (b % m32) := fun o ho => if_pos ho
    rw [e k hk, e l hl]
    generalize a % m32 = x at *
    generalize b % m32 = y at *
    rcases h with ⟨rfl, rfl⟩ | ⟨rfl, rfl⟩ | ⟨rfl, rfl⟩ | ⟨rfl, rfl⟩ | ⟨rfl, rfl⟩
    · rfl
    · show decide (x ≤ y) = !decide (y < x); rw [f]; simp
    · exact f x y
    · show decide (sgn32 x ≤ sgn32 y) = !decide (sgn32 y < sgn32 x); rw [f]; simp
    · exact f (sgn32 x) (sgn32 y)
end Go.Proofs.Ytlggmfbmaoajcaa
