/- The words that instructions are named by, and the map that they stand in. -/
import Derived.Test.YthfkmackodbmkaaGreatDoorTextStd
import Derived.Test.YthfkmackodbmkaaGreatDoorTextMap
import Derived.Deep.RegionHeld3
import Derived.Laws.Concat
namespace Go.Proofs.YthfkmackodbmkaaGreatDoor
open Go.RowKit
set_option linter.unusedVariables false
set_option linter.unusedSimpArgs false
set_option maxRecDepth 100000
set_option maxHeartbeats 1000000

theorem str_cat (a b : Str) : (⟨a.toArray⟩ : ByteArray) ++ ⟨b.toArray⟩ = ⟨(a ++ b).toArray⟩ := by
  apply ByteArray.ext
  simp
theorem run_cat {P : Program} (a b : Str) (h : a.length + b.length ≤ 1000000000) (W : World) : (Op.stringOp .add ⟨a.toArray⟩ ⟨b.toArray⟩).run P W = .ok (str (a ++ b)) W := by
  have := run_string_add_sum (P := P) (w := W) ⟨a.toArray⟩ ⟨b.toArray⟩ (by simp [ByteArray.size]; omega)
  rw [str_cat] at this
  exact this
theorem names_len : ∀ k : Nat, (opNames[k]?.getD []).length ≤ 4 := by
  intro k
  by_cases h : k < 29
  · revert h k; decide +kernel
  · have : opNames[k]? = none := List.getElem?_eq_none (by have : opNames.length = 29 := rfl; omega)
    simp [this]
theorem nDigits_le : ∀ (k u : Nat), u < 10 ^ (k + 1) → Lib.nDigits u ≤ k + 1
  | 0, u, h => by rw [Lib.nDigits_small (by simpa using h)]; omega
  | k + 1, u, h => by
    by_cases hu : u < 10
    · rw [Lib.nDigits_small hu]; omega
    · rw [Lib.nDigits_big hu]
      have := nDigits_le k (u / 10) (by rw [Nat.div_lt_iff_lt_mul (by omega), ← Nat.pow_succ]; exact h)
      omega
theorem itoa_len (n : Int) (h0 : -9223372036854775808 ≤ n) (h1 : n ≤ 9223372036854775807) : (Lib.itoa n).length ≤ 20 := by
  have hd : ∀ u : Nat, u < 10000000000000000000 → (Lib.decDigits u).length ≤ 19 := by
    intro u hu
    rw [Lib.decDigits_length]
    exact nDigits_le 18 u hu
  unfold Lib.itoa
  split
  · have := hd n.natAbs (by omega); simp; omega
  · have := hd n.toNat (by omega); omega
theorem Lay.name {w : World} (h : Lay w) {k : Nat} (hk : k < 29) : w.cell? ⟨1, k, none⟩ = some (str (opNames[k]?.getD [])) := by
  obtain ⟨_, _, _, cs, fr, h4, rfl⟩ := h
  have hl : opNames.length = 29 := rfl
  have : k < opNames.length := by omega
  simp [World.cell?, h4, this]
theorem wordOfP (i : Ins) (h0 : 0 ≤ i.op) (h1 : i.op ≤ 28) (h2 : -9223372036854775808 ≤ i.sz) (h3 : i.sz ≤ 9223372036854775807) (w : World) (L : Lay w) :
    Calls Tryz.prog 55 #[agg i] w fun e w' => e = .returned (str (nameOf i)) ∧ Below w.heap.size w w' := by
  obtain ⟨op, nw, dst, src, ui, off, im, sz⟩ := i
  obtain ⟨k, rfl⟩ := Int.eq_ofNat_of_zero_le h0
  have hk : k < 29 := by simp at h1; omega
  have N := L.name hk
  have L1 := L.past (alloc_below w (Obj.cells #[.int .u8 (k : Int), .bool nw, .int .i64 dst, .int .i64 src, .bool ui, .int .i64 off, .int .i64 im, .int .i64 sz] 47))
  have N1 := L1.name hk
  have I := Lib.hid (fun W LW => itoaP sz h2 h3 W LW)
  have O := oc_new w 47 (.int .u8 (k : Int)) (.bool nw) (.int .i64 dst) (.int .i64 src) (.bool ui) (.int .i64 off) (.int .i64 im) (.int .i64 sz)
  obtain ⟨z0, z1, z2, z3, z4, z5, z6, z7⟩ := O.cells
  have B := Lib.hid (alloc_below w (Obj.cells #[.int .u8 (k : Int), .bool nw, .int .i64 dst, .int .i64 src, .bool ui, .int .i64 off, .int .i64 im, .int .i64 sz] 47))
  have HL := Lib.hid L1
  clear L L1 N O
  have nl := names_len k
  have il := itoa_len sz h2 h3
  have C1 := run_cat (P := Tryz.prog) (opNames[k]?.getD []) [51, 50] (by simp; omega)
  have C2 := run_cat (P := Tryz.prog) (opNames[k]?.getD []) (Lib.itoa sz) (by omega)
  have C3 := run_cat (P := Tryz.prog) (opNames[k]?.getD [] ++ [51, 50]) (Lib.itoa sz) (by simp; omega)
  have e1 : nameOf ⟨(k : Int), nw, dst, src, ui, off, im, sz⟩ = (opNames[k]?.getD []) ++ ((if nw then [51, 50] else []) ++ (if sz ≠ 0 then Lib.itoa sz else [])) := by simp [nameOf]
  rw [e1]
  clear e1 nl il h0 h1 h2 h3
  generalize opNames[k]?.getD [] = nm at C1 C2 C3 N1 ⊢
  generalize Lib.itoa sz = im' at C2 C3 I ⊢
  unfold agg
  simp only
  cases nw
  all_goals
    by_cases hz : sz = 0
    · have hz1 : (sz != 0) = false := by simp [hz]
      have hz2 : ¬ sz ≠ 0 := by simpa using hz
      rw [if_neg hz2]
      simp only [Bool.false_eq_true, if_false, if_true, List.append_nil]
      clear hz hz2 I C2 C3
      go_enter Tryz.func55, Tryz.ntmps55
      go_wp2_with fail
      go_ret
      exact ⟨rfl, B.out⟩
    · have hz1 : (sz != 0) = true := by simp [hz]
      have hz2 : sz ≠ 0 := hz
      rw [if_pos hz2]
      simp only [Bool.false_eq_true, if_false, if_true, List.nil_append]
      clear hz hz2
      go_enter Tryz.func55, Tryz.ntmps55
      go_wp2_with fail
      refine (I.out _ HL.out).mono ?_; rintro e w' ⟨rfl, hb⟩
      have B' := (B.out).trans (hb.mono (B.out).size)
      go_wp2_with fail
      go_ret
      exact ⟨by simp, B'⟩
end Go.Proofs.YthfkmackodbmkaaGreatDoor
