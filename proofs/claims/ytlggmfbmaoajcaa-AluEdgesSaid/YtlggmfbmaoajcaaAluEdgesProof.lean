/- All operators and relations of numbers at the edges, two by two, tell what the answers of the document tell. A closed statement: no condition. -/
import Derived.Test.YtlggmfbmaoajcaaAluAwake
import Derived.Test.YtlggmfbmaoajcaaAluSameProof
import Derived.Test.YtlggmfbmaoajcaaRows
import Derived.WalkKit
import Derived.ProofKit
import Derived.OpenShut
import Derived.StillTailTactics
namespace Go.Proofs.Ytlggmfbmaoajcaa.aluEdges
open Go.ChangeShapes Go.WideShapes Go.ChangeAt Go.RowKit
set_option linter.unusedVariables false
theorem own : ownKnob Try.prog.godebug = none := by kernel_rfl
def edges : List Int := [0, 1, 2, 31, 32, 33, 63, 64, 65, 2147483647, 2147483648, 2147483649, 4294967295, 4294967296, 4294967297, 9223372036854775807, 9223372036854775808, 9223372036854775809, 18446744073709551614, 18446744073709551615]
def edge (i : Nat) : Int := edges.getD i 0
theorem edge_wf (i : Nat) (h : i < 20) : (Lit.int .u64 (edge i)).wf = true := by
  have : ∀ j : Fin 20, (Lit.int .u64 (edge j)).wf = true := by decide
  exact this ⟨i, h⟩
theorem op_wf (k : Nat) (h : k < 32) : (Lit.int .u8 (k : Int)).wf = true := by
  have : ∀ j : Fin 32, (Lit.int .u8 ((j : Nat) : Int)).wf = true := by decide
  exact this ⟨k, h⟩
structure ETab (w : World) (b : Nat) : Prop where
  lt : b < w.heap.size
  at_ : ∀ i, i < 20 → w.cell? ⟨b, i, none⟩ = some (.int .u64 (edge i))
theorem ETab.below {w w' : World} {b : Nat} (h : ETab w b) (k : Below w.heap.size w w') : ETab w' b :=
  ⟨Nat.lt_of_lt_of_le h.lt k.size, fun i hi => (k.cell (p := ⟨b, i, none⟩) h.lt).trans (h.at_ i hi)⟩
theorem etab_new (w : World) (t : TypeId) : ETab (w.alloc (.cells #[.int .u64 0, .int .u64 1, .int .u64 2, .int .u64 31, .int .u64 32, .int .u64 33, .int .u64 63, .int .u64 64, .int .u64 65, .int .u64 2147483647, .int .u64 2147483648, .int .u64 2147483649, .int .u64 4294967295, .int .u64 4294967296, .int .u64 4294967297, .int .u64 9223372036854775807, .int .u64 9223372036854775808, .int .u64 9223372036854775809, .int .u64 18446744073709551614, .int .u64 18446744073709551615] t)) w.heap.size := by
  refine ⟨by simp, fun i hi => ?_⟩
  have : i = 0 ∨ i = 1 ∨ i = 2 ∨ i = 3 ∨ i = 4 ∨ i = 5 ∨ i = 6 ∨ i = 7 ∨ i = 8 ∨ i = 9 ∨ i = 10 ∨ i = 11 ∨ i = 12 ∨ i = 13 ∨ i = 14 ∨ i = 15 ∨ i = 16 ∨ i = 17 ∨ i = 18 ∨ i = 19 := by omega
  rcases this with rfl | rfl | rfl | rfl | rfl | rfl | rfl | rfl | rfl | rfl | rfl | rfl | rfl | rfl | rfl | rfl | rfl | rfl | rfl | rfl <;> simp [go_sem, edge, edges]
set_option maxHeartbeats 2000000 in
set_option maxRecDepth 100000 in
theorem walk   (w : World) :
    Calls Try.prog 4 #[] w fun e w' => e = .returned (.bool true) ∧ Below w.heap.size w w' := by
  go_enter Try.func4, Try.ntmps4
  go_wp2_with fail
  refine (awake _).mono ?_; rintro e w1 ⟨rfl, b1⟩; have B1 := Lib.hid b1; clear b1
  go_wp2
  have T0 := Lib.hid (etab_new w1 23)
  have hal := (B1.out).alloc B1.out.size (.cells #[.int .u64 0, .int .u64 1, .int .u64 2, .int .u64 31, .int .u64 32, .int .u64 33, .int .u64 63, .int .u64 64, .int .u64 65, .int .u64 2147483647, .int .u64 2147483648, .int .u64 2147483649, .int .u64 4294967295, .int .u64 4294967296, .int .u64 4294967297, .int .u64 9223372036854775807, .int .u64 9223372036854775808, .int .u64 9223372036854775809, .int .u64 18446744073709551614, .int .u64 18446744073709551615] 23)
  have BA := Lib.hid hal
  clear hal
  generalize hwa : w1.alloc (.cells #[.int .u64 0, .int .u64 1, .int .u64 2, .int .u64 31, .int .u64 32, .int .u64 33, .int .u64 63, .int .u64 64, .int .u64 65, .int .u64 2147483647, .int .u64 2147483648, .int .u64 2147483649, .int .u64 4294967295, .int .u64 4294967296, .int .u64 4294967297, .int .u64 9223372036854775807, .int .u64 9223372036854775808, .int .u64 9223372036854775809, .int .u64 18446744073709551614, .int .u64 18446744073709551615] 23) = wa at *
  generalize w1.heap.size = bl at *
  clear hwa B1
  go_loopw [2, 3, 4] (fun o _ _ wr => ∃ k : Nat, k ≤ 32 ∧ o = .int .i64 k ∧ Hid (ETab wr bl) ∧ Hid (Below w.heap.size w wr)) (fun o _ _ _ => 32 - (intOf o).toNat)
  case atStart => exact ⟨0, by omega, rfl, T0, BA⟩
  case round =>
    clear T0 BA
    obtain ⟨k, hk, rfl, T, B0⟩ := hrel
    obtain ⟨wo, rfl⟩ : ∃ wo : World, wo = wr := ⟨_, rfl⟩
    by_cases hk2 : k < 32
    · have dk : decide ((k : Int) < 32) = true := by simp; omega
      go_wp2
      go_loopw [3, 4] (fun i _ wr => ∃ j : Nat, j ≤ 20 ∧ i = .int .i64 j ∧ Hid (ETab wr bl) ∧ Hid (Below w.heap.size w wr)) (fun i _ _ => 20 - (intOf i).toNat)
      case atStart => exact ⟨0, by omega, rfl, T, B0⟩
      case round =>
        clear T B0
        obtain ⟨j, hj, rfl, T, B0⟩ := hrel
        obtain ⟨wp, rfl⟩ : ∃ wp : World, wp = wr := ⟨_, rfl⟩
        by_cases hj2 : j < 20
        · have dj : decide ((j : Int) < 20) = true := by simp; omega
          go_wp2
          go_loopw [4] (fun i wr => ∃ l : Nat, l ≤ 20 ∧ i = .int .i64 l ∧ Hid (ETab wr bl) ∧ Hid (Below w.heap.size w wr)) (fun i _ => 20 - (intOf i).toNat)
          case atStart => exact ⟨0, by omega, rfl, T, B0⟩
          case round =>
            clear T B0
            obtain ⟨l, hl, rfl, T, B0⟩ := hrel
            by_cases hl2 : l < 20
            · have dl : decide ((l : Int) < 20) = true := by simp; omega
              have ik : (k : Int) < 32 := by omega
              have ij : (j : Int) < 20 := by omega
              have il : (l : Int) < 20 := by omega
              have cj := T.out.at_ j hj2
              have cl := T.out.at_ l hl2
              have C := Lib.hid (fun w => aluSame.walk k (edge j) (edge l) (op_wf k hk2) (edge_wf j hj2) (edge_wf l hl2) w)
              generalize edge j = ej at *
              generalize edge l = el at *
              go_wp2
              go_still_tail 10, (by kernel_rfl)
              change wpList _ _ _ _ _ wr.drew
              have bd := Lib.hid ((Below.refl wr.heap.size wr).drew)
              generalize wr.drew = w2 at *
              go_wp2_with fail
              refine (C.out _).mono ?_; rintro e w3 ⟨rfl, b3⟩
              have bs := Lib.hid (bel_trans bd.out b3)
              clear b3
              go_wp2
              go_roundw
              case rel => exact ⟨l + 1, by omega, by go_num, Lib.hid (T.out.below bs.out), Lib.hid (bel_trans B0.out bs.out)⟩
              case measure => simp [intOf]; omega
            · go_wp2
              go_roundw
              case rel => exact ⟨j + 1, by omega, by go_num, T, B0⟩
              case measure => simp [intOf]; omega
        · go_wp2
          go_roundw
          case rel => exact ⟨k + 1, by omega, by go_num, T, B0⟩
          case measure => simp [intOf]; omega
    · go_wp2
      go_ret
      exact ⟨rfl, B0.out⟩

set_option maxRecDepth 100000 in
theorem lifted (os : Os) (started : os.Started) (H : Type) (enc : TypeId × Value → H) :
    ReturnsInHanded {} Try.checked os 4 .any (Rows.aluEdgesSpec.pre6 enc Try.prog Try.f4 Rows.aluEdgesRow.domain false) (Rows.aluEdgesSpec.post enc Try.prog Try.f4 false true false false) := by
  refine returnsInHanded_of_change (C := Try.checked) own started (by kernel_rfl) Try.func4
    (ChangeSpec.witness6 (enc := enc) (C := Try.checked) false ⟨#[], #[], []⟩ 8 (by kernel_rfl) (by kernel_rfl) (by kernel_rfl) (by kernel_rfl)) ?_
  intro W base args ds gs before hval0 hW hcnd _
  have hval : ∀ (j : Nat) t v, Try.f4.params[j]? = some t → args[j]? = some v → Value.okWide Try.prog W .any base t v := hval0
  have hW' := hW
  obtain ⟨p, q, hA0, hV, rfl, hfz, hnd⟩ := hW
  have hA : DataW.TrodAll enc Try.prog W 0 (fun _ => true) true Try.f4.params.toList args.toList ds p := hA0
  rw [Try.params4] at hA hval
  obtain ⟨rfl, rfl, rfl⟩ := trodAll_none hA
  obtain ⟨rfl, rfl⟩ := trodVars_none hV
  clear hA0 hval0
  simp only [List.append_nil] at hW'
  refine (walk   W).mono fun e W' ⟨he, bel⟩ => ?_
  subst he
  exact ⟨_, rfl, _, _, _, [], _, [], hW', trodAll_mk1 (shut_bool Try.underlying4 _), trodAll_mk0, rfl, bel.frame _, fun h => by cases h⟩
theorem over : Rows.aluEdgesRow.holds Try.pinned (OpenSpec.ofChange Rows.aluEdgesSpec) :=
  OpenClaim.holds_of_wide 4 Try.f4 rfl rfl rfl rfl rfl rfl rfl ⟨rfl, rfl, rfl, rfl, rfl⟩ rfl rfl rfl rfl rfl (by kernel_rfl) Try.func4 (by kernel_rfl)
    (of_decide_eq_true (by kernel_rfl)) (by unfold Func.isWrapper; first | (rw [if_pos (by decide +kernel)]; kernel_rfl) | (rw [if_neg (by decide +kernel)]; exact ⟨rfl, rfl⟩))
    (fun os started H enc _ => lifted os started H enc)
theorem proved : Rows.AluEdgesSaid := over
end Go.Proofs.Ytlggmfbmaoajcaa.aluEdges
