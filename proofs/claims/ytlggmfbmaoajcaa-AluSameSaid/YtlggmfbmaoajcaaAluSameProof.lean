/- For every operator and all numbers, Do and Is tell in both widths what the answers of the document tell. No condition. -/
import Derived.Test.YtlggmfbmaoajcaaAluAwake
import Derived.Test.YtlggmfbmaoajcaaRows
import Derived.WalkKit
import Derived.ProofKit
import Derived.OpenShut
namespace Go.Proofs.Ytlggmfbmaoajcaa.aluSame
open Go.ChangeShapes Go.WideShapes Go.ChangeAt Go.RowKit
set_option linter.unusedVariables false
theorem own : ownKnob Try.prog.godebug = none := by kernel_rfl
set_option maxHeartbeats 1000000 in
set_option maxRecDepth 100000 in
theorem walk (op : Int) (a : Int) (b : Int) (w_op : (Lit.int .u8 op).wf = true) (w_a : (Lit.int .u64 a).wf = true) (w_b : (Lit.int .u64 b).wf = true) (w : World) :
    Calls Try.prog 5 #[.int .u8 op, .int .u64 a, .int .u64 b] w fun e w' => e = .returned (.bool true) ∧ Below w.heap.size w w' := by
  obtain ⟨h0, h1⟩ := u64_range w_a
  obtain ⟨k0, k1⟩ := u64_range w_b
  have D0 := Lib.hid (aluDo op false a b h0 h1 k0 k1)
  have E0 := Lib.hid (refDo op false a b h0 h1 k0 k1)
  have F0 := Lib.hid (aluIs op false a b h0 h1 k0 k1)
  have G0 := Lib.hid (refIs op false a b h0 h1 k0 k1)
  have D1 := Lib.hid (aluDo op true a b h0 h1 k0 k1)
  have E1 := Lib.hid (refDo op true a b h0 h1 k0 k1)
  have F1 := Lib.hid (aluIs op true a b h0 h1 k0 k1)
  have G1 := Lib.hid (refIs op true a b h0 h1 k0 k1)
  clear h0 h1 k0 k1 w_op w_a w_b
  generalize doV op false a b = z0 at *
  generalize doE op false b = e0 at *
  generalize isV op false a b = y0 at *
  generalize doV op true a b = z1 at *
  generalize doE op true b = e1 at *
  generalize isV op true a b = y1 at *
  generalize isE op = ir at *
  go_enter Try.func5, Try.ntmps5
  go_wp2
  go_loopw [7, 8, 9, 10, 11, 12, 13, 14, 15] (fun i _ _ _ _ _ _ _ _ wr => ∃ k : Int, 0 ≤ k ∧ k ≤ 2 ∧ i = .int .i64 k ∧ Hid (Below w.heap.size w wr)) (fun i _ _ _ _ _ _ _ _ _ => 2 - (intOf i).toNat)
  case atStart => exact ⟨0, by omega, by omega, rfl, Lib.hid (Below.refl _ _)⟩
  case round =>
    obtain ⟨k, hk0, hk2, rfl, B0⟩ := hrel
    obtain rfl | rfl | rfl : k = 0 ∨ k = 1 ∨ k = 2 := by omega
    · clear hk0 hk2
      go_wp2_with fail
      refine (D0.out _).mono ?_; rintro e w1 ⟨rfl, b1⟩; have B1 := Lib.hid b1; clear b1
      go_wp2_with fail
      refine (E0.out _).mono ?_; rintro e w2 ⟨rfl, b2⟩; have B2 := Lib.hid b2; clear b2
      go_wp2_with fail
      refine (F0.out _).mono ?_; rintro e w3 ⟨rfl, b3⟩; have B3 := Lib.hid b3; clear b3
      go_wp2_with fail
      refine (G0.out _).mono ?_; rintro e w4 ⟨rfl, b4⟩; have B4 := Lib.hid b4; clear b4
      go_wp2
      go_roundw
      case rel => exact ⟨1, by omega, by omega, rfl, Lib.hid (bel_trans (bel_trans (bel_trans (bel_trans B0.out B1.out) B2.out) B3.out) B4.out)⟩
      case measure => simp [intOf]
    · clear hk0 hk2
      go_wp2_with fail
      refine (D1.out _).mono ?_; rintro e w1 ⟨rfl, b1⟩; have B1 := Lib.hid b1; clear b1
      go_wp2_with fail
      refine (E1.out _).mono ?_; rintro e w2 ⟨rfl, b2⟩; have B2 := Lib.hid b2; clear b2
      go_wp2_with fail
      refine (F1.out _).mono ?_; rintro e w3 ⟨rfl, b3⟩; have B3 := Lib.hid b3; clear b3
      go_wp2_with fail
      refine (G1.out _).mono ?_; rintro e w4 ⟨rfl, b4⟩; have B4 := Lib.hid b4; clear b4
      go_wp2
      go_roundw
      case rel => exact ⟨2, by omega, by omega, rfl, Lib.hid (bel_trans (bel_trans (bel_trans (bel_trans B0.out B1.out) B2.out) B3.out) B4.out)⟩
      case measure => simp [intOf]
    · clear hk0 hk2
      go_wp2_with fail
      refine (awake _).mono ?_; rintro e w1 ⟨rfl, b1⟩; have B1 := Lib.hid b1; clear b1
      go_wp2
      go_ret
      exact ⟨rfl, bel_trans B0.out B1.out⟩

set_option maxRecDepth 100000 in
theorem lifted (os : Os) (started : os.Started) (H : Type) (enc : TypeId × Value → H) :
    ReturnsInHanded {} Try.checked os 5 .any (Rows.aluSameSpec.pre6 enc Try.prog Try.f5 Rows.aluSameRow.domain false) (Rows.aluSameSpec.post enc Try.prog Try.f5 false true false false) := by
  refine returnsInHanded_of_change (C := Try.checked) own started (by kernel_rfl) Try.func5
    (ChangeSpec.witness6 (enc := enc) (C := Try.checked) false ⟨#[], #[.int .u8 0, .int .u64 0, .int .u64 0], []⟩ 8 (by kernel_rfl) (by kernel_rfl) (by kernel_rfl) (by kernel_rfl)) ?_
  intro W base args ds gs before hval0 hW hcnd _
  have hval : ∀ (j : Nat) t v, Try.f5.params[j]? = some t → args[j]? = some v → Value.okWide Try.prog W .any base t v := hval0
  have hW' := hW
  obtain ⟨p, q, hA0, hV, rfl, hfz, hnd⟩ := hW
  have hA : DataW.TrodAll enc Try.prog W 0 (fun _ => true) true Try.f5.params.toList args.toList ds p := hA0
  rw [Try.params5] at hA hval
  obtain ⟨v0, vs0, d0, ds0, p0, q0, hargs, rfl, rfl, h0, r0⟩ := trodAll_cons hA
  obtain ⟨v1, vs1, d1, ds1, p1, q1, rfl, rfl, rfl, h1, r1⟩ := trodAll_cons r0
  obtain ⟨v2, vs2, d2, ds2, p2, q2, rfl, rfl, rfl, h2, r2⟩ := trodAll_cons r1
  obtain ⟨rfl, rfl, rfl⟩ := trodAll_nil r2
  obtain rfl : args = #[v0, v1, v2] := by cases args; simp_all
  obtain ⟨rfl, rfl⟩ := trodVars_none hV
  obtain ⟨op, rfl, rfl, rfl, w_op⟩ := open_int Try.underlying22 (hval 0 22 v0 rfl rfl) h0
  obtain ⟨a, rfl, rfl, rfl, w_a⟩ := open_int Try.underlying23 (hval 1 23 v1 rfl rfl) h1
  obtain ⟨b, rfl, rfl, rfl, w_b⟩ := open_int Try.underlying23 (hval 2 23 v2 rfl rfl) h2
  clear hA0 hval0
  simp only [List.append_nil] at hW'
  refine (walk op a b w_op w_a w_b W).mono fun e W' ⟨he, bel⟩ => ?_
  subst he
  exact ⟨_, rfl, _, _, _, [], _, [], hW', trodAll_mk1 (shut_bool Try.underlying4 _), (trodAll_cons_mk (shut_int Try.underlying22 w_op) (trodAll_cons_mk (shut_int Try.underlying23 w_a) (trodAll_cons_mk (shut_int Try.underlying23 w_b) trodAll_mk0))), rfl, bel.frame _, fun h => by cases h⟩
theorem over : Rows.aluSameRow.holds Try.pinned (OpenSpec.ofChange Rows.aluSameSpec) :=
  OpenClaim.holds_of_wide 5 Try.f5 rfl rfl rfl rfl rfl rfl rfl ⟨rfl, rfl, rfl, rfl, rfl⟩ rfl rfl rfl rfl rfl (by kernel_rfl) Try.func5 (by kernel_rfl)
    (of_decide_eq_true (by kernel_rfl)) (by unfold Func.isWrapper; first | (rw [if_pos (by decide +kernel)]; kernel_rfl) | (rw [if_neg (by decide +kernel)]; exact ⟨rfl, rfl⟩))
    (fun os started H enc _ => lifted os started H enc)
theorem proved : Rows.AluSameSaid := over
end Go.Proofs.Ytlggmfbmaoajcaa.aluSame
