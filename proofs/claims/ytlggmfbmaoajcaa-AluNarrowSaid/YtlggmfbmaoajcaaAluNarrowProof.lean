/- Narrow operators and relations tell what hangs on the lowest 32 bits of their numbers alone, and no more than 32 bits. No condition. -/
import Derived.Test.YtlggmfbmaoajcaaAluAwake
import Derived.Test.YtlggmfbmaoajcaaRows
import Derived.WalkKit
import Derived.ProofKit
import Derived.OpenShut
namespace Go.Proofs.Ytlggmfbmaoajcaa.aluNarrow
open Go.ChangeShapes Go.WideShapes Go.ChangeAt Go.RowKit
set_option linter.unusedVariables false
theorem own : ownKnob Try.prog.godebug = none := by kernel_rfl
theorem doV_same (op : Int) {a b c d : Int} (h : c % m32 = a % m32) (k : d % m32 = b % m32) : doV op true c d = doV op true a b := by
  have e : ∀ x y : Int, doV op true x y = if rkE op (y % m32) = 0 then do32 op (x % m32) (y % m32) else 0 := fun _ _ => rfl
  rw [e, e, h, k]
theorem doE_same (op : Int) {b d : Int} (k : d % m32 = b % m32) : doE op true d = doE op true b := by
  rw [doE_true, doE_true, k]
theorem isV_same (op : Int) {a b c d : Int} (h : c % m32 = a % m32) (k : d % m32 = b % m32) : isV op true c d = isV op true a b := by
  have e : ∀ x y : Int, isV op true x y = if isE op = 0 then is32 op (x % m32) (y % m32) else false := fun _ _ => rfl
  rw [e, e, h, k]
theorem upB (b up : Int) : 0 ≤ IntKind.u64.wrap (b + IntKind.u64.wrap (up * 4294967296)) ∧ IntKind.u64.wrap (b + IntKind.u64.wrap (up * 4294967296)) < m64 ∧ IntKind.u64.wrap (b + IntKind.u64.wrap (up * 4294967296)) % m32 = b % m32 := by
  rw [IntKind.wrap_u64, IntKind.wrap_u64]; unfold m64 m32; omega
theorem upA (a up : Int) (h0 : 0 ≤ a) (h1 : a < m64) : 0 ≤ bits .xor .u64 a (IntKind.u64.wrap (up * 4294967296)) ∧ bits .xor .u64 a (IntKind.u64.wrap (up * 4294967296)) < m64 ∧ bits .xor .u64 a (IntKind.u64.wrap (up * 4294967296)) % m32 = a % m32 := by
  have h1' := h1
  unfold m64 at h1'
  rw [IntKind.wrap_u64]
  have u0 : 0 ≤ up * 4294967296 % 18446744073709551616 := by omega
  have u1 : up * 4294967296 % 18446744073709551616 < 18446744073709551616 := by omega
  have u2 : (up * 4294967296 % 18446744073709551616).toNat % 2 ^ 32 = 0 := by omega
  rw [Go.u64_xor a _ h0 h1' u0 u1]
  have hU : (up * 4294967296 % 18446744073709551616).toNat < 2 ^ 64 := by omega
  generalize (up * 4294967296 % 18446744073709551616).toNat = U at *
  have e : (a.toNat ^^^ U) % 2 ^ 32 = a.toNat % 2 ^ 32 := by rw [Nat.xor_mod_two_pow, u2, Nat.xor_zero]
  have hl : a.toNat ^^^ U < 2 ^ 64 := Nat.xor_lt_two_pow (by omega) hU
  refine ⟨Int.natCast_nonneg _, by unfold m64; omega, ?_⟩
  unfold m32
  omega
set_option maxHeartbeats 1000000 in
theorem walk (op : Int) (a : Int) (b : Int) (up : Int) (w_op : (Lit.int .u8 op).wf = true) (w_a : (Lit.int .u64 a).wf = true) (w_b : (Lit.int .u64 b).wf = true) (w_up : (Lit.int .u64 up).wf = true) (w : World) :
    Calls Try.prog 7 #[.int .u8 op, .int .u64 a, .int .u64 b, .int .u64 up] w fun e w' => e = .returned (.bool true) ∧ Below w.heap.size w w' := by
  obtain ⟨h0, h1⟩ := u64_range w_a
  obtain ⟨k0, k1⟩ := u64_range w_b
  obtain ⟨A0, A1, A2⟩ := upA a up h0 h1
  obtain ⟨B0, B1, B2⟩ := upB b up
  have D := Lib.hid (aluDo op true a b h0 h1 k0 k1)
  have F := Lib.hid (aluIs op true a b h0 h1 k0 k1)
  have d2 := aluDo op true _ _ A0 A1 B0 B1
  have f2 := aluIs op true _ _ A0 A1 B0 B1
  rw [doV_same op A2 B2, doE_same op B2] at d2
  rw [isV_same op A2 B2] at f2
  have D2 := Lib.hid d2
  have F2 := Lib.hid f2
  have r := doV_narrow op a b
  unfold m32 at r
  clear d2 f2 A0 A1 A2 B0 B1 B2 h0 h1 k0 k1 w_op w_a w_b w_up
  generalize doV op true a b = z at *
  generalize doE op true b = er at *
  generalize isV op true a b = y at *
  generalize isE op = ir at *
  obtain ⟨r0, r1⟩ := r
  go_enter Try.func7, Try.ntmps7
  go_wp2_with fail
  refine (awake _).mono ?_; rintro e w1 ⟨rfl, b1⟩; have B1 := Lib.hid b1; clear b1
  go_wp2_with fail
  refine (D.out _).mono ?_; rintro e w2 ⟨rfl, b2⟩; have B2 := Lib.hid b2; clear b2
  go_wp2_with fail
  refine (D2.out _).mono ?_; rintro e w3 ⟨rfl, b3⟩; have B3 := Lib.hid b3; clear b3
  go_wp2_with fail
  refine (F.out _).mono ?_; rintro e w4 ⟨rfl, b4⟩; have B4 := Lib.hid b4; clear b4
  go_wp2_with fail
  refine (F2.out _).mono ?_; rintro e w5 ⟨rfl, b5⟩; have B5 := Lib.hid b5; clear b5
  go_wp2
  go_ret
  exact ⟨rfl, bel_trans (bel_trans (bel_trans (bel_trans (B1.out) B2.out) B3.out) B4.out) B5.out⟩

set_option maxRecDepth 100000 in
theorem lifted (os : Os) (started : os.Started) (H : Type) (enc : TypeId × Value → H) :
    ReturnsInHanded {} Try.checked os 7 .any (Rows.aluNarrowSpec.pre6 enc Try.prog Try.f7 Rows.aluNarrowRow.domain false) (Rows.aluNarrowSpec.post enc Try.prog Try.f7 false true false false) := by
  refine returnsInHanded_of_change (C := Try.checked) own started (by kernel_rfl) Try.func7
    (ChangeSpec.witness6 (enc := enc) (C := Try.checked) false ⟨#[], #[.int .u8 0, .int .u64 0, .int .u64 0, .int .u64 0], []⟩ 8 (by kernel_rfl) (by kernel_rfl) (by kernel_rfl) (by kernel_rfl)) ?_
  intro W base args ds gs before hval0 hW hcnd _
  have hval : ∀ (j : Nat) t v, Try.f7.params[j]? = some t → args[j]? = some v → Value.okWide Try.prog W .any base t v := hval0
  have hW' := hW
  obtain ⟨p, q, hA0, hV, rfl, hfz, hnd⟩ := hW
  have hA : DataW.TrodAll enc Try.prog W 0 (fun _ => true) true Try.f7.params.toList args.toList ds p := hA0
  rw [Try.params7] at hA hval
  obtain ⟨v0, vs0, d0, ds0, p0, q0, hargs, rfl, rfl, h0, r0⟩ := trodAll_cons hA
  obtain ⟨v1, vs1, d1, ds1, p1, q1, rfl, rfl, rfl, h1, r1⟩ := trodAll_cons r0
  obtain ⟨v2, vs2, d2, ds2, p2, q2, rfl, rfl, rfl, h2, r2⟩ := trodAll_cons r1
  obtain ⟨v3, vs3, d3, ds3, p3, q3, rfl, rfl, rfl, h3, r3⟩ := trodAll_cons r2
  obtain ⟨rfl, rfl, rfl⟩ := trodAll_nil r3
  obtain rfl : args = #[v0, v1, v2, v3] := by cases args; simp_all
  obtain ⟨rfl, rfl⟩ := trodVars_none hV
  obtain ⟨op, rfl, rfl, rfl, w_op⟩ := open_int Try.underlying22 (hval 0 22 v0 rfl rfl) h0
  obtain ⟨a, rfl, rfl, rfl, w_a⟩ := open_int Try.underlying23 (hval 1 23 v1 rfl rfl) h1
  obtain ⟨b, rfl, rfl, rfl, w_b⟩ := open_int Try.underlying23 (hval 2 23 v2 rfl rfl) h2
  obtain ⟨up, rfl, rfl, rfl, w_up⟩ := open_int Try.underlying23 (hval 3 23 v3 rfl rfl) h3
  clear hA0 hval0
  simp only [List.append_nil] at hW'
  refine (walk op a b up w_op w_a w_b w_up W).mono fun e W' ⟨he, bel⟩ => ?_
  subst he
  exact ⟨_, rfl, _, _, _, [], _, [], hW', trodAll_mk1 (shut_bool Try.underlying4 _), (trodAll_cons_mk (shut_int Try.underlying22 w_op) (trodAll_cons_mk (shut_int Try.underlying23 w_a) (trodAll_cons_mk (shut_int Try.underlying23 w_b) (trodAll_cons_mk (shut_int Try.underlying23 w_up) trodAll_mk0)))), rfl, bel.frame _, fun h => by cases h⟩
theorem over : Rows.aluNarrowRow.holds Try.pinned (OpenSpec.ofChange Rows.aluNarrowSpec) :=
  OpenClaim.holds_of_wide 7 Try.f7 rfl rfl rfl rfl rfl rfl rfl ⟨rfl, rfl, rfl, rfl, rfl⟩ rfl rfl rfl rfl rfl (by kernel_rfl) Try.func7 (by kernel_rfl)
    (of_decide_eq_true (by kernel_rfl)) (by unfold Func.isWrapper; first | (rw [if_pos (by decide +kernel)]; kernel_rfl) | (rw [if_neg (by decide +kernel)]; exact ⟨rfl, rfl⟩))
    (fun os started H enc _ => lifted os started H enc)
theorem proved : Rows.AluNarrowSaid := over
end Go.Proofs.Ytlggmfbmaoajcaa.aluNarrow
