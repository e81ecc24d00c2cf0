/- What Add does, Sub undoes, and Add of Neg; a quotient and its rest make the number; each relation and its counterpart part all pairs. No condition. -/
import Derived.Test.YtlggmfbmaoajcaaAluAwake
import Derived.Test.YtlggmfbmaoajcaaAluPartsMath
import Derived.Test.YtlggmfbmaoajcaaRows
import Derived.WalkKit
import Derived.ProofKit
import Derived.OpenShut
namespace Go.Proofs.Ytlggmfbmaoajcaa.aluParts
open Go.ChangeShapes Go.WideShapes Go.ChangeAt Go.RowKit
set_option linter.unusedVariables false
theorem own : ownKnob Try.prog.godebug = none := by kernel_rfl
structure PTab (w : World) (b : Nat) : Prop where
  lt : b < w.heap.size
  c0 : w.cell? ⟨b, 0, none⟩ = some (.int .u8 17)
  c1 : w.cell? ⟨b, 1, none⟩ = some (.int .u8 18)
  c2 : w.cell? ⟨b, 2, none⟩ = some (.int .u8 19)
  c3 : w.cell? ⟨b, 3, none⟩ = some (.int .u8 22)
  c4 : w.cell? ⟨b, 4, none⟩ = some (.int .u8 20)
  c5 : w.cell? ⟨b, 5, none⟩ = some (.int .u8 21)
  c6 : w.cell? ⟨b, 6, none⟩ = some (.int .u8 23)
  c7 : w.cell? ⟨b, 7, none⟩ = some (.int .u8 26)
  c8 : w.cell? ⟨b, 8, none⟩ = some (.int .u8 24)
  c9 : w.cell? ⟨b, 9, none⟩ = some (.int .u8 25)
theorem PTab.below {w w' : World} {b : Nat} (h : PTab w b) (k : Below w.heap.size w w') : PTab w' b :=
  ⟨Nat.lt_of_lt_of_le h.lt k.size, (k.cell (p := ⟨b, 0, none⟩) h.lt).trans h.c0, (k.cell (p := ⟨b, 1, none⟩) h.lt).trans h.c1, (k.cell (p := ⟨b, 2, none⟩) h.lt).trans h.c2, (k.cell (p := ⟨b, 3, none⟩) h.lt).trans h.c3, (k.cell (p := ⟨b, 4, none⟩) h.lt).trans h.c4, (k.cell (p := ⟨b, 5, none⟩) h.lt).trans h.c5, (k.cell (p := ⟨b, 6, none⟩) h.lt).trans h.c6, (k.cell (p := ⟨b, 7, none⟩) h.lt).trans h.c7, (k.cell (p := ⟨b, 8, none⟩) h.lt).trans h.c8, (k.cell (p := ⟨b, 9, none⟩) h.lt).trans h.c9⟩
theorem ptab_new {w w' : World} {t : TypeId} (h : w' = w.alloc (.cells #[.int .u8 17, .int .u8 18, .int .u8 19, .int .u8 22, .int .u8 20, .int .u8 21, .int .u8 23, .int .u8 26, .int .u8 24, .int .u8 25] t)) : PTab w' w.heap.size := by
  subst h
  refine ⟨by simp, ?_, ?_, ?_, ?_, ?_, ?_, ?_, ?_, ?_, ?_⟩ <;> simp [go_sem]
theorem rel_pair (k l : Int) (h : (k = 17 ∧ l = 18) ∨ (k = 19 ∧ l = 22) ∨ (k = 20 ∧ l = 21) ∨ (k = 23 ∧ l = 26) ∨ (k = 24 ∧ l = 25)) (nar : Bool) (a b : Int)
    (I : ∀ op w, Calls Try.prog 11 #[.int .u8 op, .bool nar, .int .u64 a, .int .u64 b] w (Pair (.bool (isV op nar a b)) (isE op) w)) :
    ∃ v : Bool, (∀ w, Calls Try.prog 11 #[.int .u8 k, .bool nar, .int .u64 a, .int .u64 b] w (Pair (.bool v) 0 w)) ∧ (∀ w, Calls Try.prog 11 #[.int .u8 l, .bool nar, .int .u64 a, .int .u64 b] w (Pair (.bool (!v)) 0 w)) := by
  obtain ⟨h1, h2, h3⟩ := parts_is k l h nar a b
  refine ⟨isV k nar a b, fun w => ?_, fun w => ?_⟩
  · have := I k w; rw [h1] at this; exact this
  · have := I l w; rw [h2, h3] at this; exact this
set_option maxHeartbeats 2000000 in
set_option maxRecDepth 100000 in
theorem walk (narrow : Bool) (a : Int) (b : Int) (w_a : (Lit.int .u64 a).wf = true) (w_b : (Lit.int .u64 b).wf = true) (w : World) :
    Calls Try.prog 6 #[.bool narrow, .int .u64 a, .int .u64 b] w fun e w' => e = .returned (.bool true) ∧ Below w.heap.size w w' := by
  obtain ⟨h0, h1⟩ := u64_range w_a
  obtain ⟨k0, k1⟩ := u64_range w_b
  have ua := undo_add narrow a b h0 h1
  have un := undo_neg narrow a b a h0 h1
  have rS := doV_range 1 narrow a b h0 h1 k0 k1
  have rN := doV_range 13 narrow b a k0 k1 h0 h1
  have rQ := doV_range 4 narrow a b h0 h1 k0 k1
  have rR := doV_range 5 narrow a b h0 h1 k0 k1
  have rM := doV_range 3 narrow _ b rQ.1 rQ.2 k0 k1
  have d1 := aluDo 1 narrow a b h0 h1 k0 k1
  have d2 := aluDo 2 narrow _ b rS.1 rS.2 k0 k1
  have d3 := aluDo 13 narrow b a k0 k1 h0 h1
  have d4 := aluDo 1 narrow _ _ rS.1 rS.2 rN.1 rN.2
  have d5 := aluDo 4 narrow a b h0 h1 k0 k1
  have d6 := aluDo 5 narrow a b h0 h1 k0 k1
  have d7 := aluDo 3 narrow _ b rQ.1 rQ.2 k0 k1
  have d8 := aluDo 1 narrow _ _ rM.1 rM.2 rR.1 rR.2
  rw [ua] at d2
  rw [un] at d4
  rw [e_plain 1 narrow b (by omega)] at d1
  rw [e_plain 2 narrow b (by omega)] at d2
  rw [e_plain 13 narrow a (by omega)] at d3
  rw [e_plain 1 narrow (doV 13 narrow b a) (by omega)] at d4
  rw [e_plain 3 narrow b (by omega)] at d7
  rw [e_plain 1 narrow (doV 5 narrow a b) (by omega)] at d8
  have ma := mask_of a h0 h1
  have mb := mask_of b k0 k1
  have I := Lib.hid (fun op => aluIs op narrow a b h0 h1 k0 k1)
  by_cases hb : cutI narrow b = 0
  · rw [e_nought 4 narrow b (by omega) hb] at d5
    rw [e_nought 5 narrow b (by omega) hb] at d6
    clear ua un rS rN rQ rR rM h0 h1 k0 k1 w_a w_b
    generalize doV 1 narrow (doV 3 narrow (doV 4 narrow a b) b) (doV 5 narrow a b) = wW at *
    generalize doV 3 narrow (doV 4 narrow a b) b = mM at *
    generalize doV 1 narrow a b = sS at *
    generalize doV 13 narrow b a = nN at *
    generalize doV 4 narrow a b = qQ at *
    generalize doV 5 narrow a b = rR at *
    cases narrow
    · have hb0 : b = 0 := hb
      clear hb ma mb
      subst hb0
      have hy : (0 : Int) = 0 := rfl
      clear hy
      have E2 : Hid (∀ w, Calls Try.prog 9 #[.int .u8 2, .bool false, .int .u64 sS, .int .u64 0] w (Pair (.int .u64 a) 0 w)) := Lib.hid d2
      have E4 : Hid (∀ w, Calls Try.prog 9 #[.int .u8 1, .bool false, .int .u64 sS, .int .u64 nN] w (Pair (.int .u64 a) 0 w)) := Lib.hid d4
      have E8 := Lib.hid d8
      have E1 := Lib.hid d1; have E3 := Lib.hid d3; have E5 := Lib.hid d5; have E6 := Lib.hid d6; have E7 := Lib.hid d7
      clear d1 d2 d3 d4 d5 d6 d7 d8
      go_enter Try.func6, Try.ntmps6
      go_wp2_with fail
      refine (awake _).mono ?_; rintro e w1 ⟨rfl, b1⟩; have B1 := Lib.hid b1; clear b1
      go_wp2_with fail
      refine (E1.out _).mono ?_; rintro e w2 ⟨rfl, b2⟩; have B2 := Lib.hid b2; clear b2
      go_wp2_with fail
      refine (E2.out _).mono ?_; rintro e w3 ⟨rfl, b3⟩; have B3 := Lib.hid b3; clear b3
      go_wp2_with fail
      refine (E3.out _).mono ?_; rintro e w4 ⟨rfl, b4⟩; have B4 := Lib.hid b4; clear b4
      go_wp2_with fail
      refine (E4.out _).mono ?_; rintro e w5 ⟨rfl, b5⟩; have B5 := Lib.hid b5; clear b5
      go_wp2_with fail
      refine (E5.out _).mono ?_; rintro e w6 ⟨rfl, b6⟩; have B6 := Lib.hid b6; clear b6
      go_wp2_with fail
      refine (E6.out _).mono ?_; rintro e w7 ⟨rfl, b7⟩; have B7 := Lib.hid b7; clear b7
      go_wp2_with fail
      refine (E7.out _).mono ?_; rintro e w8 ⟨rfl, b8⟩; have B8 := Lib.hid b8; clear b8
      go_wp2_with fail
      refine (E8.out _).mono ?_; rintro e w9 ⟨rfl, b9⟩; have B9 := Lib.hid b9; clear b9
      go_wp2
      have T0 := Lib.hid (ptab_new (w := w9) (w' := w9.alloc (.cells #[.int .u8 17, .int .u8 18, .int .u8 19, .int .u8 22, .int .u8 20, .int .u8 21, .int .u8 23, .int .u8 26, .int .u8 24, .int .u8 25] 34)) rfl)
      go_loopw [26, 27, 28, 29, 30] (fun i _ _ _ _ wr => ∃ k : Int, 0 ≤ k ∧ k ≤ 5 ∧ i = .int .i64 k ∧ Hid (PTab wr w9.heap.size) ∧ Hid (Below w.heap.size w wr)) (fun i _ _ _ _ _ => 5 - (intOf i).toNat)
      case atStart => exact ⟨0, by omega, by omega, rfl, T0, Lib.hid ((bel_trans (bel_trans (bel_trans (bel_trans (bel_trans (bel_trans (bel_trans (bel_trans (B1.out) B2.out) B3.out) B4.out) B5.out) B6.out) B7.out) B8.out) B9.out).alloc (bel_trans (bel_trans (bel_trans (bel_trans (bel_trans (bel_trans (bel_trans (bel_trans (B1.out) B2.out) B3.out) B4.out) B5.out) B6.out) B7.out) B8.out) B9.out).size _)⟩
      case round =>
        obtain ⟨k, hk0, hk5, rfl, T, B0⟩ := hrel
        obtain rfl | rfl | rfl | rfl | rfl | rfl : k = 0 ∨ k = 1 ∨ k = 2 ∨ k = 3 ∨ k = 4 ∨ k = 5 := by omega
        · clear hk0 hk5
          obtain ⟨v, J0, K0⟩ := rel_pair 17 18 (by decide) false a 0 I.out
          have J := Lib.hid J0; have K := Lib.hid K0; clear J0 K0
          have c0 := T.out.c0
          cases v
          all_goals
            go_wp2_with fail
            refine (J.out _).mono ?_; rintro e v1 ⟨rfl, b1⟩; have X1 := Lib.hid b1; clear b1
            have T1 := Lib.hid (T.out.below X1.out)
            have c1 := T1.out.c1
            go_wp2_with fail
            refine (K.out _).mono ?_; rintro e v2 ⟨rfl, b2⟩; have X2 := Lib.hid b2; clear b2
            go_wp2
            go_roundw
            case rel => exact ⟨1, by omega, by omega, rfl, Lib.hid (T1.out.below X2.out), Lib.hid (bel_trans (bel_trans B0.out X1.out) X2.out)⟩
            case measure => simp [intOf]
        · clear hk0 hk5
          obtain ⟨v, J0, K0⟩ := rel_pair 19 22 (by decide) false a 0 I.out
          have J := Lib.hid J0; have K := Lib.hid K0; clear J0 K0
          have c0 := T.out.c2
          cases v
          all_goals
            go_wp2_with fail
            refine (J.out _).mono ?_; rintro e v1 ⟨rfl, b1⟩; have X1 := Lib.hid b1; clear b1
            have T1 := Lib.hid (T.out.below X1.out)
            have c1 := T1.out.c3
            go_wp2_with fail
            refine (K.out _).mono ?_; rintro e v2 ⟨rfl, b2⟩; have X2 := Lib.hid b2; clear b2
            go_wp2
            go_roundw
            case rel => exact ⟨2, by omega, by omega, rfl, Lib.hid (T1.out.below X2.out), Lib.hid (bel_trans (bel_trans B0.out X1.out) X2.out)⟩
            case measure => simp [intOf]
        · clear hk0 hk5
          obtain ⟨v, J0, K0⟩ := rel_pair 20 21 (by decide) false a 0 I.out
          have J := Lib.hid J0; have K := Lib.hid K0; clear J0 K0
          have c0 := T.out.c4
          cases v
          all_goals
            go_wp2_with fail
            refine (J.out _).mono ?_; rintro e v1 ⟨rfl, b1⟩; have X1 := Lib.hid b1; clear b1
            have T1 := Lib.hid (T.out.below X1.out)
            have c1 := T1.out.c5
            go_wp2_with fail
            refine (K.out _).mono ?_; rintro e v2 ⟨rfl, b2⟩; have X2 := Lib.hid b2; clear b2
            go_wp2
            go_roundw
            case rel => exact ⟨3, by omega, by omega, rfl, Lib.hid (T1.out.below X2.out), Lib.hid (bel_trans (bel_trans B0.out X1.out) X2.out)⟩
            case measure => simp [intOf]
        · clear hk0 hk5
          obtain ⟨v, J0, K0⟩ := rel_pair 23 26 (by decide) false a 0 I.out
          have J := Lib.hid J0; have K := Lib.hid K0; clear J0 K0
          have c0 := T.out.c6
          cases v
          all_goals
            go_wp2_with fail
            refine (J.out _).mono ?_; rintro e v1 ⟨rfl, b1⟩; have X1 := Lib.hid b1; clear b1
            have T1 := Lib.hid (T.out.below X1.out)
            have c1 := T1.out.c7
            go_wp2_with fail
            refine (K.out _).mono ?_; rintro e v2 ⟨rfl, b2⟩; have X2 := Lib.hid b2; clear b2
            go_wp2
            go_roundw
            case rel => exact ⟨4, by omega, by omega, rfl, Lib.hid (T1.out.below X2.out), Lib.hid (bel_trans (bel_trans B0.out X1.out) X2.out)⟩
            case measure => simp [intOf]
        · clear hk0 hk5
          obtain ⟨v, J0, K0⟩ := rel_pair 24 25 (by decide) false a 0 I.out
          have J := Lib.hid J0; have K := Lib.hid K0; clear J0 K0
          have c0 := T.out.c8
          cases v
          all_goals
            go_wp2_with fail
            refine (J.out _).mono ?_; rintro e v1 ⟨rfl, b1⟩; have X1 := Lib.hid b1; clear b1
            have T1 := Lib.hid (T.out.below X1.out)
            have c1 := T1.out.c9
            go_wp2_with fail
            refine (K.out _).mono ?_; rintro e v2 ⟨rfl, b2⟩; have X2 := Lib.hid b2; clear b2
            go_wp2
            go_roundw
            case rel => exact ⟨5, by omega, by omega, rfl, Lib.hid (T1.out.below X2.out), Lib.hid (bel_trans (bel_trans B0.out X1.out) X2.out)⟩
            case measure => simp [intOf]
        · clear hk0 hk5
          go_wp2
          go_ret
          exact ⟨rfl, B0.out⟩
    · have cx : bits .and .u64 a 4294967295 = cutI true a := ma
      have cy : bits .and .u64 b 4294967295 = cutI true b := mb
      clear ma mb
      generalize cutI true a = x at *
      generalize cutI true b = y at *
      subst hb
      have E2 := Lib.hid d2
      have E4 := Lib.hid d4
      have E8 := Lib.hid d8
      have E1 := Lib.hid d1; have E3 := Lib.hid d3; have E5 := Lib.hid d5; have E6 := Lib.hid d6; have E7 := Lib.hid d7
      clear d1 d2 d3 d4 d5 d6 d7 d8
      go_enter Try.func6, Try.ntmps6
      go_wp2_with fail
      refine (awake _).mono ?_; rintro e w1 ⟨rfl, b1⟩; have B1 := Lib.hid b1; clear b1
      go_wp2_with fail
      refine (E1.out _).mono ?_; rintro e w2 ⟨rfl, b2⟩; have B2 := Lib.hid b2; clear b2
      go_wp2_with fail
      refine (E2.out _).mono ?_; rintro e w3 ⟨rfl, b3⟩; have B3 := Lib.hid b3; clear b3
      go_wp2_with fail
      refine (E3.out _).mono ?_; rintro e w4 ⟨rfl, b4⟩; have B4 := Lib.hid b4; clear b4
      go_wp2_with fail
      refine (E4.out _).mono ?_; rintro e w5 ⟨rfl, b5⟩; have B5 := Lib.hid b5; clear b5
      go_wp2_with fail
      refine (E5.out _).mono ?_; rintro e w6 ⟨rfl, b6⟩; have B6 := Lib.hid b6; clear b6
      go_wp2_with fail
      refine (E6.out _).mono ?_; rintro e w7 ⟨rfl, b7⟩; have B7 := Lib.hid b7; clear b7
      go_wp2_with fail
      refine (E7.out _).mono ?_; rintro e w8 ⟨rfl, b8⟩; have B8 := Lib.hid b8; clear b8
      go_wp2_with fail
      refine (E8.out _).mono ?_; rintro e w9 ⟨rfl, b9⟩; have B9 := Lib.hid b9; clear b9
      go_wp2
      have T0 := Lib.hid (ptab_new (w := w9) (w' := w9.alloc (.cells #[.int .u8 17, .int .u8 18, .int .u8 19, .int .u8 22, .int .u8 20, .int .u8 21, .int .u8 23, .int .u8 26, .int .u8 24, .int .u8 25] 34)) rfl)
      go_loopw [26, 27, 28, 29, 30] (fun i _ _ _ _ wr => ∃ k : Int, 0 ≤ k ∧ k ≤ 5 ∧ i = .int .i64 k ∧ Hid (PTab wr w9.heap.size) ∧ Hid (Below w.heap.size w wr)) (fun i _ _ _ _ _ => 5 - (intOf i).toNat)
      case atStart => exact ⟨0, by omega, by omega, rfl, T0, Lib.hid ((bel_trans (bel_trans (bel_trans (bel_trans (bel_trans (bel_trans (bel_trans (bel_trans (B1.out) B2.out) B3.out) B4.out) B5.out) B6.out) B7.out) B8.out) B9.out).alloc (bel_trans (bel_trans (bel_trans (bel_trans (bel_trans (bel_trans (bel_trans (bel_trans (B1.out) B2.out) B3.out) B4.out) B5.out) B6.out) B7.out) B8.out) B9.out).size _)⟩
      case round =>
        obtain ⟨k, hk0, hk5, rfl, T, B0⟩ := hrel
        obtain rfl | rfl | rfl | rfl | rfl | rfl : k = 0 ∨ k = 1 ∨ k = 2 ∨ k = 3 ∨ k = 4 ∨ k = 5 := by omega
        · clear hk0 hk5
          obtain ⟨v, J0, K0⟩ := rel_pair 17 18 (by decide) true a b I.out
          have J := Lib.hid J0; have K := Lib.hid K0; clear J0 K0
          have c0 := T.out.c0
          cases v
          all_goals
            go_wp2_with fail
            refine (J.out _).mono ?_; rintro e v1 ⟨rfl, b1⟩; have X1 := Lib.hid b1; clear b1
            have T1 := Lib.hid (T.out.below X1.out)
            have c1 := T1.out.c1
            go_wp2_with fail
            refine (K.out _).mono ?_; rintro e v2 ⟨rfl, b2⟩; have X2 := Lib.hid b2; clear b2
            go_wp2
            go_roundw
            case rel => exact ⟨1, by omega, by omega, rfl, Lib.hid (T1.out.below X2.out), Lib.hid (bel_trans (bel_trans B0.out X1.out) X2.out)⟩
            case measure => simp [intOf]
        · clear hk0 hk5
          obtain ⟨v, J0, K0⟩ := rel_pair 19 22 (by decide) true a b I.out
          have J := Lib.hid J0; have K := Lib.hid K0; clear J0 K0
          have c0 := T.out.c2
          cases v
          all_goals
            go_wp2_with fail
            refine (J.out _).mono ?_; rintro e v1 ⟨rfl, b1⟩; have X1 := Lib.hid b1; clear b1
            have T1 := Lib.hid (T.out.below X1.out)
            have c1 := T1.out.c3
            go_wp2_with fail
            refine (K.out _).mono ?_; rintro e v2 ⟨rfl, b2⟩; have X2 := Lib.hid b2; clear b2
            go_wp2
            go_roundw
            case rel => exact ⟨2, by omega, by omega, rfl, Lib.hid (T1.out.below X2.out), Lib.hid (bel_trans (bel_trans B0.out X1.out) X2.out)⟩
            case measure => simp [intOf]
        · clear hk0 hk5
          obtain ⟨v, J0, K0⟩ := rel_pair 20 21 (by decide) true a b I.out
          have J := Lib.hid J0; have K := Lib.hid K0; clear J0 K0
          have c0 := T.out.c4
          cases v
          all_goals
            go_wp2_with fail
            refine (J.out _).mono ?_; rintro e v1 ⟨rfl, b1⟩; have X1 := Lib.hid b1; clear b1
            have T1 := Lib.hid (T.out.below X1.out)
            have c1 := T1.out.c5
            go_wp2_with fail
            refine (K.out _).mono ?_; rintro e v2 ⟨rfl, b2⟩; have X2 := Lib.hid b2; clear b2
            go_wp2
            go_roundw
            case rel => exact ⟨3, by omega, by omega, rfl, Lib.hid (T1.out.below X2.out), Lib.hid (bel_trans (bel_trans B0.out X1.out) X2.out)⟩
            case measure => simp [intOf]
        · clear hk0 hk5
          obtain ⟨v, J0, K0⟩ := rel_pair 23 26 (by decide) true a b I.out
          have J := Lib.hid J0; have K := Lib.hid K0; clear J0 K0
          have c0 := T.out.c6
          cases v
          all_goals
            go_wp2_with fail
            refine (J.out _).mono ?_; rintro e v1 ⟨rfl, b1⟩; have X1 := Lib.hid b1; clear b1
            have T1 := Lib.hid (T.out.below X1.out)
            have c1 := T1.out.c7
            go_wp2_with fail
            refine (K.out _).mono ?_; rintro e v2 ⟨rfl, b2⟩; have X2 := Lib.hid b2; clear b2
            go_wp2
            go_roundw
            case rel => exact ⟨4, by omega, by omega, rfl, Lib.hid (T1.out.below X2.out), Lib.hid (bel_trans (bel_trans B0.out X1.out) X2.out)⟩
            case measure => simp [intOf]
        · clear hk0 hk5
          obtain ⟨v, J0, K0⟩ := rel_pair 24 25 (by decide) true a b I.out
          have J := Lib.hid J0; have K := Lib.hid K0; clear J0 K0
          have c0 := T.out.c8
          cases v
          all_goals
            go_wp2_with fail
            refine (J.out _).mono ?_; rintro e v1 ⟨rfl, b1⟩; have X1 := Lib.hid b1; clear b1
            have T1 := Lib.hid (T.out.below X1.out)
            have c1 := T1.out.c9
            go_wp2_with fail
            refine (K.out _).mono ?_; rintro e v2 ⟨rfl, b2⟩; have X2 := Lib.hid b2; clear b2
            go_wp2
            go_roundw
            case rel => exact ⟨5, by omega, by omega, rfl, Lib.hid (T1.out.below X2.out), Lib.hid (bel_trans (bel_trans B0.out X1.out) X2.out)⟩
            case measure => simp [intOf]
        · clear hk0 hk5
          go_wp2
          go_ret
          exact ⟨rfl, B0.out⟩
  · have ud := undo_div narrow a b h0 h1 k0 k1 hb
    rw [e_quot 4 narrow b (by omega) hb] at d5
    rw [e_quot 5 narrow b (by omega) hb] at d6
    rw [ud.1] at d8
    have lt := ud.2
    clear ua un rS rN rQ rR rM h0 h1 k0 k1 w_a w_b ud
    generalize doV 3 narrow (doV 4 narrow a b) b = mM at *
    generalize doV 1 narrow a b = sS at *
    generalize doV 13 narrow b a = nN at *
    generalize doV 4 narrow a b = qQ at *
    generalize doV 5 narrow a b = rR at *
    cases narrow
    · have hz : (b == 0) = false := by simpa using (show ¬ b = 0 from hb)
      have hn : (b != 0) = true := by simpa using (show ¬ b = 0 from hb)
      have lt2 : rR < b := lt
      clear hb ma mb lt
      have E2 : Hid (∀ w, Calls Try.prog 9 #[.int .u8 2, .bool false, .int .u64 sS, .int .u64 b] w (Pair (.int .u64 a) 0 w)) := Lib.hid d2
      have E4 : Hid (∀ w, Calls Try.prog 9 #[.int .u8 1, .bool false, .int .u64 sS, .int .u64 nN] w (Pair (.int .u64 a) 0 w)) := Lib.hid d4
      have E8 : Hid (∀ w, Calls Try.prog 9 #[.int .u8 1, .bool false, .int .u64 mM, .int .u64 rR] w (Pair (.int .u64 a) 0 w)) := Lib.hid d8
      have E1 := Lib.hid d1; have E3 := Lib.hid d3; have E5 := Lib.hid d5; have E6 := Lib.hid d6; have E7 := Lib.hid d7
      clear d1 d2 d3 d4 d5 d6 d7 d8
      go_enter Try.func6, Try.ntmps6
      go_wp2_with fail
      refine (awake _).mono ?_; rintro e w1 ⟨rfl, b1⟩; have B1 := Lib.hid b1; clear b1
      go_wp2_with fail
      refine (E1.out _).mono ?_; rintro e w2 ⟨rfl, b2⟩; have B2 := Lib.hid b2; clear b2
      go_wp2_with fail
      refine (E2.out _).mono ?_; rintro e w3 ⟨rfl, b3⟩; have B3 := Lib.hid b3; clear b3
      go_wp2_with fail
      refine (E3.out _).mono ?_; rintro e w4 ⟨rfl, b4⟩; have B4 := Lib.hid b4; clear b4
      go_wp2_with fail
      refine (E4.out _).mono ?_; rintro e w5 ⟨rfl, b5⟩; have B5 := Lib.hid b5; clear b5
      go_wp2_with fail
      refine (E5.out _).mono ?_; rintro e w6 ⟨rfl, b6⟩; have B6 := Lib.hid b6; clear b6
      go_wp2_with fail
      refine (E6.out _).mono ?_; rintro e w7 ⟨rfl, b7⟩; have B7 := Lib.hid b7; clear b7
      go_wp2_with fail
      refine (E7.out _).mono ?_; rintro e w8 ⟨rfl, b8⟩; have B8 := Lib.hid b8; clear b8
      go_wp2_with fail
      refine (E8.out _).mono ?_; rintro e w9 ⟨rfl, b9⟩; have B9 := Lib.hid b9; clear b9
      go_wp2
      have T0 := Lib.hid (ptab_new (w := w9) (w' := w9.alloc (.cells #[.int .u8 17, .int .u8 18, .int .u8 19, .int .u8 22, .int .u8 20, .int .u8 21, .int .u8 23, .int .u8 26, .int .u8 24, .int .u8 25] 34)) rfl)
      go_loopw [26, 27, 28, 29, 30] (fun i _ _ _ _ wr => ∃ k : Int, 0 ≤ k ∧ k ≤ 5 ∧ i = .int .i64 k ∧ Hid (PTab wr w9.heap.size) ∧ Hid (Below w.heap.size w wr)) (fun i _ _ _ _ _ => 5 - (intOf i).toNat)
      case atStart => exact ⟨0, by omega, by omega, rfl, T0, Lib.hid ((bel_trans (bel_trans (bel_trans (bel_trans (bel_trans (bel_trans (bel_trans (bel_trans (B1.out) B2.out) B3.out) B4.out) B5.out) B6.out) B7.out) B8.out) B9.out).alloc (bel_trans (bel_trans (bel_trans (bel_trans (bel_trans (bel_trans (bel_trans (bel_trans (B1.out) B2.out) B3.out) B4.out) B5.out) B6.out) B7.out) B8.out) B9.out).size _)⟩
      case round =>
        obtain ⟨k, hk0, hk5, rfl, T, B0⟩ := hrel
        obtain rfl | rfl | rfl | rfl | rfl | rfl : k = 0 ∨ k = 1 ∨ k = 2 ∨ k = 3 ∨ k = 4 ∨ k = 5 := by omega
        · clear hk0 hk5
          obtain ⟨v, J0, K0⟩ := rel_pair 17 18 (by decide) false a b I.out
          have J := Lib.hid J0; have K := Lib.hid K0; clear J0 K0
          have c0 := T.out.c0
          cases v
          all_goals
            go_wp2_with fail
            refine (J.out _).mono ?_; rintro e v1 ⟨rfl, b1⟩; have X1 := Lib.hid b1; clear b1
            have T1 := Lib.hid (T.out.below X1.out)
            have c1 := T1.out.c1
            go_wp2_with fail
            refine (K.out _).mono ?_; rintro e v2 ⟨rfl, b2⟩; have X2 := Lib.hid b2; clear b2
            go_wp2
            go_roundw
            case rel => exact ⟨1, by omega, by omega, rfl, Lib.hid (T1.out.below X2.out), Lib.hid (bel_trans (bel_trans B0.out X1.out) X2.out)⟩
            case measure => simp [intOf]
        · clear hk0 hk5
          obtain ⟨v, J0, K0⟩ := rel_pair 19 22 (by decide) false a b I.out
          have J := Lib.hid J0; have K := Lib.hid K0; clear J0 K0
          have c0 := T.out.c2
          cases v
          all_goals
            go_wp2_with fail
            refine (J.out _).mono ?_; rintro e v1 ⟨rfl, b1⟩; have X1 := Lib.hid b1; clear b1
            have T1 := Lib.hid (T.out.below X1.out)
            have c1 := T1.out.c3
            go_wp2_with fail
            refine (K.out _).mono ?_; rintro e v2 ⟨rfl, b2⟩; have X2 := Lib.hid b2; clear b2
            go_wp2
            go_roundw
            case rel => exact ⟨2, by omega, by omega, rfl, Lib.hid (T1.out.below X2.out), Lib.hid (bel_trans (bel_trans B0.out X1.out) X2.out)⟩
            case measure => simp [intOf]
        · clear hk0 hk5
          obtain ⟨v, J0, K0⟩ := rel_pair 20 21 (by decide) false a b I.out
          have J := Lib.hid J0; have K := Lib.hid K0; clear J0 K0
          have c0 := T.out.c4
          cases v
          all_goals
            go_wp2_with fail
            refine (J.out _).mono ?_; rintro e v1 ⟨rfl, b1⟩; have X1 := Lib.hid b1; clear b1
            have T1 := Lib.hid (T.out.below X1.out)
            have c1 := T1.out.c5
            go_wp2_with fail
            refine (K.out _).mono ?_; rintro e v2 ⟨rfl, b2⟩; have X2 := Lib.hid b2; clear b2
            go_wp2
            go_roundw
            case rel => exact ⟨3, by omega, by omega, rfl, Lib.hid (T1.out.below X2.out), Lib.hid (bel_trans (bel_trans B0.out X1.out) X2.out)⟩
            case measure => simp [intOf]
        · clear hk0 hk5
          obtain ⟨v, J0, K0⟩ := rel_pair 23 26 (by decide) false a b I.out
          have J := Lib.hid J0; have K := Lib.hid K0; clear J0 K0
          have c0 := T.out.c6
          cases v
          all_goals
            go_wp2_with fail
            refine (J.out _).mono ?_; rintro e v1 ⟨rfl, b1⟩; have X1 := Lib.hid b1; clear b1
            have T1 := Lib.hid (T.out.below X1.out)
            have c1 := T1.out.c7
            go_wp2_with fail
            refine (K.out _).mono ?_; rintro e v2 ⟨rfl, b2⟩; have X2 := Lib.hid b2; clear b2
            go_wp2
            go_roundw
            case rel => exact ⟨4, by omega, by omega, rfl, Lib.hid (T1.out.below X2.out), Lib.hid (bel_trans (bel_trans B0.out X1.out) X2.out)⟩
            case measure => simp [intOf]
        · clear hk0 hk5
          obtain ⟨v, J0, K0⟩ := rel_pair 24 25 (by decide) false a b I.out
          have J := Lib.hid J0; have K := Lib.hid K0; clear J0 K0
          have c0 := T.out.c8
          cases v
          all_goals
            go_wp2_with fail
            refine (J.out _).mono ?_; rintro e v1 ⟨rfl, b1⟩; have X1 := Lib.hid b1; clear b1
            have T1 := Lib.hid (T.out.below X1.out)
            have c1 := T1.out.c9
            go_wp2_with fail
            refine (K.out _).mono ?_; rintro e v2 ⟨rfl, b2⟩; have X2 := Lib.hid b2; clear b2
            go_wp2
            go_roundw
            case rel => exact ⟨5, by omega, by omega, rfl, Lib.hid (T1.out.below X2.out), Lib.hid (bel_trans (bel_trans B0.out X1.out) X2.out)⟩
            case measure => simp [intOf]
        · clear hk0 hk5
          go_wp2
          go_ret
          exact ⟨rfl, B0.out⟩
    · have cx : bits .and .u64 a 4294967295 = cutI true a := ma
      have cy : bits .and .u64 b 4294967295 = cutI true b := mb
      clear ma mb
      generalize cutI true a = x at *
      generalize cutI true b = y at *
      have hz : (y == 0) = false := by simpa using hb
      have hn : (y != 0) = true := by simpa using hb
      have lt2 := lt
      clear hb lt
      have E2 := Lib.hid d2
      have E4 := Lib.hid d4
      have E8 := Lib.hid d8
      have E1 := Lib.hid d1; have E3 := Lib.hid d3; have E5 := Lib.hid d5; have E6 := Lib.hid d6; have E7 := Lib.hid d7
      clear d1 d2 d3 d4 d5 d6 d7 d8
      go_enter Try.func6, Try.ntmps6
      go_wp2_with fail
      refine (awake _).mono ?_; rintro e w1 ⟨rfl, b1⟩; have B1 := Lib.hid b1; clear b1
      go_wp2_with fail
      refine (E1.out _).mono ?_; rintro e w2 ⟨rfl, b2⟩; have B2 := Lib.hid b2; clear b2
      go_wp2_with fail
      refine (E2.out _).mono ?_; rintro e w3 ⟨rfl, b3⟩; have B3 := Lib.hid b3; clear b3
      go_wp2_with fail
      refine (E3.out _).mono ?_; rintro e w4 ⟨rfl, b4⟩; have B4 := Lib.hid b4; clear b4
      go_wp2_with fail
      refine (E4.out _).mono ?_; rintro e w5 ⟨rfl, b5⟩; have B5 := Lib.hid b5; clear b5
      go_wp2_with fail
      refine (E5.out _).mono ?_; rintro e w6 ⟨rfl, b6⟩; have B6 := Lib.hid b6; clear b6
      go_wp2_with fail
      refine (E6.out _).mono ?_; rintro e w7 ⟨rfl, b7⟩; have B7 := Lib.hid b7; clear b7
      go_wp2_with fail
      refine (E7.out _).mono ?_; rintro e w8 ⟨rfl, b8⟩; have B8 := Lib.hid b8; clear b8
      go_wp2_with fail
      refine (E8.out _).mono ?_; rintro e w9 ⟨rfl, b9⟩; have B9 := Lib.hid b9; clear b9
      go_wp2
      have T0 := Lib.hid (ptab_new (w := w9) (w' := w9.alloc (.cells #[.int .u8 17, .int .u8 18, .int .u8 19, .int .u8 22, .int .u8 20, .int .u8 21, .int .u8 23, .int .u8 26, .int .u8 24, .int .u8 25] 34)) rfl)
      go_loopw [26, 27, 28, 29, 30] (fun i _ _ _ _ wr => ∃ k : Int, 0 ≤ k ∧ k ≤ 5 ∧ i = .int .i64 k ∧ Hid (PTab wr w9.heap.size) ∧ Hid (Below w.heap.size w wr)) (fun i _ _ _ _ _ => 5 - (intOf i).toNat)
      case atStart => exact ⟨0, by omega, by omega, rfl, T0, Lib.hid ((bel_trans (bel_trans (bel_trans (bel_trans (bel_trans (bel_trans (bel_trans (bel_trans (B1.out) B2.out) B3.out) B4.out) B5.out) B6.out) B7.out) B8.out) B9.out).alloc (bel_trans (bel_trans (bel_trans (bel_trans (bel_trans (bel_trans (bel_trans (bel_trans (B1.out) B2.out) B3.out) B4.out) B5.out) B6.out) B7.out) B8.out) B9.out).size _)⟩
      case round =>
        obtain ⟨k, hk0, hk5, rfl, T, B0⟩ := hrel
        obtain rfl | rfl | rfl | rfl | rfl | rfl : k = 0 ∨ k = 1 ∨ k = 2 ∨ k = 3 ∨ k = 4 ∨ k = 5 := by omega
        · clear hk0 hk5
          obtain ⟨v, J0, K0⟩ := rel_pair 17 18 (by decide) true a b I.out
          have J := Lib.hid J0; have K := Lib.hid K0; clear J0 K0
          have c0 := T.out.c0
          cases v
          all_goals
            go_wp2_with fail
            refine (J.out _).mono ?_; rintro e v1 ⟨rfl, b1⟩; have X1 := Lib.hid b1; clear b1
            have T1 := Lib.hid (T.out.below X1.out)
            have c1 := T1.out.c1
            go_wp2_with fail
            refine (K.out _).mono ?_; rintro e v2 ⟨rfl, b2⟩; have X2 := Lib.hid b2; clear b2
            go_wp2
            go_roundw
            case rel => exact ⟨1, by omega, by omega, rfl, Lib.hid (T1.out.below X2.out), Lib.hid (bel_trans (bel_trans B0.out X1.out) X2.out)⟩
            case measure => simp [intOf]
        · clear hk0 hk5
          obtain ⟨v, J0, K0⟩ := rel_pair 19 22 (by decide) true a b I.out
          have J := Lib.hid J0; have K := Lib.hid K0; clear J0 K0
          have c0 := T.out.c2
          cases v
          all_goals
            go_wp2_with fail
            refine (J.out _).mono ?_; rintro e v1 ⟨rfl, b1⟩; have X1 := Lib.hid b1; clear b1
            have T1 := Lib.hid (T.out.below X1.out)
            have c1 := T1.out.c3
            go_wp2_with fail
            refine (K.out _).mono ?_; rintro e v2 ⟨rfl, b2⟩; have X2 := Lib.hid b2; clear b2
            go_wp2
            go_roundw
            case rel => exact ⟨2, by omega, by omega, rfl, Lib.hid (T1.out.below X2.out), Lib.hid (bel_trans (bel_trans B0.out X1.out) X2.out)⟩
            case measure => simp [intOf]
        · clear hk0 hk5
          obtain ⟨v, J0, K0⟩ := rel_pair 20 21 (by decide) true a b I.out
          have J := Lib.hid J0; have K := Lib.hid K0; clear J0 K0
          have c0 := T.out.c4
          cases v
          all_goals
            go_wp2_with fail
            refine (J.out _).mono ?_; rintro e v1 ⟨rfl, b1⟩; have X1 := Lib.hid b1; clear b1
            have T1 := Lib.hid (T.out.below X1.out)
            have c1 := T1.out.c5
            go_wp2_with fail
            refine (K.out _).mono ?_; rintro e v2 ⟨rfl, b2⟩; have X2 := Lib.hid b2; clear b2
            go_wp2
            go_roundw
            case rel => exact ⟨3, by omega, by omega, rfl, Lib.hid (T1.out.below X2.out), Lib.hid (bel_trans (bel_trans B0.out X1.out) X2.out)⟩
            case measure => simp [intOf]
        · clear hk0 hk5
          obtain ⟨v, J0, K0⟩ := rel_pair 23 26 (by decide) true a b I.out
          have J := Lib.hid J0; have K := Lib.hid K0; clear J0 K0
          have c0 := T.out.c6
          cases v
          all_goals
            go_wp2_with fail
            refine (J.out _).mono ?_; rintro e v1 ⟨rfl, b1⟩; have X1 := Lib.hid b1; clear b1
            have T1 := Lib.hid (T.out.below X1.out)
            have c1 := T1.out.c7
            go_wp2_with fail
            refine (K.out _).mono ?_; rintro e v2 ⟨rfl, b2⟩; have X2 := Lib.hid b2; clear b2
            go_wp2
            go_roundw
            case rel => exact ⟨4, by omega, by omega, rfl, Lib.hid (T1.out.below X2.out), Lib.hid (bel_trans (bel_trans B0.out X1.out) X2.out)⟩
            case measure => simp [intOf]
        · clear hk0 hk5
          obtain ⟨v, J0, K0⟩ := rel_pair 24 25 (by decide) true a b I.out
          have J := Lib.hid J0; have K := Lib.hid K0; clear J0 K0
          have c0 := T.out.c8
          cases v
          all_goals
            go_wp2_with fail
            refine (J.out _).mono ?_; rintro e v1 ⟨rfl, b1⟩; have X1 := Lib.hid b1; clear b1
            have T1 := Lib.hid (T.out.below X1.out)
            have c1 := T1.out.c9
            go_wp2_with fail
            refine (K.out _).mono ?_; rintro e v2 ⟨rfl, b2⟩; have X2 := Lib.hid b2; clear b2
            go_wp2
            go_roundw
            case rel => exact ⟨5, by omega, by omega, rfl, Lib.hid (T1.out.below X2.out), Lib.hid (bel_trans (bel_trans B0.out X1.out) X2.out)⟩
            case measure => simp [intOf]
        · clear hk0 hk5
          go_wp2
          go_ret
          exact ⟨rfl, B0.out⟩

set_option maxRecDepth 100000 in
theorem lifted (os : Os) (started : os.Started) (H : Type) (enc : TypeId × Value → H) :
    ReturnsInHanded {} Try.checked os 6 .any (Rows.aluPartsSpec.pre6 enc Try.prog Try.f6 Rows.aluPartsRow.domain false) (Rows.aluPartsSpec.post enc Try.prog Try.f6 false true false false) := by
  refine returnsInHanded_of_change (C := Try.checked) own started (by kernel_rfl) Try.func6
    (ChangeSpec.witness6 (enc := enc) (C := Try.checked) false ⟨#[], #[.bool false, .int .u64 0, .int .u64 0], []⟩ 8 (by kernel_rfl) (by kernel_rfl) (by kernel_rfl) (by kernel_rfl)) ?_
  intro W base args ds gs before hval0 hW hcnd _
  have hval : ∀ (j : Nat) t v, Try.f6.params[j]? = some t → args[j]? = some v → Value.okWide Try.prog W .any base t v := hval0
  have hW' := hW
  obtain ⟨p, q, hA0, hV, rfl, hfz, hnd⟩ := hW
  have hA : DataW.TrodAll enc Try.prog W 0 (fun _ => true) true Try.f6.params.toList args.toList ds p := hA0
  rw [Try.params6] at hA hval
  obtain ⟨v0, vs0, d0, ds0, p0, q0, hargs, rfl, rfl, h0, r0⟩ := trodAll_cons hA
  obtain ⟨v1, vs1, d1, ds1, p1, q1, rfl, rfl, rfl, h1, r1⟩ := trodAll_cons r0
  obtain ⟨v2, vs2, d2, ds2, p2, q2, rfl, rfl, rfl, h2, r2⟩ := trodAll_cons r1
  obtain ⟨rfl, rfl, rfl⟩ := trodAll_nil r2
  obtain rfl : args = #[v0, v1, v2] := by cases args; simp_all
  obtain ⟨rfl, rfl⟩ := trodVars_none hV
  obtain ⟨narrow, rfl, rfl, rfl⟩ := open_bool Try.underlying4 (hval 0 4 v0 rfl rfl) h0
  obtain ⟨a, rfl, rfl, rfl, w_a⟩ := open_int Try.underlying23 (hval 1 23 v1 rfl rfl) h1
  obtain ⟨b, rfl, rfl, rfl, w_b⟩ := open_int Try.underlying23 (hval 2 23 v2 rfl rfl) h2
  clear hA0 hval0
  simp only [List.append_nil] at hW'
  refine (walk narrow a b w_a w_b W).mono fun e W' ⟨he, bel⟩ => ?_
  subst he
  exact ⟨_, rfl, _, _, _, [], _, [], hW', trodAll_mk1 (shut_bool Try.underlying4 _), (trodAll_cons_mk (shut_bool Try.underlying4 _) (trodAll_cons_mk (shut_int Try.underlying23 w_a) (trodAll_cons_mk (shut_int Try.underlying23 w_b) trodAll_mk0))), rfl, bel.frame _, fun h => by cases h⟩
theorem over : Rows.aluPartsRow.holds Try.pinned (OpenSpec.ofChange Rows.aluPartsSpec) :=
  OpenClaim.holds_of_wide 6 Try.f6 rfl rfl rfl rfl rfl rfl rfl ⟨rfl, rfl, rfl, rfl, rfl⟩ rfl rfl rfl rfl rfl (by kernel_rfl) Try.func6 (by kernel_rfl)
    (of_decide_eq_true (by kernel_rfl)) (by unfold Func.isWrapper; first | (rw [if_pos (by decide +kernel)]; kernel_rfl) | (rw [if_neg (by decide +kernel)]; exact ⟨rfl, rfl⟩))
    (fun os started H enc _ => lifted os started H enc)
theorem proved : Rows.AluPartsSaid := over
end Go.Proofs.Ytlggmfbmaoajcaa.aluParts
