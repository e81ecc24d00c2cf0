/- A step of layer 4's rounds: the words of state move up, t and u come in. -/
import Derived.Test.YtknkmblacaaegaaDoorShaMem
namespace Go.Proofs.YtknkmblacaaegaaDoor
open Go.RowKit
set_option linter.unusedVariables false
set_option linter.unusedSimpArgs false
set_option maxRecDepth 100000

theorem big_or {x : Nat} (h : x < 4294967296) (i j k : Nat) : bits .xor .u32 (bits .xor .u32 ((rotr i x : Nat) : Int) ((rotr j x : Nat) : Int)) ((rotr k x : Nat) : Int) = ((rotr i x ^^^ rotr j x ^^^ rotr k x : Nat) : Int) := by
  rw [Go.u32_xor_nat _ _ (rotr_lt h) (rotr_lt h), Go.u32_xor_nat _ _ (xor_lt (rotr_lt h) (rotr_lt h)) (rotr_lt h)]
theorem all_xor {x : Nat} (h : x < 4294967296) : 4294967295 ^^^ x = 4294967295 - x := by
  apply Nat.eq_of_testBit_eq
  intro i
  rw [Nat.testBit_xor, show (4294967295 : Nat) = 2 ^ 32 - 1 from rfl, Nat.testBit_two_pow_sub_one]
  rw [show 2 ^ 32 - 1 - x = 2 ^ 32 - (x + 1) from by omega, Nat.testBit_two_pow_sub_succ h]
  by_cases hi : i < 32
  · simp [hi]
  · simp [hi, Nat.testBit_lt_two_pow (Nat.lt_of_lt_of_le h (Nat.pow_le_pow_right (n := 2) (by decide) (show 32 ≤ i by omega)))]
theorem cho_or {e f g : Nat} (he : e < 4294967296) (hf : f < 4294967296) (hg : g < 4294967296) : bits .or .u32 (bits .and .u32 (e : Int) f) (bits .and .u32 (bits .xor .u32 IntKind.u32.max (e : Int)) g) = ((cho e f g : Nat) : Int) := by
  rw [show IntKind.u32.max = ((4294967295 : Nat) : Int) from rfl, Go.u32_xor_nat _ _ (by decide) he, all_xor he, Go.u32_and_nat _ _ he hf, Go.u32_and_nat _ _ (by omega) hg, Go.u32_or_nat _ _ (and_lt he) (and_lt (by omega))]
  rfl
theorem mja_or {a b c : Nat} (ha : a < 4294967296) (hb : b < 4294967296) (hc : c < 4294967296) : bits .or .u32 (bits .or .u32 (bits .and .u32 (a : Int) b) (bits .and .u32 (a : Int) c)) (bits .and .u32 (b : Int) c) = ((mja a b c : Nat) : Int) := by
  rw [Go.u32_and_nat _ _ ha hb, Go.u32_and_nat _ _ ha hc, Go.u32_and_nat _ _ hb hc, Go.u32_or_nat _ _ (and_lt ha) (and_lt ha), Go.u32_or_nat _ _ (or_lt (and_lt ha) (and_lt ha)) (and_lt hb)]
  rfl

set_option maxHeartbeats 2000000 in
theorem step (g : Nat) (s : Sta) (n : Nat) (w : World) (h : Cel w g (wv s.list)) (ho : s.ok) (hn : n < 4294967296) :
    Calls Tryd.prog 88 #[.pointer (some ⟨g, 0, none⟩), .int .u32 n] w fun e w' => e = .returned (.tuple #[]) ∧ Cel w' g (wv (s.step n).list) ∧ w.grownBy w' (some g) := by
  obtain ⟨a, b, c, d, e, f, g0, h0⟩ := s
  obtain ⟨la, lb, lc, ld, le, lf, lg, lh⟩ := ho
  simp only at la lb lc ld le lf lg lh
  have c0 : w.cell? ⟨g, 0, none⟩ = some (.int .u32 a) := h.cell rfl
  have c1 : w.cell? ⟨g, 1, none⟩ = some (.int .u32 b) := h.cell rfl
  have c2 : w.cell? ⟨g, 2, none⟩ = some (.int .u32 c) := h.cell rfl
  have c4 : w.cell? ⟨g, 4, none⟩ = some (.int .u32 e) := h.cell rfl
  have c5 : w.cell? ⟨g, 5, none⟩ = some (.int .u32 f) := h.cell rfl
  have c6 : w.cell? ⟨g, 6, none⟩ = some (.int .u32 g0) := h.cell rfl
  have c7 : w.cell? ⟨g, 7, none⟩ = some (.int .u32 h0) := h.cell rfl
  have H := Lib.hid h
  have E1 := cho_or le lf lg
  have E2 := mja_or la lb lc
  have E3 := big_or le 6 11 25
  have E4 := big_or la 2 13 22
  have T := Lib.hid (fun x n k w h => turned x n k w h)
  have HT : Hid (tee ⟨a, b, c, d, e, f, g0, h0⟩ n = (h0 + (rotr 6 e ^^^ rotr 11 e ^^^ rotr 25 e) + cho e f g0 + n) % 4294967296) := Lib.hid rfl
  have HU : Hid (you ⟨a, b, c, d, e, f, g0, h0⟩ = ((rotr 2 a ^^^ rotr 13 a ^^^ rotr 22 a) + mja a b c) % 4294967296) := Lib.hid rfl
  have HS : Hid ((Sta.step ⟨a, b, c, d, e, f, g0, h0⟩ n).list = [(tee ⟨a, b, c, d, e, f, g0, h0⟩ n + you ⟨a, b, c, d, e, f, g0, h0⟩) % 4294967296, a, b, c, (d + tee ⟨a, b, c, d, e, f, g0, h0⟩ n) % 4294967296, e, f, g0]) := Lib.hid rfl
  clear h
  generalize tee ⟨a, b, c, d, e, f, g0, h0⟩ n = te at *
  generalize you ⟨a, b, c, d, e, f, g0, h0⟩ = yo at *
  generalize (Sta.step ⟨a, b, c, d, e, f, g0, h0⟩ n).list = out at *
  generalize rotr 6 e ^^^ rotr 11 e ^^^ rotr 25 e = r1 at *
  generalize rotr 2 a ^^^ rotr 13 a ^^^ rotr 22 a = r0 at *
  generalize cho e f g0 = ch at *
  generalize mja a b c = mj at *
  have HT2 : ((h0 : Int) + (r1 : Int) + (ch : Int) + (n : Int)) % 4294967296 = (te : Int) := by rw [HT.out]; omega
  have HU2 : ((r0 : Int) + (mj : Int)) % 4294967296 = (yo : Int) := by rw [HU.out]; omega
  have hs1 := Lib.hid (show ∀ w, Calls Tryd.prog 98 #[.int .u32 e, .int .i64 6] w fun x w' => w = w' ∧ x = .returned (.int .u32 (rotr 6 e : Nat)) from fun w => turned e 6 6 w le (by simp [Turn]) rfl)
  have hs2 := Lib.hid (show ∀ w, Calls Tryd.prog 98 #[.int .u32 e, .int .i64 11] w fun x w' => w = w' ∧ x = .returned (.int .u32 (rotr 11 e : Nat)) from fun w => turned e 11 11 w le (by simp [Turn]) rfl)
  have hs3 := Lib.hid (show ∀ w, Calls Tryd.prog 98 #[.int .u32 e, .int .i64 25] w fun x w' => w = w' ∧ x = .returned (.int .u32 (rotr 25 e : Nat)) from fun w => turned e 25 25 w le (by simp [Turn]) rfl)
  have hs4 := Lib.hid (show ∀ w, Calls Tryd.prog 98 #[.int .u32 a, .int .i64 2] w fun x w' => w = w' ∧ x = .returned (.int .u32 (rotr 2 a : Nat)) from fun w => turned a 2 2 w la (by simp [Turn]) rfl)
  have hs5 := Lib.hid (show ∀ w, Calls Tryd.prog 98 #[.int .u32 a, .int .i64 13] w fun x w' => w = w' ∧ x = .returned (.int .u32 (rotr 13 a : Nat)) from fun w => turned a 13 13 w la (by simp [Turn]) rfl)
  have hs6 := Lib.hid (show ∀ w, Calls Tryd.prog 98 #[.int .u32 a, .int .i64 22] w fun x w' => w = w' ∧ x = .returned (.int .u32 (rotr 22 a : Nat)) from fun w => turned a 22 22 w la (by simp [Turn]) rfl)
  clear T
  generalize rotr 6 e = p1 at *
  generalize rotr 11 e = p2 at *
  generalize rotr 25 e = p3 at *
  generalize rotr 2 a = q1 at *
  generalize rotr 13 a = q2 at *
  generalize rotr 22 a = q3 at *
  go_enter Tryd.func88, Tryd.ntmps88
  go_wp2
  go_quiet (fail)
  obtain ⟨n1, rfl⟩ : ∃ n1, n1 = nq := ⟨_, rfl⟩
  go_wp2
  go_quiet (fail)
  go_wp2_with fail
  refine ((hs1.out) _).mono ?_; rintro e1 w1 ⟨rfl, rfl⟩
  go_wp2_with fail
  refine ((hs2.out) _).mono ?_; rintro e1 w1 ⟨rfl, rfl⟩
  go_wp2_with fail
  refine ((hs3.out) _).mono ?_; rintro e1 w1 ⟨rfl, rfl⟩
  go_wp2_with fail
  refine ((hs4.out) _).mono ?_; rintro e1 w1 ⟨rfl, rfl⟩
  go_wp2_with fail
  refine ((hs5.out) _).mono ?_; rintro e1 w1 ⟨rfl, rfl⟩
  go_wp2_with fail
  refine ((hs6.out) _).mono ?_; rintro e1 w1 ⟨rfl, rfl⟩
  go_wp2
  have H2 := Lib.hid ((H.out).drewN (n1 + nq))
  have G2 := Lib.hid (grownBy_drewN w (n1 + nq) (some g))
  generalize w.drewN (n1 + nq) = w1 at *
  clear c0 c1 c2 c4 c5 c6 c7
  go_still_tail 6, (by kernel_rfl)
  change wpList _ _ _ _ _ w1.drew
  have H3 := Lib.hid ((H2.out).drew)
  have G3 := Lib.hid (grownBy_trans G2.out (grownBy_drewN w1 1 (some g)))
  have e1 : w1.drewN 1 = w1.drew := rfl
  rw [e1] at G3
  clear H2 G2 e1
  generalize w1.drew = w2 at *
  obtain ⟨ty, hb⟩ := H3.out
  have HB := Lib.hid hb
  clear hb
  refine wpList_copy_own rfl (.tmp 88) (.tmp 91) 103 103 rfl 65 Tryd.underlying103 (by kernel_rfl) g 1 7 7 ⟨g, 0, none⟩ 8 8 rfl rfl _ ty HB.out (wv [a, b, c, d, e, f, g0]) rfl (fun j v hj => ?_) (Nat.le_refl _) (wv_one _) ?_
  case refine_1 =>
    rw [add_none]
    refine (H3.out).cell ?_
    rw [Nat.zero_add]
    match j, hj with
    | 0, hj => exact hj
    | 1, hj => exact hj
    | 2, hj => exact hj
    | 3, hj => exact hj
    | 4, hj => exact hj
    | 5, hj => exact hj
    | 6, hj => exact hj
  have H4 : Cel (w2.setRow g (wv [a, a, b, c, d, e, f, g0]).toArray) g (wv [a, a, b, c, d, e, f, g0]) := (H3.out).row
  have G4 := Lib.hid (grownBy_trans G3.out (grownBy_setRow w2 g (wv [a, a, b, c, d, e, f, g0]).toArray))
  change wpList _ _ _ _ _ (w2.setRow g (wv [a, a, b, c, d, e, f, g0]).toArray)
  generalize w2.setRow g (wv [a, a, b, c, d, e, f, g0]).toArray = w3 at *
  clear H3 G3 HB
  have c4 : w3.cell? ⟨g, 4, none⟩ = some (.int .u32 d) := H4.cell rfl
  have c0 : w3.cell? ⟨g, 0, none⟩ = some (.int .u32 a) := H4.cell rfl
  have z4 := H4.frozen 4
  have z0 := H4.frozen 0
  have H5 := Lib.hid H4
  clear H4
  go_wp2
  go_region
  go_wp2
  go_end0
  refine ⟨rfl, ?_, ?_⟩
  · have h6 := ((H5.out).set 4 (.int .u32 (((d : Int) + te) % 4294967296))).set 0 (.int .u32 (((te : Int) + yo) % 4294967296))
    rw [HS.out]
    have x1 : ((d : Int) + te) % 4294967296 = (((d + te) % 4294967296 : Nat) : Int) := by omega
    have x2 : ((te : Int) + yo) % 4294967296 = (((te + yo) % 4294967296 : Nat) : Int) := by omega
    rw [x1, x2] at h6 ⊢
    exact h6.drew
  · exact grownBy_trans (grownBy_trans (grownBy_trans G4.out (grownBy_setCell _ _ _)) (grownBy_setCell _ _ _)) (grownBy_drewN _ 1 _)
end Go.Proofs.YtknkmblacaaegaaDoor
