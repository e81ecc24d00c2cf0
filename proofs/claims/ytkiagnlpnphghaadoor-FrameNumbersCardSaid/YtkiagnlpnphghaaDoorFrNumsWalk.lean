/- The way of FrameNumbers: the laws, called with kinds at their ends, the longest Data, frames cut and turned. -/
import Derived.Test.YtkiagnlpnphghaaDoorFrNumsKit
namespace Go.Proofs.YtkiagnlpnphghaaDoor
open Go.RowKit
set_option linter.unusedVariables false
set_option linter.unusedSimpArgs false

def kindsL : List Int := [-9223372036854775808, -256, -1, 0, 1, 255, 256, 257, 512, 9223372036854775807]
theorem kinds_cell (w : World) (k : Nat) (h : k < 10) : (w.alloc (.cells #[.int .i64 (-9223372036854775808), .int .i64 (-256), .int .i64 (-1), .int .i64 0, .int .i64 1, .int .i64 255, .int .i64 256, .int .i64 257, .int .i64 512, .int .i64 9223372036854775807] 3)).cell? ⟨w.heap.size, k, none⟩ = some (.int .i64 (nth kindsL k)) := by
  obtain ⟨ao, cap, h1, h2, h3, h4, h5⟩ := is_lit w kindsL (by decide)
  cases h1
  have := h5 _ rfl k h
  rw [add_none, Nat.zero_add] at this
  exact this
/-- FramePuts of two small frames. -/
theorem puts_two (w : World) (T : Tab w) (t : TypeId) (u0 u1 : Value) (k0 k1 : Int) (d0 d1 : List Int) (h0 : Bs w u0 d0) (h1 : Bs w u1 d1) (o0 : Oct d0) (o1 : Oct d1) (s0 : d0.length ≤ 100) (s1 : d1.length ≤ 100) :
    Calls Tryd.prog 3 #[.slice (some ⟨w.heap.size, 0, none⟩) 2 2] (w.alloc (.cells #[.int .i64 k0, u0, .int .i64 k1, u1] t)) (Gives (.bool true) (w.alloc (.cells #[.int .i64 k0, u0, .int .i64 k1, u1] t))) :=
  framePutsOf _ _ [(k0, d0), (k1, d1)] _ (T.alloc _) (frs_two h0 h1) (fun f hf => by
    simp at hf; rcases hf with rfl | rfl
    · exact o0
    · exact o1) (fun f hf => by
    simp at hf; rcases hf with rfl | rfl
    · show d0.length ≤ _; omega
    · show d1.length ≤ _; omega)

set_option maxHeartbeats 8000000 in
set_option maxRecDepth 100000 in
theorem frameNumbersOf (w : World) (T : Tab w) : Calls Tryd.prog 5 #[] w (Gives (.bool true) w) := by
  have HT := Lib.hid T
  have HN := Lib.hid (fun k h => kinds_cell w k h)
  have HB0 := Lib.hid (alloc_below w (.cells #[.int .i64 (-9223372036854775808), .int .i64 (-256), .int .i64 (-1), .int .i64 0, .int .i64 1, .int .i64 255, .int .i64 256, .int .i64 257, .int .i64 512, .int .i64 9223372036854775807] 3))
  have hsz : w.heap.size < (w.alloc (.cells #[.int .i64 (-9223372036854775808), .int .i64 (-256), .int .i64 (-1), .int .i64 0, .int .i64 1, .int .i64 255, .int .i64 256, .int .i64 257, .int .i64 512, .int .i64 9223372036854775807] 3)).heap.size := by simp
  have hTl := T.alloc (.cells #[.int .i64 (-9223372036854775808), .int .i64 (-256), .int .i64 (-1), .int .i64 0, .int .i64 1, .int .i64 255, .int .i64 256, .int .i64 257, .int .i64 512, .int .i64 9223372036854775807] 3)
  clear T
  go_enter Tryd.func5, Tryd.ntmps5
  go_wp2_with fail
  generalize w.alloc (.cells #[.int .i64 (-9223372036854775808), .int .i64 (-256), .int .i64 (-1), .int .i64 0, .int .i64 1, .int .i64 255, .int .i64 256, .int .i64 257, .int .i64 512, .int .i64 9223372036854775807] 3) = wl at *
  have HSZ := Lib.hid hsz
  have HTl := Lib.hid hTl
  have HWL := Lib.hid (HB0.out).size
  clear hsz hTl
  go_loopw [2] (fun i wr => ∃ k : Nat, k ≤ 10 ∧ i = .int .i64 k ∧ Hid (Below wl.heap.size wl wr)) (fun i _ => 10 - (intOf i).toNat)
  case atStart => exact ⟨0, by omega, rfl, Lib.hid (Below.refl _ _)⟩
  case round =>
    obtain ⟨k, hk, rfl, HB⟩ := hrel
    by_cases hlt : k < 10
    · have hd : decide ((k : Int) < 10) = true := by simp; omega
      have HC := Lib.hid (fun (W : World) (hb : Below wl.heap.size wl W) => ((hb.cell (p := ⟨w.heap.size, k, none⟩) HSZ.out).trans (HN.out k hlt) : W.cell? ⟨w.heap.size, k, none⟩ = some (.int .i64 (nth kindsL k))))
      have i0 : (0 : Int) ≤ (k : Int) := by omega
      have i1 : (k : Int) < 10 := by omega
      generalize nth kindsL k = x at *
      have ck := HC.out wr HB.out
      have P1 := puts_two (wr.alloc (.cells #[.int .u8 5] 5)) (((HTl.out).past HB.out).alloc _) 37 _ _ 1 x [] [5] (Bs.nil _) (bs_lit wr 5) Oct.nil (fun x hx => by simp at hx; omega) (by simp) (by simp)
      rw [World.size_alloc] at P1
      have HP1 := Lib.hid P1
      clear P1
      go_wp2_with fail
      refine (HP1.out).mono ?_; rintro e y1 ⟨rfl, b1⟩
      have B1 := Lib.hid (bel_past (bel_two HB.out _ _) b1)
      have ck1 := HC.out y1 B1.out
      clear b1 HP1
      have P2 := puts_two (y1.alloc (.cells #[.int .u8 6] 5)) (((HTl.out).past B1.out).alloc _) 37 _ _ x (-1) [6] [] (bs_lit y1 6) (Bs.nil _) (fun x hx => by simp at hx; omega) Oct.nil (by simp) (by simp)
      rw [World.size_alloc] at P2
      have HP2 := Lib.hid P2
      clear P2
      go_wp2_with fail
      refine (HP2.out).mono ?_; rintro e y2 ⟨rfl, b2⟩
      have B2 := Lib.hid (bel_past (bel_two B1.out _ _) b2)
      clear b2 HP2
      go_wp2_with fail
      go_roundw
      case rel => exact ⟨k + 1, by omega, by go_num, B2⟩
      case measure => simp [intOf]; omega
    · obtain rfl : k = 10 := by omega
      clear HN HSZ
      obtain ⟨i, hi, hz, hs1, hb1⟩ := u8info
      have HI := Lib.hid hi
      have HZ := Lib.hid hz
      have HS1 := Lib.hid hs1
      have HB1 := Lib.hid hb1
      clear hi hz hs1 hb1
      go_wp2_with (at_make; refine wpList_make_full _ rfl _ _ 27 rfl wr.heap.size 5 i (.int .u8 0) 1 Tryd.underlying27 HI.out HZ.out HS1.out _ _ _ _ 262145 rfl rfl rfl rfl (by rw [HB1.out]; omega) (by unfold maxLen; omega) (Nat.le_refl _) ?_)
      intro w1 ho1 hg1
      have O1 := Lib.hid (zeros_own ho1)
      have B1 := Lib.hid ((HB.out).grown hg1 (HB.out).size (fun k e => by cases e))
      clear ho1 hg1
      have PU1 := put _ _ [(0, List.replicate 262144 0)] _ (((HTl.out).past B1.out).alloc (.cells #[.int .i64 0, .slice (some ⟨wr.heap.size, 1, none⟩) 262144 262144] 36)) (frs_one (zeros_drop (n := 262144) (by omega) (O1.out).bs)) (fun f hf => (zeros_ok (Nat.le_refl _) f hf).2) (by rw [zeros_len]; omega)
      have he1 : putErr [(0, List.replicate 262144 0)] = 0 := putErr_of_ok fun f hf => (zeros_ok (Nat.le_refl _) f hf).1
      have HP1 := Lib.hid PU1
      have HE1 := Lib.hid he1
      clear PU1 he1
      go_wp2_with fail
      refine (HP1.out).mono ?_; rintro e w2 ⟨a2, n2, c2, rfl, o2, b2⟩
      have B2 := Lib.hid (bel_past ((B1.out).alloc (B1.out).size _) b2)
      have Z2 := Lib.hid (((O1.out).bs.alloc (.cells #[.int .i64 0, .slice (some ⟨wr.heap.size, 1, none⟩) 262144 262144] 36)).past b2)
      rw [if_pos HE1.out] at o2
      rw [HE1.out]
      have hn2 := o2.slen'
      rw [zeros_len] at hn2
      have hn2 : n2 = 262153 := hn2
      subst hn2
      have O2 := Lib.hid o2.bs
      clear o2 b2 HP1
      have PU2 := put _ _ [(3, []), (0, List.replicate 262145 0)] _ (((HTl.out).past B2.out).alloc (.cells #[.int .i64 3, .slice none 0 0, .int .i64 0, .slice (some ⟨wr.heap.size, 0, none⟩) 262145 262145] 36)) (frs_two (Bs.nil _) Z2.out) (fun f hf => by
        simp only [List.mem_cons, List.not_mem_nil, or_false] at hf
        rcases hf with rfl | rfl
        · exact Oct.nil
        · exact zeros_oct _) (by rw [zeros_len2]; omega)
      have HP2 := Lib.hid PU2
      have HE2 := Lib.hid (zeros_long (n := 262145) (by omega))
      clear PU2
      go_wp2_with fail
      refine (HP2.out).mono ?_; rintro e w3 ⟨a3, n3, c3, rfl, -, b3⟩
      have B3 := Lib.hid (bel_past ((B2.out).alloc (B2.out).size _) b3)
      have O3 := Lib.hid (((O2.out).alloc (.cells #[.int .i64 3, .slice none 0 0, .int .i64 0, .slice (some ⟨wr.heap.size, 0, none⟩) 262145 262145] 36)).past b3)
      rw [HE2.out]
      clear b3 HP2 HE2
      have SC := Lib.hid (scanIs _ _ w3 ((HTl.out).past B3.out) (O3.out) (frms_oct (zeros_ok (Nat.le_refl _))) (by rw [zeros_len]; omega) (scan_put (zeros_ok (Nat.le_refl _))))
      go_wp2_with fail
      refine (SC.out).mono ?_; rintro e w4 ⟨a4, n4, c4, vs4, rfl, o4, t4, b4, hl4⟩
      have hl4 : n4 = 1 := hl4.symm
      subst hl4
      rw [zeros_len]
      have B4 := Lib.hid (bel_past B3.out b4)
      obtain ⟨fb, fo, fc, hsh, hbl, hf4⟩ := (t4.frs o4).at (j := 0) (by decide)
      obtain rfl : a4 = some ⟨fb, fo, none⟩ := by cases hsh; rfl
      have f1 := hf4.c1
      obtain ⟨al, cl, hsl⟩ := hf4.bs.shape
      rw [show (fth [((0 : Int), List.replicate 262144 (0 : Int))] 0).2.length = 262144 from List.length_replicate] at hsl
      rw [hsl] at f1
      clear hsh hf4 hsl o4 t4 b4 SC
      go_wp2_with fail
      have l1 : Bs (w4.alloc (.cells #[.int .u8 1, .int .u8 2, .int .u8 3] 5)) (.slice (some ⟨w4.heap.size, 0, none⟩) 3 3) [1, 2, 3] := bs_list w4 [1, 2, 3] (by decide)
      have l2 : Bs ((w4.alloc (.cells #[.int .u8 1, .int .u8 2, .int .u8 3] 5)).alloc (.cells #[.int .u8 0, .int .u8 0, .int .u8 0, .int .u8 0, .int .u8 0] 5)) (.slice (some ⟨w4.heap.size + 1, 0, none⟩) 5 5) [0, 0, 0, 0, 0] := by
        have := bs_list (w4.alloc (.cells #[.int .u8 1, .int .u8 2, .int .u8 3] 5)) [0, 0, 0, 0, 0] (by decide)
        rw [World.size_alloc] at this
        exact this
      have R0 := refPut _ _ threeFr _ (frs_three (t := 46) (k0 := 9) (k1 := 255) (k2 := 0) (l1.alloc _) (Bs.nil _) l2) (fun f hf => (three_ok f hf).2) (by rw [three_len]; omega)
      rw [World.size_alloc, World.size_alloc] at R0
      have HR0 := Lib.hid R0
      clear R0 l1 l2
      clear f1
      go_wp2_with fail
      refine (HR0.out).mono ?_; rintro e w5 ⟨a5, n5, c5, rfl, o5, b5⟩
      have he5 : putErr threeFr = 0 := putErr_of_ok fun f hf => (three_ok f hf).1
      rw [if_pos he5] at o5
      rw [he5]
      have hn5 := o5.slen'
      rw [three_len] at hn5
      subst hn5
      have B5 := Lib.hid (bel_past ((bel_two B4.out (.cells #[.int .u8 1, .int .u8 2, .int .u8 3] 5) (.cells #[.int .u8 0, .int .u8 0, .int .u8 0, .int .u8 0, .int .u8 0] 5)).alloc (bel_two B4.out _ _).size _) b5)
      obtain ⟨g5, cg, hv5, -⟩ := own_pos o5 (by rw [three_len]; omega)
      obtain rfl : a5 = some ⟨g5, 0, none⟩ := by injection hv5
      have E5 := Lib.hid o5.bs
      have hc5 : 35 ≤ c5 := by obtain ⟨_, _, h, h1, _⟩ := o5.bs; injection h with _ _ h; rw [three_len] at h1; omega
      have HO5 := Lib.hid (frms_oct three_ok)
      have HL5 := Lib.hid three_len
      clear o5 b5 hv5 he5 HR0
      generalize frms threeFr = L5 at *
      go_wp2_with fail
      go_loopw [13] (fun i W => ∃ q : Nat, q ≤ 36 ∧ i = .int .i64 q ∧ Hid (Below wl.heap.size wl W) ∧ Hid (Bs W (.slice (some ⟨g5, 0, none⟩) 35 c5) L5)) (fun i _ => 36 - (intOf i).toNat)
      case atStart => exact ⟨0, by omega, rfl, B5, E5⟩
      case round =>
        obtain ⟨q, hq, rfl, HBr, HE⟩ := hrel
        clear B5 E5
        by_cases hlq : q ≤ 35
        · have hdq : decide ((q : Int) ≤ 35) = true := by simp; omega
          have j0 : (0 : Int) ≤ (q : Int) := by omega
          have j1 : (q : Int) ≤ 35 := by omega
          have j4 : (q : Int) ≤ (c5 : Int) := by omega
          have SC1 := Lib.hid (scansOf _ _ wr ((HTl.out).past HBr.out) ((HE.out).take (n := q) (by have := HL5.out; omega)) ((HO5.out).take q) (by rw [List.length_take]; have := HL5.out; omega))
          by_cases hcq : c5 = q
          · obtain rfl : q = 35 := by omega
            subst hcq
            go_wp2_with fail
            refine (SC1.out).mono ?_; rintro e y1 ⟨rfl, p1⟩
            have HB1 := Lib.hid (bel_past HBr.out p1)
            have E1 := Lib.hid ((HE.out).past p1)
            have SC2 := Lib.hid (scansOf _ _ y1 ((HTl.out).past HB1.out) ((drop_at E1.out (n := 35) (by have := HL5.out; omega)).1 rfl) ((HO5.out).drop 35) (by rw [List.length_drop]; have := HL5.out; omega))
            clear SC1 p1
            go_wp2_with fail
            refine (SC2.out).mono ?_; rintro e y2 ⟨rfl, p2⟩
            have HB2 := Lib.hid (bel_past HB1.out p2)
            have E2 := Lib.hid ((E1.out).past p2)
            clear SC2 p2
            go_wp2_with fail
            go_roundw
            case rel => exact ⟨35 + 1, by omega, by go_num, HB2, E2⟩
            case measure => simp [intOf]
          · have hcq2 : ¬ ((c5 : Int) = (q : Int)) := by omega
            go_wp2_with fail
            refine (SC1.out).mono ?_; rintro e y1 ⟨rfl, p1⟩
            have HB1 := Lib.hid (bel_past HBr.out p1)
            have E1 := Lib.hid ((HE.out).past p1)
            have SC2 := Lib.hid (scansOf _ _ y1 ((HTl.out).past HB1.out) ((drop_at E1.out (n := q) (by have := HL5.out; omega)).2 hcq) ((HO5.out).drop q) (by rw [List.length_drop]; have := HL5.out; omega))
            clear SC1 p1
            go_wp2_with fail
            refine (SC2.out).mono ?_; rintro e y2 ⟨rfl, p2⟩
            have HB2 := Lib.hid (bel_past HB1.out p2)
            have E2 := Lib.hid ((E1.out).past p2)
            clear SC2 p2
            go_wp2_with fail
            go_roundw
            case rel => exact ⟨q + 1, by omega, by go_num, HB2, E2⟩
            case measure => simp [intOf]; omega
        · obtain rfl : q = 36 := by omega
          clear hlq hq
          rw [show ((36 : Nat) : Int) = 36 from rfl]
          go_wp2_with fail
          go_loopw [14, 15, 16] (fun i _ _ W => ∃ q : Nat, q ≤ 35 ∧ i = .int .i64 q ∧ Hid (Below wl.heap.size wl W) ∧ Hid (Bs W (.slice (some ⟨g5, 0, none⟩) 35 c5) L5)) (fun i _ _ _ => 35 - (intOf i).toNat)
          case atStart => exact ⟨0, by omega, rfl, HBr, HE⟩
          case round =>
            obtain ⟨q, hq, rfl, HB6, HE6⟩ := hrel
            clear HBr HE
            by_cases hlq : q < 35
            · have hdq : decide ((q : Int) < 35) = true := by simp; omega
              go_wp2_with fail
              go_loopw [15, 16] (fun j _ W => ∃ r : Nat, r ≤ 8 ∧ j = .int .i64 r ∧ Hid (Below wl.heap.size wl W) ∧ Hid (Bs W (.slice (some ⟨g5, 0, none⟩) 35 c5) L5)) (fun j _ _ => 8 - (intOf j).toNat)
              case atStart => exact ⟨0, by omega, rfl, HB6, HE6⟩
              case round =>
                obtain ⟨r, hr, rfl, HB7, HE7⟩ := hrel
                clear HB6 HE6
                by_cases hlr : r < 8
                · have hdr : decide ((r : Int) < 8) = true := by simp; omega
                  have CB := Lib.hid (copyBytes _ L5 wr HE7.out (by have := HL5.out; omega))
                  rw [HL5.out] at CB
                  go_wp2_with fail
                  refine (CB.out).mono ?_; rintro e y1 ⟨ac, cc, rfl, oc, bc⟩
                  have HB8 := Lib.hid (bel_past HB7.out bc)
                  have HE8 := Lib.hid ((HE7.out).past bc)
                  obtain ⟨g, cg, hvg, -⟩ := own_pos oc (by have := HL5.out; omega)
                  obtain rfl : ac = some ⟨g, 0, none⟩ := by injection hvg
                  obtain ⟨cells, frz⟩ := own_cells oc
                  have cx := cells q hlq
                  have fx := frz q
                  have hvo := (HO5.out).nth (j := q) (by have := HL5.out; omega)
                  have hbx := Lib.hid (bit_turn hvo.1 hvo.2 hlr)
                  have hfo := Lib.hid (flip_oct HO5.out q (x := ((nth L5 q).toNat ^^^ 2 ^ r : Nat)) (by have := flip_byte hvo.1 hvo.2 hlr; omega))
                  have i0 : (0 : Int) ≤ (q : Int) := by omega
                  have i1 : (q : Int) < 35 := by omega
                  have OC := Lib.hid (oc.stored q ((nth L5 q).toNat ^^^ 2 ^ r : Nat))
                  have HB9 := Lib.hid ((HB8.out).setCell (p := ⟨g, q, none⟩) (by have := (oc.lt g rfl).1; have := (HB7.out).size; show wl.heap.size ≤ g; omega) (.int .u8 ((nth L5 q).toNat ^^^ 2 ^ r : Nat)))
                  have HE9 := Lib.hid ((HE7.out).past ((bc).setCell (p := ⟨g, q, none⟩) (oc.lt g rfl).1 (.int .u8 ((nth L5 q).toNat ^^^ 2 ^ r : Nat))))
                  clear CB oc bc hvg cells frz HB8 HE8 hvo
                  generalize nth L5 q = V at *
                  go_upto_region 27 with fail
                  rw [hbx.out]
                  have SC3 := Lib.hid (scansOf _ _ _ ((HTl.out).past HB9.out) (OC.out).bs hfo.out (by rw [List.length_set]; have := HL5.out; omega))
                  go_wp2_with fail
                  refine (SC3.out).mono ?_; rintro e y2 ⟨rfl, p2⟩
                  have HBz := Lib.hid (bel_past HB9.out p2)
                  have HEz := Lib.hid ((HE9.out).past p2)
                  clear SC3 p2
                  go_wp2_with fail
                  go_roundw
                  case rel => exact ⟨r + 1, by omega, by go_num, HBz, HEz⟩
                  case measure => simp [intOf]; omega
                · obtain rfl : r = 8 := by omega
                  go_wp2_with fail
                  go_roundw
                  case rel => exact ⟨q + 1, by omega, by go_num, HB7, HE7⟩
                  case measure => simp [intOf]; omega
            · obtain rfl : q = 35 := by omega
              have S1 := Lib.hid (scansLit wr ((HTl.out).past HB6.out) [0, 0, 4, 0, 0, 1, 2, 3, 4, 5] (by decide) (oct_of (by decide)))
              go_wp2_with fail
              refine (S1.out).mono ?_; rintro e y1 ⟨rfl, p1⟩
              have HBa := Lib.hid (bel_past ((HB6.out).alloc (HB6.out).size _) p1)
              clear S1 p1
              have S2 := Lib.hid (scansLit y1 ((HTl.out).past HBa.out) [0, 0, 4, 0, 1, 1, 2, 3, 4, 5] (by decide) (oct_of (by decide)))
              go_wp2_with fail
              refine (S2.out).mono ?_; rintro e y2 ⟨rfl, p2⟩
              have HBb := Lib.hid (bel_past ((HBa.out).alloc (HBa.out).size _) p2)
              clear S2 p2
              have S3 := Lib.hid (scansLit y2 ((HTl.out).past HBb.out) [0, 0, 4, 0, 1, 1, 2, 3] (by decide) (oct_of (by decide)))
              go_wp2_with fail
              refine (S3.out).mono ?_; rintro e y3 ⟨rfl, p3⟩
              have HBc := Lib.hid (bel_past ((HBb.out).alloc (HBb.out).size _) p3)
              clear S3 p3
              have S4 := Lib.hid (scansLit y3 ((HTl.out).past HBc.out) [0, 255, 255, 255, 255, 1, 2, 3, 4, 5] (by decide) (oct_of (by decide)))
              go_wp2_with fail
              refine (S4.out).mono ?_; rintro e y4 ⟨rfl, p4⟩
              have HBd := Lib.hid (bel_past ((HBc.out).alloc (HBc.out).size _) p4)
              clear S4 p4
              have AW := Lib.hid (awakeOf y4 ((HTl.out).past HBd.out))
              go_wp2_with fail
              refine (AW.out).mono ?_; rintro e y5 ⟨rfl, p5⟩
              have HBe := Lib.hid (bel_past HBd.out p5)
              clear AW p5
              go_wp2_with fail
              go_ret
              exact ⟨rfl, bel_trans HB0.out HBe.out⟩
end Go.Proofs.YtkiagnlpnphghaaDoor
