/- The document's side: the instruction that eight bytes may be. -/
import Derived.Test.YtmkhcgfbeeimaaaDoorInsRefB
import Derived.Test.YtmkhcgfbeeimaaaDoorInsLent
import Derived.Test.YtmkhcgfbeeimaaaDoorInsStr
import Derived.Deep.RegionHeld3
import Derived.Deep.DeepCutAuto
namespace Go.Proofs.YtmkhcgfbeeimaaaDoor
open Go.RowKit
set_option linter.unusedVariables false
set_option linter.unusedSimpArgs false
set_option maxRecDepth 100000

theorem oc_second (w : World) (o : Obj) (t : TypeId) (c0 c1 c2 c3 c4 c5 c6 c7 : Value) : Oc ((w.alloc o).alloc (Obj.cells #[c0, c1, c2, c3, c4, c5, c6, c7] t)).drew.drew.drew t (w.heap.size + 1) c0 c1 c2 c3 c4 c5 c6 c7 := by
  have := oc_new (w.alloc o) t c0 c1 c2 c3 c4 c5 c6 c7
  rw [show (w.alloc o).heap.size = w.heap.size + 1 by simp] at this
  exact this
theorem oc_first (w : World) (o : Obj) (t : TypeId) (c0 c1 c2 c3 c4 c5 c6 c7 : Value) : Oc ((w.alloc (Obj.cells #[c0, c1, c2, c3, c4, c5, c6, c7] t)).alloc o).drew.drew.drew t w.heap.size c0 c1 c2 c3 c4 c5 c6 c7 :=
  (oc_new w t c0 c1 c2 c3 c4 c5 c6 c7).alloc o
theorem cell_wrote {w : World} {k b' : Nat} (h : b' ≠ k) (c0 c1 c2 c3 c4 c5 c6 c7 : Value) (j : Nat) : (wrote w k c0 c1 c2 c3 c4 c5 c6 c7).cell? ⟨b', j, none⟩ = w.cell? ⟨b', j, none⟩ :=
  World.cell?_of_block (a := ⟨b', j, none⟩) (wrote_other h c0 c1 c2 c3 c4 c5 c6 c7)
theorem eight_wrote {w : World} {k b' : Nat} {c0 c1 c2 c3 c4 c5 c6 c7 : Value} (h : w.cell? ⟨b', 0, none⟩ = some c0 ∧ w.cell? ⟨b', 1, none⟩ = some c1 ∧ w.cell? ⟨b', 2, none⟩ = some c2 ∧ w.cell? ⟨b', 3, none⟩ = some c3 ∧ w.cell? ⟨b', 4, none⟩ = some c4 ∧ w.cell? ⟨b', 5, none⟩ = some c5 ∧ w.cell? ⟨b', 6, none⟩ = some c6 ∧ w.cell? ⟨b', 7, none⟩ = some c7) (hk : b' ≠ k) (d0 d1 d2 d3 d4 d5 d6 d7 : Value) :
    (wrote w k d0 d1 d2 d3 d4 d5 d6 d7).cell? ⟨b', 0, none⟩ = some c0 ∧ (wrote w k d0 d1 d2 d3 d4 d5 d6 d7).cell? ⟨b', 1, none⟩ = some c1 ∧ (wrote w k d0 d1 d2 d3 d4 d5 d6 d7).cell? ⟨b', 2, none⟩ = some c2 ∧ (wrote w k d0 d1 d2 d3 d4 d5 d6 d7).cell? ⟨b', 3, none⟩ = some c3 ∧ (wrote w k d0 d1 d2 d3 d4 d5 d6 d7).cell? ⟨b', 4, none⟩ = some c4 ∧ (wrote w k d0 d1 d2 d3 d4 d5 d6 d7).cell? ⟨b', 5, none⟩ = some c5 ∧ (wrote w k d0 d1 d2 d3 d4 d5 d6 d7).cell? ⟨b', 6, none⟩ = some c6 ∧ (wrote w k d0 d1 d2 d3 d4 d5 d6 d7).cell? ⟨b', 7, none⟩ = some c7 := by
  simp only [cell_wrote hk]; exact h
theorem bs_wrote {w : World} {b o n cap k : Nat} {l : List Int} (h : Bs w (.slice (some ⟨b, o, none⟩) n cap) l) (hk : b < k) (d0 d1 d2 d3 d4 d5 d6 d7 : Value) : Bs (wrote w k d0 d1 d2 d3 d4 d5 d6 d7) (.slice (some ⟨b, o, none⟩) n cap) l :=
  h.below (B := k) (fun a m c hv _ => by cases hv; exact hk) (wrote_below (Below.refl _ _) (Nat.le_refl _) d0 d1 d2 d3 d4 d5 d6 d7)
theorem bs_wrote_up {w : World} {b n cap k : Nat} {l : List Int} (h : Bs w (.slice (some ⟨b, 0, none⟩) n cap) l) (hk : k < b) (d0 d1 d2 d3 d4 d5 d6 d7 : Value) : Bs (wrote w k d0 d1 d2 d3 d4 d5 d6 d7) (.slice (some ⟨b, 0, none⟩) n cap) l := by
  obtain ⟨ao, c, hv, h1, h2, h3, h4⟩ := h
  cases hv
  refine ⟨_, _, rfl, h1, h2, h3, fun a ha j hj => ?_⟩
  cases ha
  have := h4 _ rfl j hj
  rw [add_none] at this ⊢
  rw [cell_wrote (by omega)]; exact this
/-- e returns the instruction, and whether it has these bytes. -/
def One (i : Ins) (ok : Bool) (w : World) (e : Ending) (w' : World) : Prop := e = .returned (.tuple #[agg i, .bool ok]) ∧ Below w.heap.size w w'

set_option maxHeartbeats 16000000 in
theorem refOne_at (b o cap : Nat) (b0 b1 b2 b3 b4 b5 b6 b7 : Int) (w : World) (hcap : 8 ≤ cap)
    (z0 : w.cell? ⟨b, o, none⟩ = some (.int .u8 b0)) (z1 : w.cell? ⟨b, o + 1, none⟩ = some (.int .u8 b1)) (z2 : w.cell? ⟨b, o + 2, none⟩ = some (.int .u8 b2)) (z3 : w.cell? ⟨b, o + 3, none⟩ = some (.int .u8 b3))
    (z4 : w.cell? ⟨b, o + 4, none⟩ = some (.int .u8 b4)) (z5 : w.cell? ⟨b, o + 5, none⟩ = some (.int .u8 b5)) (z6 : w.cell? ⟨b, o + 6, none⟩ = some (.int .u8 b6)) (z7 : w.cell? ⟨b, o + 7, none⟩ = some (.int .u8 b7))
    (h0 : 0 ≤ b0) (h0' : b0 < 256) (h1 : 0 ≤ b1) (h1' : b1 < 256) (h2 : 0 ≤ b2) (h2' : b2 < 256) (h3 : 0 ≤ b3) (h3' : b3 < 256) (h4 : 0 ≤ b4) (h4' : b4 < 256) (h5 : 0 ≤ b5) (h5' : b5 < 256) (h6 : 0 ≤ b6) (h6' : b6 < 256) (h7 : 0 ≤ b7) (h7' : b7 < 256)
    (p : Int) (nw : Bool) (d s : Int) (u : Bool) (f g sz : Int) (hp : b0 % 32 = p) (hu : (b0 / 32 % 2 == 1) = u) (hd : b1 / 16 = d) (hs : b1 % 16 = s) (hf : f = unwrap (256 * b2 + b3) 65536) (hg : g = unwrap (16777216 * b4 + 65536 * b5 + 256 * b6 + b7) 4294967296)
    (hz : sz = if p = 14 ∨ p = 15 then (if b0 / 64 = 0 then 1 else if b0 / 64 = 1 then 2 else if b0 / 64 = 2 then 4 else 8) else 0) (hn : nw = if p = 14 ∨ p = 15 then false else decide (b0 / 64 % 2 = 1))
    (cb : List Int) (HB : Hid (Bs w (.slice (some ⟨b, o, none⟩) 8 cap) cb)) (HOC : Hid (Oct cb)) (HOK : Hid (okI cb = (right ⟨p, nw, d, s, u, f, g, sz⟩ && decide (enc ⟨p, nw, d, s, u, f, g, sz⟩ = cb)))) :
    Calls Tryd.prog 41 #[.slice (some ⟨b, o, none⟩) 8 cap] w (One ⟨p, nw, d, s, u, f, g, sz⟩ (okI cb) w) := by
  have hb : b < w.heap.size := World.block_lt_of_cell? w _ z0
  have hb1 : b ≠ w.heap.size := by omega
  have hb2 : b ≠ w.heap.size + 1 := by omega
  have HP := Lib.hid hp
  have HU := Lib.hid hu
  have HD := Lib.hid hd
  have HS := Lib.hid hs
  clear hp hu hd hs
  have HF := Lib.hid hf
  have HG := Lib.hid hg
  have HZ := Lib.hid hz
  have HN := Lib.hid hn
  obtain ⟨OK, hOK⟩ : ∃ x, x = okI cb := ⟨_, rfl⟩
  rw [← hOK]
  rw [← hOK] at HOK
  clear hf hg hz hn hOK
  go_enter Tryd.func41, Tryd.ntmps41
  go_upto_region 1 with fail
  go_cut [4] (fun v0 wx => v0 = .pointer (some ⟨w.heap.size + 1, 0, none⟩) ∧ wx = ((w.alloc (Obj.cells #[.int .u8 0, .bool false, .int .i64 0, .int .i64 0, .bool false, .int .i64 0, .int .i64 0, .int .i64 0] 27)).alloc (Obj.cells #[.int .u8 (b0 % 32), .bool false, .int .i64 (b1 / 16), .int .i64 (b1 % 16), .bool (b0 / 32 % 2 == 1), .int .i64 0, .int .i64 0, .int .i64 0] 27)).drew)
  case first =>
    go_region
    go_wp2_with fail
    go_meet
    exact ⟨rfl, rfl⟩
  case rest =>
  obtain ⟨rfl, rfl⟩ := hcut
  go_upto_region 2 with fail
  go_cut [3] (fun v0 wx => v0 = .bool false ∧ wx = ((w.alloc (Obj.cells #[.int .u8 0, .bool false, .int .i64 0, .int .i64 0, .bool false, .int .i64 0, .int .i64 0, .int .i64 0] 27)).alloc (Obj.cells #[.int .u8 (b0 % 32), .bool false, .int .i64 (b1 / 16), .int .i64 (b1 % 16), .bool (b0 / 32 % 2 == 1), .int .i64 (256 * b2 + b3), .int .i64 0, .int .i64 0] 27)).drew.drew)
  case first =>
    go_region
    go_wp2_with fail
    go_meet
    exact ⟨rfl, rfl⟩
  case rest =>
  obtain ⟨rfl, rfl⟩ := hcut
  go_upto_if 41 with fail
  go_cut [3] (fun v0 wx => v0 = .bool false ∧ wx = ((w.alloc (Obj.cells #[.int .u8 0, .bool false, .int .i64 0, .int .i64 0, .bool false, .int .i64 0, .int .i64 0, .int .i64 0] 27)).alloc (Obj.cells #[.int .u8 (b0 % 32), .bool false, .int .i64 (b1 / 16), .int .i64 (b1 % 16), .bool (b0 / 32 % 2 == 1), .int .i64 f, .int .i64 0, .int .i64 0] 27)).drew.drew)
  case first =>
    have e := HF.out
    unfold unwrap at e
    by_cases c : 32768 ≤ 256 * b2 + b3
    · have dc : decide (32768 ≤ 256 * b2 + b3) = true := by simpa using c
      rw [if_pos (by omega)] at e
      subst e
      go_wp2_with fail
      go_meet
      exact ⟨rfl, rfl⟩
    · have dc : decide (32768 ≤ 256 * b2 + b3) = false := by simpa using c
      rw [if_neg (by omega)] at e
      subst e
      go_wp2_with fail
      go_meet
      exact ⟨rfl, rfl⟩
  case rest =>
  obtain ⟨rfl, rfl⟩ := hcut
  go_upto_region 5 with fail
  go_cut [3] (fun v0 wx => v0 = .bool false ∧ wx = ((w.alloc (Obj.cells #[.int .u8 0, .bool false, .int .i64 0, .int .i64 0, .bool false, .int .i64 0, .int .i64 0, .int .i64 0] 27)).alloc (Obj.cells #[.int .u8 (b0 % 32), .bool false, .int .i64 (b1 / 16), .int .i64 (b1 % 16), .bool (b0 / 32 % 2 == 1), .int .i64 f, .int .i64 (16777216 * b4 + 65536 * b5 + 256 * b6 + b7), .int .i64 0] 27)).drew.drew.drew)
  case first =>
    go_region
    go_wp2_with fail
    go_meet
    exact ⟨rfl, rfl⟩
  case rest =>
  obtain ⟨rfl, rfl⟩ := hcut
  go_upto_if 71 with fail
  go_cut [3] (fun v0 wx => v0 = .bool false ∧ wx = ((w.alloc (Obj.cells #[.int .u8 0, .bool false, .int .i64 0, .int .i64 0, .bool false, .int .i64 0, .int .i64 0, .int .i64 0] 27)).alloc (Obj.cells #[.int .u8 (b0 % 32), .bool false, .int .i64 (b1 / 16), .int .i64 (b1 % 16), .bool (b0 / 32 % 2 == 1), .int .i64 f, .int .i64 g, .int .i64 0] 27)).drew.drew.drew)
  case first =>
    have e := HG.out
    unfold unwrap at e
    by_cases c : 2147483648 ≤ 16777216 * b4 + 65536 * b5 + 256 * b6 + b7
    · have dc : decide (2147483648 ≤ 16777216 * b4 + 65536 * b5 + 256 * b6 + b7) = true := by simpa using c
      rw [if_pos (by omega)] at e
      subst e
      go_wp2_with fail
      go_meet
      exact ⟨rfl, rfl⟩
    · have dc : decide (2147483648 ≤ 16777216 * b4 + 65536 * b5 + 256 * b6 + b7) = false := by simpa using c
      rw [if_neg (by omega)] at e
      subst e
      go_wp2_with fail
      go_meet
      exact ⟨rfl, rfl⟩
  case rest =>
  obtain ⟨rfl, rfl⟩ := hcut
  rw [HP.out, HU.out, HD.out, HS.out]
  have hq0 : 0 ≤ b0 / 64 := by omega
  have hq3 : b0 / 64 ≤ 3 := by omega
  obtain ⟨zz, hzz⟩ : ∃ zz : Bool, zz = (decide (p = 14) || decide (p = 15)) := ⟨_, rfl⟩
  have HZZ := Lib.hid hzz
  clear hzz
  go_upto_region 9 with fail
  go_cut [88] (fun v0 wx => v0 = .bool zz ∧ wx = ((w.alloc (Obj.cells #[.int .u8 0, .bool false, .int .i64 0, .int .i64 0, .bool false, .int .i64 0, .int .i64 0, .int .i64 0] 27)).alloc (Obj.cells #[.int .u8 p, .bool false, .int .i64 d, .int .i64 s, .bool u, .int .i64 f, .int .i64 g, .int .i64 0] 27)).drew.drew.drew)
  case first =>
    have e := HZZ.out
    by_cases c1 : p = 14
    · subst c1
      simp at e
      subst e
      go_wp2_with fail
      go_meet
      exact ⟨rfl, rfl⟩
    · by_cases c2 : p = 15
      · subst c2
        simp at e
        subst e
        go_wp2_with fail
        go_meet
        exact ⟨rfl, rfl⟩
      · have d1 : (p == 14) = false := by simpa using c1
        have d2 : (p == 15) = false := by simpa using c2
        rw [decide_eq_false c1, decide_eq_false c2] at e
        simp at e
        subst e
        go_wp2_with fail
        go_meet
        exact ⟨rfl, rfl⟩
  case rest =>
  obtain ⟨rfl, rfl⟩ := hcut
  go_upto_if 88 with fail
  go_cut [3] (fun v0 wx => v0 = .bool false ∧ wx = ((w.alloc (Obj.cells #[.int .u8 0, .bool false, .int .i64 0, .int .i64 0, .bool false, .int .i64 0, .int .i64 0, .int .i64 0] 27)).alloc (Obj.cells #[.int .u8 p, .bool nw, .int .i64 d, .int .i64 s, .bool u, .int .i64 f, .int .i64 g, .int .i64 sz] 27)).drew.drew.drew)
  case first =>
    have e := HZZ.out
    have hq4 : b0 / 64 = 0 ∨ b0 / 64 = 1 ∨ b0 / 64 = 2 ∨ b0 / 64 = 3 := by omega
    cases zz with
    | true =>
      have hpp : p = 14 ∨ p = 15 := by simpa using e.symm
      have e2 : nw = false := by rw [HN.out, if_pos hpp]
      subst e2
      rcases hq4 with hq | hq | hq | hq
      · have e1 : sz = 1 := by rw [HZ.out, if_pos hpp, hq]; simp
        subst e1
        clear e
        go_wp2_with fail
        refine wp_loop_rounds 1 ?_
        rw [rounds_succ]
        go_wp2_with fail
        go_meet
        exact ⟨rfl, rfl⟩
      · have e1 : sz = 2 := by rw [HZ.out, if_pos hpp, hq]; simp
        subst e1
        clear e
        go_wp2_with fail
        refine wp_loop_rounds 2 ?_
        rw [rounds_succ]
        go_wp2_with fail
        rw [rounds_succ]
        go_wp2_with fail
        go_meet
        exact ⟨rfl, rfl⟩
      · have e1 : sz = 4 := by rw [HZ.out, if_pos hpp, hq]; simp
        subst e1
        clear e
        go_wp2_with fail
        refine wp_loop_rounds 3 ?_
        rw [rounds_succ]
        go_wp2_with fail
        rw [rounds_succ]
        go_wp2_with fail
        rw [rounds_succ]
        go_wp2_with fail
        go_meet
        exact ⟨rfl, rfl⟩
      · have e1 : sz = 8 := by rw [HZ.out, if_pos hpp, hq]; simp
        subst e1
        clear e
        go_wp2_with fail
        refine wp_loop_rounds 4 ?_
        rw [rounds_succ]
        go_wp2_with fail
        rw [rounds_succ]
        go_wp2_with fail
        rw [rounds_succ]
        go_wp2_with fail
        rw [rounds_succ]
        go_wp2_with fail
        go_meet
        exact ⟨rfl, rfl⟩
    | false =>
      have hpp : ¬ (p = 14 ∨ p = 15) := by simpa using e.symm
      have e1 : sz = 0 := by rw [HZ.out, if_neg hpp]
      have e2 : (b0 / 64 % 2 == 1) = nw := by rw [HN.out, if_neg hpp]; rfl
      subst e1
      clear e
      go_wp2_with fail
      go_meet
      exact ⟨rfl, rfl⟩
  case rest =>
  obtain ⟨rfl, rfl⟩ := hcut
  have W3b := Lib.hid ((show Below w.heap.size w (((w.alloc (Obj.cells #[.int .u8 0, .bool false, .int .i64 0, .int .i64 0, .bool false, .int .i64 0, .int .i64 0, .int .i64 0] 27)).alloc (Obj.cells #[.int .u8 p, .bool nw, .int .i64 d, .int .i64 s, .bool u, .int .i64 f, .int .i64 g, .int .i64 sz] 27)).drew.drew.drew) from ((((Below.refl w.heap.size w).alloc (Nat.le_refl _) _).alloc (by simp) _).drew.drew.drew)))
  have OE := Lib.hid ((show Oc (((w.alloc (Obj.cells #[.int .u8 0, .bool false, .int .i64 0, .int .i64 0, .bool false, .int .i64 0, .int .i64 0, .int .i64 0] 27)).alloc (Obj.cells #[.int .u8 p, .bool nw, .int .i64 d, .int .i64 s, .bool u, .int .i64 f, .int .i64 g, .int .i64 sz] 27)).drew.drew.drew) 27 (w.heap.size + 1) (.int .u8 p) (.bool nw) (.int .i64 d) (.int .i64 s) (.bool u) (.int .i64 f) (.int .i64 g) (.int .i64 sz) from oc_second w _ _ _ _ _ _ _ _ _ _ ))
  have ORz := Lib.hid ((show Oc (((w.alloc (Obj.cells #[.int .u8 0, .bool false, .int .i64 0, .int .i64 0, .bool false, .int .i64 0, .int .i64 0, .int .i64 0] 27)).alloc (Obj.cells #[.int .u8 p, .bool nw, .int .i64 d, .int .i64 s, .bool u, .int .i64 f, .int .i64 g, .int .i64 sz] 27)).drew.drew.drew) 27 w.heap.size (.int .u8 0) (.bool false) (.int .i64 0) (.int .i64 0) (.bool false) (.int .i64 0) (.int .i64 0) (.int .i64 0) from oc_first w _ _ _ _ _ _ _ _ _ _ ))
  have HB3 := Lib.hid ((HB.out).past W3b.out)
  have RR := Lib.hid (fun W => refRight ⟨p, nw, d, s, u, f, g, sz⟩ W)
  have BB := Lib.hid (fun (h : right ⟨p, nw, d, s, u, f, g, sz⟩ = true) => refBytes ⟨p, nw, d, s, u, f, g, sz⟩ h)
  have HOE := Lib.hid (fun (h : right ⟨p, nw, d, s, u, f, g, sz⟩ = true) => enc_oct (tame h))
  have HUN := Lib.hid (show b < w.heap.size from hb)
  clear z0 z1 z2 z3 z4 z5 z6 z7 h0 h0' h1 h1' h2 h2' h3 h3' h4 h4' h5 h5' h6 h6' h7 h7' HP HU HD HS HF HG HZ HN HZZ hq0 hq3
  unfold agg at RR BB
  simp only at RR BB
  generalize hW3 : ((w.alloc (Obj.cells #[.int .u8 0, .bool false, .int .i64 0, .int .i64 0, .bool false, .int .i64 0, .int .i64 0, .int .i64 0] 27)).alloc (Obj.cells #[.int .u8 p, .bool nw, .int .i64 d, .int .i64 s, .bool u, .int .i64 f, .int .i64 g, .int .i64 sz] 27)).drew.drew.drew = W3 at *
  clear hW3
  have S0 := And.intro (eight_past_at (OE.out).cells ((Below.refl _ W3).drew)) ((HB3.out).past ((Below.refl _ W3).drew))
  have ORd := Lib.hid ((ORz.out).past ((Below.refl _ W3).drew))
  have W3d := Lib.hid ((W3b.out).drew)
  have x0 := (OE.out).cells
  obtain ⟨x0, x1, x2, x3, x4, x5, x6, x7⟩ := x0
  cases hr : right ⟨p, nw, d, s, u, f, g, sz⟩ with
  | false =>
    have HEQ := Lib.hid (show OK = false by rw [HOK.out, hr, Bool.false_and])
    rw [hr] at RR
    go_wp2_with fail
    refine wp_region_held_drew (S := (fun w' => (w'.cell? ⟨w.heap.size + 1, 0, none⟩ = some (.int .u8 p) ∧ w'.cell? ⟨w.heap.size + 1, 1, none⟩ = some (.bool nw) ∧ w'.cell? ⟨w.heap.size + 1, 2, none⟩ = some (.int .i64 d) ∧ w'.cell? ⟨w.heap.size + 1, 3, none⟩ = some (.int .i64 s) ∧ w'.cell? ⟨w.heap.size + 1, 4, none⟩ = some (.bool u) ∧ w'.cell? ⟨w.heap.size + 1, 5, none⟩ = some (.int .i64 f) ∧ w'.cell? ⟨w.heap.size + 1, 6, none⟩ = some (.int .i64 g) ∧ w'.cell? ⟨w.heap.size + 1, 7, none⟩ = some (.int .i64 sz)) ∧ Bs w' (.slice (some ⟨b, o, none⟩) 8 cap) cb)) (by kernel_rfl) S0 (fun S0 => ?_)
    refine wpAnyH_take (i := 0) (v := ?v0t1) rfl (by kernel_rfl) (by kernel_rfl) (by kernel_rfl) (fun _ _ _ h => h) (Or.inl ⟨by rfl, ?y0t1⟩) S0 ?z0t1
    case y0t1 => intro w_ hSw; (try dsimp only at hSw); go_simp; with_reducible rfl
    try simp only [List.getElem_toArray, List.getElem_cons_zero, List.getElem_cons_succ, Act.put, List.setIfInBounds_toArray, List.set_cons_zero, List.set_cons_succ]
    refine wpAnyH_take (i := 1) (v := ?v1t2) rfl (by kernel_rfl) (by kernel_rfl) (by kernel_rfl) (fun _ _ _ h => h) (Or.inl ⟨by rfl, ?y1t2⟩) S0 ?z1t2
    case y1t2 => intro w_ hSw; (try dsimp only at hSw); go_simp; with_reducible rfl
    try simp only [List.getElem_toArray, List.getElem_cons_zero, List.getElem_cons_succ, Act.put, List.setIfInBounds_toArray, List.set_cons_zero, List.set_cons_succ]
    refine wpAnyH_ready (rs := [2]) (by kernel_rfl) (by simp) ?_
    refine AllReadyH.cons rfl (fun K hK => ?_) AllReadyH.nil
    go_simp
    refine ((RR.out) _).mono ?_; rintro e w5 ⟨rfl, b5⟩; have S1 := And.intro (eight_past_at S0.1 b5) (Bs.past S0.2 b5)
    have OR5 := Lib.hid ((ORd.out).past b5)
    have B5 := Lib.hid ((W3d.out).trans (b5.mono (W3d.out).size))
    try go_wp2_with fail
    refine hK.out _ _ S1 (fun _ => ?_)
    clear hK K
    try simp only [List.getElem_toArray, List.getElem_cons_zero, List.getElem_cons_succ, Act.put, List.setIfInBounds_toArray, List.set_cons_zero, List.set_cons_succ]
    refine wpAnyH_take (i := 3) (v := ?v3t3) rfl (by kernel_rfl) (by kernel_rfl) (by kernel_rfl) (fun _ _ _ h => h) (Or.inl ⟨by rfl, ?y3t3⟩) S1 ?z3t3
    case y3t3 => intro w_ hSw; go_simp; with_reducible rfl
    try simp only [List.getElem_toArray, List.getElem_cons_zero, List.getElem_cons_succ, Act.put, List.setIfInBounds_toArray, List.set_cons_zero, List.set_cons_succ]
    refine wpAnyH_take (i := 4) (v := undef) rfl (by kernel_rfl) (by kernel_rfl) (by kernel_rfl) (fun _ _ _ h => h) (Or.inr ⟨by rfl, rfl⟩) S1 ?_
    try simp only [List.getElem_toArray, List.getElem_cons_zero, List.getElem_cons_succ, Act.put, List.setIfInBounds_toArray, List.set_cons_zero, List.set_cons_succ]
    refine wpAnyH_take (i := 5) (v := undef) rfl (by kernel_rfl) (by kernel_rfl) (by kernel_rfl) (fun _ _ _ h => h) (Or.inr ⟨by rfl, rfl⟩) S1 ?_
    try simp only [List.getElem_toArray, List.getElem_cons_zero, List.getElem_cons_succ, Act.put, List.setIfInBounds_toArray, List.set_cons_zero, List.set_cons_succ]
    refine wpAnyH_take (i := 6) (v := undef) rfl (by kernel_rfl) (by kernel_rfl) (by kernel_rfl) (fun _ _ _ h => h) (Or.inr ⟨by rfl, rfl⟩) S1 ?_
    try simp only [List.getElem_toArray, List.getElem_cons_zero, List.getElem_cons_succ, Act.put, List.setIfInBounds_toArray, List.set_cons_zero, List.set_cons_succ]
    refine wpAnyH_take (i := 7) (v := undef) rfl (by kernel_rfl) (by kernel_rfl) (by kernel_rfl) (fun _ _ _ h => h) (Or.inr ⟨by rfl, rfl⟩) S1 ?_
    try simp only [List.getElem_toArray, List.getElem_cons_zero, List.getElem_cons_succ, Act.put, List.setIfInBounds_toArray, List.set_cons_zero, List.set_cons_succ]
    refine wpAnyH_take (i := 8) (v := undef) rfl (by kernel_rfl) (by kernel_rfl) (by kernel_rfl) (fun _ _ _ h => h) (Or.inr ⟨by rfl, rfl⟩) S1 ?_
    try simp only [List.getElem_toArray, List.getElem_cons_zero, List.getElem_cons_succ, Act.put, List.setIfInBounds_toArray, List.set_cons_zero, List.set_cons_succ]
    refine wpAnyH_take (i := 9) (v := undef) rfl (by kernel_rfl) (by kernel_rfl) (by kernel_rfl) (fun _ _ _ h => h) (Or.inr ⟨by rfl, rfl⟩) S1 ?_
    try simp only [List.getElem_toArray, List.getElem_cons_zero, List.getElem_cons_succ, Act.put, List.setIfInBounds_toArray, List.set_cons_zero, List.set_cons_succ]
    refine wpAnyH_take (i := 10) (v := ?v10t4) rfl (by kernel_rfl) (by kernel_rfl) (by kernel_rfl) (fun _ _ _ h => h) (Or.inl ⟨by rfl, ?y10t4⟩) S1 ?z10t4
    case y10t4 => intro w_ hSw; go_simp; with_reducible rfl
    try simp only [List.getElem_toArray, List.getElem_cons_zero, List.getElem_cons_succ, Act.put, List.setIfInBounds_toArray, List.set_cons_zero, List.set_cons_succ]
    refine wpAnyH_ready (rs := [11]) (by kernel_rfl) (by simp) ?_
    refine AllReadyH.cons rfl (fun K hK => ?_) AllReadyH.nil
    have fr := (OR5.out).free
    obtain ⟨q0, q1, q2, q3, q4, q5, q6, q7⟩ := (OR5.out).cells
    have DW := Lib.hid (wrote_oc (OR5.out) (.int .u8 p) (.bool nw) (.int .i64 d) (.int .i64 s) (.bool u) (.int .i64 f) (.int .i64 g) (.int .i64 sz))
    have SW := And.intro (eight_wrote (S1).1 (k := w.heap.size) (by omega) (.int .u8 p) (.bool nw) (.int .i64 d) (.int .i64 s) (.bool u) (.int .i64 f) (.int .i64 g) (.int .i64 sz)) (bs_wrote (S1).2 (k := w.heap.size) HUN.out (.int .u8 p) (.bool nw) (.int .i64 d) (.int .i64 s) (.bool u) (.int .i64 f) (.int .i64 g) (.int .i64 sz))
    have BW := Lib.hid (wrote_below (B5.out) (Nat.le_refl w.heap.size) (.int .u8 p) (.bool nw) (.int .i64 d) (.int .i64 s) (.bool u) (.int .i64 f) (.int .i64 g) (.int .i64 sz))
    go_simp
    refine hK.out _ _ SW (fun _ => ?_)
    clear hK K q0 q1 q2 q3 q4 q5 q6 q7 fr
    try simp only [List.getElem_toArray, List.getElem_cons_zero, List.getElem_cons_succ, Act.put, List.setIfInBounds_toArray, List.set_cons_zero, List.set_cons_succ]
    refine wpAnyH_take (i := 12) (v := ?v12t5) rfl (by kernel_rfl) (by kernel_rfl) (by kernel_rfl) (fun _ _ _ h => h) (Or.inl ⟨by rfl, ?y12t5⟩) SW ?z12t5
    case y12t5 => intro w_ hSw; go_simp; with_reducible rfl
    try simp only [List.getElem_toArray, List.getElem_cons_zero, List.getElem_cons_succ, Act.put, List.setIfInBounds_toArray, List.set_cons_zero, List.set_cons_succ]
    refine wpAnyH_done (by kernel_rfl) ?_ _
    go_wp2_with fail
    show bodyPost _ _ _ _ _ (wrote w5 w.heap.size (.int .u8 p) (.bool nw) (.int .i64 d) (.int .i64 s) (.bool u) (.int .i64 f) (.int .i64 g) (.int .i64 sz))
    generalize wrote w5 w.heap.size (.int .u8 p) (.bool nw) (.int .i64 d) (.int .i64 s) (.bool u) (.int .i64 f) (.int .i64 g) (.int .i64 sz) = V at *
    obtain ⟨y0, y1, y2, y3, y4, y5, y6, y7⟩ := (DW.out).cells
    exact bodyPost_ret (v := .tuple #[agg ⟨p, nw, d, s, u, f, g, sz⟩, .bool false]) (by simp [results, Tryd.results41, go_sem, agg, y0, y1, y2, y3, y4, y5, y6, y7]) rfl ⟨by rw [HEQ.out], BW.out⟩
  | true =>
    have HEQ := Lib.hid (show OK = ((strOf (enc ⟨p, nw, d, s, u, f, g, sz⟩)).toList == (strOf cb).toList) by rw [HOK.out, hr, Bool.true_and, strs_eq (HOE.out hr) HOC.out])
    rw [hr] at RR
    have BQ := Lib.hid (BB.out hr)
    clear BB HOE
    generalize enc ⟨p, nw, d, s, u, f, g, sz⟩ = eb at BQ HEQ
    go_wp2_with fail
    refine wp_region_held_drew (S := (fun w' => (w'.cell? ⟨w.heap.size + 1, 0, none⟩ = some (.int .u8 p) ∧ w'.cell? ⟨w.heap.size + 1, 1, none⟩ = some (.bool nw) ∧ w'.cell? ⟨w.heap.size + 1, 2, none⟩ = some (.int .i64 d) ∧ w'.cell? ⟨w.heap.size + 1, 3, none⟩ = some (.int .i64 s) ∧ w'.cell? ⟨w.heap.size + 1, 4, none⟩ = some (.bool u) ∧ w'.cell? ⟨w.heap.size + 1, 5, none⟩ = some (.int .i64 f) ∧ w'.cell? ⟨w.heap.size + 1, 6, none⟩ = some (.int .i64 g) ∧ w'.cell? ⟨w.heap.size + 1, 7, none⟩ = some (.int .i64 sz)) ∧ Bs w' (.slice (some ⟨b, o, none⟩) 8 cap) cb)) (by kernel_rfl) S0 (fun S0 => ?_)
    refine wpAnyH_take (i := 0) (v := ?v0t6) rfl (by kernel_rfl) (by kernel_rfl) (by kernel_rfl) (fun _ _ _ h => h) (Or.inl ⟨by rfl, ?y0t6⟩) S0 ?z0t6
    case y0t6 => intro w_ hSw; (try dsimp only at hSw); go_simp; with_reducible rfl
    try simp only [List.getElem_toArray, List.getElem_cons_zero, List.getElem_cons_succ, Act.put, List.setIfInBounds_toArray, List.set_cons_zero, List.set_cons_succ]
    refine wpAnyH_take (i := 1) (v := ?v1t7) rfl (by kernel_rfl) (by kernel_rfl) (by kernel_rfl) (fun _ _ _ h => h) (Or.inl ⟨by rfl, ?y1t7⟩) S0 ?z1t7
    case y1t7 => intro w_ hSw; (try dsimp only at hSw); go_simp; with_reducible rfl
    try simp only [List.getElem_toArray, List.getElem_cons_zero, List.getElem_cons_succ, Act.put, List.setIfInBounds_toArray, List.set_cons_zero, List.set_cons_succ]
    refine wpAnyH_ready (rs := [2]) (by kernel_rfl) (by simp) ?_
    refine AllReadyH.cons rfl (fun K hK => ?_) AllReadyH.nil
    go_simp
    refine ((RR.out) _).mono ?_; rintro e w5 ⟨rfl, b5⟩; have S1 := And.intro (eight_past_at S0.1 b5) (Bs.past S0.2 b5)
    have OR5 := Lib.hid ((ORd.out).past b5)
    have B5 := Lib.hid ((W3d.out).trans (b5.mono (W3d.out).size))
    try go_wp2_with fail
    refine hK.out _ _ S1 (fun _ => ?_)
    clear hK K
    try simp only [List.getElem_toArray, List.getElem_cons_zero, List.getElem_cons_succ, Act.put, List.setIfInBounds_toArray, List.set_cons_zero, List.set_cons_succ]
    refine wpAnyH_take (i := 3) (v := ?v3t8) rfl (by kernel_rfl) (by kernel_rfl) (by kernel_rfl) (fun _ _ _ h => h) (Or.inl ⟨by rfl, ?y3t8⟩) S1 ?z3t8
    case y3t8 => intro w_ hSw; go_simp; with_reducible rfl
    try simp only [List.getElem_toArray, List.getElem_cons_zero, List.getElem_cons_succ, Act.put, List.setIfInBounds_toArray, List.set_cons_zero, List.set_cons_succ]
    refine wpAnyH_take (i := 4) (v := ?v4t9) rfl (by kernel_rfl) (by kernel_rfl) (by kernel_rfl) (fun _ _ _ h => h) (Or.inl ⟨by rfl, ?y4t9⟩) S1 ?z4t9
    case y4t9 => intro w_ hSw; (try dsimp only at hSw); go_simp; with_reducible rfl
    try simp only [List.getElem_toArray, List.getElem_cons_zero, List.getElem_cons_succ, Act.put, List.setIfInBounds_toArray, List.set_cons_zero, List.set_cons_succ]
    refine wpAnyH_take (i := 7) (v := ?v7t10) rfl (by kernel_rfl) (by kernel_rfl) (by kernel_rfl) (fun _ _ _ h => h) (Or.inl ⟨by rfl, ?y7t10⟩) S1 ?z7t10
    case y7t10 => intro w_ hSw; go_simp; with_reducible rfl
    try simp only [List.getElem_toArray, List.getElem_cons_zero, List.getElem_cons_succ, Act.put, List.setIfInBounds_toArray, List.set_cons_zero, List.set_cons_succ]
    refine wpAnyH_take (i := 8) (v := .string (strOf cb)) rfl (by kernel_rfl) (by kernel_rfl) (by kernel_rfl) (fun _ _ _ h => h) (Or.inl ⟨by rfl, fun w_ hSw => ?_⟩) S1 ?_
    · have e := run_string hSw.2
      go_simp
    try simp only [List.getElem_toArray, List.getElem_cons_zero, List.getElem_cons_succ, Act.put, List.setIfInBounds_toArray, List.set_cons_zero, List.set_cons_succ]
    refine wpAnyH_ready (rs := [5]) (by kernel_rfl) (by simp) ?_
    refine AllReadyH.cons rfl (fun K hK => ?_) AllReadyH.nil
    go_simp
    refine ((BQ.out) _).mono ?_; rintro e w6 ⟨g3, rfl, o3, b6⟩; have S2 := And.intro (eight_past_at S1.1 b6) (Bs.past S1.2 b6)
    have OR6 := Lib.hid ((OR5.out).past b6)
    have B6 := Lib.hid ((B5.out).trans (b6.mono (B5.out).size))
    have HO3 := Lib.hid o3
    have HG3 := Lib.hid (show w.heap.size < g3 by have h1 := (o3.lt g3 rfl).1; have h2 := (OR5.out).lt; omega)
    try go_wp2_with fail
    refine hK.out _ _ S2 (fun _ => ?_)
    clear hK K
    try simp only [List.getElem_toArray, List.getElem_cons_zero, List.getElem_cons_succ, Act.put, List.setIfInBounds_toArray, List.set_cons_zero, List.set_cons_succ]
    refine wpAnyH_ready (rs := [6, 11]) (by kernel_rfl) (by simp) ?_
    refine AllReadyH.cons rfl (fun K hK => ?_) ?_
    · refine step_string (by rfl) (.tmp 108) (by rfl) g3 0 8 8 eb (by rfl) HO3.out.bs ?_
      refine hK.out _ _ S2 (fun _ => ?_)
      clear hK K
      try simp only [List.getElem_toArray, List.getElem_cons_zero, List.getElem_cons_succ, Act.put, List.setIfInBounds_toArray, List.set_cons_zero, List.set_cons_succ]
      refine wpAnyH_take (i := 9) (v := ?v9t11) rfl (by kernel_rfl) (by kernel_rfl) (by kernel_rfl) (fun _ _ _ h => h) (Or.inl ⟨by rfl, ?y9t11⟩) S2 ?z9t11
      case y9t11 => intro w_ hSw; go_simp; with_reducible rfl
      try simp only [List.getElem_toArray, List.getElem_cons_zero, List.getElem_cons_succ, Act.put, List.setIfInBounds_toArray, List.set_cons_zero, List.set_cons_succ]
      refine wpAnyH_take (i := 10) (v := ?v10t12) rfl (by kernel_rfl) (by kernel_rfl) (by kernel_rfl) (fun _ _ _ h => h) (Or.inl ⟨by rfl, ?y10t12⟩) S2 ?z10t12
      case y10t12 => intro w_ hSw; go_simp; with_reducible rfl
      try simp only [List.getElem_toArray, List.getElem_cons_zero, List.getElem_cons_succ, Act.put, List.setIfInBounds_toArray, List.set_cons_zero, List.set_cons_succ]
      refine wpAnyH_ready (rs := [11]) (by kernel_rfl) (by simp) ?_
      refine AllReadyH.cons rfl (fun K hK => ?_) AllReadyH.nil
      have fr := (OR6.out).free
      obtain ⟨q0, q1, q2, q3, q4, q5, q6, q7⟩ := (OR6.out).cells
      have DW := Lib.hid (wrote_oc (OR6.out) (.int .u8 p) (.bool nw) (.int .i64 d) (.int .i64 s) (.bool u) (.int .i64 f) (.int .i64 g) (.int .i64 sz))
      have SW := And.intro (eight_wrote (S2).1 (k := w.heap.size) (by omega) (.int .u8 p) (.bool nw) (.int .i64 d) (.int .i64 s) (.bool u) (.int .i64 f) (.int .i64 g) (.int .i64 sz)) (bs_wrote (S2).2 (k := w.heap.size) HUN.out (.int .u8 p) (.bool nw) (.int .i64 d) (.int .i64 s) (.bool u) (.int .i64 f) (.int .i64 g) (.int .i64 sz))
      have BW := Lib.hid (wrote_below (B6.out) (Nat.le_refl w.heap.size) (.int .u8 p) (.bool nw) (.int .i64 d) (.int .i64 s) (.bool u) (.int .i64 f) (.int .i64 g) (.int .i64 sz))
      go_simp
      refine hK.out _ _ SW (fun _ => ?_)
      clear hK K q0 q1 q2 q3 q4 q5 q6 q7 fr
      try simp only [List.getElem_toArray, List.getElem_cons_zero, List.getElem_cons_succ, Act.put, List.setIfInBounds_toArray, List.set_cons_zero, List.set_cons_succ]
      refine wpAnyH_take (i := 12) (v := ?v12t13) rfl (by kernel_rfl) (by kernel_rfl) (by kernel_rfl) (fun _ _ _ h => h) (Or.inl ⟨by rfl, ?y12t13⟩) SW ?z12t13
      case y12t13 => intro w_ hSw; go_simp; with_reducible rfl
      try simp only [List.getElem_toArray, List.getElem_cons_zero, List.getElem_cons_succ, Act.put, List.setIfInBounds_toArray, List.set_cons_zero, List.set_cons_succ]
      refine wpAnyH_done (by kernel_rfl) ?_ _
      go_wp2_with fail
      show bodyPost _ _ _ _ _ (wrote w6 w.heap.size (.int .u8 p) (.bool nw) (.int .i64 d) (.int .i64 s) (.bool u) (.int .i64 f) (.int .i64 g) (.int .i64 sz))
      generalize wrote w6 w.heap.size (.int .u8 p) (.bool nw) (.int .i64 d) (.int .i64 s) (.bool u) (.int .i64 f) (.int .i64 g) (.int .i64 sz) = V at *
      obtain ⟨y0, y1, y2, y3, y4, y5, y6, y7⟩ := (DW.out).cells
      exact bodyPost_ret (v := .tuple #[agg ⟨p, nw, d, s, u, f, g, sz⟩, .bool ((strOf eb).toList == (strOf cb).toList)]) (by simp [results, Tryd.results41, go_sem, agg, y0, y1, y2, y3, y4, y5, y6, y7]) rfl ⟨by rw [HEQ.out], BW.out⟩
    refine AllReadyH.cons rfl (fun K hK => ?_) AllReadyH.nil
    have HO4 := Lib.hid (bs_wrote_up HO3.out.bs HG3.out (.int .u8 p) (.bool nw) (.int .i64 d) (.int .i64 s) (.bool u) (.int .i64 f) (.int .i64 g) (.int .i64 sz))
    have fr := (OR6.out).free
    obtain ⟨q0, q1, q2, q3, q4, q5, q6, q7⟩ := (OR6.out).cells
    have DW := Lib.hid (wrote_oc (OR6.out) (.int .u8 p) (.bool nw) (.int .i64 d) (.int .i64 s) (.bool u) (.int .i64 f) (.int .i64 g) (.int .i64 sz))
    have SW := And.intro (eight_wrote (S2).1 (k := w.heap.size) (by omega) (.int .u8 p) (.bool nw) (.int .i64 d) (.int .i64 s) (.bool u) (.int .i64 f) (.int .i64 g) (.int .i64 sz)) (bs_wrote (S2).2 (k := w.heap.size) HUN.out (.int .u8 p) (.bool nw) (.int .i64 d) (.int .i64 s) (.bool u) (.int .i64 f) (.int .i64 g) (.int .i64 sz))
    have BW := Lib.hid (wrote_below (B6.out) (Nat.le_refl w.heap.size) (.int .u8 p) (.bool nw) (.int .i64 d) (.int .i64 s) (.bool u) (.int .i64 f) (.int .i64 g) (.int .i64 sz))
    go_simp
    refine hK.out _ _ SW (fun _ => ?_)
    clear hK K q0 q1 q2 q3 q4 q5 q6 q7 fr
    try simp only [List.getElem_toArray, List.getElem_cons_zero, List.getElem_cons_succ, Act.put, List.setIfInBounds_toArray, List.set_cons_zero, List.set_cons_succ]
    change wpAnyH _ _ _ _ _ _ _ _ (wrote w6 w.heap.size (.int .u8 p) (.bool nw) (.int .i64 d) (.int .i64 s) (.bool u) (.int .i64 f) (.int .i64 g) (.int .i64 sz))
    generalize wrote w6 w.heap.size (.int .u8 p) (.bool nw) (.int .i64 d) (.int .i64 s) (.bool u) (.int .i64 f) (.int .i64 g) (.int .i64 sz) = V at *
    refine wpAnyH_ready (rs := [6]) (by kernel_rfl) (by simp) ?_
    refine AllReadyH.cons rfl (fun K hK => ?_) AllReadyH.nil
    refine step_string (by rfl) (.tmp 108) (by rfl) g3 0 8 8 eb (by rfl) HO4.out ?_
    refine hK.out _ _ SW (fun _ => ?_)
    clear hK K
    try simp only [List.getElem_toArray, List.getElem_cons_zero, List.getElem_cons_succ, Act.put, List.setIfInBounds_toArray, List.set_cons_zero, List.set_cons_succ]
    refine wpAnyH_take (i := 9) (v := ?v9t14) rfl (by kernel_rfl) (by kernel_rfl) (by kernel_rfl) (fun _ _ _ h => h) (Or.inl ⟨by rfl, ?y9t14⟩) SW ?z9t14
    case y9t14 => intro w_ hSw; go_simp; with_reducible rfl
    try simp only [List.getElem_toArray, List.getElem_cons_zero, List.getElem_cons_succ, Act.put, List.setIfInBounds_toArray, List.set_cons_zero, List.set_cons_succ]
    refine wpAnyH_take (i := 10) (v := ?v10t15) rfl (by kernel_rfl) (by kernel_rfl) (by kernel_rfl) (fun _ _ _ h => h) (Or.inl ⟨by rfl, ?y10t15⟩) SW ?z10t15
    case y10t15 => intro w_ hSw; go_simp; with_reducible rfl
    try simp only [List.getElem_toArray, List.getElem_cons_zero, List.getElem_cons_succ, Act.put, List.setIfInBounds_toArray, List.set_cons_zero, List.set_cons_succ]
    refine wpAnyH_take (i := 12) (v := ?v12t16) rfl (by kernel_rfl) (by kernel_rfl) (by kernel_rfl) (fun _ _ _ h => h) (Or.inl ⟨by rfl, ?y12t16⟩) SW ?z12t16
    case y12t16 => intro w_ hSw; go_simp; with_reducible rfl
    try simp only [List.getElem_toArray, List.getElem_cons_zero, List.getElem_cons_succ, Act.put, List.setIfInBounds_toArray, List.set_cons_zero, List.set_cons_succ]
    refine wpAnyH_done (by kernel_rfl) ?_ _
    go_wp2_with fail
    obtain ⟨y0, y1, y2, y3, y4, y5, y6, y7⟩ := (DW.out).cells
    exact bodyPost_ret (v := .tuple #[agg ⟨p, nw, d, s, u, f, g, sz⟩, .bool ((strOf eb).toList == (strOf cb).toList)]) (by simp [results, Tryd.results41, go_sem, agg, y0, y1, y2, y3, y4, y5, y6, y7]) rfl ⟨by rw [HEQ.out], BW.out⟩
theorem refOne (v : Value) (cb : List Int) (w : World) (h : Bs w v cb) (h8 : cb.length = 8) (ho : Oct cb) : Calls Tryd.prog 41 #[v] w (One (dec cb) (okI cb) w) := by
  obtain ⟨b, o, cap, rfl, hc1, hc2, -, cells⟩ := h.at (by omega)
  rw [h8] at h ⊢
  have c := fun j (hj : j < 8) => cells j (by omega)
  have q := fun j (hj : j < 8) => ho.nth (j := j) (by omega)
  exact refOne_at b o cap (nth cb 0) (nth cb 1) (nth cb 2) (nth cb 3) (nth cb 4) (nth cb 5) (nth cb 6) (nth cb 7) w (by omega)
    (c 0 (by decide)) (c 1 (by decide)) (c 2 (by decide)) (c 3 (by decide)) (c 4 (by decide)) (c 5 (by decide)) (c 6 (by decide)) (c 7 (by decide))
    (q 0 (by decide)).1 (q 0 (by decide)).2 (q 1 (by decide)).1 (q 1 (by decide)).2 (q 2 (by decide)).1 (q 2 (by decide)).2 (q 3 (by decide)).1 (q 3 (by decide)).2 (q 4 (by decide)).1 (q 4 (by decide)).2 (q 5 (by decide)).1 (q 5 (by decide)).2 (q 6 (by decide)).1 (q 6 (by decide)).2 (q 7 (by decide)).1 (q 7 (by decide)).2
    (dec cb).op (dec cb).nw (dec cb).dst (dec cb).src (dec cb).ui (dec cb).off (dec cb).im (dec cb).sz rfl rfl rfl rfl rfl rfl rfl rfl cb (Lib.hid h) (Lib.hid ho) (Lib.hid rfl)
end Go.Proofs.YtmkhcgfbeeimaaaDoor
