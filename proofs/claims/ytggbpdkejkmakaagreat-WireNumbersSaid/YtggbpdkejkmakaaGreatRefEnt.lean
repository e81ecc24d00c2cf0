/- Contracts of the document's own reader: Bytes and Entry, at each state. -/
import Derived.Test.YtggbpdkejkmakaaGreatRefBytes
namespace Go.Proofs.YtggbpdkejkmakaaGreat
open Go.RowKit
set_option linter.unusedVariables false
set_option linter.unusedSimpArgs false

theorem refRdrBytes (D : Nat) (st : Option (List Int)) (w : World) (h : Ref w D st) (hs : Short st) :
    Calls Tryz.prog 27 #[.pointer (some ⟨D, 0, none⟩)] w (SaysNew D (ans rdBytes [] st).1 (ans rdBytes [] st).2 w) := by
  have N := refRdrNumber D st w h
  cases st with
  | none => exact refBytes_bad D 0 w (Lib.hid N)
  | some l =>
    have hl := hs l rfl
    cases hn : rdNum l with
    | none =>
      rw [ans_none hn] at N
      have e : rdBytes l = none := by unfold rdBytes; rw [hn]; rfl
      rw [ans_none e]
      exact refBytes_bad D 0 w (Lib.hid N)
    | some q =>
      obtain ⟨n, r⟩ := q
      rw [ans_some hn] at N
      obtain ⟨h8, hv, hr⟩ := rdNum_some hn
      have hrl : r.length ≤ l.length := by rw [hr]; simp
      by_cases hz : 0 ≤ n ∧ n ≤ r.length
      · have e : rdBytes l = some (r.take n.toNat, r.drop n.toNat) := by unfold rdBytes; rw [hn]; simp only [Option.bind_some]; rw [if_pos hz]
        rw [ans_some e]
        obtain ⟨m, rfl⟩ := Int.eq_ofNat_of_zero_le hz.1
        exact refBytes_ok D m r w (Lib.hid N) (by omega) (by omega)
      · have e : rdBytes l = none := by unfold rdBytes; rw [hn]; simp only [Option.bind_some]; rw [if_neg hz]
        rw [ans_none e]
        exact refBytes_out D n r w (Lib.hid N) (by omega)

/-- e returns an entry, as a value, whose bytes are new; the document's reader D is at st. -/
def SaysEnt (D : Nat) (x : Ent) (st : Option (List Int)) (w : World) (e : Ending) (w' : World) : Prop :=
  ∃ v, e = .returned (.agg #[.int .i64 x.t, .int .u8 x.k, .int .i64 x.v, .int .i64 x.s, .bool x.g, v]) ∧ Own w' w.heap.size v x.d ∧ Ref w' D st ∧ w.grownBy w' (some D)

theorem ref_wrote {w w1 : World} {D b base : Nat} {st : Option (List Int)} {v : Value} {d : List Int} {a0 a1 a2 a3 a4 a5 : Value} (hg : w.grownBy w1 (some D)) (hb : w.heap.size ≤ b) (hD : D < b) (hB : Blk w1 b a0 a1 a2 a3 a4 a5) (hO : Own w1 base v d) (hbase : b < base) (hS : Ref w1 D st) (c0 c1 c2 c3 c4 c5 : Value) :
    Blk (wrote w1 b c0 c1 c2 c3 c4 c5) b c0 c1 c2 c3 c4 c5 ∧ Ref (wrote w1 b c0 c1 c2 c3 c4 c5) D st ∧ w.grownBy (wrote w1 b c0 c1 c2 c3 c4 c5) (some D) ∧ Own (wrote w1 b c0 c1 c2 c3 c4 c5) w.heap.size v d := by
  have G := wrote_grown w1 b c0 c1 c2 c3 c4 c5
  refine ⟨wrote_blk hB _ _ _ _ _ _, hS.keep G (fun k hk => by cases hk; exact ⟨by omega, hB.noBytes⟩), grownBy_past hg hb G, ?_⟩
  exact (hO.kept G (Or.inr (fun e => by have h1 : base ≤ b := (hO.lt _ e).1; omega))).mono (by omega)

/-- The reader's cell, loaded. -/
theorem Ref.bad {w : World} {D : Nat} {st : Option (List Int)} (h : Ref w D st) : w.cell? ⟨D, 2, none⟩ = some (.bool st.isNone) ∧ w.frozen? ⟨D, 2, none⟩ = false ∧ Ref (w.setCell ⟨D, 2, none⟩ (.bool true)) D none := by
  cases st with
  | some l =>
    obtain ⟨L, p, h, _⟩ := h
    have h2 := h.set2 true
    obtain ⟨ao, cap, c0, c1, c2, fr, -⟩ := h.cells
    exact ⟨c2, fr 2, L, p, h2⟩
  | none =>
    obtain ⟨L, p, h⟩ := h
    have h2 := h.set2 true
    obtain ⟨ao, cap, c0, c1, c2, fr, -⟩ := h.cells
    exact ⟨c2, fr 2, L, p, h2⟩


/-- What the six reads give. -/
def sixth (st : Option (List Int)) : Int × Int × Int × Int × Int × List Int × Option (List Int) :=
  let a := ans rdNum 0 st
  let b := ans rdNum 0 a.2
  let c := ans rdNum 0 b.2
  let d := ans rdNum 0 c.2
  let e := ans rdNum 0 d.2
  let f := ans rdBytes [] e.2
  (a.1, b.1, c.1, d.1, e.1, f.1, f.2)

set_option maxHeartbeats 4000000 in
set_option maxRecDepth 100000 in
theorem refEntry_walk (D : Nat) (st s1 s2 s3 s4 s5 s6 : Option (List Int)) (n1 n2 n3 n4 n5 : Int) (d : List Int) (w : World) (h : Ref w D st)
    (N1 : ∀ W, Ref W D st → Hid (Calls Tryz.prog 25 #[.pointer (some ⟨D, 0, none⟩)] W (Says D (.int .i64 n1) s1 W)))
    (N2 : ∀ W, Ref W D s1 → Hid (Calls Tryz.prog 25 #[.pointer (some ⟨D, 0, none⟩)] W (Says D (.int .i64 n2) s2 W)))
    (N3 : ∀ W, Ref W D s2 → Hid (Calls Tryz.prog 25 #[.pointer (some ⟨D, 0, none⟩)] W (Says D (.int .i64 n3) s3 W)))
    (N4 : ∀ W, Ref W D s3 → Hid (Calls Tryz.prog 25 #[.pointer (some ⟨D, 0, none⟩)] W (Says D (.int .i64 n4) s4 W)))
    (N5 : ∀ W, Ref W D s4 → Hid (Calls Tryz.prog 25 #[.pointer (some ⟨D, 0, none⟩)] W (Says D (.int .i64 n5) s5 W)))
    (N6 : ∀ W, Ref W D s5 → Hid (Calls Tryz.prog 27 #[.pointer (some ⟨D, 0, none⟩)] W (SaysNew D d s6 W)))
    (x : Ent) (sx : Option (List Int)) (hx : Hid ((s6.isNone = false → (0 ≤ n2 ∧ n2 ≤ 255) → (0 ≤ n5 ∧ n5 ≤ 1) → x = ⟨n1, n2, n3, n4, decide (n5 = 1), d⟩ ∧ sx = s6) ∧ ((s6.isNone = true ∨ n2 < 0 ∨ 255 < n2 ∨ n5 < 0 ∨ 1 < n5) → x = zeroEnt ∧ sx = none))) :
    Calls Tryz.prog 30 #[.pointer (some ⟨D, 0, none⟩)] w
      (SaysEnt D x sx w) := by
  have hlt := h.lt
  generalize hW : w.alloc (Obj.cells #[.int .i64 0, .int .u8 0, .int .i64 0, .int .i64 0, .bool false, .slice none 0 0] 28) = W0
  have HW := Lib.hid hW
  have H0 := Lib.hid (show Ref W0 D st by rw [← hW]; exact h.keep (alloc_grown _ _ none) (fun _ hk => by cases hk))
  have B0 : Blk W0 w.heap.size (.int .i64 0) (.int .u8 0) (.int .i64 0) (.int .i64 0) (.bool false) (.slice none 0 0) := by rw [← hW]; exact blk_new w
  have HB0 := Lib.hid B0
  have G0 := Lib.hid (show w.grownBy W0 (some D) by rw [← hW]; exact alloc_grown _ _ _)
  have hsz : W0.heap.size = w.heap.size + 1 := by rw [← hW]; simp
  have HSZ := Lib.hid hsz
  clear h hW B0 hsz
  go_enter Tryz.func30, Tryz.ntmps30
  go_wp2_with fail
  rw [HW.out]
  go_wp2_with fail
  refine ((N1 _ H0.out).out).mono ?_
  rintro e w1 ⟨rfl, h1, g1⟩
  have H1 := Lib.hid h1
  have G1 := Lib.hid (g1)
  clear h1 g1
  go_wp2_with fail
  refine ((N2 _ H1.out).out).mono ?_
  rintro e w2 ⟨rfl, h2, g2⟩
  have H2 := Lib.hid h2
  have G2 := Lib.hid (grownBy_trans (G1.out) g2)
  clear h2 g2
  go_wp2_with fail
  refine ((N3 _ H2.out).out).mono ?_
  rintro e w3 ⟨rfl, h3, g3⟩
  have H3 := Lib.hid h3
  have G3 := Lib.hid (grownBy_trans (G2.out) g3)
  clear h3 g3
  go_wp2_with fail
  refine ((N4 _ H3.out).out).mono ?_
  rintro e w4 ⟨rfl, h4, g4⟩
  have H4 := Lib.hid h4
  have G4 := Lib.hid (grownBy_trans (G3.out) g4)
  clear h4 g4
  go_wp2_with fail
  refine ((N5 _ H4.out).out).mono ?_
  rintro e w5 ⟨rfl, h5, g5⟩
  have H5 := Lib.hid h5
  have G5 := Lib.hid (grownBy_trans (G4.out) g5)
  clear h5 g5
  go_wp2_with fail
  refine ((N6 _ H5.out).out).mono ?_
  rintro e w6 ⟨v6, rfl, o6, h6, g6⟩
  have G6 := Lib.hid (grownBy_trans (G5.out) g6)
  have O6 := Lib.hid (o6.mono (show W0.heap.size ≤ w5.heap.size from (G5.out).size))
  have B6 := Lib.hid ((HB0.out).keep (G6.out) (fun e => by have : D = w.heap.size := Option.some.inj e; omega))
  have G := Lib.hid (grownBy_trans (G0.out) (G6.out))
  obtain ⟨c2, f2, hb⟩ := h6.bad
  have H6 := Lib.hid h6
  have HBAD := Lib.hid hb
  obtain ⟨ax, cx, rfl⟩ := o6.bs.shape
  clear o6 h6 g6 hb N1 N2 N3 N4 N5 N6
  have hR : D < w.heap.size := hlt
  by_cases q0 : s6.isNone = true
  · rw [q0] at c2
    obtain ⟨rfl, rfl⟩ := hx.out.2 (by first | exact Or.inl q0 | omega)
    clear hx
    have B7 := Lib.hid ((B6.out).keep (grownBy_setCell w6 ⟨D, 2, none⟩ (.bool true)) (fun e => by have e := Option.some.inj e; dsimp only at e; omega))
    have G7 := Lib.hid (grownBy_trans (G.out) (grownBy_setCell w6 ⟨D, 2, none⟩ (.bool true)))
    have H7 := HBAD
    go_upto_region 5 with fail
    generalize w6.setCell ⟨D, 2, none⟩ (.bool true) = w7 at *
    have B7' := B7.out
    obtain ⟨r0, r1, r2, r3, r4, r5⟩ := B7'.cells
    have fr := B7'.free
    have K := Lib.hid (ref_wrote (G7.out) (Nat.le_refl _) hR B7' (Own.nil w7 (w.heap.size + 1)) (Nat.lt_succ_self _) (HBAD.out) (.int .i64 0) (.int .u8 0) (.int .i64 0) (.int .i64 0) (.bool false) (.slice none 0 0))
    clear B7'
    go_wp2_with fail
    show bodyPost _ _ _ _ _ (wrote w7 w.heap.size (.int .i64 0) (.int .u8 0) (.int .i64 0) (.int .i64 0) (.bool false) (.slice none 0 0))
    generalize wrote w7 w.heap.size (.int .i64 0) (.int .u8 0) (.int .i64 0) (.int .i64 0) (.bool false) (.slice none 0 0) = V at *
    obtain ⟨k1, k2, k3, k4⟩ := K.out
    obtain ⟨z0, z1, z2, z3, z4, z5⟩ := k1.cells
    exact bodyPost_ret (v := .agg #[.int .i64 0, .int .u8 0, .int .i64 0, .int .i64 0, .bool false, .slice none 0 0]) (by simp [results, Tryz.results30, go_sem, z0, z1, z2, z3, z4, z5]) rfl ⟨_, rfl, k4, k2, k3⟩
  have q0 : s6.isNone = false := eq_false_of_ne_true q0
  rw [q0] at c2
  by_cases q1 : n2 < 0
  · have e1 : decide (n2 < 0) = true := by simpa using q1
    obtain ⟨rfl, rfl⟩ := hx.out.2 (by first | exact Or.inl q0 | omega)
    clear hx
    have B7 := Lib.hid ((B6.out).keep (grownBy_setCell w6 ⟨D, 2, none⟩ (.bool true)) (fun e => by have e := Option.some.inj e; dsimp only at e; omega))
    have G7 := Lib.hid (grownBy_trans (G.out) (grownBy_setCell w6 ⟨D, 2, none⟩ (.bool true)))
    have H7 := HBAD
    go_upto_region 5 with fail
    generalize w6.setCell ⟨D, 2, none⟩ (.bool true) = w7 at *
    have B7' := B7.out
    obtain ⟨r0, r1, r2, r3, r4, r5⟩ := B7'.cells
    have fr := B7'.free
    have K := Lib.hid (ref_wrote (G7.out) (Nat.le_refl _) hR B7' (Own.nil w7 (w.heap.size + 1)) (Nat.lt_succ_self _) (HBAD.out) (.int .i64 0) (.int .u8 0) (.int .i64 0) (.int .i64 0) (.bool false) (.slice none 0 0))
    clear B7'
    go_wp2_with fail
    show bodyPost _ _ _ _ _ (wrote w7 w.heap.size (.int .i64 0) (.int .u8 0) (.int .i64 0) (.int .i64 0) (.bool false) (.slice none 0 0))
    generalize wrote w7 w.heap.size (.int .i64 0) (.int .u8 0) (.int .i64 0) (.int .i64 0) (.bool false) (.slice none 0 0) = V at *
    obtain ⟨k1, k2, k3, k4⟩ := K.out
    obtain ⟨z0, z1, z2, z3, z4, z5⟩ := k1.cells
    exact bodyPost_ret (v := .agg #[.int .i64 0, .int .u8 0, .int .i64 0, .int .i64 0, .bool false, .slice none 0 0]) (by simp [results, Tryz.results30, go_sem, z0, z1, z2, z3, z4, z5]) rfl ⟨_, rfl, k4, k2, k3⟩
  have e1 : decide (n2 < 0) = false := by simpa using q1
  by_cases q2 : 255 < n2
  · have e2 : decide (255 < n2) = true := by simpa using q2
    obtain ⟨rfl, rfl⟩ := hx.out.2 (by first | exact Or.inl q0 | omega)
    clear hx
    have B7 := Lib.hid ((B6.out).keep (grownBy_setCell w6 ⟨D, 2, none⟩ (.bool true)) (fun e => by have e := Option.some.inj e; dsimp only at e; omega))
    have G7 := Lib.hid (grownBy_trans (G.out) (grownBy_setCell w6 ⟨D, 2, none⟩ (.bool true)))
    have H7 := HBAD
    go_upto_region 5 with fail
    generalize w6.setCell ⟨D, 2, none⟩ (.bool true) = w7 at *
    have B7' := B7.out
    obtain ⟨r0, r1, r2, r3, r4, r5⟩ := B7'.cells
    have fr := B7'.free
    have K := Lib.hid (ref_wrote (G7.out) (Nat.le_refl _) hR B7' (Own.nil w7 (w.heap.size + 1)) (Nat.lt_succ_self _) (HBAD.out) (.int .i64 0) (.int .u8 0) (.int .i64 0) (.int .i64 0) (.bool false) (.slice none 0 0))
    clear B7'
    go_wp2_with fail
    show bodyPost _ _ _ _ _ (wrote w7 w.heap.size (.int .i64 0) (.int .u8 0) (.int .i64 0) (.int .i64 0) (.bool false) (.slice none 0 0))
    generalize wrote w7 w.heap.size (.int .i64 0) (.int .u8 0) (.int .i64 0) (.int .i64 0) (.bool false) (.slice none 0 0) = V at *
    obtain ⟨k1, k2, k3, k4⟩ := K.out
    obtain ⟨z0, z1, z2, z3, z4, z5⟩ := k1.cells
    exact bodyPost_ret (v := .agg #[.int .i64 0, .int .u8 0, .int .i64 0, .int .i64 0, .bool false, .slice none 0 0]) (by simp [results, Tryz.results30, go_sem, z0, z1, z2, z3, z4, z5]) rfl ⟨_, rfl, k4, k2, k3⟩
  have e2 : decide (255 < n2) = false := by simpa using q2
  by_cases q3 : n5 < 0
  · have e3 : decide (n5 < 0) = true := by simpa using q3
    obtain ⟨rfl, rfl⟩ := hx.out.2 (by first | exact Or.inl q0 | omega)
    clear hx
    have B7 := Lib.hid ((B6.out).keep (grownBy_setCell w6 ⟨D, 2, none⟩ (.bool true)) (fun e => by have e := Option.some.inj e; dsimp only at e; omega))
    have G7 := Lib.hid (grownBy_trans (G.out) (grownBy_setCell w6 ⟨D, 2, none⟩ (.bool true)))
    have H7 := HBAD
    go_upto_region 5 with fail
    generalize w6.setCell ⟨D, 2, none⟩ (.bool true) = w7 at *
    have B7' := B7.out
    obtain ⟨r0, r1, r2, r3, r4, r5⟩ := B7'.cells
    have fr := B7'.free
    have K := Lib.hid (ref_wrote (G7.out) (Nat.le_refl _) hR B7' (Own.nil w7 (w.heap.size + 1)) (Nat.lt_succ_self _) (HBAD.out) (.int .i64 0) (.int .u8 0) (.int .i64 0) (.int .i64 0) (.bool false) (.slice none 0 0))
    clear B7'
    go_wp2_with fail
    show bodyPost _ _ _ _ _ (wrote w7 w.heap.size (.int .i64 0) (.int .u8 0) (.int .i64 0) (.int .i64 0) (.bool false) (.slice none 0 0))
    generalize wrote w7 w.heap.size (.int .i64 0) (.int .u8 0) (.int .i64 0) (.int .i64 0) (.bool false) (.slice none 0 0) = V at *
    obtain ⟨k1, k2, k3, k4⟩ := K.out
    obtain ⟨z0, z1, z2, z3, z4, z5⟩ := k1.cells
    exact bodyPost_ret (v := .agg #[.int .i64 0, .int .u8 0, .int .i64 0, .int .i64 0, .bool false, .slice none 0 0]) (by simp [results, Tryz.results30, go_sem, z0, z1, z2, z3, z4, z5]) rfl ⟨_, rfl, k4, k2, k3⟩
  have e3 : decide (n5 < 0) = false := by simpa using q3
  by_cases q4 : 1 < n5
  · have e4 : decide (1 < n5) = true := by simpa using q4
    obtain ⟨rfl, rfl⟩ := hx.out.2 (by first | exact Or.inl q0 | omega)
    clear hx
    have B7 := Lib.hid ((B6.out).keep (grownBy_setCell w6 ⟨D, 2, none⟩ (.bool true)) (fun e => by have e := Option.some.inj e; dsimp only at e; omega))
    have G7 := Lib.hid (grownBy_trans (G.out) (grownBy_setCell w6 ⟨D, 2, none⟩ (.bool true)))
    have H7 := HBAD
    go_upto_region 5 with fail
    generalize w6.setCell ⟨D, 2, none⟩ (.bool true) = w7 at *
    have B7' := B7.out
    obtain ⟨r0, r1, r2, r3, r4, r5⟩ := B7'.cells
    have fr := B7'.free
    have K := Lib.hid (ref_wrote (G7.out) (Nat.le_refl _) hR B7' (Own.nil w7 (w.heap.size + 1)) (Nat.lt_succ_self _) (HBAD.out) (.int .i64 0) (.int .u8 0) (.int .i64 0) (.int .i64 0) (.bool false) (.slice none 0 0))
    clear B7'
    go_wp2_with fail
    show bodyPost _ _ _ _ _ (wrote w7 w.heap.size (.int .i64 0) (.int .u8 0) (.int .i64 0) (.int .i64 0) (.bool false) (.slice none 0 0))
    generalize wrote w7 w.heap.size (.int .i64 0) (.int .u8 0) (.int .i64 0) (.int .i64 0) (.bool false) (.slice none 0 0) = V at *
    obtain ⟨k1, k2, k3, k4⟩ := K.out
    obtain ⟨z0, z1, z2, z3, z4, z5⟩ := k1.cells
    exact bodyPost_ret (v := .agg #[.int .i64 0, .int .u8 0, .int .i64 0, .int .i64 0, .bool false, .slice none 0 0]) (by simp [results, Tryz.results30, go_sem, z0, z1, z2, z3, z4, z5]) rfl ⟨_, rfl, k4, k2, k3⟩
  have e4 : decide (1 < n5) = false := by simpa using q4
  obtain ⟨rfl, rfl⟩ := hx.out.1 q0 ⟨by omega, by omega⟩ ⟨by omega, by omega⟩
  clear hx
  obtain ⟨r0, r1, r2, r3, r4, r5⟩ := (B6.out).cells
  have fr := (B6.out).free
  have K := Lib.hid (ref_wrote (G.out) (Nat.le_refl _) hR (B6.out) (O6.out) (by have := HSZ.out; omega) (H6.out) (.int .i64 n1) (.int .u8 n2) (.int .i64 n3) (.int .i64 n4) (.bool (n5 == 1)) (.slice ax d.length cx))
  go_wp2_with fail
  show bodyPost _ _ _ _ _ (wrote w6 w.heap.size (.int .i64 n1) (.int .u8 n2) (.int .i64 n3) (.int .i64 n4) (.bool (n5 == 1)) (.slice ax d.length cx))
  generalize wrote w6 w.heap.size (.int .i64 n1) (.int .u8 n2) (.int .i64 n3) (.int .i64 n4) (.bool (n5 == 1)) (.slice ax d.length cx) = V at *
  obtain ⟨k1, k2, k3, k4⟩ := K.out
  obtain ⟨z0, z1, z2, z3, z4, z5⟩ := k1.cells
  exact bodyPost_ret (v := .agg #[.int .i64 n1, .int .u8 n2, .int .i64 n3, .int .i64 n4, .bool (n5 == 1), .slice ax d.length cx]) (by simp [results, Tryz.results30, go_sem, z0, z1, z2, z3, z4, z5]) rfl ⟨_, rfl, k4, k2, k3⟩

theorem short_next {st : Option (List Int)} (h : Short st) : Short (ans rdNum 0 st).2 := by
  intro l hl
  cases st with
  | none => cases hl
  | some l0 =>
    have h0 := h l0 rfl
    cases hn : rdNum l0 with
    | none => rw [ans_none hn] at hl; cases hl
    | some q =>
      obtain ⟨n, r⟩ := q
      rw [ans_some hn] at hl
      obtain ⟨_, _, hr⟩ := rdNum_some hn
      cases hl
      rw [hr, List.length_drop]
      omega

/-- The entry of the six reads, and the state behind it. -/
def six (n1 n2 n3 n4 n5 : Int) (d : List Int) (s6 : Option (List Int)) : Ent × Option (List Int) :=
  if s6.isNone = false ∧ (0 ≤ n2 ∧ n2 ≤ 255) ∧ (0 ≤ n5 ∧ n5 ≤ 1) then (⟨n1, n2, n3, n4, decide (n5 = 1), d⟩, s6) else (zeroEnt, none)
/-- All six reads, at each state. -/
def sixOf (st : Option (List Int)) : Ent × Option (List Int) :=
  six (ans rdNum 0 st).1 (ans rdNum 0 (ans rdNum 0 st).2).1 (ans rdNum 0 (ans rdNum 0 (ans rdNum 0 st).2).2).1 (ans rdNum 0 (ans rdNum 0 (ans rdNum 0 (ans rdNum 0 st).2).2).2).1
    (ans rdNum 0 (ans rdNum 0 (ans rdNum 0 (ans rdNum 0 (ans rdNum 0 st).2).2).2).2).1 (ans rdBytes [] (ans rdNum 0 (ans rdNum 0 (ans rdNum 0 (ans rdNum 0 (ans rdNum 0 st).2).2).2).2).2).1
    (ans rdBytes [] (ans rdNum 0 (ans rdNum 0 (ans rdNum 0 (ans rdNum 0 (ans rdNum 0 st).2).2).2).2).2).2

theorem ans_bad {α : Type} (rd : List Int → Option (α × List Int)) (z : α) : ans rd z none = (z, none) := rfl
theorem six_bad (n1 n2 n3 n4 n5 : Int) (d : List Int) : six n1 n2 n3 n4 n5 d none = (zeroEnt, none) := by simp [six]

theorem sixOf_is (st : Option (List Int)) : sixOf st = ans rdEnt zeroEnt st := by
  unfold sixOf
  cases st with
  | none => simp [ans_bad, six_bad]
  | some l =>
    cases h1 : rdNum l with
    | none =>
      have e : rdEnt l = none := by simp [rdEnt, h1]
      rw [ans_none h1, ans_none e]; simp [ans_bad, six_bad]
    | some p1 =>
      obtain ⟨n1, l1⟩ := p1
      rw [ans_some h1]
      cases h2 : rdNum l1 with
      | none =>
        have e : rdEnt l = none := by simp [rdEnt, rdIn, h1, h2]
        rw [ans_none e]; simp [ans_none h2, ans_bad, six_bad]
      | some p2 =>
        obtain ⟨n2, l2⟩ := p2
        cases h3 : rdNum l2 with
        | none =>
          have e : rdEnt l = none := by
            by_cases hc : 0 ≤ n2 ∧ n2 ≤ 255
            · simp [rdEnt, rdIn, h1, h2, h3, hc]
            · simp [rdEnt, rdIn, h1, h2, hc]
          rw [ans_none e]; simp [ans_some h2, ans_none h3, ans_bad, six_bad]
        | some p3 =>
          obtain ⟨n3, l3⟩ := p3
          cases h4 : rdNum l3 with
          | none =>
            have e : rdEnt l = none := by
              by_cases hc : 0 ≤ n2 ∧ n2 ≤ 255
              · simp [rdEnt, rdIn, h1, h2, h3, h4, hc]
              · simp [rdEnt, rdIn, h1, h2, hc]
            rw [ans_none e]; simp [ans_some h2, ans_some h3, ans_none h4, ans_bad, six_bad]
          | some p4 =>
            obtain ⟨n4, l4⟩ := p4
            cases h5 : rdNum l4 with
            | none =>
              have e : rdEnt l = none := by
                by_cases hc : 0 ≤ n2 ∧ n2 ≤ 255
                · simp [rdEnt, rdIn, h1, h2, h3, h4, h5, hc]
                · simp [rdEnt, rdIn, h1, h2, hc]
              rw [ans_none e]; simp [ans_some h2, ans_some h3, ans_some h4, ans_none h5, ans_bad, six_bad]
            | some p5 =>
              obtain ⟨n5, l5⟩ := p5
              cases h6 : rdBytes l5 with
              | none =>
                have e : rdEnt l = none := by
                  by_cases hc : 0 ≤ n2 ∧ n2 ≤ 255
                  · by_cases hd : 0 ≤ n5 ∧ n5 ≤ 1
                    · simp [rdEnt, rdIn, h1, h2, h3, h4, h5, h6, hc, hd]
                    · simp [rdEnt, rdIn, h1, h2, h3, h4, h5, hc, hd]
                  · simp [rdEnt, rdIn, h1, h2, hc]
                rw [ans_none e]; simp [ans_some h2, ans_some h3, ans_some h4, ans_some h5, ans_none h6, six_bad]
              | some p6 =>
                obtain ⟨d, l6⟩ := p6
                simp only [ans_some h2, ans_some h3, ans_some h4, ans_some h5, ans_some h6]
                by_cases hc : 0 ≤ n2 ∧ n2 ≤ 255
                · by_cases hd : 0 ≤ n5 ∧ n5 ≤ 1
                  · have e : rdEnt l = some (⟨n1, n2, n3, n4, decide (n5 = 1), d⟩, l6) := by simp [rdEnt, rdIn, h1, h2, h3, h4, h5, h6, hc, hd]
                    rw [ans_some e]; simp [six, hc, hd]
                  · have e : rdEnt l = none := by simp [rdEnt, rdIn, h1, h2, h3, h4, h5, hc, hd]
                    rw [ans_none e]; simp only [six]; rw [if_neg (fun h => hd h.2.2)]
                · have e : rdEnt l = none := by simp [rdEnt, rdIn, h1, h2, hc]
                  rw [ans_none e]; simp only [six]; rw [if_neg (fun h => hc h.2.1)]

theorem refRdrEntry (D : Nat) (st : Option (List Int)) (w : World) (h : Ref w D st) (hs : Short st) :
    Calls Tryz.prog 30 #[.pointer (some ⟨D, 0, none⟩)] w (SaysEnt D (ans rdEnt zeroEnt st).1 (ans rdEnt zeroEnt st).2 w) := by
  rw [← sixOf_is]
  unfold sixOf
  have s1 := short_next hs
  have s2 := short_next s1
  have s3 := short_next s2
  have s4 := short_next s3
  have s5 := short_next s4
  refine refEntry_walk D st _ _ _ _ _ _ _ _ _ _ _ _ w h (fun W h => Lib.hid (refRdrNumber D _ W h)) (fun W h => Lib.hid (refRdrNumber D _ W h)) (fun W h => Lib.hid (refRdrNumber D _ W h)) (fun W h => Lib.hid (refRdrNumber D _ W h)) (fun W h => Lib.hid (refRdrNumber D _ W h)) (fun W h => Lib.hid (refRdrBytes D _ W h s5)) _ _ (Lib.hid ⟨fun a b c => ?_, fun a => ?_⟩)
  · simp only [six]; rw [if_pos ⟨a, b, c⟩]; exact ⟨rfl, rfl⟩
  · simp only [six]; rw [if_neg (by rintro ⟨x, y, z⟩; rcases a with a | a; · rw [a] at x; cases x
                                    · omega)]; exact ⟨rfl, rfl⟩
end Go.Proofs.YtggbpdkejkmakaaGreat
