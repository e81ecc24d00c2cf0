/- Contract of a scan's take: the frame that is whole, in new memory; the scan stands behind it then. -/
import Derived.Test.YtkiagnlpnphghaaDoorFrLeft
namespace Go.Proofs.YtkiagnlpnphghaaDoor
open Go.RowKit
set_option linter.unusedVariables false
set_option linter.unusedSimpArgs false

/-- Block R is a scan: v is left, u bytes have been used. -/
def ScB (w : World) (R : Nat) (v : Value) (u : Int) : Prop := w.heap[R]? = some (.cells #[v, .int .i64 u] 86 (0, 0))
theorem ScB.lt {w : World} {R : Nat} {v : Value} {u : Int} (h : ScB w R v u) : R < w.heap.size := (Array.getElem?_eq_some_iff.1 h).1
theorem ScB.cells {w : World} {R : Nat} {v : Value} {u : Int} (h : ScB w R v u) : w.cell? ⟨R, 0, none⟩ = some v ∧ w.cell? ⟨R, 1, none⟩ = some (.int .i64 u) :=
  ⟨by rw [cell_of_row w R 0 _ _ _ h]; rfl, by rw [cell_of_row w R 1 _ _ _ h]; rfl⟩
theorem ScB.free {w : World} {R : Nat} {v : Value} {u : Int} (h : ScB w R v u) (i : Nat) : w.frozen? ⟨R, i, none⟩ = false := by simp [World.frozen?, show w.heap[R]? = _ from h]
theorem ScB.grown {w w' : World} {R : Nat} {v : Value} {u : Int} {row : Option Nat} (h : ScB w R v u) (hg : w.grownBy w' row) (hr : row ≠ some R) : ScB w' R v u := (hg.block R h.lt (fun e => hr e.symm)).trans h
theorem ScB.past {w w' : World} {R : Nat} {v : Value} {u : Int} (h : ScB w R v u) (hb : Below w.heap.size w w') : ScB w' R v u := (hb.block R h.lt).trans h
theorem ScB.set0 {w : World} {R : Nat} {v : Value} {u : Int} (h : ScB w R v u) (v' : Value) : ScB (w.setCell ⟨R, 0, none⟩ v') R v' u := by
  unfold ScB at h ⊢
  simp only [World.setCell, Array.getElem?_modify, h]
  simp
theorem ScB.set1 {w : World} {R : Nat} {v : Value} {u : Int} (h : ScB w R v u) (u' : Int) : ScB (w.setCell ⟨R, 1, none⟩ (.int .i64 u')) R v u' := by
  unfold ScB at h ⊢
  simp only [World.setCell, Array.getElem?_modify, h]
  simp
/-- A scan in a world that has grown out of w0, where its bytes lay: l is left, u bytes have been used. -/
structure ScS (w0 w : World) (R : Nat) (l : List Int) (u : Int) : Prop where
  b : ∃ v, ScB w R v u ∧ Bs w0 v l
  oct : Oct l
  bel : Below w0.heap.size w0 w
  far : w0.heap.size ≤ R
theorem ScS.past {w0 w w' : World} {R : Nat} {l : List Int} {u : Int} (h : ScS w0 w R l u) (hb : Below w.heap.size w w') : ScS w0 w' R l u := by
  obtain ⟨⟨v, h1, h2⟩, h3, h4, h5⟩ := h
  exact ⟨⟨v, h1.past hb, h2⟩, h3, bel_past h4 hb, h5⟩
theorem ScS.grown {w0 w w' : World} {R : Nat} {l : List Int} {u : Int} {row : Option Nat} (h : ScS w0 w R l u) (hg : w.grownBy w' row) (hr : ∀ k, row = some k → w0.heap.size ≤ k ∧ k ≠ R) : ScS w0 w' R l u := by
  obtain ⟨⟨v, h1, h2⟩, h3, h4, h5⟩ := h
  exact ⟨⟨v, h1.grown hg (fun e => (hr R e).2 rfl), h2⟩, h3, h4.grown hg h4.size (fun k hk => (hr k hk).1), h5⟩
theorem ScS.lf {w0 w : World} {R : Nat} {l : List Int} {u : Int} (h : ScS w0 w R l u) : ∃ v, Lf w R v l := by
  obtain ⟨⟨v, h1, h2⟩, h3, h4, h5⟩ := h
  exact ⟨v, h1.cells.1, h2.past h4, h3⟩

theorem keep_far {w : World} {E R b off : Nat} {v x : Value} (hR : R ≠ E) (hb : b ≠ E) (h : w.cell? ⟨R, 0, none⟩ = some v ∧ w.cell? ⟨b, off, none⟩ = some x) (u0 u1 : Value) :
    ((w.setCell ⟨E, 0, none⟩ u0).setCell ⟨E, 1, none⟩ u1).cell? ⟨R, 0, none⟩ = some v ∧ ((w.setCell ⟨E, 0, none⟩ u0).setCell ⟨E, 1, none⟩ u1).cell? ⟨b, off, none⟩ = some x := by
  have g := grownBy_trans (grownBy_setCell w ⟨E, 0, none⟩ u0) (grownBy_setCell (w.setCell ⟨E, 0, none⟩ u0) ⟨E, 1, none⟩ u1)
  exact ⟨g.cell (a := ⟨R, 0, none⟩) h.1 (fun e => hR (Option.some.inj e)), g.cell (a := ⟨b, off, none⟩) h.2 (fun e => hb (Option.some.inj e))⟩
theorem keep_past {w w' : World} {R b off : Nat} {v x : Value} (h : w.cell? ⟨R, 0, none⟩ = some v ∧ w.cell? ⟨b, off, none⟩ = some x) (hb : Below w.heap.size w w') :
    w'.cell? ⟨R, 0, none⟩ = some v ∧ w'.cell? ⟨b, off, none⟩ = some x :=
  ⟨(hb.cell (p := ⟨R, 0, none⟩) (World.block_lt_of_cell? w _ h.1)).trans h.1, (hb.cell (p := ⟨b, off, none⟩) (World.block_lt_of_cell? w _ h.2)).trans h.2⟩

/-- What was new is written. -/
theorem grownBy_beyond {w w1 w2 : World} {row row2 : Option Nat} (h : w.grownBy w1 row) (hb : ∀ k, row2 = some k → w.heap.size ≤ k) (g : w1.grownBy w2 row2) : w.grownBy w2 row :=
  ⟨g.os.trans h.os, g.tape.trans h.tape, g.output.trans h.output, Nat.le_trans h.size g.size, fun j hj hne => (g.block j (Nat.lt_of_lt_of_le hj h.size) (fun e => by have := hb j e.symm; omega)).trans (h.block j hj hne)⟩
/-- A frame's block is written. -/
theorem FrBox.put {t : TypeId} {w : World} {b : Nat} {k : Int} {v : Value} (h : FrBox t w b k v) (k' : Int) (v' : Value) : FrBox t ((w.setCell ⟨b, 0, none⟩ (.int .i64 k')).setCell ⟨b, 1, none⟩ v') b k' v' := by
  unfold FrBox at h ⊢
  simp only [World.setCell, Array.getElem?_modify, h]
  simp
theorem put_grown (w : World) (b : Nat) (u0 u1 : Value) : w.grownBy ((w.setCell ⟨b, 0, none⟩ u0).setCell ⟨b, 1, none⟩ u1) (some b) :=
  grownBy_trans (grownBy_setCell w ⟨b, 0, none⟩ u0) (grownBy_setCell (w.setCell ⟨b, 0, none⟩ u0) ⟨b, 1, none⟩ u1)
/-- What take has come to: block E is its frame. -/
structure TkS (w wr : World) (R E : Nat) (v : Value) (u k : Int) (d : Value) (l : List Int) (base : Nat) : Prop where
  sc : ScB wr R v u
  fr : FrBox 36 wr E k d
  own : Own wr base d l
  grew : w.grownBy wr (some R)
  e0 : w.heap.size ≤ E
  r0 : R < w.heap.size
  b0 : E < base
theorem TkS.set0 {w wr : World} {R E : Nat} {v : Value} {u k : Int} {d : Value} {l : List Int} {base : Nat} (h : TkS w wr R E v u k d l base) (v' : Value) : TkS w (wr.setCell ⟨R, 0, none⟩ v') R E v' u k d l base := by
  have g := grownBy_setCell wr ⟨R, 0, none⟩ v'
  refine ⟨h.sc.set0 v', h.fr.grown g (fun e => ?_), h.own.kept g ?_, grownBy_trans h.grew g, h.e0, h.r0, h.b0⟩
  · have : R = E := Option.some.inj e
    have := h.e0; have := h.r0; omega
  · cases hv : d.ownBlock with
    | none => exact Or.inl rfl
    | some j => exact Or.inr (fun e => by have h1 := (h.own.lt j hv).1; have : j = R := Option.some.inj e; have := h.e0; have := h.r0; have := h.b0; omega)
theorem TkS.put {w wr : World} {R E : Nat} {v : Value} {u k : Int} {d : Value} {l : List Int} {base : Nat} (h : TkS w wr R E v u k d l base) : TkS w ((wr.setCell ⟨E, 0, none⟩ (.int .i64 k)).setCell ⟨E, 1, none⟩ d) R E v u k d l base := by
  have g := put_grown wr E (.int .i64 k) d
  refine ⟨h.sc.grown g (fun e => ?_), h.fr.put k d, h.own.kept g ?_, grownBy_beyond h.grew (fun j e => by have : E = j := Option.some.inj e; have := h.e0; omega) g, h.e0, h.r0, h.b0⟩
  · have : E = R := Option.some.inj e
    have := h.e0; have := h.r0; omega
  · cases hv : d.ownBlock with
    | none => exact Or.inl rfl
    | some j => exact Or.inr (fun e => by have h1 := (h.own.lt j hv).1; have : j = E := Option.some.inj e; have := h.b0; omega)

/-- What take has told. -/
def TakesAs (w0 : World) (R : Nat) (l : List Int) (u x : Int) (s : Nat) (w : World) (e : Ending) (w' : World) : Prop :=
  ∃ a c, e = .returned (.tuple #[.agg #[.int .i64 x, .slice a s c], .int .i64 (9 + s : Nat)]) ∧ Own w' w.heap.size (.slice a s c) (dataOf l) ∧ ScS w0 w' R (l.drop (9 + s)) u ∧ w.grownBy w' (some R)
theorem take_end {w0 w W5 : World} {R : Nat} {l : List Int} {u x : Int} {s q base c2 : Nat} {a2 : Option Addr} {v : Value} (hbel : Below w0.heap.size w0 w) (hfar : w0.heap.size ≤ R) (ho : Oct l) (h1 : 9 + s = q) (h2 : ((9 + s : Nat) : Int) = (q : Int))
    (K : TkS w W5 R w.heap.size v u x (.slice a2 s c2) (dataOf l) base) (hd : Bs w0 v (l.drop q)) : TakesAs w0 R l u x s w (.returned (.tuple #[.agg #[.int .i64 x, .slice a2 s c2], .int .i64 (q : Int)])) W5 := by
  refine ⟨a2, c2, by rw [h2], K.own.mono (by have := K.b0; omega), ⟨⟨v, K.sc, by rw [h1]; exact hd⟩, ho.drop _, ?_, hfar⟩, K.grew⟩
  exact hbel.grown K.grew hbel.size (fun k hk => by cases hk; exact hfar)

set_option maxHeartbeats 4000000 in
set_option maxRecDepth 100000 in
theorem takeOf (w0 : World) (R : Nat) (l : List Int) (u : Int) (w : World) (h : ScS w0 w R l u) (hc : completeB l = true) :
    Calls Tryd.prog 62 #[.pointer (some ⟨R, 0, none⟩)] w (TakesAs w0 R l u (nth l 0) (says l) w) := by
  obtain ⟨⟨v, hS, hb0⟩, ho, hbel, hfar⟩ := h
  obtain ⟨h9, hq, hr⟩ := completeB_at hc
  obtain ⟨b, off, cap, rfl, h1, h2, -, cells⟩ := (hb0.past hbel).at (by omega)
  have k0 : w.cell? ⟨b, off, none⟩ = _ := cells 0 (by omega)
  have hR := hS.lt
  have hcm : cap ≤ 9223372036854775807 := by unfold maxLen at h2; omega
  have hD := Lib.hid (dataOf_length hr)
  generalize hW : w.alloc (.cells #[.int .i64 0, .slice none 0 0] 36) = W at *
  have HW := Lib.hid hW
  have bW : Below w.heap.size w W := by rw [← hW]; exact alloc_below _ _
  have fW : FrBox 36 W w.heap.size 0 (.slice none 0 0) := by rw [← hW]; exact FrBox.new _ _ _ _
  clear hW cells
  have LW : Lf W R (.slice (some ⟨b, off, none⟩) l.length cap) l := ⟨(hS.past bW).cells.1, (hb0.past hbel).past bW, ho⟩
  have hbl : b < w.heap.size := World.block_lt_of_cell? w _ k0
  have G0 : W.drew.cell? ⟨R, 0, none⟩ = some (.slice (some ⟨b, off, none⟩) l.length cap) ∧ W.drew.cell? ⟨b, off, none⟩ = some (.int .u8 (nth l 0)) :=
    keep_past ⟨LW.c, (bW.cell (p := ⟨b, off, none⟩) hbl).trans k0⟩ (drew_below W)
  have DI := Lib.hid (dataIs R b off cap l W.drew (LW.past (drew_below W)) hc h1 h2)
  have CI := fun W1 (hb : Below W.heap.size W W1) => Lib.hid (cloneOf (.slice (dAt b off cap) (says l) (cap - 9)) (dataOf l) W1 (dAt_bs (LW.past hb).bs hc) (by have := hD.out; omega))
  have hx := ho.nth (j := 0) (by omega)
  have hs9 := Lib.hid hr
  have hneR : R ≠ w.heap.size := by omega
  have hneb : b ≠ w.heap.size := by omega
  rw [hD.out] at CI
  have HLW := Lib.hid LW
  have HfW := Lib.hid fW
  have HbW := Lib.hid bW
  have HS := Lib.hid hS
  clear LW fW bW hS k0 h2
  obtain ⟨x0, x1⟩ := hx
  have hwx : IntKind.i64.wrap (nth l 0) = nth l 0 := IntWalk.i64_in _ (by omega)
  generalize nth l 0 = x at *
  generalize hln : l.length = n at *
  have HN := Lib.hid hln
  clear hln
  generalize says l = s at *
  generalize hda : dAt b off cap = da at *
  clear hda
  have z1 : 0 < n := by omega
  have z2 : (0 : Int) < (n : Int) := by omega
  go_enter Tryd.func62, Tryd.ntmps62
  go_wp2_with fail
  rw [HW.out]
  go_region_held3 (fun w' => w'.cell? ⟨R, 0, none⟩ = some (.slice (some ⟨b, off, none⟩) n cap) ∧ w'.cell? ⟨b, off, none⟩ = some (.int .u8 x)) (first | (with_reducible assumption) | (with_reducible exact keep_far hneR hneb (by with_reducible assumption) _ _)) (first | (go_at_call 91; refine (DI.out).mono ?_; rintro e w1 ⟨rfl, hs1⟩; have B1 := bel_trans (drew_below W) hs1.past; have F1lt := Lib.hid ((HfW.out).past B1).lt; have G1 := keep_past G0 hs1.past) | (go_at_call 90; refine ((CI _ B1).out).mono ?_; rintro e w2 ⟨a2, c2, rfl, o2, b2⟩; have B2 := bel_trans B1 b2; have G2 := keep_past G1 b2; have F2 := (HfW.out).past B2; obtain ⟨e0, e1⟩ := F2.cells; have z0 := F2.free 0; have z1 := F2.free 1))
  all_goals
    have K3 : TkS w ((w2.setCell ⟨w.heap.size, 0, none⟩ (.int .i64 x)).setCell ⟨w.heap.size, 1, none⟩ (.slice a2 s c2)) R w.heap.size (.slice (some ⟨b, off, none⟩) n cap) u x (.slice a2 s c2) (dataOf l) w1.heap.size := by
      have g := put_grown w2 w.heap.size (.int .i64 x) (.slice a2 s c2)
      have bl : Below w.heap.size w w2 := (HbW.out).trans (B2.mono (HbW.out).size)
      refine ⟨((HS.out).past bl).grown g (fun e => hneR (Option.some.inj e).symm), F2.put _ _, o2.kept g ?_, grownBy_beyond (below_grownBy bl _) (fun j e => by have : w.heap.size = j := Option.some.inj e; omega) g, Nat.le_refl _, (by omega), Nat.lt_of_lt_of_le F1lt.out (Nat.le_refl _)⟩
      cases hv : (Value.slice a2 s c2).ownBlock with
      | none => exact Or.inl rfl
      | some j => exact Or.inr (fun e => by have h1 := (o2.lt j hv).1; have : j = w.heap.size := Option.some.inj e; have := F1lt.out; omega)
    have HK3 := Lib.hid K3
    clear K3 o2 b2 B2 F2 e0 e1 z0 z1 G0 G1 G2 hs1 B1
    generalize (w2.setCell ⟨w.heap.size, 0, none⟩ (.int .i64 x)).setCell ⟨w.heap.size, 1, none⟩ (.slice a2 s c2) = W3 at *
    obtain ⟨e0, e1⟩ := (HK3.out).fr.cells
    obtain ⟨r0, -⟩ := (HK3.out).sc.cells
    have rz := (HK3.out).sc.free 0
    obtain ⟨q, hqq⟩ : ∃ q : Nat, 9 + (s : Int) = (q : Int) := ⟨9 + s, by omega⟩
    have HQ := Lib.hid hqq
    have hqn : q ≤ n := by have := hs9.out; omega
    have hqc : q ≤ cap := by omega
    have ez0 := (HK3.out).fr.free 0
    have ez1 := (HK3.out).fr.free 1
    have eq2 : 9 + s = q := by have := HQ.out; omega
    have HQ2 := Lib.hid eq2
    have eq1 : ((9 + s : Nat) : Int) = (q : Int) := by have := HQ.out; omega
    have HQ1 := Lib.hid eq1
    clear eq1 eq2
    by_cases hcz : cap = q
    · subst hcz
      go_wp2_with fail
      have K5 := ((HK3.out).set0 (.slice (some ⟨b, off, none⟩) 0 0)).put
      generalize ((W3.setCell ⟨R, 0, none⟩ (.slice (some ⟨b, off, none⟩) 0 0)).setCell ⟨w.heap.size, 0, none⟩ (.int .i64 x)).setCell ⟨w.heap.size, 1, none⟩ (.slice a2 s c2) = W5 at *
      obtain ⟨y0, y1⟩ := K5.fr.cells
      refine bodyPost_ret (v := .tuple #[.agg #[.int .i64 x, .slice a2 s c2], .int .i64 (cap : Int)]) (by simp [results, Tryd.results62, go_sem, y0, y1]) rfl ?_
      have hd := hb0.drop (n := cap) (by have := HN.out; omega)
      rw [if_pos (by omega), Nat.sub_self, show n - cap = 0 from by omega] at hd
      exact take_end hbel hfar ho HQ2.out HQ1.out K5 hd
    · go_wp2_with fail
      have K5 := ((HK3.out).set0 (.slice (some ⟨b, off + q, none⟩) (n - q) (cap - q))).put
      generalize ((W3.setCell ⟨R, 0, none⟩ (.slice (some ⟨b, off + q, none⟩) (n - q) (cap - q))).setCell ⟨w.heap.size, 0, none⟩ (.int .i64 x)).setCell ⟨w.heap.size, 1, none⟩ (.slice a2 s c2) = W5 at *
      obtain ⟨y0, y1⟩ := K5.fr.cells
      refine bodyPost_ret (v := .tuple #[.agg #[.int .i64 x, .slice a2 s c2], .int .i64 (q : Int)]) (by simp [results, Tryd.results62, go_sem, y0, y1]) rfl ?_
      have hd := hb0.drop (n := q) (by have := HN.out; omega)
      rw [if_neg (by omega)] at hd
      simp only [Option.map_some, add_none] at hd
      exact take_end hbel hfar ho HQ2.out HQ1.out K5 hd
end Go.Proofs.YtkiagnlpnphghaaDoor
