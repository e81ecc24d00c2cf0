/- How the loop of WireReads stands: both readers, and the rows that were told so far. -/
import Derived.Test.YtggbpdkejkmakaaGreatNews
import Derived.Test.YtggbpdkejkmakaaGreatApartB
namespace Go.Proofs.YtggbpdkejkmakaaGreat
open Go.RowKit
set_option linter.unusedVariables false
set_option linter.unusedSimpArgs false

/-- How many bytes are left at most. -/
def Len (m : Nat) (st : Option (List Int)) : Prop := ∀ l, st = some l → l.length ≤ m
theorem Len.short {m : Nat} {st : Option (List Int)} (h : Len m st) (hm : m ≤ 140737488351232) : Short st := fun l hl => Nat.le_trans (h l hl) hm
theorem rdNum_len {l r : List Int} {n : Int} (h : rdNum l = some (n, r)) : r.length ≤ l.length := by
  obtain ⟨_, _, rfl⟩ := rdNum_some h; simp
theorem rdIn_len {m : Int} {l r : List Int} {n : Int} (h : rdIn m l = some (n, r)) : r.length ≤ l.length := rdNum_len (rdIn_some h).1
theorem rdBytes_len {l d r : List Int} (h : rdBytes l = some (d, r)) : d.length ≤ l.length ∧ r.length ≤ l.length := by
  obtain ⟨n, r0, h1, h2, h3, rfl, rfl⟩ := rdBytes_some h
  have := rdNum_len h1
  simp
  omega
theorem rdEnt_len {l r : List Int} {x : Ent} (h : rdEnt l = some (x, r)) : x.d.length ≤ l.length ∧ r.length ≤ l.length := by
  unfold rdEnt at h
  simp only [Option.bind_eq_some_iff] at h
  obtain ⟨⟨n1, l1⟩, h1, ⟨n2, l2⟩, h2, ⟨n3, l3⟩, h3, ⟨n4, l4⟩, h4, ⟨n5, l5⟩, h5, ⟨d, l6⟩, h6, h7⟩ := h
  have a1 := rdNum_len h1
  have a2 := rdIn_len h2
  have a3 := rdNum_len h3
  have a4 := rdNum_len h4
  have a5 := rdIn_len h5
  have a6 := rdBytes_len h6
  simp only [Option.some.injEq, Prod.mk.injEq] at h7
  obtain ⟨rfl, rfl⟩ := h7
  dsimp only at *
  exact ⟨by omega, by omega⟩
theorem len_num {m : Nat} {st : Option (List Int)} (h : Len m st) : Len m (ans rdNum 0 st).2 := by
  intro l hl
  cases st with
  | none => cases hl
  | some l0 =>
    cases hn : rdNum l0 with
    | none => rw [ans_none hn] at hl; cases hl
    | some q => obtain ⟨n, r⟩ := q; rw [ans_some hn] at hl; cases hl; exact Nat.le_trans (rdNum_len hn) (h l0 rfl)
theorem len_bytes {m : Nat} {st : Option (List Int)} (h : Len m st) : Len m (ans rdBytes [] st).2 ∧ (ans rdBytes [] st).1.length ≤ m := by
  cases st with
  | none => exact ⟨fun l hl => (by cases hl), Nat.zero_le _⟩
  | some l0 =>
    cases hn : rdBytes l0 with
    | none => rw [ans_none hn]; exact ⟨fun l hl => (by cases hl), Nat.zero_le _⟩
    | some q =>
      obtain ⟨d, r⟩ := q
      rw [ans_some hn]
      have := rdBytes_len hn
      have := h l0 rfl
      exact ⟨fun l hl => (by cases hl; omega), by show d.length ≤ m; omega⟩
theorem len_ent {m : Nat} {st : Option (List Int)} (h : Len m st) : Len m (ans rdEnt zeroEnt st).2 ∧ (ans rdEnt zeroEnt st).1.d.length ≤ m := by
  cases st with
  | none => exact ⟨fun l hl => (by cases hl), Nat.zero_le _⟩
  | some l0 =>
    cases hn : rdEnt l0 with
    | none => rw [ans_none hn]; exact ⟨fun l hl => (by cases hl), Nat.zero_le _⟩
    | some q =>
      obtain ⟨x, r⟩ := q
      rw [ans_some hn]
      have := rdEnt_len hn
      have := h l0 rfl
      exact ⟨fun l hl => (by cases hl; omega), by show x.d.length ≤ m; omega⟩

theorem Rdr.noBytes {w : World} {R : Nat} {st : Option (List Int)} (h : Rdr w R st) : NoBytes w R := by
  cases st with
  | some l => obtain ⟨_, v, hr, _⟩ := h; exact hr.noBytes
  | none => obtain ⟨l, _, v, hr, _⟩ := h; exact hr.noBytes
theorem Ref.noBytes {w : World} {D : Nat} {st : Option (List Int)} (h : Ref w D st) : NoBytes w D := by
  cases st with
  | some l => obtain ⟨L, p, ⟨_, _, v, hr, _⟩, _⟩ := h; exact hr.noBytes
  | none => obtain ⟨L, p, _, _, v, hr, _⟩ := h; exact hr.noBytes

/-- The block that a row of slices stands in. -/
theorem OwnL.tag {w : World} {base : Nat} {v : Value} {vs : List Value} (h : OwnL w base v vs) {k : Nat} (hk : v.ownBlock = some k) : base ≤ k ∧ ∃ cur, w.heap[k]? = some (.cells cur 23 (0, 0)) := by
  rcases h.2 with ⟨rfl, h0⟩ | ⟨g, c, cur, rfl, hb, hg, -⟩
  · cases hk
  · cases hk
    exact ⟨hb, cur, hg⟩
theorem OwnL.noBytes {w : World} {base : Nat} {v : Value} {vs : List Value} (h : OwnL w base v vs) {k : Nat} (hk : v.ownBlock = some k) : NoBytes w k := by
  obtain ⟨_, cur, hg⟩ := h.tag hk
  intro c2 fr hb
  rw [hg] at hb
  simp at hb
theorem OwnL.vals {w : World} {base : Nat} {v : Value} {vs : List Value} (h : OwnL w base v vs) : Vals w v vs := by
  rcases h.2 with ⟨rfl, h0⟩ | ⟨g, c, cur, rfl, _, hg, hn, hc, hs, ht⟩
  · obtain rfl : vs = [] := List.eq_nil_of_length_eq_zero (by omega)
    exact Vals.nil w
  · refine ⟨_, c, rfl, hn, hc, fun e => (by cases e), fun a ha j hj => ?_⟩
    cases ha
    have : (cur.toList.take (vs.length * 1))[j]? = some (vth vs j) := by rw [ht]; simp [vth, List.getD, hj]
    rw [List.getElem?_take, if_pos (by omega)] at this
    rw [add_none, cell_of_row w g (0 + j) cur _ (0, 0) hg]
    simpa using this
theorem vth_left {vs : List Value} {u : Value} {j : Nat} (h : j < vs.length) : vth (vs ++ [u]) j = vth vs j := by
  simp [vth, List.getD, List.getElem?_append_left h]
theorem vth_last (vs : List Value) (u : Value) : vth (vs ++ [u]) vs.length = u := by simp [vth, List.getD]

/-- No row of vs shares u's block. -/
def NewTo (vs : List Value) (u : Value) : Prop := ∀ j, j < vs.length → ∀ Y, (vth vs j).ownBlock = some Y → u.ownBlock = some Y → False

/-- Between two reads: both readers, and the rows that were told. -/
structure RS (w0 w : World) (base R D : Nat) (tv : Value) (vs : List Value) (s1 s2 : Option (List Int)) : Prop where
  rdr : Rdr w R s1
  ref : Ref w D s2
  ltR : R < base
  ltD : D < base
  ne : R ≠ D
  rR : w0.heap.size ≤ R
  rD : w0.heap.size ≤ D
  base1 : base ≤ w.heap.size
  told : OwnL w base tv vs
  rows : ∀ j, j < vs.length → ∃ l : List Int, l.length ≤ 20000 ∧ Own w base (vth vs j) l
  sep : ∀ i j, i < vs.length → j < vs.length → i ≠ j → ∀ Y, (vth vs i).ownBlock = some Y → (vth vs j).ownBlock = some Y → False
  below : Below w0.heap.size w0 w
section
variable {w0 w : World} {base R D : Nat} {tv : Value} {vs : List Value} {s1 s2 : Option (List Int)}
theorem RS.base0 (h : RS w0 w base R D tv vs s1 s2) : w0.heap.size ≤ base := by have := h.rR; have := h.ltR; omega
end
theorem RS.turn {w0 w w' : World} {base R D : Nat} {tv : Value} {vs : List Value} {s1 s2 t1 t2 : Option (List Int)} (h : RS w0 w base R D tv vs s1 s2) {X : Nat} (hg : w.grownBy w' (some X)) (hX : X < base) (h0 : w0.heap.size ≤ X) (hr : Rdr w' R t1) (hd : Ref w' D t2) : RS w0 w' base R D tv vs t1 t2 :=
  ⟨hr, hd, h.ltR, h.ltD, h.ne, h.rR, h.rD, Nat.le_trans h.base1 hg.size,
    World.ownsRow.kept h.told hg (by
      cases e : tv.ownBlock with
      | none => exact Or.inl rfl
      | some k => exact Or.inr (fun e2 => by cases e2; have := (h.told.tag e).1; omega)),
    fun j hj => by
      obtain ⟨l, hl, ho⟩ := h.rows j hj
      exact ⟨l, hl, ho.kept hg (Or.inr (fun e => by have := (ho.lt _ e).1; omega))⟩,
    h.sep, h.below.grown hg (h.below.size) (fun k hk => by cases hk; exact h0)⟩
/-- wire's reader has read. -/
theorem RS.rd {w0 w w' : World} {base R D : Nat} {tv : Value} {vs : List Value} {s1 s2 t : Option (List Int)} (h : RS w0 w base R D tv vs s1 s2) (hg : w.grownBy w' (some R)) (hr : Rdr w' R t) : RS w0 w' base R D tv vs t s2 :=
  h.turn hg h.ltR h.rR hr (h.ref.keep hg (fun k hk => by cases hk; exact ⟨h.ne, h.rdr.noBytes⟩))
/-- The document's reader has read. -/
theorem RS.rf {w0 w w' : World} {base R D : Nat} {tv : Value} {vs : List Value} {s1 s2 t : Option (List Int)} (h : RS w0 w base R D tv vs s1 s2) (hg : w.grownBy w' (some D)) (hr : Ref w' D t) : RS w0 w' base R D tv vs s1 t :=
  h.turn hg h.ltD h.rD (h.rdr.keep hg (fun k hk => by cases hk; exact ⟨fun e => h.ne e.symm, h.ref.noBytes⟩)) hr
/-- Nothing that was there has turned. -/
theorem RS.past {w0 w w' : World} {base R D : Nat} {tv : Value} {vs : List Value} {s1 s2 : Option (List Int)} (h : RS w0 w base R D tv vs s1 s2) (hb : Below w.heap.size w w') : RS w0 w' base R D tv vs s1 s2 := by
  have hg : w.grownBy w' none := below_grownBy hb none
  refine ⟨h.rdr.keep hg (fun k hk => by cases hk), h.ref.keep hg (fun k hk => by cases hk), h.ltR, h.ltD, h.ne, h.rR, h.rD, Nat.le_trans h.base1 hg.size, World.ownsRow.kept h.told hg ?_, fun j hj => ?_, h.sep, h.below.trans (hb.mono h.below.size)⟩
  · cases tv.ownBlock with
    | none => exact Or.inl rfl
    | some k => exact Or.inr (fun e => by cases e)
  · obtain ⟨l, hl, ho⟩ := h.rows j hj
    exact ⟨l, hl, ho.below hb (Nat.le_refl _)⟩
/-- What is made now is new to all rows. -/
theorem RS.newTo {w0 w w1 : World} {base R D : Nat} {tv : Value} {vs : List Value} {s1 s2 : Option (List Int)} (h : RS w0 w base R D tv vs s1 s2) {u : Value} {l : List Int} (ho : Own w1 w.heap.size u l) : NewTo vs u := fun j hj Y h1 h2 => by
  obtain ⟨l', _, hr⟩ := h.rows j hj
  have a := (hr.lt Y h1).2
  have b := (ho.lt Y h2).1
  omega
/-- One more row is told. -/
theorem RS.tell {w0 w w' : World} {base R D : Nat} {tv tv' u : Value} {vs : List Value} {s1 s2 : Option (List Int)} {l : List Int} (h : RS w0 w base R D tv vs s1 s2) (hu : Own w base u l) (hl : l.length ≤ 20000) (hn : NewTo vs u)
    (ho : OwnL w' base tv' (vs ++ [u])) (hg : w.grownBy w' tv.ownBlock) : RS w0 w' base R D tv' (vs ++ [u]) s1 s2 := by
  have kept : ∀ (x : Value) (lx : List Int), Own w base x lx → Own w' base x lx := fun x lx hx => hx.kept hg (by
    cases e : tv.ownBlock with
    | none => cases x.ownBlock <;> simp
    | some k =>
      refine Or.inr (fun e2 => ?_)
      obtain ⟨cur, h1⟩ := own_tagAt hx e2
      obtain ⟨_, cur2, h2⟩ := h.told.tag e
      rw [h1] at h2
      simp at h2)
  have hX : ∀ k, tv.ownBlock = some k → base ≤ k ∧ NoBytes w k := fun k hk => ⟨(h.told.tag hk).1, h.told.noBytes hk⟩
  refine ⟨h.rdr.keep hg (fun k hk => ⟨fun e => by have := (hX k hk).1; have := h.ltR; omega, (hX k hk).2⟩), h.ref.keep hg (fun k hk => ⟨fun e => by have := (hX k hk).1; have := h.ltD; omega, (hX k hk).2⟩), h.ltR, h.ltD, h.ne, h.rR, h.rD, Nat.le_trans h.base1 hg.size, ho, fun j hj => ?_, fun i j hi hj hne Y h1 h2 => ?_, h.below.grown hg h.below.size (fun k hk => by have := (hX k hk).1; have := h.base0; omega)⟩
  · rw [List.length_append] at hj
    simp at hj
    by_cases hjl : j < vs.length
    · rw [vth_left hjl]
      obtain ⟨lj, h1, h2⟩ := h.rows j hjl
      exact ⟨lj, h1, kept _ _ h2⟩
    · obtain rfl : j = vs.length := by omega
      rw [vth_last]
      exact ⟨l, hl, kept _ _ hu⟩
  · rw [List.length_append] at hi hj
    simp at hi hj
    by_cases hil : i < vs.length
    · rw [vth_left hil] at h1
      by_cases hjl : j < vs.length
      · rw [vth_left hjl] at h2
        exact h.sep i j hil hjl hne Y h1 h2
      · obtain rfl : j = vs.length := by omega
        rw [vth_last] at h2
        exact hn i hil Y h1 h2
    · obtain rfl : i = vs.length := by omega
      rw [vth_last] at h1
      rw [vth_left (by omega)] at h2
      exact hn j (by omega) Y h2 h1
/-- At the end: the rows lie apart. -/
theorem RS.rowy {w0 w : World} {base R D : Nat} {tv : Value} {vs : List Value} {s1 s2 : Option (List Int)} (h : RS w0 w base R D tv vs s1 s2) : ∃ n : Nat → Nat, Rowy w base (vth vs) vs.length n ∧ ∀ j, j < vs.length → n j ≤ 100000000 := by
  obtain ⟨L, hL⟩ : ∃ L : Nat → List Int, ∀ j, j < vs.length → (L j).length ≤ 20000 ∧ Own w base (vth vs j) (L j) :=
    ⟨fun j => if h' : j < vs.length then (h.rows j h').choose else [], fun j hj => by simp only [hj, dif_pos]; exact (h.rows j hj).choose_spec⟩
  exact ⟨fun j => (L j).length, ⟨fun j hj => ⟨L j, rfl, (hL j hj).2⟩, h.sep⟩, fun j hj => by have := (hL j hj).1; show (L j).length ≤ _; omega⟩
end Go.Proofs.YtggbpdkejkmakaaGreat
