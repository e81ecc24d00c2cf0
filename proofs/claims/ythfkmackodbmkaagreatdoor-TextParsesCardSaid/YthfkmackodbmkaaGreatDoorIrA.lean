/- Rows of instructions that lie apart, and what has grown out of each; a list of slices in a block of its own. -/
import Derived.Test.YthfkmackodbmkaaGreatDoorInsLent
import Derived.Test.YthfkmackodbmkaaGreatDoorApp
import Derived.Deep.DeepAppendRoom
namespace Go.Proofs.YthfkmackodbmkaaGreatDoor.Ir
open Go.RowKit
set_option linter.unusedVariables false
set_option linter.unusedSimpArgs false

def At (v g : Value) (Y : Nat) : Prop := v.ownBlock = some Y ∨ g.ownBlock = some Y
def upd {α : Type} (f : Nat → α) (k : Nat) (x : α) : Nat → α := fun j => if j = k then x else f j
theorem upd_same {α : Type} (f : Nat → α) (k : Nat) (x : α) : upd f k x k = x := by simp [upd]
theorem upd_other {α : Type} (f : Nat → α) {k j : Nat} (x : α) (h : j ≠ k) : upd f k x j = f j := by simp [upd, h]
theorem upd_upd {α : Type} (f : Nat → α) (k : Nat) (x y : α) : upd (upd f k x) k y = upd f k y := by
  funext j; unfold upd; split <;> rfl
theorem upd_const {α : Type} (k : Nat) (x : α) : upd (fun _ => x) k x = fun _ => x := by
  funext j; unfold upd; split <;> rfl
theorem insTag_list : 23 ≠ 47 := by decide
/-- Block X is one of instructions. -/
def Tg (w : World) (X : Nat) : Prop := ∃ cur, w.heap[X]? = some (.cells cur 47 (0, 0))
/-- All blocks but those of instructions are as they were. -/
def Spares (w w' : World) : Prop := ∀ (X : Nat) (cur : Array Value) (e : TypeId) (fr : Nat × Nat), w.heap[X]? = some (Obj.cells cur e fr) → e ≠ 47 → w'.heap[X]? = w.heap[X]?
theorem Spares.refl (w : World) : Spares w w := fun _ _ _ _ _ _ => rfl
theorem Spares.trans {a b c : World} (h : Spares a b) (k : Spares b c) : Spares a c := fun X cur e fr hX he => by
  have h1 := h X cur e fr hX he
  rw [hX] at h1
  rw [k X cur e fr h1 he, h1, hX]
theorem spares_grown {w w' : World} {row : Option Nat} (hg : w.grownBy w' row) (hrow : ∀ X, row = some X → Tg w X) : Spares w w' := fun X cur e fr hX he => by
  refine hg.block X (Array.getElem?_eq_some_iff.1 hX).1 (fun e' => ?_)
  obtain ⟨c', h'⟩ := hrow X e'.symm
  rw [hX] at h'
  simp at h'
  exact he h'.2.1
theorem spares_below {w w' : World} (h : Below w.heap.size w w') : Spares w w' := fun X cur e fr hX he => h.block X (Array.getElem?_eq_some_iff.1 hX).1
theorem _root_.Go.Proofs.YthfkmackodbmkaaGreatDoor.OwnI.mono {w : World} {base base' : Nat} {v : Value} {l : List Ins} (h : OwnI w base v l) (hb : base' ≤ base) : OwnI w base' v l := by
  refine ⟨h.1, ?_⟩
  rcases h.2 with hn | ⟨g, cap, cur, rfl, hb', rest⟩
  · exact .inl hn
  · exact .inr ⟨g, cap, cur, rfl, Nat.le_trans hb hb', rest⟩
theorem _root_.Go.Proofs.YthfkmackodbmkaaGreatDoor.OwnI.below {w w' : World} {base B : Nat} {v : Value} {l : List Ins} (h : OwnI w base v l) (hb : Below B w w') (hB : w.heap.size ≤ B) : OwnI w' base v l :=
  h.kept (row := none) ⟨hb.os, hb.tape, hb.output, hb.size, fun k hk _ => hb.block k (by omega)⟩ (by cases v.ownBlock <;> simp)
theorem own_tagAt {w : World} {B : Nat} {v : Value} {l : List Ins} (h : OwnI w B v l) {Y : Nat} (ha : v.ownBlock = some Y) : Tg w Y := by
  rcases h.2 with ⟨rfl, _⟩ | ⟨g, c, cur, rfl, _, hg, _⟩
  · cases ha
  · cases ha; exact ⟨cur, hg⟩
theorem _root_.Go.Proofs.YthfkmackodbmkaaGreatDoor.OwnI.slen {w : World} {base g n c : Nat} {l : List Ins} (h : OwnI w base (.slice (some ⟨g, 0, none⟩) n c) l) : n = l.length := by
  obtain ⟨ao, cap, hv⟩ := h.inss.shape
  cases hv; rfl
theorem own_pos {w : World} {B : Nat} {v : Value} {l : List Ins} (h : OwnI w B v l) (hp : 0 < l.length) : ∃ g c, v = .slice (some ⟨g, 0, none⟩) l.length c ∧ w.heap.size > g := by
  rcases h.2 with ⟨_, h0⟩ | ⟨g, c, cur, rfl, _, hg, _⟩
  · omega
  · exact ⟨g, c, rfl, (Array.getElem?_eq_some_iff.1 hg).1⟩
theorem own_at8 {w : World} {B g n c : Nat} {l : List Ins} (h : OwnI w B (.slice (some ⟨g, 0, none⟩) n c) l) : (∀ j, j < n → At8 w g (j * 8) (ith l j)) ∧ ∀ j, w.frozen? ⟨g, j, none⟩ = false := by
  have hn := h.slen
  obtain ⟨cur, hg⟩ := own_tagAt h (Y := g) rfl
  refine ⟨fun j hj => ?_, fun j => by simp [World.frozen?, hg]⟩
  obtain ⟨b, off, cap, hv, -, -, -, cells⟩ := h.inss.at (by omega)
  cases hv
  have := cells j (by omega)
  rwa [Nat.zero_add] at this
theorem own_cap {w : World} {B g n n' c c' : Nat} {l l' : List Ins} (h : OwnI w B (.slice (some ⟨g, 0, none⟩) n c) l) (h' : OwnI w B (.slice (some ⟨g, 0, none⟩) n' c') l') : c = c' := by
  rcases h.2 with ⟨h1, _⟩ | ⟨g1, c1, cur, h1, _, hg, _, _, hs, _⟩
  · cases h1
  · rcases h'.2 with ⟨h2, _⟩ | ⟨g2, c2, cur', h2, _, hg', _, _, hs', _⟩
    · cases h2
    · cases h1
      cases h2
      rw [hg] at hg'
      have : cur = cur' := by simpa using hg'
      subst this
      omega
theorem _root_.Go.Proofs.YthfkmackodbmkaaGreatDoor.OwnI.pre {w : World} {B g n c : Nat} {l : List Ins} (h : OwnI w B (.slice (some ⟨g, 0, none⟩) n c) l) {k : Nat} (hk : k ≤ l.length) : OwnI w B (.slice (some ⟨g, 0, none⟩) k c) (l.take k) := by
  have hn := h.slen
  rcases h.2 with ⟨h1, _⟩ | ⟨g1, c1, cur, h1, hb, hg, hnc, hcm, hs, ht⟩
  · cases h1
  · cases h1
    have hl : (l.take k).length = k := by rw [List.length_take]; omega
    refine ⟨by rw [icl_length], .inr ⟨g, c, cur, by rw [hl], hb, hg, by omega, hcm, hs, ?_⟩⟩
    rw [hl, icl_take, ← ht, List.take_take, Nat.min_eq_left (by omega)]

/-- Eight cells of a list are turned. -/
def set8 (m : List Value) (o : Nat) (x : Ins) : List Value :=
  (((((((m.set o (.int .u8 x.op)).set (o + 1) (.bool x.nw)).set (o + 2) (.int .i64 x.dst)).set (o + 3) (.int .i64 x.src)).set (o + 4) (.bool x.ui)).set (o + 5) (.int .i64 x.off)).set (o + 6) (.int .i64 x.im)).set (o + 7) (.int .i64 x.sz)
theorem set8_right (a m : List Value) (ha : a.length = 8) (o : Nat) (x : Ins) : set8 (a ++ m) (8 + o) x = a ++ set8 m o x := by
  have key : ∀ (m : List Value) (k : Nat) (v : Value), (a ++ m).set (8 + k) v = a ++ m.set k v := fun m k v => by
    rw [List.set_append_right _ _ (by omega), ha, Nat.add_sub_cancel_left]
  unfold set8
  simp only [Nat.add_assoc, key]
theorem icl_set (x : Ins) : ∀ (l : List Ins) (i : Nat), i < l.length → icl (l.set i x) = set8 (icl l) (i * 8) x
  | [], i, h => by cases h
  | y :: l, 0, _ => by
    rw [List.set_cons_zero, show x :: l = [x] ++ l from rfl, show y :: l = [y] ++ l from rfl, icl_append, icl_append, icl_one, icl_one]
    rfl
  | y :: l, i + 1, h => by
    rw [List.set_cons_succ, show y :: l.set i x = [y] ++ l.set i x from rfl, show y :: l = [y] ++ l from rfl, icl_append, icl_append, icl_one, show (i + 1) * 8 = 8 + i * 8 from by omega, set8_right _ _ (icells_length y), icl_set x l i (by simpa using h)]
/-- .. of a block. -/
def put8 (w : World) (g o : Nat) (x : Ins) : World :=
  (((((((w.setCell ⟨g, o, none⟩ (.int .u8 x.op)).setCell ⟨g, o + 1, none⟩ (.bool x.nw)).setCell ⟨g, o + 2, none⟩ (.int .i64 x.dst)).setCell ⟨g, o + 3, none⟩ (.int .i64 x.src)).setCell ⟨g, o + 4, none⟩ (.bool x.ui)).setCell ⟨g, o + 5, none⟩ (.int .i64 x.off)).setCell ⟨g, o + 6, none⟩ (.int .i64 x.im)).setCell ⟨g, o + 7, none⟩ (.int .i64 x.sz)
theorem put8_grown (w : World) (g o : Nat) (x : Ins) : w.grownBy (put8 w g o x) (some g) := by
  unfold put8
  exact grownBy_trans (grownBy_trans (grownBy_trans (grownBy_trans (grownBy_trans (grownBy_trans (grownBy_trans (grownBy_setCell _ _ _) (grownBy_setCell _ _ _)) (grownBy_setCell _ _ _)) (grownBy_setCell _ _ _)) (grownBy_setCell _ _ _)) (grownBy_setCell _ _ _)) (grownBy_setCell _ _ _)) (grownBy_setCell _ _ _)
theorem _root_.Go.Proofs.YthfkmackodbmkaaGreatDoor.OwnI.stored {w : World} {base g n c : Nat} {l : List Ins} (h : OwnI w base (.slice (some ⟨g, 0, none⟩) n c) l) (i : Nat) (hi : i < l.length) (x : Ins) : OwnI (put8 w g (i * 8) x) base (.slice (some ⟨g, 0, none⟩) n c) (l.set i x) := by
  obtain rfl := h.slen
  have k := fun (w : World) (m : List Value) (h : w.ownsRow base 47 8 (.slice (some ⟨g, 0, none⟩) l.length c) l.length m) (j : Nat) (v : Value) => (World.ownsRow.stored h j v).1
  have h8 := k _ _ (k _ _ (k _ _ (k _ _ (k _ _ (k _ _ (k _ _ (k _ _ h (i * 8) (.int .u8 x.op)) (i * 8 + 1) (.bool x.nw)) (i * 8 + 2) (.int .i64 x.dst)) (i * 8 + 3) (.int .i64 x.src)) (i * 8 + 4) (.bool x.ui)) (i * 8 + 5) (.int .i64 x.off)) (i * 8 + 6) (.int .i64 x.im)) (i * 8 + 7) (.int .i64 x.sz)
  unfold OwnI
  rw [List.length_set, icl_set x l i hi]
  exact h8

/-- m rows vs of the bytes C, what has grown out of each, gs, of the bytes D; they lie apart, in blocks from B on; below B all is as it was in W0. -/
structure St (W0 w : World) (B : Nat) (vs gs : Nat → Value) (m : Nat) (C D : Nat → List Ins) : Prop where
  row : ∀ j, j < m → OwnI w B (vs j) (C j)
  grw : ∀ j, j < m → OwnI w B (gs j) (D j)
  sep : ∀ i j, i < m → j < m → i ≠ j → ∀ Y, At (vs i) (gs i) Y → At (vs j) (gs j) Y → False
  below : Below B W0 w
  base0 : B ≤ W0.heap.size
  kept : Spares W0 w

section
variable {W0 w w' : World} {B m : Nat} {vs gs : Nat → Value} {C D : Nat → List Ins}

theorem St.base (h : St W0 w B vs gs m C D) : B ≤ w.heap.size := Nat.le_trans h.base0 h.below.size
theorem St.at_lt (h : St W0 w B vs gs m C D) {j Y : Nat} (hj : j < m) (ha : At (vs j) (gs j) Y) : B ≤ Y ∧ Y < w.heap.size := by
  rcases ha with ha | ha
  · exact (h.row j hj).lt Y ha
  · exact (h.grw j hj).lt Y ha

theorem St.at_tag (h : St W0 w B vs gs m C D) {j Y : Nat} (hj : j < m) (ha : At (vs j) (gs j) Y) : Tg w Y := by
  rcases ha with ha | ha
  · exact own_tagAt (h.row j hj) ha
  · exact own_tagAt (h.grw j hj) ha

/-- Index k's blocks are written, or new ones made. -/
theorem St.write (h : St W0 w B vs gs m C D) {k : Nat} (hk : k < m) {row : Option Nat} (hg : w.grownBy w' row) (hrow : ∀ X, row = some X → At (vs k) (gs k) X) {c d : List Ins} {g' : Value} (hv : OwnI w' B (vs k) c) (hG : OwnI w' B g' d)
    (hAt : ∀ Y, g'.ownBlock = some Y → At (vs k) (gs k) Y ∨ w.heap.size ≤ Y) : St W0 w' B vs (upd gs k g') m (upd C k c) (upd D k d) := by
  have keep : ∀ j, j < m → j ≠ k → ∀ (v : Value) (l : List Ins), (∀ Y, v.ownBlock = some Y → At (vs j) (gs j) Y) → OwnI w B v l → OwnI w' B v l := fun j hj hne v l hv ho => by
    refine ho.kept hg ?_
    cases hb : v.ownBlock with
    | none => exact Or.inl rfl
    | some Y =>
      refine Or.inr fun e => ?_
      exact h.sep j k hj hk hne Y (hv Y hb) (hrow Y e.symm)
  refine ⟨fun j hj => ?_, fun j hj => ?_, fun i j hi hj hne Y ha hb => ?_, h.below.grown hg h.base (fun X hX => (h.at_lt hk (hrow X hX)).1), h.base0, h.kept.trans (spares_grown hg (fun X hX => h.at_tag hk (hrow X hX)))⟩
  · by_cases e : j = k
    · subst e; rw [upd_same]; exact hv
    · rw [upd_other _ _ e]; exact keep j hj e _ _ (fun Y hY => Or.inl hY) (h.row j hj)
  · by_cases e : j = k
    · subst e; rw [upd_same, upd_same]; exact hG
    · rw [upd_other _ _ e, upd_other _ _ e]; exact keep j hj e _ _ (fun Y hY => Or.inr hY) (h.grw j hj)
  · have key : ∀ j, j < m → j ≠ k → At (vs k) (upd gs k g' k) Y → At (vs j) (gs j) Y → False := fun j hj hne ha hb => by
      rw [upd_same] at ha
      rcases ha with ha | ha
      · exact h.sep k j hk hj (fun e => hne e.symm) Y (Or.inl ha) hb
      · rcases hAt Y ha with ha | ha
        · exact h.sep k j hk hj (fun e => hne e.symm) Y ha hb
        · have := (h.at_lt hj hb).2; omega
    by_cases ei : i = k
    · subst ei
      have ej : j ≠ i := fun e => hne e.symm
      rw [upd_other _ _ ej] at hb
      exact key j hj ej ha hb
    · by_cases ej : j = k
      · subst ej
        rw [upd_other _ _ ei] at ha
        exact key i hi ei hb ha
      · rw [upd_other _ _ ei] at ha
        rw [upd_other _ _ ej] at hb
        exact h.sep i j hi hj hne Y ha hb

/-- A block of another kind, from B on, is written, or new ones are made. -/
theorem St.past (h : St W0 w B vs gs m C D) {row : Option Nat} (hg : w.grownBy w' row) (hrow : ∀ X, row = some X → W0.heap.size ≤ X ∧ ¬ Tg w X) : St W0 w' B vs gs m C D := by
  have keep : ∀ (v : Value) (l : List Ins), OwnI w B v l → OwnI w' B v l := fun v l ho => by
    refine ho.kept hg ?_
    cases hb : v.ownBlock with
    | none => exact Or.inl rfl
    | some Y =>
      refine Or.inr fun e => ?_
      exact (hrow Y e.symm).2 (own_tagAt ho hb)
  exact ⟨fun j hj => keep _ _ (h.row j hj), fun j hj => keep _ _ (h.grw j hj), h.sep, h.below.grown hg h.base (fun X hX => Nat.le_trans h.base0 (hrow X hX).1), h.base0, fun X cur e fr hX he => by
    have h1 := h.kept X cur e fr hX he
    have hlt := (Array.getElem?_eq_some_iff.1 hX).1
    exact (hg.block X (Nat.lt_of_lt_of_le hlt h.below.size) (fun e' => by have := (hrow X e'.symm).1; omega)).trans h1⟩
end

theorem St.congr {W0 w : World} {B m : Nat} {vs gs gs' : Nat → Value} {C C' D D' : Nat → List Ins} (h : St W0 w B vs gs m C D) (hg : ∀ j, j < m → gs j = gs' j) (hC : ∀ j, j < m → C j = C' j) (hD : ∀ j, j < m → D j = D' j) : St W0 w B vs gs' m C' D' :=
  ⟨fun j hj => by rw [← hC j hj]; exact h.row j hj, fun j hj => by rw [← hg j hj, ← hD j hj]; exact h.grw j hj, fun i j hi hj hne Y ha hb => h.sep i j hi hj hne Y (by rw [hg i hi]; exact ha) (by rw [hg j hj]; exact hb), h.below, h.base0, h.kept⟩
theorem St.drew {W0 w : World} {B m : Nat} {vs gs : Nat → Value} {C D : Nat → List Ins} (h : St W0 w B vs gs m C D) : St W0 w.drew B vs gs m C D := ⟨h.row, h.grw, h.sep, h.below.drew, h.base0, h.kept⟩

/-- Block b, from off on, has the slices vs. -/
def Lst (w : World) (b off n : Nat) (vs : Nat → Value) : Prop := ∃ cur, w.heap[b]? = some (.cells cur 23 (0, 0)) ∧ ∀ j, j < n → cur[off + j]? = some (vs j)
section
variable {w w' : World} {b off n : Nat} {vs : Nat → Value}
theorem Lst.cell (h : Lst w b off n vs) {j : Nat} (hj : j < n) : w.cell? ⟨b, off + j, none⟩ = some (vs j) := by
  obtain ⟨cur, hb, hc⟩ := h
  rw [cell_of_row w b (off + j) _ _ _ hb]; exact hc j hj
theorem Lst.free (h : Lst w b off n vs) (j : Nat) : w.frozen? ⟨b, j, none⟩ = false := by
  obtain ⟨cur, hb, hc⟩ := h
  simp [World.frozen?, hb]
theorem Lst.keep (h : Lst w b off n vs) {row : Option Nat} (hg : w.grownBy w' row) (hrow : ∀ X, row = some X → Tg w X) : Lst w' b off n vs := by
  obtain ⟨cur, hb, hc⟩ := h
  refine ⟨cur, (hg.block b (Array.getElem?_eq_some_iff.1 hb).1 (fun e => ?_)).trans hb, hc⟩
  obtain ⟨c', h'⟩ := hrow b e.symm
  rw [hb] at h'
  simp at h'
theorem Lst.other (h : Lst w b off n vs) {row : Option Nat} (hg : w.grownBy w' row) (hrow : row ≠ some b) : Lst w' b off n vs := by
  obtain ⟨cur, hb, hc⟩ := h
  exact ⟨cur, (hg.block b (Array.getElem?_eq_some_iff.1 hb).1 (fun e => hrow e.symm)).trans hb, hc⟩
theorem Lst.lt (h : Lst w b off n vs) : b < w.heap.size := by
  obtain ⟨cur, hb, hc⟩ := h; exact (Array.getElem?_eq_some_iff.1 hb).1
theorem Lst.noBytes (h : Lst w b off n vs) : ¬ Tg w b := by
  obtain ⟨cur, hb, hc⟩ := h
  rintro ⟨c', h'⟩
  rw [hb] at h'
  simp at h'
theorem Lst.set (h : Lst w b 0 n vs) {k : Nat} (hk : k < n) (u : Value) : Lst (w.setCell ⟨b, k, none⟩ u) b 0 n (upd vs k u) := by
  obtain ⟨cur, hb, hc⟩ := h
  have hks : k < cur.size := by have := hc k hk; rw [Nat.zero_add] at this; exact (Array.getElem?_eq_some_iff.1 this).1
  refine ⟨cur.setIfInBounds k u, ?_, fun j hj => ?_⟩
  · simp only [World.setCell, Array.getElem?_modify, hb]; simp
  · rw [Nat.zero_add, Array.getElem?_setIfInBounds]
    have := hc j hj
    rw [Nat.zero_add] at this
    by_cases e : j = k
    · subst e; simp [upd_same, hks]
    · rw [upd_other _ _ e, if_neg (fun h => e h.symm)]; exact this
theorem Lst.congr (h : Lst w b off n vs) {us : Nat → Value} (he : ∀ j, j < n → vs j = us j) : Lst w b off n us := by
  obtain ⟨cur, hb, hc⟩ := h
  exact ⟨cur, hb, fun j hj => by rw [← he j hj]; exact hc j hj⟩
end

/-- Rows that are to be shown to lie apart: their values, and how many instructions each has. -/
structure Rowz (w : World) (B : Nat) (vs : Nat → Value) (m : Nat) (n : Nat → Nat) : Prop where
  row : ∀ j, j < m → ∃ l, l.length = n j ∧ OwnI w B (vs j) l
  sep : ∀ i j, i < m → j < m → i ≠ j → ∀ Y, (vs i).ownBlock = some Y → (vs j).ownBlock = some Y → False

section
variable {W0 w w' : World} {B m : Nat} {vs gs : Nat → Value} {C D : Nat → List Ins}
/-- What has grown out of row k grows on, or anew out of the row itself. -/
theorem St.grow (h : St W0 w B vs gs m C D) {k : Nat} (hk : k < m) {v0 v' : Value} {x0 y : List Ins} {p : Nat} (h0 : OwnI w B v0 x0) (hat : ∀ Y, v0.ownBlock = some Y → At (vs k) (gs k) Y) (hpre : (C k).length ≤ x0.length) (hC : x0.take (C k).length = C k)
    (hO : OwnI w' B v' (x0 ++ y)) (hG : Grew w v0 p v' w') : St W0 w' B vs (upd gs k v') m C (upd D k (x0 ++ y)) ∧ ∃ row, w.grownBy w' row ∧ ∀ X, row = some X → At (vs k) (gs k) X := by
  have hCu : upd C k (C k) = C := by funext j; unfold upd; split <;> simp_all
  rcases hG with ⟨g, n, c, rfl, rfl, hg⟩ | ⟨hb, hg⟩
  · have hgat : At (vs k) (gs k) g := hat g rfl
    have hv : OwnI w' B (vs k) (C k) := by
      by_cases hb : (vs k).ownBlock = some g
      · have hr := h.row k hk
        obtain ⟨g1, c1, h1⟩ : ∃ g1 c1, vs k = .slice (some ⟨g1, 0, none⟩) (C k).length c1 := by
          rcases hr.2 with ⟨h1, h2⟩ | ⟨g1, c1, cur, h1, _, hg1, _⟩
          · rw [h1] at hb; cases hb
          · exact ⟨g1, c1, h1⟩
        rw [h1] at hb
        cases hb
        rw [h1] at hr ⊢
        obtain rfl := own_cap hr h0
        have := OwnI.pre hO (k := (C k).length) (by rw [List.length_append]; omega)
        rw [List.take_append_of_le_length hpre, hC] at this
        exact this
      · exact (h.row k hk).kept hg (Or.inr hb)
    have := h.write hk hg (fun X hX => by cases hX; exact hgat) hv hO (fun Y hY => by cases hY; exact Or.inl hgat)
    rw [hCu] at this
    exact ⟨this, some g, hg, fun X hX => by cases hX; exact hgat⟩
  · have hv : OwnI w' B (vs k) (C k) := (h.row k hk).kept hg (by cases (vs k).ownBlock <;> simp)
    have := h.write hk hg (fun X hX => by cases hX) hv hO (fun Y hY => by rw [hb] at hY; cases hY; exact Or.inr (Nat.le_refl _))
    rw [hCu] at this
    exact ⟨this, none, hg, fun X hX => by cases hX⟩
/-- What grows out of row k begins as the row itself. -/
theorem St.alias (h : St W0 w B vs gs m C D) {k : Nat} (hk : k < m) : St W0 w B vs (upd gs k (vs k)) m C (upd D k (C k)) := by
  have hCu : upd C k (C k) = C := by funext j; unfold upd; split <;> simp_all
  have := h.write hk (grownBy_refl w none) (fun X hX => by cases hX) (h.row k hk) (h.row k hk) (fun Y hY => Or.inl (Or.inl hY))
  rwa [hCu] at this
theorem St.alloc (h : St W0 w B vs gs m C D) (o : Obj) : St W0 (w.alloc o) B vs gs m C D := h.past (World.grownBy_alloc w o none) (fun X hX => by cases hX)
end
theorem Lst.alloc {w : World} {b off n : Nat} {vs : Nat → Value} (h : Lst w b off n vs) (o : Obj) : Lst (w.alloc o) b off n vs := h.keep (World.grownBy_alloc w o none) (fun X hX => by cases hX)
/-- A list of nil slices, made anew. -/
theorem lst_made {w : World} {base g n : Nat} (h : w.ownsRow base 23 1 (.slice (some ⟨g, 0, none⟩) n n) n (List.replicate n (.slice none 0 0))) : Lst w g 0 n (fun _ => .slice none 0 0) ∧ base ≤ g := by
  rcases h.2 with ⟨h1, _⟩ | ⟨g', cap, cur, h1, hb, hg, hn, hc, hs, ht⟩
  · cases h1
  · cases h1
    refine ⟨⟨cur, hg, fun j hj => ?_⟩, hb⟩
    have : (cur.toList.take (n * 1))[j]? = some (.slice none 0 0) := by rw [ht]; simp [hj]
    rw [List.getElem?_take, if_pos (by omega)] at this
    simpa using this
theorem imarks_take {k : Int} {n p : Nat} (h : n ≤ p) : (imarks k p).take n = imarks k n := by
  unfold imarks
  rw [← List.map_take, List.take_range]
  congr 2
  omega
theorem grown_new {w w' : World} {X : Nat} (h : w.grownBy w' (some X)) (hX : w.heap.size ≤ X) : w.grownBy w' none :=
  ⟨h.os, h.tape, h.output, h.size, fun k hk _ => h.block k hk (fun e => by have := Option.some.inj e; omega)⟩
theorem St.still {W0 w w' : World} {B m : Nat} {vs gs : Nat → Value} {C D : Nat → List Ins} (h : St W0 w B vs gs m C D) (hs : Still w w') : St W0 w' B vs gs m C D := by
  obtain ⟨n, rfl⟩ := hs; exact ⟨h.row, h.grw, h.sep, h.below.trans (Still.below ⟨n, rfl⟩ _), h.base0, h.kept⟩
theorem Lst.still {w w' : World} {b off n : Nat} {vs : Nat → Value} (h : Lst w b off n vs) (hs : Still w w') : Lst w' b off n vs := by
  obtain ⟨k, rfl⟩ := hs; exact h
theorem grown_step {w w1 w2 : World} {X : Nat} (h : w.grownBy w1 none) (hX : w.heap.size ≤ X) (hg : w1.grownBy w2 (some X)) : w.grownBy w2 none :=
  ⟨hg.os.trans h.os, hg.tape.trans h.tape, hg.output.trans h.output, Nat.le_trans h.size hg.size, fun k hk _ => (hg.block k (Nat.lt_of_lt_of_le hk h.size) (fun e => by have := Option.some.inj e; omega)).trans (h.block k hk (by simp))⟩
end Go.Proofs.YthfkmackodbmkaaGreatDoor.Ir
/- append, of instructions, to a row of the call's own: into the row's room, or into a new block. -/
namespace Go.Proofs.YthfkmackodbmkaaGreatDoor.Ir
open Go.RowKit
set_option linter.unusedVariables false
set_option linter.unusedSimpArgs false

theorem zeros_size (n : Nat) : (Builtin.zeroCells (Value.cells (agg noIns)) n).size = n * 8 := by
  simp [Builtin.zeroCells, agg, Value.cells]
theorem run_append_two (w : World) (base : Nat) (ty : TypeId) (v : Value) (xs : List Ins) (hown : OwnI w base v xs) (ad : Addr) (c : Nat) (ys : List Ins) (hpos : 0 < ys.length)
    (hnews : ∀ j u, (icl ys)[j]? = some u → w.cell? (ad.add j) = some u) (hlen : xs.length + ys.length ≤ 1000000000) (hbase : base ≤ w.heap.size) :
    ∃ v' w', (Builtin.append_ #[23, 23] ty #[v, .slice (some ad) ys.length c]).run Tryz.prog w = .ok v' w' ∧ OwnI w' base v' (xs ++ ys) ∧ Grew w v ys.length v' w' := by
  obtain ⟨i, hi, hz, hs1, hb1⟩ := insInfo
  have h63 : xs.length + ys.length ≤ maxLen := by unfold maxLen; omega
  have hl : (icl ys).length = ys.length * i.size := by rw [hs1, icl_length]
  have grown : ∀ old, old < xs.length + ys.length → OwnI (w.drew.alloc (.cells ((icl xs).toArray ++ (icl ys).toArray ++ Builtin.zeroCells (Value.cells (agg noIns)) (grownCap w (xs.length + ys.length) old 47 - (xs.length + ys.length))) 47)) base
      (.slice (some ⟨w.heap.size, 0, none⟩) (xs.length + ys.length) (grownCap w (xs.length + ys.length) old 47)) (xs ++ ys) := fun old ho => by
    have hge := grownCap_ge w (xs.length + ys.length) old 47
    have hcm := grownCap_le_maxLen w (xs.length + ys.length) old 47 h63
    unfold OwnI
    rw [List.length_append]
    refine ⟨by rw [icl_length, List.length_append], .inr ⟨w.heap.size, _, _, rfl, hbase, heap_alloc_new w.drew _, hge, hcm, ?_, ?_⟩⟩
    · rw [Array.size_append, Array.size_append, zeros_size, List.size_toArray, List.size_toArray, icl_length, icl_length]
      omega
    · simp only [Array.toList_append, List.append_assoc, icl_append]
      rw [← List.append_assoc]
      have : (icl xs ++ icl ys).length = (xs.length + ys.length) * 8 := by rw [List.length_append, icl_length, icl_length]; omega
      rw [← this]
      exact List.take_left
  rcases hown.2 with ⟨rfl, hx0⟩ | ⟨g, cap, cur, rfl, hbg, hg, hnc, hcm, hcs, htake⟩
  · have hx : xs = [] := List.eq_nil_of_length_eq_zero hx0
    subst hx
    have hr := run_append_nil (P := Tryz.prog) w 23 ty 47 i (agg noIns) Tryz.underlying23 hi hz ad ys.length c (icl ys) hl hnews hpos (by simp only [List.length_nil, Nat.zero_add] at hlen; omega) (by rw [hb1]; simp only [List.length_nil, Nat.zero_add] at hlen; omega)
    have hgr := grown 0 (by simp; omega)
    simp only [List.length_nil, Nat.zero_add, List.nil_append] at hgr ⊢
    refine ⟨_, _, hr, ?_, Or.inr ⟨rfl, ⟨rfl, rfl, rfl, by simp, fun k hk _ => heap_alloc_old w.drew _ hk⟩⟩⟩
    simpa [icl] using hgr
  · by_cases hroom : xs.length + ys.length ≤ cap
    · obtain ⟨w', h1, h2, h3⟩ := run_append_own_spare (P := Tryz.prog) w base 23 ty 47 i 8 Tryz.underlying23 hi hs1 g xs.length cap (icl xs) hown ad ys.length c (icl ys) (icl_length ys) hnews (icl_oneCell _) hroom
      refine ⟨_, w', h1, ?_, Or.inl ⟨g, _, cap, rfl, rfl, h3⟩⟩
      unfold OwnI
      rw [List.length_append, icl_append]
      exact h2
    · have holds : ∀ j u, (icl xs)[j]? = some u → w.cell? ((⟨g, 0, none⟩ : Addr).add j) = some u := World.ownsRow.cells hown (g := g) rfl
      have hr := run_append_grow (P := Tryz.prog) w 23 ty 47 i (agg noIns) Tryz.underlying23 hi hz ⟨g, 0, none⟩ xs.length cap (icl xs) (by rw [hs1, icl_length]) holds ad ys.length c (icl ys) hl hnews (by omega) (by omega) (growslice_fits (by omega) (by rw [hb1]; omega))
      exact ⟨_, _, hr, grown cap (by omega), Or.inr ⟨rfl, ⟨rfl, rfl, rfl, by simp, fun k hk _ => heap_alloc_old w.drew _ hk⟩⟩⟩
theorem wpList_append_two (w : World) {ops : Array Oper} {rest : List Oper} {o : Oper} {a : Act} {Q : Exit → Act → World → Prop} (hgd : o.guard = none) (s x : Operand)
    (ho : o.op = .call { callee := .builtin .append, args := #[s, x], argTypes := #[23, 23] })
    (base : Nat) (v : Value) (xs : List Ins) (hs : a.eval s = v) (hown : OwnI w base v xs) (u : Value) (ys : List Ins) (hx : a.eval x = u) (hu : Inss w u ys) (hpos : 0 < ys.length)
    (hlen : xs.length + ys.length ≤ 1000000000) (hbase : base ≤ w.heap.size)
    (h : ∀ v' w', OwnI w' base v' (xs ++ ys) → Grew w v ys.length v' w' → wpList Tryz.prog ops Q rest (a.put o.dst v') w') : wpList Tryz.prog ops Q (o :: rest) a w := by
  obtain ⟨ao, cap, rfl, h1, h2, h3, h4⟩ := hu
  cases ao with
  | none => have := h3 rfl; omega
  | some ad =>
    obtain ⟨v', w', hrun, r1, r2⟩ := run_append_two w base o.type v xs hown ad cap ys hpos (h4 ad rfl) hlen hbase
    refine wpList_plain hgd fun K hK' => ?_
    unfold Oper.wp
    simp [execOp, ho, resolve, invoke, builtin, hs, hx, hrun, Result.andThen]
    exact hK' _ _ (h v' w' r1 r2)
theorem wpList_make_i {w : World} {ops : Array Oper} {rest : List Oper} {o : Oper} {a : Act} {Q : Exit → Act → World → Prop} (hg : o.guard = none) (l c : Operand) (hop : o.op = Op.makeSlice 23 l c)
    (hl : a.eval l = .int .i64 64) (hc : a.eval c = .int .i64 64)
    (hK : ∀ w', OwnI w' w.heap.size (.slice (some ⟨w.heap.size, 0, none⟩) 64 64) (List.replicate 64 noIns) → w.grownBy w' none → wpList Tryz.prog ops Q rest (a.put o.dst (.slice (some ⟨w.heap.size, 0, none⟩) 64 64)) w') :
    wpList Tryz.prog ops Q (o :: rest) a w := by
  obtain ⟨i, hi, hz, hs1, hb1⟩ := insInfo
  refine wpList_make_full w hg l c 23 hop w.heap.size 47 i (agg noIns) 8 Tryz.underlying23 hi hz hs1 .i64 .i64 64 64 64 hl hc rfl rfl (by rw [hb1]; decide) (by unfold maxLen; omega) (Nat.le_refl _) (fun w' ho hgr => hK w' ?_ hgr)
  have e : (madeCells (Value.cells (agg noIns)) (64 * 8)).toList = icl (List.replicate 64 noIns) := by kernel_rfl
  rw [e] at ho
  exact ho
end Go.Proofs.YthfkmackodbmkaaGreatDoor.Ir
