/- Rows of bytes that lie apart, and what has grown out of each; a list of slices in a block of its own. -/
import Derived.Test.YtknkmblacaaegaaDoorApp
namespace Go.Proofs.YtknkmblacaaegaaDoor
open Go.RowKit
set_option linter.unusedVariables false

def At (v g : Value) (Y : Nat) : Prop := v.ownBlock = some Y ∨ g.ownBlock = some Y
def upd {α : Type} (f : Nat → α) (k : Nat) (x : α) : Nat → α := fun j => if j = k then x else f j
theorem upd_same {α : Type} (f : Nat → α) (k : Nat) (x : α) : upd f k x k = x := by simp [upd]
theorem upd_other {α : Type} (f : Nat → α) {k j : Nat} (x : α) (h : j ≠ k) : upd f k x j = f j := by simp [upd, h]

theorem upd_upd {α : Type} (f : Nat → α) (k : Nat) (x y : α) : upd (upd f k x) k y = upd f k y := by
  funext j; unfold upd; split <;> rfl
theorem upd_const {α : Type} (k : Nat) (x : α) : upd (fun _ => x) k x = fun _ => x := by
  funext j; unfold upd; split <;> rfl

/-- Blocks of this type are bytes: rows of them, arrays of them. -/
def byteTag (e : TypeId) : Prop := e = 5 ∨ ∃ n, Tryd.prog.underlying e = some (.array n 5)
theorem byteTag_u8 : byteTag 5 := Or.inl rfl
theorem byteTag_list : ¬ byteTag 22 := by
  rintro (h | ⟨n, h⟩)
  · cases h
  · rw [Tryd.underlying22] at h; cases h
/-- Block X is one of bytes. -/
def Tg (w : World) (X : Nat) : Prop := ∃ cur e, byteTag e ∧ w.heap[X]? = some (.cells cur e (0, 0))
/-- All blocks but those of bytes are as they were. -/
def Spares (w w' : World) : Prop := ∀ (X : Nat) (cur : Array Value) (e : TypeId) (fr : Nat × Nat), w.heap[X]? = some (Obj.cells cur e fr) → ¬ byteTag e → w'.heap[X]? = w.heap[X]?
theorem Spares.refl (w : World) : Spares w w := fun _ _ _ _ _ _ => rfl
theorem Spares.trans {a b c : World} (h : Spares a b) (k : Spares b c) : Spares a c := fun X cur e fr hX he => by
  have h1 := h X cur e fr hX he
  rw [hX] at h1
  rw [k X cur e fr h1 he, h1, hX]
theorem spares_grown {w w' : World} {row : Option Nat} (hg : w.grownBy w' row) (hrow : ∀ X, row = some X → Tg w X) : Spares w w' := fun X cur e fr hX he => by
  refine hg.block X (Array.getElem?_eq_some_iff.1 hX).1 (fun e' => ?_)
  obtain ⟨c', t, ht, h'⟩ := hrow X e'.symm
  rw [hX] at h'
  simp at h'
  exact he (h'.2.1 ▸ ht)
theorem spares_new {w w' : World} {row : Option Nat} (hg : w.grownBy w' row) (hrow : ∀ X, row = some X → w.heap.size ≤ X) : Spares w w' := fun X cur e fr hX he => by
  have hlt := (Array.getElem?_eq_some_iff.1 hX).1
  exact hg.block X hlt (fun e' => by have := hrow X e'.symm; omega)
theorem spares_still {w w' : World} (h : Still w w') : Spares w w' := by
  obtain ⟨n, rfl⟩ := h; exact fun _ _ _ _ _ _ => rfl
theorem spares_below {w w' : World} (h : Below w.heap.size w w') : Spares w w' := fun X cur e fr hX he => h.block X (Array.getElem?_eq_some_iff.1 hX).1

/-- v is a row of the bytes l that was made behind world w0: as Own says, or an array's, all of it. -/
def Owy (w : World) (base : Nat) (v : Value) (l : List Int) : Prop := ∃ e, byteTag e ∧ w.ownsRow base e 1 v l.length (bv l) ∧ (e = 5 ∨ ∀ a n c, v = .slice (some a) n c → n = c)
theorem Own.owy {w : World} {base : Nat} {v : Value} {l : List Int} (h : Own w base v l) : Owy w base v l := ⟨_, byteTag_u8, h, Or.inl rfl⟩
theorem Owy.bs {w : World} {base : Nat} {v : Value} {l : List Int} (h : Owy w base v l) : Bs w v l := by
  obtain ⟨e, _, h, _⟩ := h; exact Bs.of_owns h
theorem Owy.kept {w w' : World} {base : Nat} {v : Value} {l : List Int} {row : Option Nat} (h : Owy w base v l) (hg : w.grownBy w' row) (hne : v.ownBlock = none ∨ v.ownBlock ≠ row) : Owy w' base v l := by
  obtain ⟨e, t, h, f⟩ := h; exact ⟨e, t, World.ownsRow.kept h hg hne, f⟩
theorem Owy.alloc {w : World} {base : Nat} {v : Value} {l : List Int} (h : Owy w base v l) (o : Obj) : Owy (w.alloc o) base v l := by
  obtain ⟨e, t, h, f⟩ := h; exact ⟨e, t, World.ownsRow.alloc h o, f⟩
theorem Owy.nil (w : World) (base : Nat) : Owy w base (.slice none 0 0) [] := (Own.nil w base).owy
theorem Owy.lt {w : World} {base : Nat} {v : Value} {l : List Int} (h : Owy w base v l) : ∀ k, v.ownBlock = some k → base ≤ k ∧ k < w.heap.size := by
  obtain ⟨e, t, h, f⟩ := h; exact World.ownsRow.lt h
theorem Owy.mono {w : World} {base base' : Nat} {v : Value} {l : List Int} (h : Owy w base v l) (hb : base' ≤ base) : Owy w base' v l := by
  obtain ⟨e, t, h, f⟩ := h
  refine ⟨e, t, ⟨h.1, ?_⟩, f⟩
  rcases h.2 with hn | ⟨g, cap, cur, rfl, hb', rest⟩
  · exact .inl hn
  · exact .inr ⟨g, cap, cur, rfl, Nat.le_trans hb hb', rest⟩
theorem Owy.below {w w' : World} {base B : Nat} {v : Value} {l : List Int} (h : Owy w base v l) (hb : Below B w w') (hB : w.heap.size ≤ B) : Owy w' base v l :=
  h.kept (row := none) ⟨hb.os, hb.tape, hb.output, hb.size, fun k hk _ => hb.block k (by omega)⟩ (by cases v.ownBlock <;> simp)
theorem owy_tagAt {w : World} {B : Nat} {v : Value} {l : List Int} (h : Owy w B v l) {Y : Nat} (ha : v.ownBlock = some Y) : Tg w Y := by
  obtain ⟨e, t, h, f⟩ := h
  rcases h.2 with ⟨rfl, _⟩ | ⟨g, c, cur, rfl, _, hg, _⟩
  · cases ha
  · cases ha; exact ⟨cur, e, t, hg⟩
theorem Owy.slen {w : World} {base g n c : Nat} {l : List Int} (h : Owy w base (.slice (some ⟨g, 0, none⟩) n c) l) : n = l.length := by
  obtain ⟨ao, cap, hv⟩ := h.bs.shape
  cases hv; rfl
theorem Owy.stored {w : World} {base g n c : Nat} {l : List Int} (h : Owy w base (.slice (some ⟨g, 0, none⟩) n c) l) (i : Nat) (x : Int) : Owy (w.setCell ⟨g, i, none⟩ (.int .u8 x)) base (.slice (some ⟨g, 0, none⟩) n c) (l.set i x) := by
  obtain rfl := h.slen
  obtain ⟨e, t, h, f⟩ := h
  refine ⟨e, t, ?_, f⟩
  have := (World.ownsRow.stored h i (.int .u8 x)).1
  rw [List.length_set]
  simpa [bv, List.map_set] using this
/-- append, to such a row: the row that comes is one of bytes. -/
theorem run_append_owy (w : World) (base : Nat) (ty : TypeId) (v : Value) (xs : List Int) (hown : Owy w base v xs) (ad : Addr) (c : Nat) (ys : List Int) (hpos : 0 < ys.length)
    (hnews : ∀ j, j < ys.length → w.cell? (ad.add j) = some (.int .u8 (nth ys j))) (hlen : xs.length + ys.length ≤ 140737488355328) (hbase : base ≤ w.heap.size) :
    ∃ v' w', (Builtin.append_ #[22, 22] ty #[v, .slice (some ad) ys.length c]).run Tryd.prog w = .ok v' w' ∧ Own w' base v' (xs ++ ys) ∧ Grew w v ys.length v' w' := by
  obtain ⟨e, t, hown, f⟩ := hown
  rcases f with rfl | f
  · exact run_append_two w base ty v xs hown ad c ys hpos hnews hlen hbase
  · rcases hown.2 with ⟨rfl, hx0⟩ | ⟨g, cap, cur, rfl, hbg, hg, hnc, hcm, hcs, htake⟩
    · obtain rfl : xs = [] := List.eq_nil_of_length_eq_zero hx0
      exact run_append_two w base ty _ [] (Own.nil _ _) ad c ys hpos hnews hlen hbase
    · obtain rfl := f _ _ _ rfl
      obtain ⟨i, hi, hz, hs1, hb1⟩ := u8info
      have h63 : xs.length + ys.length ≤ maxLen := by unfold maxLen; omega
      have holds : ∀ j u, (bv xs)[j]? = some u → w.cell? ((⟨g, 0, none⟩ : Addr).add j) = some u := World.ownsRow.cells hown (g := g) rfl
      have hn' : ∀ j u, (bv ys)[j]? = some u → w.cell? (ad.add j) = some u := fun j u hj => by
        have hjl : j < ys.length := by
          have := (List.getElem?_eq_some_iff.1 hj).1
          simpa [bv] using this
        rw [bv_get hjl] at hj
        cases hj
        exact hnews j hjl
      have hr := run_append_grow (P := Tryd.prog) w 22 ty 5 i (.int .u8 0) Tryd.underlying22 hi hz ⟨g, 0, none⟩ xs.length xs.length (bv xs) (by rw [hs1]; simp [bv]) holds ad ys.length c (bv ys) (by rw [hs1]; simp [bv]) hn' (by omega) (by omega) (growslice_fits (by omega) (by rw [hb1]; omega))
      refine ⟨_, _, hr, ?_, Or.inr ⟨rfl, ⟨rfl, rfl, rfl, by simp, fun k hk _ => heap_alloc_old w.drew _ hk⟩⟩⟩
      have hge := grownCap_ge w (xs.length + ys.length) xs.length 5
      have hcm' := grownCap_le_maxLen w (xs.length + ys.length) xs.length 5 h63
      unfold Own
      rw [List.length_append]
      refine ⟨by simp [bv], .inr ⟨w.heap.size, _, _, rfl, hbase, heap_alloc_new w.drew _, hge, hcm', ?_, ?_⟩⟩
      · simp [bv, Builtin.zeroCells, Value.cells]; omega
      · simp only [Array.toList_append, List.append_assoc, bv_append]
        rw [← List.append_assoc]
        have : (bv xs ++ bv ys).length = (xs.length + ys.length) * 1 := by simp [bv]
        rw [← this]
        exact List.take_left
theorem wpList_append_owy (w : World) {ops : Array Oper} {rest : List Oper} {o : Oper} {a : Act} {Q : Exit → Act → World → Prop} (hgd : o.guard = none) (s x : Operand)
    (ho : o.op = .call { callee := .builtin .append, args := #[s, x], argTypes := #[22, 22] })
    (base : Nat) (v : Value) (xs : List Int) (hs : a.eval s = v) (hown : Owy w base v xs) (u : Value) (ys : List Int) (hx : a.eval x = u) (hu : Bs w u ys) (hpos : 0 < ys.length)
    (hlen : xs.length + ys.length ≤ 140737488355328) (hbase : base ≤ w.heap.size)
    (h : ∀ v' w', Own w' base v' (xs ++ ys) → Grew w v ys.length v' w' → wpList Tryd.prog ops Q rest (a.put o.dst v') w') : wpList Tryd.prog ops Q (o :: rest) a w := by
  obtain ⟨b, off, cap, rfl, -, -, -, cells⟩ := hu.at hpos
  obtain ⟨v', w', hrun, r1, r2⟩ := run_append_owy w base o.type v xs hown ⟨b, off, none⟩ cap ys hpos (fun j hj => by rw [add_none]; exact cells j hj) hlen hbase
  refine wpList_plain hgd fun K hK' => ?_
  unfold Oper.wp
  simp [execOp, ho, resolve, invoke, builtin, hs, hx, hrun, Result.andThen]
  exact hK' _ _ (h v' w' r1 r2)

/-- m rows vs of the bytes C, what has grown out of each, gs, of the bytes D; they lie apart, in blocks from B on; below B all is as it was in W0. -/
structure St (W0 w : World) (B : Nat) (vs gs : Nat → Value) (m : Nat) (C D : Nat → List Int) : Prop where
  row : ∀ j, j < m → Owy w B (vs j) (C j)
  grw : ∀ j, j < m → Owy w B (gs j) (D j)
  sep : ∀ i j, i < m → j < m → i ≠ j → ∀ Y, At (vs i) (gs i) Y → At (vs j) (gs j) Y → False
  below : Below B W0 w
  base0 : B ≤ W0.heap.size
  kept : Spares W0 w

section
variable {W0 w w' : World} {B m : Nat} {vs gs : Nat → Value} {C D : Nat → List Int}

theorem St.base (h : St W0 w B vs gs m C D) : B ≤ w.heap.size := Nat.le_trans h.base0 h.below.size
theorem St.at_lt (h : St W0 w B vs gs m C D) {j Y : Nat} (hj : j < m) (ha : At (vs j) (gs j) Y) : B ≤ Y ∧ Y < w.heap.size := by
  rcases ha with ha | ha
  · exact (h.row j hj).lt Y ha
  · exact (h.grw j hj).lt Y ha

theorem own_tagAt {w : World} {B : Nat} {v : Value} {l : List Int} (h : Own w B v l) {Y : Nat} (ha : v.ownBlock = some Y) : ∃ cur, w.heap[Y]? = some (.cells cur 5 (0, 0)) := by
  rcases h.2 with ⟨rfl, _⟩ | ⟨g, c, cur, rfl, _, hg, _⟩
  · cases ha
  · cases ha; exact ⟨cur, hg⟩
theorem St.at_tag (h : St W0 w B vs gs m C D) {j Y : Nat} (hj : j < m) (ha : At (vs j) (gs j) Y) : Tg w Y := by
  rcases ha with ha | ha
  · exact owy_tagAt (h.row j hj) ha
  · exact owy_tagAt (h.grw j hj) ha

/-- Index k's blocks are written, or new ones made. -/
theorem St.write (h : St W0 w B vs gs m C D) {k : Nat} (hk : k < m) {row : Option Nat} (hg : w.grownBy w' row) (hrow : ∀ X, row = some X → At (vs k) (gs k) X) {c d : List Int} {g' : Value} (hv : Owy w' B (vs k) c) (hG : Owy w' B g' d)
    (hAt : ∀ Y, g'.ownBlock = some Y → At (vs k) (gs k) Y ∨ w.heap.size ≤ Y) : St W0 w' B vs (upd gs k g') m (upd C k c) (upd D k d) := by
  have keep : ∀ j, j < m → j ≠ k → ∀ (v : Value) (l : List Int), (∀ Y, v.ownBlock = some Y → At (vs j) (gs j) Y) → Owy w B v l → Owy w' B v l := fun j hj hne v l hv ho => by
    refine ho.kept hg ?_
    cases hb : v.ownBlock with
    | none => exact Or.inl rfl
    | some Y =>
      refine Or.inr fun e => ?_
      exact h.sep j k hj hk hne Y (hv Y hb) (hrow Y e.symm)
  refine ⟨fun j hj => ?_, fun j hj => ?_, fun i j hi hj hne Y ha hb => ?_, h.below.grown hg h.base (fun X hX => (h.at_lt hk (hrow X hX)).1), h.base0, h.kept.trans (spares_grown hg (fun X hX => h.at_tag hk (hrow X hX)))⟩
  · by_cases e : j = k
    · subst e; rw [upd_same]; exact hv
    · rw [upd_other _ _ e]; exact keep j hj e _ _ (fun Y hY => Or.inl hY) (h.row j hj)
  · by_cases e : j = k
    · subst e; rw [upd_same, upd_same]; exact hG
    · rw [upd_other _ _ e, upd_other _ _ e]; exact keep j hj e _ _ (fun Y hY => Or.inr hY) (h.grw j hj)
  · have key : ∀ j, j < m → j ≠ k → At (vs k) (upd gs k g' k) Y → At (vs j) (gs j) Y → False := fun j hj hne ha hb => by
      rw [upd_same] at ha
      rcases ha with ha | ha
      · exact h.sep k j hk hj (fun e => hne e.symm) Y (Or.inl ha) hb
      · rcases hAt Y ha with ha | ha
        · exact h.sep k j hk hj (fun e => hne e.symm) Y ha hb
        · have := (h.at_lt hj hb).2; omega
    by_cases ei : i = k
    · subst ei
      have ej : j ≠ i := fun e => hne e.symm
      rw [upd_other _ _ ej] at hb
      exact key j hj ej ha hb
    · by_cases ej : j = k
      · subst ej
        rw [upd_other _ _ ei] at ha
        exact key i hi ei hb ha
      · rw [upd_other _ _ ei] at ha
        rw [upd_other _ _ ej] at hb
        exact h.sep i j hi hj hne Y ha hb

/-- A block of another kind, from B on, is written, or new ones are made. -/
theorem St.past (h : St W0 w B vs gs m C D) {row : Option Nat} (hg : w.grownBy w' row) (hrow : ∀ X, row = some X → W0.heap.size ≤ X ∧ ¬ Tg w X) : St W0 w' B vs gs m C D := by
  have keep : ∀ (v : Value) (l : List Int), Owy w B v l → Owy w' B v l := fun v l ho => by
    refine ho.kept hg ?_
    cases hb : v.ownBlock with
    | none => exact Or.inl rfl
    | some Y =>
      refine Or.inr fun e => ?_
      exact (hrow Y e.symm).2 (owy_tagAt ho hb)
  exact ⟨fun j hj => keep _ _ (h.row j hj), fun j hj => keep _ _ (h.grw j hj), h.sep, h.below.grown hg h.base (fun X hX => Nat.le_trans h.base0 (hrow X hX).1), h.base0, fun X cur e fr hX he => by
    have h1 := h.kept X cur e fr hX he
    have hlt := (Array.getElem?_eq_some_iff.1 hX).1
    exact (hg.block X (Nat.lt_of_lt_of_le hlt h.below.size) (fun e' => by have := (hrow X e'.symm).1; omega)).trans h1⟩
end

theorem St.congr {W0 w : World} {B m : Nat} {vs gs gs' : Nat → Value} {C C' D D' : Nat → List Int} (h : St W0 w B vs gs m C D) (hg : ∀ j, j < m → gs j = gs' j) (hC : ∀ j, j < m → C j = C' j) (hD : ∀ j, j < m → D j = D' j) : St W0 w B vs gs' m C' D' :=
  ⟨fun j hj => by rw [← hC j hj]; exact h.row j hj, fun j hj => by rw [← hg j hj, ← hD j hj]; exact h.grw j hj, fun i j hi hj hne Y ha hb => h.sep i j hi hj hne Y (by rw [hg i hi]; exact ha) (by rw [hg j hj]; exact hb), h.below, h.base0, h.kept⟩
theorem St.drew {W0 w : World} {B m : Nat} {vs gs : Nat → Value} {C D : Nat → List Int} (h : St W0 w B vs gs m C D) : St W0 w.drew B vs gs m C D := ⟨h.row, h.grw, h.sep, h.below.drew, h.base0, h.kept⟩
theorem own_pos {w : World} {B : Nat} {v : Value} {l : List Int} (h : Own w B v l) (hp : 0 < l.length) : ∃ g c, v = .slice (some ⟨g, 0, none⟩) l.length c ∧ w.heap.size > g := by
  rcases h.2 with ⟨_, h0⟩ | ⟨g, c, cur, rfl, _, hg, _⟩
  · omega
  · exact ⟨g, c, rfl, (Array.getElem?_eq_some_iff.1 hg).1⟩
theorem owy_pos {w : World} {B : Nat} {v : Value} {l : List Int} (h : Owy w B v l) (hp : 0 < l.length) : ∃ g c, v = .slice (some ⟨g, 0, none⟩) l.length c ∧ w.heap.size > g := by
  obtain ⟨e, t, h, f⟩ := h
  rcases h.2 with ⟨_, h0⟩ | ⟨g, c, cur, rfl, _, hg, _⟩
  · omega
  · exact ⟨g, c, rfl, (Array.getElem?_eq_some_iff.1 hg).1⟩
theorem owy_cells {w : World} {B g n c : Nat} {l : List Int} (h : Owy w B (.slice (some ⟨g, 0, none⟩) n c) l) : (∀ j, j < n → w.cell? ⟨g, j, none⟩ = some (.int .u8 (nth l j))) ∧ ∀ j, w.frozen? ⟨g, j, none⟩ = false := by
  have hn := h.slen
  obtain ⟨cur, t, _, hg⟩ := owy_tagAt h (Y := g) rfl
  refine ⟨fun j hj => ?_, fun j => by simp [World.frozen?, hg]⟩
  obtain ⟨b, off, cap, hv, -, -, -, cells⟩ := h.bs.at (by omega)
  cases hv
  have := cells j (by omega)
  rwa [Nat.zero_add] at this
theorem own_cells {w : World} {B g n c : Nat} {l : List Int} (h : Own w B (.slice (some ⟨g, 0, none⟩) n c) l) : (∀ j, j < n → w.cell? ⟨g, j, none⟩ = some (.int .u8 (nth l j))) ∧ ∀ j, w.frozen? ⟨g, j, none⟩ = false := by
  have hn := h.slen
  obtain ⟨cur, hg⟩ := own_tagAt h (Y := g) rfl
  refine ⟨fun j hj => ?_, fun j => by simp [World.frozen?, hg]⟩
  obtain ⟨b, off, cap, hv, -, -, -, cells⟩ := h.bs.at (by omega)
  cases hv
  have := cells j (by omega)
  rwa [Nat.zero_add] at this

/-- Block b, from off on, has the slices vs. -/
def Lst (w : World) (b off n : Nat) (vs : Nat → Value) : Prop := ∃ cur, w.heap[b]? = some (.cells cur 22 (0, 0)) ∧ ∀ j, j < n → cur[off + j]? = some (vs j)
section
variable {w w' : World} {b off n : Nat} {vs : Nat → Value}
theorem Lst.cell (h : Lst w b off n vs) {j : Nat} (hj : j < n) : w.cell? ⟨b, off + j, none⟩ = some (vs j) := by
  obtain ⟨cur, hb, hc⟩ := h
  rw [cell_of_row w b (off + j) _ _ _ hb]; exact hc j hj
theorem Lst.free (h : Lst w b off n vs) (j : Nat) : w.frozen? ⟨b, j, none⟩ = false := by
  obtain ⟨cur, hb, hc⟩ := h
  simp [World.frozen?, hb]
theorem Lst.keep (h : Lst w b off n vs) {row : Option Nat} (hg : w.grownBy w' row) (hrow : ∀ X, row = some X → Tg w X) : Lst w' b off n vs := by
  obtain ⟨cur, hb, hc⟩ := h
  refine ⟨cur, (hg.block b (Array.getElem?_eq_some_iff.1 hb).1 (fun e => ?_)).trans hb, hc⟩
  obtain ⟨c', t, ht, h'⟩ := hrow b e.symm
  rw [hb] at h'
  simp at h'
  exact byteTag_list (h'.2 ▸ ht)
theorem Lst.other (h : Lst w b off n vs) {row : Option Nat} (hg : w.grownBy w' row) (hrow : row ≠ some b) : Lst w' b off n vs := by
  obtain ⟨cur, hb, hc⟩ := h
  exact ⟨cur, (hg.block b (Array.getElem?_eq_some_iff.1 hb).1 (fun e => hrow e.symm)).trans hb, hc⟩
theorem Lst.lt (h : Lst w b off n vs) : b < w.heap.size := by
  obtain ⟨cur, hb, hc⟩ := h; exact (Array.getElem?_eq_some_iff.1 hb).1
theorem Lst.noBytes (h : Lst w b off n vs) : ¬ Tg w b := by
  obtain ⟨cur, hb, hc⟩ := h
  rintro ⟨c', t, ht, h'⟩
  rw [hb] at h'
  simp at h'
  exact byteTag_list (h'.2 ▸ ht)
theorem Lst.set (h : Lst w b 0 n vs) {k : Nat} (hk : k < n) (u : Value) : Lst (w.setCell ⟨b, k, none⟩ u) b 0 n (upd vs k u) := by
  obtain ⟨cur, hb, hc⟩ := h
  have hks : k < cur.size := by have := hc k hk; rw [Nat.zero_add] at this; exact (Array.getElem?_eq_some_iff.1 this).1
  refine ⟨cur.setIfInBounds k u, ?_, fun j hj => ?_⟩
  · simp only [World.setCell, Array.getElem?_modify, hb]; simp
  · rw [Nat.zero_add, Array.getElem?_setIfInBounds]
    have := hc j hj
    rw [Nat.zero_add] at this
    by_cases e : j = k
    · subst e; simp [upd_same, hks]
    · rw [upd_other _ _ e, if_neg (fun h => e h.symm)]; exact this
theorem Lst.congr (h : Lst w b off n vs) {us : Nat → Value} (he : ∀ j, j < n → vs j = us j) : Lst w b off n us := by
  obtain ⟨cur, hb, hc⟩ := h
  exact ⟨cur, hb, fun j hj => by rw [← he j hj]; exact hc j hj⟩
end

/-- Rows that are to be shown to lie apart: their values, and how many bytes each has. -/
structure Rowy (w : World) (B : Nat) (vs : Nat → Value) (m : Nat) (n : Nat → Nat) : Prop where
  row : ∀ j, j < m → ∃ l, l.length = n j ∧ Own w B (vs j) l
  sep : ∀ i j, i < m → j < m → i ≠ j → ∀ Y, (vs i).ownBlock = some Y → (vs j).ownBlock = some Y → False

/-- .. arrays among them. -/
structure Rowz (w : World) (B : Nat) (vs : Nat → Value) (m : Nat) (n : Nat → Nat) : Prop where
  row : ∀ j, j < m → ∃ l, l.length = n j ∧ Owy w B (vs j) l
  sep : ∀ i j, i < m → j < m → i ≠ j → ∀ Y, (vs i).ownBlock = some Y → (vs j).ownBlock = some Y → False
theorem Rowy.z {w : World} {B : Nat} {vs : Nat → Value} {m : Nat} {n : Nat → Nat} (h : Rowy w B vs m n) : Rowz w B vs m n :=
  ⟨fun j hj => by obtain ⟨l, hl, ho⟩ := h.row j hj; exact ⟨l, hl, ho.owy⟩, h.sep⟩

theorem owy_cap {w : World} {B g n n' c c' : Nat} {l l' : List Int} (h : Owy w B (.slice (some ⟨g, 0, none⟩) n c) l) (h' : Owy w B (.slice (some ⟨g, 0, none⟩) n' c') l') : c = c' := by
  obtain ⟨e, t, h, f⟩ := h
  obtain ⟨e', t', h', f'⟩ := h'
  rcases h.2 with ⟨h1, _⟩ | ⟨g1, c1, cur, h1, _, hg, _, _, hs, _⟩
  · cases h1
  · rcases h'.2 with ⟨h2, _⟩ | ⟨g2, c2, cur', h2, _, hg', _, _, hs', _⟩
    · cases h2
    · cases h1
      cases h2
      rw [hg] at hg'
      have : cur = cur' := by simp at hg'; exact hg'.1
      subst this
      omega
theorem own_cap {w : World} {B g n n' c c' : Nat} {l l' : List Int} (h : Own w B (.slice (some ⟨g, 0, none⟩) n c) l) (h' : Own w B (.slice (some ⟨g, 0, none⟩) n' c') l') : c = c' := by
  rcases h.2 with ⟨h1, _⟩ | ⟨g1, c1, cur, h1, _, hg, _, _, hs, _⟩
  · cases h1
  · rcases h'.2 with ⟨h2, _⟩ | ⟨g2, c2, cur', h2, _, hg', _, _, hs', _⟩
    · cases h2
    · cases h1
      cases h2
      rw [hg] at hg'
      have : cur = cur' := by simpa using hg'
      subst this
      omega

section
variable {W0 w w' : World} {B m : Nat} {vs gs : Nat → Value} {C D : Nat → List Int}
/-- What has grown out of row k grows on, or anew out of the row itself. -/
theorem St.grow (h : St W0 w B vs gs m C D) {k : Nat} (hk : k < m) {v0 v' : Value} {x0 y : List Int} {p : Nat} (h0 : Owy w B v0 x0) (hat : ∀ Y, v0.ownBlock = some Y → At (vs k) (gs k) Y) (hpre : (C k).length ≤ x0.length) (hC : x0.take (C k).length = C k)
    (hO : Own w' B v' (x0 ++ y)) (hG : Grew w v0 p v' w') : St W0 w' B vs (upd gs k v') m C (upd D k (x0 ++ y)) ∧ ∃ row, w.grownBy w' row ∧ ∀ X, row = some X → At (vs k) (gs k) X := by
  have hCu : upd C k (C k) = C := by funext j; unfold upd; split <;> simp_all
  rcases hG with ⟨g, n, c, rfl, rfl, hg⟩ | ⟨hb, hg⟩
  · have hgat : At (vs k) (gs k) g := hat g rfl
    have hv : Owy w' B (vs k) (C k) := by
      by_cases hb : (vs k).ownBlock = some g
      · have hr := h.row k hk
        obtain ⟨g1, c1, h1⟩ : ∃ g1 c1, vs k = .slice (some ⟨g1, 0, none⟩) (C k).length c1 := by
          obtain ⟨e, t, hr, f⟩ := hr
          rcases hr.2 with ⟨h1, h2⟩ | ⟨g1, c1, cur, h1, _, hg1, _⟩
          · rw [h1] at hb; cases hb
          · exact ⟨g1, c1, h1⟩
        rw [h1] at hb
        cases hb
        rw [h1] at hr ⊢
        obtain rfl := owy_cap hr h0
        have := hO.pre (n := (C k).length) (by rw [List.length_append]; omega)
        rw [List.take_append_of_le_length hpre, hC] at this
        exact this.owy
      · exact (h.row k hk).kept hg (Or.inr hb)
    have := h.write hk hg (fun X hX => by cases hX; exact hgat) hv hO.owy (fun Y hY => by cases hY; exact Or.inl hgat)
    rw [hCu] at this
    exact ⟨this, some g, hg, fun X hX => by cases hX; exact hgat⟩
  · have hv : Owy w' B (vs k) (C k) := (h.row k hk).kept hg (by cases (vs k).ownBlock <;> simp)
    have := h.write hk hg (fun X hX => by cases hX) hv hO.owy (fun Y hY => by rw [hb] at hY; cases hY; exact Or.inr (Nat.le_refl _))
    rw [hCu] at this
    exact ⟨this, none, hg, fun X hX => by cases hX⟩
/-- What grows out of row k begins as the row itself. -/
theorem St.alias (h : St W0 w B vs gs m C D) {k : Nat} (hk : k < m) : St W0 w B vs (upd gs k (vs k)) m C (upd D k (C k)) := by
  have hCu : upd C k (C k) = C := by funext j; unfold upd; split <;> simp_all
  have := h.write hk (grownBy_refl w none) (fun X hX => by cases hX) (h.row k hk) (h.row k hk) (fun Y hY => Or.inl (Or.inl hY))
  rwa [hCu] at this
theorem St.alloc (h : St W0 w B vs gs m C D) (o : Obj) : St W0 (w.alloc o) B vs gs m C D := h.past (World.grownBy_alloc w o none) (fun X hX => by cases hX)
end
theorem Lst.alloc {w : World} {b off n : Nat} {vs : Nat → Value} (h : Lst w b off n vs) (o : Obj) : Lst (w.alloc o) b off n vs := h.keep (World.grownBy_alloc w o none) (fun X hX => by cases hX)
/-- A list of nil slices, made anew. -/
theorem lst_made {w : World} {base g n : Nat} (h : w.ownsRow base 22 1 (.slice (some ⟨g, 0, none⟩) n n) n (List.replicate n (.slice none 0 0))) : Lst w g 0 n (fun _ => .slice none 0 0) ∧ base ≤ g := by
  rcases h.2 with ⟨h1, _⟩ | ⟨g', cap, cur, h1, hb, hg, hn, hc, hs, ht⟩
  · cases h1
  · cases h1
    refine ⟨⟨cur, hg, fun j hj => ?_⟩, hb⟩
    have : (cur.toList.take (n * 1))[j]? = some (.slice none 0 0) := by rw [ht]; simp [hj]
    rw [List.getElem?_take, if_pos (by omega)] at this
    simpa using this
theorem marks_take {k : Int} {n p : Nat} (h : n ≤ p) : (marks k p).take n = marks k n := by
  unfold marks
  rw [← List.map_take, List.take_range]
  congr 2
  omega
theorem grown_new {w w' : World} {X : Nat} (h : w.grownBy w' (some X)) (hX : w.heap.size ≤ X) : w.grownBy w' none :=
  ⟨h.os, h.tape, h.output, h.size, fun k hk _ => h.block k hk (fun e => by have := Option.some.inj e; omega)⟩
theorem St.still {W0 w w' : World} {B m : Nat} {vs gs : Nat → Value} {C D : Nat → List Int} (h : St W0 w B vs gs m C D) (hs : Still w w') : St W0 w' B vs gs m C D := by
  obtain ⟨n, rfl⟩ := hs; exact ⟨h.row, h.grw, h.sep, h.below.trans (Still.below ⟨n, rfl⟩ _), h.base0, h.kept⟩
theorem Lst.still {w w' : World} {b off n : Nat} {vs : Nat → Value} (h : Lst w b off n vs) (hs : Still w w') : Lst w' b off n vs := by
  obtain ⟨k, rfl⟩ := hs; exact h
theorem grown_step {w w1 w2 : World} {X : Nat} (h : w.grownBy w1 none) (hX : w.heap.size ≤ X) (hg : w1.grownBy w2 (some X)) : w.grownBy w2 none :=
  ⟨hg.os.trans h.os, hg.tape.trans h.tape, hg.output.trans h.output, Nat.le_trans h.size hg.size, fun k hk _ => (hg.block k (Nat.lt_of_lt_of_le hk h.size) (fun e => by have := Option.some.inj e; omega)).trans (h.block k hk (by simp))⟩
end Go.Proofs.YtknkmblacaaegaaDoor
