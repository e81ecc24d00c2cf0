/- Small laws that all layers share: worlds that have grown, bytes that were made, slices of slices. -/
import Derived.Test.YthfkmackodbmkaaGreatDoorKit
import Derived.Laws.Rows
namespace Go.Proofs.YthfkmackodbmkaaGreatDoor
open Go.RowKit
set_option linter.unusedVariables false
set_option linter.unusedSimpArgs false

theorem grownBy_trans {a b c : World} {row : Option Nat} (h : a.grownBy b row) (k : b.grownBy c row) : a.grownBy c row :=
  ⟨k.os.trans h.os, k.tape.trans h.tape, k.output.trans h.output, Nat.le_trans h.size k.size, fun i hi hne => (k.block i (Nat.lt_of_lt_of_le hi h.size) hne).trans (h.block i hi hne)⟩
theorem grownBy_refl (w : World) (row : Option Nat) : w.grownBy w row := ⟨rfl, rfl, rfl, Nat.le_refl _, fun _ _ _ => rfl⟩
theorem grownBy_setCell (w : World) (a : Addr) (u : Value) : w.grownBy (w.setCell a u) (some a.block) :=
  ⟨rfl, rfl, rfl, by simp [World.setCell], fun k hk hne => Below.heap_setCell w a u k (fun e => hne (by rw [e]))⟩
theorem below_grownBy {w w' : World} (h : Below w.heap.size w w') (row : Option Nat) : w.grownBy w' row :=
  ⟨h.os, h.tape, h.output, h.size, fun k hk _ => h.block k hk⟩
theorem alloc_below (w : World) (o : Obj) : Below w.heap.size w (w.alloc o) := (Below.refl _ _).alloc (Nat.le_refl _) o
theorem bel_trans {w a b : World} (h : Below w.heap.size w a) (k : Below a.heap.size a b) : Below w.heap.size w b := h.trans (k.mono h.size)
theorem alloc_grown (w : World) (o : Obj) (row : Option Nat) : w.grownBy (w.alloc o) row := World.grownBy_alloc w o row
theorem below_alloc {w w' : World} {o : Obj} (h : Below (w.alloc o).heap.size (w.alloc o) w') : Below w.heap.size w w' :=
  ((Below.refl _ _).alloc (Nat.le_refl _) o).trans (h.mono (by simp))
/-- What v has stands in a block of bytes. -/
def Tag (w : World) (v : Value) : Prop := ∀ a n cap, v = .slice (some a) n cap → 0 < n → ∃ cur fr, w.heap[a.block]? = some (.cells cur 5 fr)
/-- Block k is none of bytes. -/
def NoBytes (w : World) (k : Nat) : Prop := ∀ cur fr, w.heap[k]? ≠ some (.cells cur 5 fr)
theorem Tag.keep {w w' : World} {v : Value} {row : Option Nat} (h : Tag w v) (hg : w.grownBy w' row) (hX : ∀ k, row = some k → NoBytes w k) : Tag w' v := by
  intro a n cap hv hn
  obtain ⟨cur, fr, hb⟩ := h a n cap hv hn
  refine ⟨cur, fr, (hg.block _ (Array.getElem?_eq_some_iff.1 hb).1 (fun e => hX _ e.symm cur fr hb)).trans hb⟩
theorem Tag.bs {w w' : World} {v : Value} {l : List Int} {row : Option Nat} (ht : Tag w v) (h : Bs w v l) (hg : w.grownBy w' row) (hX : ∀ k, row = some k → NoBytes w k) : Bs w' v l := by
  obtain ⟨ao, cap, rfl, h1, h2, h3, h4⟩ := h
  refine ⟨ao, cap, rfl, h1, h2, h3, fun a ha j hj => ?_⟩
  subst ha
  obtain ⟨cur, fr, hb⟩ := ht a l.length cap rfl (by omega)
  exact hg.cell (h4 a rfl j hj) (fun e => hX _ (e.symm.trans (by rw [block_of_add])) cur fr hb)
theorem own_tag {w : World} {base : Nat} {v : Value} {l : List Int} (h : Own w base v l) : Tag w v := by
  intro a n cap hv hn
  rcases h.2 with ⟨rfl, _⟩ | ⟨g, c, cur, rfl, _, hg, _⟩
  · cases hv
  · cases hv; exact ⟨cur, _, hg⟩
theorem bs_lit (w : World) (x : Int) : Bs (w.alloc (.cells #[.int .u8 x] 5)) (.slice (some ⟨w.heap.size, 0, none⟩) 1 1) [x] :=
  Bs.mk (l := [x]) (b := w.heap.size) (off := 0) (cap := 1) (Nat.le_refl _) (by unfold maxLen; omega) fun j hj => by
    obtain rfl : j = 0 := by simpa using hj
    simp [nth]
/-- What new bytes are made of what lies there. -/
theorem Bs.alloc {w : World} {v : Value} {l : List Int} (h : Bs w v l) (o : Obj) : Bs (w.alloc o) v l := h.past ((Below.refl _ _).alloc (Nat.le_refl _) o)
/-- A literal of bytes. -/
theorem bs_list (w : World) (l : List Int) (h : l.length ≤ 1000) : Bs (w.alloc (.cells (bv l).toArray 5)) (.slice (some ⟨w.heap.size, 0, none⟩) l.length l.length) l :=
  Bs.mk (Nat.le_refl _) (by unfold maxLen; omega) fun j hj => by
    rw [cell_of_row _ w.heap.size (0 + j) (bv l).toArray 5 (0, 0) (heap_alloc_new w _)]
    have := bv_get hj
    simpa using this
theorem sameBytes_yes {u v : Value} {x y : List Int} {w : World} (hu : Bs w u x) (hv : Bs w v y) (h : x = y) :
    Calls Tryz.prog 198 #[u, v] w fun e w' => e = .returned (.bool true) ∧ Below w.heap.size w w' := by
  refine (sameBytes u v x y w hu hv).mono fun e w' ⟨he, hs⟩ => ⟨?_, hs.below _⟩
  rw [he]; simp [h]
/-- v (some bytes' answer) is as the literal l says, which is made behind it. -/
theorem same_lit {w0 w : World} {v : Value} {x : List Int} (hv : Own w w0.heap.size v x) (l : List Int) (hl : l.length ≤ 1000) (h : x = l) :
    Calls Tryz.prog 198 #[v, .slice (some ⟨w.heap.size, 0, none⟩) l.length l.length] (w.alloc (.cells (bv l).toArray 5)) fun e w' => e = .returned (.bool true) ∧ Below w.heap.size w w' :=
  (sameBytes_yes (hv.bs.alloc _) (bs_list w l hl) h).mono fun e w' ⟨he, hb⟩ => ⟨he, below_alloc hb⟩
/-- .. of n bytes. -/
def Shaped (n : Nat) (l : List Int) (w : World) (e : Ending) (w' : World) : Prop := ∃ ao cap, e = .returned (.slice ao n cap) ∧ Own w' w.heap.size (.slice ao n cap) l ∧ Below w.heap.size w w'
theorem Fresh.shaped {l : List Int} {w w' : World} {e : Ending} (h : Fresh l w e w') {n : Nat} (hn : l.length = n) : Shaped n l w e w' := by
  obtain ⟨v, rfl, ho, hb⟩ := h
  obtain ⟨ao, cap, rfl⟩ := ho.bs.shape
  subst hn
  exact ⟨ao, cap, rfl, ho, hb⟩
def vth (vs : List Value) (j : Nat) : Value := vs.getD j undef
def lth (ls : List (List Int)) (j : Nat) : List Int := ls.getD j []
/-- v is a slice of the slices vs. -/
def Vals (w : World) (v : Value) (vs : List Value) : Prop :=
  ∃ (ao : Option Addr) (cap : Nat), v = .slice ao vs.length cap ∧ vs.length ≤ cap ∧ cap ≤ maxLen ∧ (ao = none → cap = 0) ∧ ∀ a, ao = some a → ∀ j, j < vs.length → w.cell? (a.add j) = some (vth vs j)
theorem Vals.at {w : World} {v : Value} {vs : List Value} (h : Vals w v vs) (hl : 0 < vs.length) :
    ∃ b off cap, v = .slice (some ⟨b, off, none⟩) vs.length cap ∧ vs.length ≤ cap ∧ cap ≤ maxLen ∧ b < w.heap.size ∧ ∀ j, j < vs.length → w.cell? ⟨b, off + j, none⟩ = some (vth vs j) := by
  obtain ⟨ao, cap, rfl, h1, h2, h3, h4⟩ := h
  cases ao with
  | none => have := h3 rfl; omega
  | some a =>
    have h0 := h4 a rfl 0 hl
    obtain ⟨b, off, s⟩ := a
    have hs : s = none := by simpa [Addr.add] using World.cell?_spot h0
    subst hs
    refine ⟨b, off, cap, rfl, h1, h2, World.block_lt_of_cell? w _ h0, fun j hj => ?_⟩
    rw [← add_none]; exact h4 _ rfl j hj
theorem Vals.len {w : World} {v : Value} {vs : List Value} (h : Vals w v vs) : vs.length ≤ 9223372036854775807 := by
  obtain ⟨ao, cap, rfl, h1, h2, _⟩ := h; unfold maxLen at h2; omega
theorem Vals.shape {w : World} {v : Value} {vs : List Value} (h : Vals w v vs) : ∃ ao cap, v = .slice ao vs.length cap := by
  obtain ⟨ao, cap, hv, _⟩ := h; exact ⟨ao, cap, hv⟩
theorem Vals.nil (w : World) : Vals w (.slice none 0 0) [] := ⟨none, 0, rfl, Nat.le_refl _, Nat.zero_le _, fun _ => rfl, fun _ h => by cases h⟩
/-- A literal of slices. -/
theorem vals_lit (w : World) (vs : List Value) (h : vs.length ≤ 1000) : Vals (w.alloc (.cells vs.toArray 42)) (.slice (some ⟨w.heap.size, 0, none⟩) vs.length vs.length) vs :=
  ⟨_, _, rfl, Nat.le_refl _, by unfold maxLen; omega, fun h => (by cases h), fun a ha j hj => by
    cases ha
    rw [add_none, cell_of_row _ w.heap.size (0 + j) vs.toArray 42 (0, 0) (heap_alloc_new w _)]
    simp [vth, List.getD, hj]⟩
theorem Bs.drew' {w : World} {v : Value} {l : List Int} (h : Bs w v l) : Bs w.drew v l := h.drewN 1
theorem dA {w w' : World} {o : Obj} (h : Below (w.alloc o).drew.heap.size (w.alloc o).drew w') : Below w.heap.size w w' := below_alloc (o := o) ⟨h.os, h.tape, h.output, h.size, h.block⟩
theorem dB {w w' : World} (h : Below w.drew.heap.size w.drew w') : Below w.heap.size w w' := ⟨h.os, h.tape, h.output, h.size, h.block⟩
/-- An empty row, made. -/
theorem made_drew (w : World) : Own (w.alloc (.cells #[] 5)).drew w.heap.size (.slice (some ⟨w.heap.size, 0, none⟩) 0 0) [] := World.ownsRow_made w #[] 0 (Nat.le_refl _) (Nat.zero_le _) rfl
theorem made_now (w : World) (base : Nat) (h : base ≤ w.heap.size) : Own (w.alloc (.cells #[] 5)) base (.slice (some ⟨w.heap.size, 0, none⟩) 0 0) [] := World.ownsRow_made w #[] 0 h (Nat.zero_le _) rfl
theorem grownBy_drewN (w : World) (n : Nat) (row : Option Nat) : w.grownBy (w.drewN n) row := ⟨rfl, rfl, rfl, Nat.le_refl _, fun _ _ _ => rfl⟩
end Go.Proofs.YthfkmackodbmkaaGreatDoor
