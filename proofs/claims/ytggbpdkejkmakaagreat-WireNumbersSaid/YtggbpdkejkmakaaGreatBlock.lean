/- Contracts of Clone, of a reader's block and entry. -/
import Derived.Test.YtggbpdkejkmakaaGreatTake
import Derived.WalkSpells
import Derived.Lib.SliceRun
namespace Go.Proofs.YtggbpdkejkmakaaGreat
open Go.RowKit
set_option linter.unusedVariables false

set_option maxRecDepth 100000 in
theorem clone (v : Value) (l : List Int) (w : World) (h : Bs w v l) (hlen : l.length ≤ 140737488355328) :
    Calls Tryz.prog 39 #[v] w fun e w' => Fresh l w e w' := by
  obtain ⟨ao, cap, rfl, h1, h2, h3, h4⟩ := h
  cases ao with
  | none =>
    obtain rfl : cap = 0 := h3 rfl
    obtain rfl : l = [] := List.eq_nil_of_length_eq_zero (by omega)
    clear h1 h2 h3 h4 hlen
    have hq : ∀ w : World, (binOp .eql 23 (.slice none 0 0) (.slice none 0 0)).run Tryz.prog w = .ok (.bool true) w := fun _ => by kernel_rfl
    go_enter Tryz.func39, Tryz.ntmps39
    go_wp2
    go_ret
    exact ⟨_, rfl, Own.nil _ _, Below.refl _ _⟩
  | some a =>
    have hB : Bs w (.slice (some a) l.length cap) l := ⟨some a, cap, rfl, h1, h2, h3, h4⟩
    have hq : ∀ w : World, (binOp .eql 23 (.slice (some a) l.length cap) (.slice none 0 0)).run Tryz.prog w = .ok (.bool false) w := fun w => Lib.run_eql_slice_nil w _ 5 (some a) _ _ 0 0 Tryz.underlying23
    have HB := Lib.hid hB
    clear h1 h2 h3 h4 hB
    have ho : Own (w.alloc (.cells #[] 5)) w.heap.size (.slice (some ⟨w.heap.size, 0, none⟩) 0 0) [] := World.ownsRow_made w #[] 0 (Nat.le_refl _) (Nat.zero_le _) rfl
    have hb0 : Below w.heap.size w (w.alloc (.cells #[] 5)) := (Below.refl _ _).alloc (Nat.le_refl _) _
    have HO := Lib.hid ho
    have HB0 := Lib.hid hb0
    clear ho hb0
    go_enter Tryz.func39, Tryz.ntmps39
    go_wp2_with (at_builtin; refine wpList_append_bs _ rfl _ _ rfl w.heap.size _ _ rfl HO.out _ _ rfl (HB.out.alloc _) (by simpa using hlen) (by simp) ?_)
    intro v2 w2 ho2 hg2
    go_wp2_with fail
    go_ret
    exact ⟨_, rfl, ho2, (HB0.out).grown hg2 (by simp) (fun k hk => ((HO.out).lt k hk).1)⟩

/-- e returns a new row of the bytes d; reader R has l left, and nothing else has turned. -/
def ReadsNew (R : Nat) (d l : List Int) (sp : Option Addr) (w : World) (e : Ending) (w' : World) : Prop :=
  ∃ v, e = .returned v ∧ Own w' w.heap.size v d ∧ Left w' R l sp ∧ w.grownBy w' (some R)

set_option maxRecDepth 100000 in
theorem block_some {R : Nat} {l : List Int} {sp : Option Addr} {w : World} (h : Left w R l sp) {d r : List Int} (hn : rdBytes l = some (d, r)) (hlen : l.length ≤ 140737488351232) :
    Calls Tryz.prog 45 #[.pointer (some ⟨R, 0, none⟩)] w (ReadsNew R d r sp w) := by
  obtain ⟨n, r0, h1, h2, h3, rfl, rfl⟩ := rdBytes_some hn
  have T := Lib.hid (number_some h h1)
  have hr0 : r0.length ≤ 140737488351232 := by
    obtain ⟨_, _, rfl⟩ := rdNum_some h1
    simp; omega
  obtain ⟨k, rfl⟩ := Int.eq_ofNat_of_zero_le h2
  have K := fun W (hL : Left W R r0 sp) => Lib.hid (take R k r0 sp W hL (by omega))
  have C := fun v W (hB : Bs W v (r0.take k)) => Lib.hid (clone v (r0.take k) W hB (by simp; omega))
  clear h h1 hn h2 h3
  rw [show ((k : Int)).toNat = k from rfl]
  go_enter Tryz.func45, Tryz.ntmps45
  go_wp2_with fail
  refine (T.out).mono ?_
  rintro e w1 ⟨rfl, hL, hg⟩
  have k1 := K _ hL
  clear K
  have HG := Lib.hid hg
  clear hL hg
  go_wp2_with fail
  refine (k1.out).mono ?_
  rintro e w2 ⟨v2, rfl, hB, hL, hg⟩
  have c1 := C _ _ hB
  clear C
  have HG2 := Lib.hid hg
  have HL := Lib.hid hL
  clear hL hg hB
  go_wp2_with fail
  refine (c1.out).mono ?_
  rintro e w3 ⟨v3, rfl, ho, hb⟩
  go_wp2_with fail
  go_ret
  exact ⟨_, rfl, ho.mono (Nat.le_trans HG.out.size HG2.out.size), (HL.out).grown (below_grownBy hb none), grownBy_trans (grownBy_trans HG.out HG2.out) (below_grownBy hb _)⟩

set_option maxRecDepth 100000 in
theorem block_none {R : Nat} {l : List Int} {sp : Option Addr} {w : World} (h : Left w R l sp) (hn : rdBytes l = none) :
    Calls Tryz.prog 45 #[.pointer (some ⟨R, 0, none⟩)] w (Fails R sp w) := by
  rcases rdBytes_none hn with h1 | ⟨n, r0, h1, h2⟩
  · have T := Lib.hid (number_none h h1)
    clear h h1 hn
    go_enter Tryz.func45, Tryz.ntmps45
    go_wp2_with fail
    refine (T.out).mono ?_
    rintro e w1 ⟨rfl, hL, hg⟩
    exact ⟨rfl, rfl, hL, hg⟩
  · have T := Lib.hid (number_some h h1)
    have K := fun W (hL : Left W R r0 sp) => Lib.hid (takeNo R n r0 sp W hL h2)
    clear h h1 hn h2
    go_enter Tryz.func45, Tryz.ntmps45
    go_wp2_with fail
    refine (T.out).mono ?_
    rintro e w1 ⟨rfl, hL, hg⟩
    have k1 := K _ hL
    have HG := Lib.hid hg
    have HL := Lib.hid hL
    clear K hL hg
    go_wp2_with fail
    refine (k1.out).mono ?_
    rintro e w2 ⟨rfl, rfl⟩
    exact ⟨rfl, rfl, ⟨r0, HL.out⟩, HG.out⟩

/-- An entry, as it is read. -/
structure Ent where
  t : Int
  k : Int
  v : Int
  s : Int
  g : Bool
  d : List Int
def rdEnt (l : List Int) : Option (Ent × List Int) :=
  (rdNum l).bind fun p1 => (rdIn 255 p1.2).bind fun p2 => (rdNum p2.2).bind fun p3 => (rdNum p3.2).bind fun p4 => (rdIn 1 p4.2).bind fun p5 => (rdBytes p5.2).bind fun p6 =>
    some (⟨p1.1, p2.1, p3.1, p4.1, decide (p5.1 = 1), p6.1⟩, p6.2)

/-- Block b is an entry with these fields. -/
def Blk (w : World) (b : Nat) (c0 c1 c2 c3 c4 c5 : Value) : Prop := w.heap[b]? = some (.cells #[c0, c1, c2, c3, c4, c5] 28 (0, 0))
section
variable {w w' : World} {b : Nat} {c0 c1 c2 c3 c4 c5 : Value}
theorem Blk.cells (h : Blk w b c0 c1 c2 c3 c4 c5) : w.cell? ⟨b, 0, none⟩ = some c0 ∧ w.cell? ⟨b, 1, none⟩ = some c1 ∧ w.cell? ⟨b, 2, none⟩ = some c2 ∧ w.cell? ⟨b, 3, none⟩ = some c3 ∧ w.cell? ⟨b, 4, none⟩ = some c4 ∧ w.cell? ⟨b, 5, none⟩ = some c5 := by
  refine ⟨?_, ?_, ?_, ?_, ?_, ?_⟩ <;> (rw [cell_of_row w b _ _ _ _ h]; rfl)
theorem Blk.free (h : Blk w b c0 c1 c2 c3 c4 c5) (i : Nat) : w.frozen? ⟨b, i, none⟩ = false := by
  simp [World.frozen?, show w.heap[b]? = _ from h]
theorem Blk.keep {row : Option Nat} (h : Blk w b c0 c1 c2 c3 c4 c5) (hg : w.grownBy w' row) (hne : row = some b → False) : Blk w' b c0 c1 c2 c3 c4 c5 :=
  (hg.block b (Array.getElem?_eq_some_iff.1 h).1 (fun e => hne e.symm)).trans h
theorem Blk.noBytes (h : Blk w b c0 c1 c2 c3 c4 c5) : NoBytes w b := by
  intro cur fr hb
  rw [show w.heap[b]? = _ from h] at hb
  simp at hb
theorem Blk.set0 (h : Blk w b c0 c1 c2 c3 c4 c5) (u : Value) : Blk (w.setCell ⟨b, 0, none⟩ u) b u c1 c2 c3 c4 c5 := by
  unfold Blk at h ⊢; simp only [World.setCell, Array.getElem?_modify, h]; simp
theorem Blk.set1 (h : Blk w b c0 c1 c2 c3 c4 c5) (u : Value) : Blk (w.setCell ⟨b, 1, none⟩ u) b c0 u c2 c3 c4 c5 := by
  unfold Blk at h ⊢; simp only [World.setCell, Array.getElem?_modify, h]; simp
theorem Blk.set2 (h : Blk w b c0 c1 c2 c3 c4 c5) (u : Value) : Blk (w.setCell ⟨b, 2, none⟩ u) b c0 c1 u c3 c4 c5 := by
  unfold Blk at h ⊢; simp only [World.setCell, Array.getElem?_modify, h]; simp
theorem Blk.set3 (h : Blk w b c0 c1 c2 c3 c4 c5) (u : Value) : Blk (w.setCell ⟨b, 3, none⟩ u) b c0 c1 c2 u c4 c5 := by
  unfold Blk at h ⊢; simp only [World.setCell, Array.getElem?_modify, h]; simp
theorem Blk.set4 (h : Blk w b c0 c1 c2 c3 c4 c5) (u : Value) : Blk (w.setCell ⟨b, 4, none⟩ u) b c0 c1 c2 c3 u c5 := by
  unfold Blk at h ⊢; simp only [World.setCell, Array.getElem?_modify, h]; simp
theorem Blk.set5 (h : Blk w b c0 c1 c2 c3 c4 c5) (u : Value) : Blk (w.setCell ⟨b, 5, none⟩ u) b c0 c1 c2 c3 c4 u := by
  unfold Blk at h ⊢; simp only [World.setCell, Array.getElem?_modify, h]; simp
end

/-- e returns an entry, as a value, whose bytes are a new row; reader R has l left, and nothing else has turned. -/
def ReadsEnt (R : Nat) (x : Ent) (l : List Int) (sp : Option Addr) (w : World) (e : Ending) (w' : World) : Prop :=
  ∃ v, e = .returned (.agg #[.int .i64 x.t, .int .u8 x.k, .int .i64 x.v, .int .i64 x.s, .bool x.g, v]) ∧ Own w' w.heap.size v x.d ∧ Left w' R l sp ∧ w.grownBy w' (some R)

/-- What is known between two fields: reader, the entry's block, and all else. -/
structure Mid (w : World) (R E : Nat) (l : List Int) (sp : Option Addr) (c0 c1 c2 c3 c4 c5 : Value) (w' : World) : Prop where
  left : Left w' R l sp
  blk : Blk w' E c0 c1 c2 c3 c4 c5
  grown : w.grownBy w' (some R)
theorem Mid.call {w w1 w2 : World} {R E : Nat} {l r : List Int} {sp : Option Addr} {c0 c1 c2 c3 c4 c5 : Value} (h : Mid w R E l sp c0 c1 c2 c3 c4 c5 w1) (hE : R < E) (hL : Left w2 R r sp) (hg : w1.grownBy w2 (some R)) : Mid w R E r sp c0 c1 c2 c3 c4 c5 w2 :=
  ⟨hL, h.blk.keep hg (fun e => by cases e; omega), grownBy_trans h.grown hg⟩
theorem grownBy_set {w w1 : World} {R E i : Nat} (h : w.grownBy w1 (some R)) (hE : w.heap.size ≤ E) (u : Value) : w.grownBy (w1.setCell ⟨E, i, none⟩ u) (some R) :=
  ⟨h.os, h.tape, h.output, by simp [World.setCell]; exact h.size, fun k hk hne => (Below.heap_setCell w1 ⟨E, i, none⟩ u k (by show k ≠ E; omega)).trans (h.block k hk hne)⟩
theorem Left.set {w : World} {R E i : Nat} {l : List Int} {sp : Option Addr} (h : Left w R l sp) (hE : R < E) (hN : NoBytes w E) (u : Value) : Left (w.setCell ⟨E, i, none⟩ u) R l sp :=
  h.keep (grownBy_setCell w ⟨E, i, none⟩ u) (fun k hk => by cases hk; exact ⟨fun e => by have : E = R := e; omega, hN⟩)
section
variable {w w1 : World} {R E : Nat} {l : List Int} {sp : Option Addr} {c0 c1 c2 c3 c4 c5 : Value}
theorem Mid.set0 (h : Mid w R E l sp c0 c1 c2 c3 c4 c5 w1) (hE : w.heap.size ≤ E) (hR : R < E) (u : Value) : Mid w R E l sp u c1 c2 c3 c4 c5 (w1.setCell ⟨E, 0, none⟩ u) := ⟨h.left.set hR h.blk.noBytes u, h.blk.set0 u, grownBy_set h.grown hE u⟩
theorem Mid.set1 (h : Mid w R E l sp c0 c1 c2 c3 c4 c5 w1) (hE : w.heap.size ≤ E) (hR : R < E) (u : Value) : Mid w R E l sp c0 u c2 c3 c4 c5 (w1.setCell ⟨E, 1, none⟩ u) := ⟨h.left.set hR h.blk.noBytes u, h.blk.set1 u, grownBy_set h.grown hE u⟩
theorem Mid.set2 (h : Mid w R E l sp c0 c1 c2 c3 c4 c5 w1) (hE : w.heap.size ≤ E) (hR : R < E) (u : Value) : Mid w R E l sp c0 c1 u c3 c4 c5 (w1.setCell ⟨E, 2, none⟩ u) := ⟨h.left.set hR h.blk.noBytes u, h.blk.set2 u, grownBy_set h.grown hE u⟩
theorem Mid.set3 (h : Mid w R E l sp c0 c1 c2 c3 c4 c5 w1) (hE : w.heap.size ≤ E) (hR : R < E) (u : Value) : Mid w R E l sp c0 c1 c2 u c4 c5 (w1.setCell ⟨E, 3, none⟩ u) := ⟨h.left.set hR h.blk.noBytes u, h.blk.set3 u, grownBy_set h.grown hE u⟩
theorem Mid.set4 (h : Mid w R E l sp c0 c1 c2 c3 c4 c5 w1) (hE : w.heap.size ≤ E) (hR : R < E) (u : Value) : Mid w R E l sp c0 c1 c2 c3 u c5 (w1.setCell ⟨E, 4, none⟩ u) := ⟨h.left.set hR h.blk.noBytes u, h.blk.set4 u, grownBy_set h.grown hE u⟩
theorem Mid.set5 (h : Mid w R E l sp c0 c1 c2 c3 c4 c5 w1) (hE : w.heap.size ≤ E) (hR : R < E) (u : Value) : Mid w R E l sp c0 c1 c2 c3 c4 u (w1.setCell ⟨E, 5, none⟩ u) := ⟨h.left.set hR h.blk.noBytes u, h.blk.set5 u, grownBy_set h.grown hE u⟩
end

/-- An entry is written into a block of its own. -/
def wrote (w : World) (b : Nat) (c0 c1 c2 c3 c4 c5 : Value) : World :=
  (((((w.setCell ⟨b, 0, none⟩ c0).setCell ⟨b, 1, none⟩ c1).setCell ⟨b, 2, none⟩ c2).setCell ⟨b, 3, none⟩ c3).setCell ⟨b, 4, none⟩ c4).setCell ⟨b, 5, none⟩ c5
theorem wrote_blk {w : World} {b : Nat} {a0 a1 a2 a3 a4 a5 : Value} (h : Blk w b a0 a1 a2 a3 a4 a5) (c0 c1 c2 c3 c4 c5 : Value) : Blk (wrote w b c0 c1 c2 c3 c4 c5) b c0 c1 c2 c3 c4 c5 :=
  (((((h.set0 c0).set1 c1).set2 c2).set3 c3).set4 c4).set5 c5
theorem wrote_grown (w : World) (b : Nat) (c0 c1 c2 c3 c4 c5 : Value) : w.grownBy (wrote w b c0 c1 c2 c3 c4 c5) (some b) :=
  grownBy_trans (grownBy_trans (grownBy_trans (grownBy_trans (grownBy_trans (grownBy_setCell w ⟨b, 0, none⟩ c0) (grownBy_setCell _ ⟨b, 1, none⟩ c1)) (grownBy_setCell _ ⟨b, 2, none⟩ c2)) (grownBy_setCell _ ⟨b, 3, none⟩ c3)) (grownBy_setCell _ ⟨b, 4, none⟩ c4)) (grownBy_setCell _ ⟨b, 5, none⟩ c5)
/-- .. which was made behind w. -/
theorem grownBy_past {w w1 w2 : World} {R b : Nat} (h : w.grownBy w1 (some R)) (hb : w.heap.size ≤ b) (hg : w1.grownBy w2 (some b)) : w.grownBy w2 (some R) :=
  ⟨hg.os.trans h.os, hg.tape.trans h.tape, hg.output.trans h.output, Nat.le_trans h.size hg.size, fun k hk hne => (hg.block k (Nat.lt_of_lt_of_le hk h.size) (fun e => by have := Option.some.inj e; omega)).trans (h.block k hk hne)⟩
end Go.Proofs.YtggbpdkejkmakaaGreat
