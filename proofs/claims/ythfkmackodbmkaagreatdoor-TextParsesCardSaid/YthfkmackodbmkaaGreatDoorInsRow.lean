/- Slices of instructions as plain lists: what reads as instructions, rows of the call's own, what append does. -/
import Derived.Test.YthfkmackodbmkaaGreatDoorInsEq
import Derived.OwnWalk
import Derived.Laws.AppendOwnNone
namespace Go.Proofs.YthfkmackodbmkaaGreatDoor
open Go.RowKit
set_option linter.unusedVariables false
set_option linter.unusedSimpArgs false

def icl (l : List Ins) : List Value := l.flatMap icells
theorem icl_append (a b : List Ins) : icl (a ++ b) = icl a ++ icl b := by simp [icl]
theorem icl_one (i : Ins) : icl [i] = icells i := by simp [icl]
theorem icells_length (i : Ins) : (icells i).length = 8 := rfl
theorem icl_length (l : List Ins) : (icl l).length = l.length * 8 := by
  induction l with
  | nil => rfl
  | cons i l ih => rw [show i :: l = [i] ++ l from rfl, icl_append, icl_one, List.length_append, ih, icells_length]; simp; omega
theorem icl_get {l : List Ins} {j k : Nat} (hj : j < l.length) (hk : k < 8) : (icl l)[j * 8 + k]? = (icells (ith l j))[k]? := by
  induction l generalizing j with
  | nil => cases hj
  | cons i l ih =>
    rw [show i :: l = [i] ++ l from rfl, icl_append, icl_one]
    cases j with
    | zero => rw [List.getElem?_append_left (by rw [icells_length]; omega)]; simp [ith]
    | succ j =>
      rw [List.getElem?_append_right (by rw [icells_length]; omega), icells_length, show (j + 1) * 8 + k - 8 = j * 8 + k from by omega, ih (by simpa using hj)]
      simp [ith]
theorem icells_oneCell (i : Ins) : ∀ u ∈ icells i, u.oneCell' = true := by
  intro u hu
  simp only [icells, List.mem_cons, List.not_mem_nil, or_false] at hu
  rcases hu with rfl | rfl | rfl | rfl | rfl | rfl | rfl | rfl <;> rfl
theorem icl_oneCell (l : List Ins) : ∀ u ∈ icl l, u.oneCell' = true := by
  intro u hu
  obtain ⟨i, _, hu⟩ := List.mem_flatMap.1 hu
  exact icells_oneCell i u hu
theorem icl_take (l : List Ins) (n : Nat) : icl (l.take n) = (icl l).take (n * 8) := by
  induction l generalizing n with
  | nil => simp [icl]
  | cons i l ih =>
    cases n with
    | zero => simp [icl]
    | succ n =>
      rw [List.take_succ_cons, show i :: l = [i] ++ l from rfl, show i :: List.take n l = [i] ++ List.take n l from rfl, icl_append, icl_append, icl_one, ih]
      rw [List.take_append, show (n + 1) * 8 - (icells i).length = n * 8 from by rw [icells_length]; omega, List.take_of_length_le (l := icells i) (by rw [icells_length]; omega)]

/-- v reads as the instructions l. -/
def Inss (w : World) (v : Value) (l : List Ins) : Prop :=
  ∃ (ao : Option Addr) (cap : Nat), v = .slice ao l.length cap ∧ l.length ≤ cap ∧ cap ≤ maxLen ∧ (ao = none → cap = 0) ∧ ∀ a, ao = some a → ∀ j u, (icl l)[j]? = some u → w.cell? (a.add j) = some u
theorem Inss.nil (w : World) : Inss w (.slice none 0 0) [] := ⟨none, 0, rfl, Nat.le_refl _, Nat.zero_le _, fun _ => rfl, fun _ h => by cases h⟩
theorem Inss.shape {w : World} {v : Value} {l : List Ins} (h : Inss w v l) : ∃ ao cap, v = .slice ao l.length cap := by
  obtain ⟨ao, cap, hv, _⟩ := h; exact ⟨ao, cap, hv⟩
theorem Inss.len {w : World} {v : Value} {l : List Ins} (h : Inss w v l) : l.length ≤ 9223372036854775807 := by
  obtain ⟨ao, cap, rfl, h1, h2, _⟩ := h; unfold maxLen at h2; omega
/-- Block b from o on: the cells of an instruction. -/
structure At8 (w : World) (b o : Nat) (i : Ins) : Prop where
  c0 : w.cell? ⟨b, o, none⟩ = some (.int .u8 i.op)
  c1 : w.cell? ⟨b, o + 1, none⟩ = some (.bool i.nw)
  c2 : w.cell? ⟨b, o + 2, none⟩ = some (.int .i64 i.dst)
  c3 : w.cell? ⟨b, o + 3, none⟩ = some (.int .i64 i.src)
  c4 : w.cell? ⟨b, o + 4, none⟩ = some (.bool i.ui)
  c5 : w.cell? ⟨b, o + 5, none⟩ = some (.int .i64 i.off)
  c6 : w.cell? ⟨b, o + 6, none⟩ = some (.int .i64 i.im)
  c7 : w.cell? ⟨b, o + 7, none⟩ = some (.int .i64 i.sz)
theorem At8.past {w w' : World} {b o : Nat} {i : Ins} (h : At8 w b o i) (hb : Below w.heap.size w w') : At8 w' b o i :=
  ⟨cellP h.c0 hb, cellP h.c1 hb, cellP h.c2 hb, cellP h.c3 hb, cellP h.c4 hb, cellP h.c5 hb, cellP h.c6 hb, cellP h.c7 hb⟩
theorem Inss.at {w : World} {v : Value} {l : List Ins} (h : Inss w v l) (hl : 0 < l.length) :
    ∃ b off cap, v = .slice (some ⟨b, off, none⟩) l.length cap ∧ l.length ≤ cap ∧ cap ≤ maxLen ∧ b < w.heap.size ∧ ∀ j, j < l.length → At8 w b (off + j * 8) (ith l j) := by
  obtain ⟨ao, cap, rfl, h1, h2, h3, h4⟩ := h
  cases ao with
  | none => have := h3 rfl; omega
  | some a =>
    have h0 := h4 a rfl (0 * 8 + 0) (.int .u8 (ith l 0).op) (by rw [icl_get hl (by decide)]; rfl)
    obtain ⟨b, off, s⟩ := a
    have hs : s = none := by simpa [Addr.add] using World.cell?_spot h0
    subst hs
    refine ⟨b, off, cap, rfl, h1, h2, World.block_lt_of_cell? w _ h0, fun j hj => ?_⟩
    have g := fun k (hk : k < 8) u (hu : (icells (ith l j))[k]? = some u) => h4 _ rfl (j * 8 + k) u (by rw [icl_get hj hk]; exact hu)
    simp only [add_none] at g
    refine ⟨?_, ?_, ?_, ?_, ?_, ?_, ?_, ?_⟩
    · exact g 0 (by decide) _ rfl
    all_goals rw [Nat.add_assoc]
    · exact g 1 (by decide) _ rfl
    · exact g 2 (by decide) _ rfl
    · exact g 3 (by decide) _ rfl
    · exact g 4 (by decide) _ rfl
    · exact g 5 (by decide) _ rfl
    · exact g 6 (by decide) _ rfl
    · exact g 7 (by decide) _ rfl
theorem Inss.past {w w' : World} {v : Value} {l : List Ins} (h : Inss w v l) (hb : Below w.heap.size w w') : Inss w' v l := by
  obtain ⟨ao, cap, rfl, h1, h2, h3, h4⟩ := h
  exact ⟨ao, cap, rfl, h1, h2, h3, fun a ha j u hu => (hb.cell (World.block_lt_of_cell? w _ (h4 a ha j u hu))).trans (h4 a ha j u hu)⟩
theorem Inss.alloc {w : World} {v : Value} {l : List Ins} (h : Inss w v l) (o : Obj) : Inss (w.alloc o) v l := h.past (alloc_below w o)
theorem Inss.take {w : World} {ao : Option Addr} {m cap : Nat} {l : List Ins} (h : Inss w (.slice ao m cap) l) {n : Nat} (hn : n ≤ l.length) : Inss w (.slice ao n cap) (l.take n) := by
  obtain ⟨ao', cap', hv, h1, h2, h3, h4⟩ := h
  cases hv
  have hlen : (l.take n).length = n := by simp; omega
  refine ⟨ao, cap, by rw [hlen], by omega, h2, h3, fun a ha j u hu => h4 a ha j u ?_⟩
  rw [icl_take, List.getElem?_take] at hu
  split at hu
  · exact hu
  · cases hu

theorem insInfo : ∃ i, Tryz.prog.info? 47 = some i ∧ i.zero = some (agg noIns) ∧ i.size = 8 ∧ i.bytes = 56 :=
  info_parts (by kernel_rfl : (Tryz.prog.info? 47).map (fun i => (i.zero, i.size, i.bytes)) = some (some (agg noIns), 8, 56))

/-- v is a row of the instructions l that was made from block base on. -/
def OwnI (w : World) (base : Nat) (v : Value) (l : List Ins) : Prop := w.ownsRow base 47 8 v l.length (icl l)
theorem OwnI.nil (w : World) (base : Nat) : OwnI w base (.slice none 0 0) [] := World.ownsRow_nil _ _ _ _
theorem OwnI.lt {w : World} {base : Nat} {v : Value} {l : List Ins} (h : OwnI w base v l) : ∀ k, v.ownBlock = some k → base ≤ k ∧ k < w.heap.size := World.ownsRow.lt h
theorem OwnI.kept {w w' : World} {base : Nat} {v : Value} {l : List Ins} {row : Option Nat} (h : OwnI w base v l) (hg : w.grownBy w' row) (hne : v.ownBlock = none ∨ v.ownBlock ≠ row) : OwnI w' base v l := World.ownsRow.kept h hg hne
theorem OwnI.past {w w' : World} {base : Nat} {v : Value} {l : List Ins} (h : OwnI w base v l) (hb : Below w.heap.size w w') : OwnI w' base v l :=
  h.kept (row := none) (below_grownBy hb none) (by cases v.ownBlock <;> simp)
theorem OwnI.alloc {w : World} {base : Nat} {v : Value} {l : List Ins} (h : OwnI w base v l) (o : Obj) : OwnI (w.alloc o) base v l := World.ownsRow.alloc h o
theorem OwnI.inss {w : World} {base : Nat} {v : Value} {l : List Ins} (h : OwnI w base v l) : Inss w v l := by
  rcases h.2 with ⟨rfl, hn⟩ | ⟨g, cap, cur, rfl, hb, hg, hn, hc, hs, ht⟩
  · obtain rfl : l = [] := List.eq_nil_of_length_eq_zero hn
    exact Inss.nil w
  · refine ⟨_, cap, rfl, hn, hc, fun h => (by cases h), fun a ha j u hu => ?_⟩
    cases ha
    rw [add_none, cell_of_row w g (0 + j) cur _ (0, 0) hg]
    rw [← ht, List.getElem?_take] at hu
    split at hu
    · simpa using hu
    · cases hu
theorem OwnI.shape {w : World} {base : Nat} {v : Value} {l : List Ins} (h : OwnI w base v l) : ∃ ao cap, v = .slice ao l.length cap := h.inss.shape

/-- One instruction in a block of its own. -/
theorem inss_one (w : World) (i : Ins) : Inss (w.alloc (Obj.cells #[.int .u8 i.op, .bool i.nw, .int .i64 i.dst, .int .i64 i.src, .bool i.ui, .int .i64 i.off, .int .i64 i.im, .int .i64 i.sz] 47)) (.slice (some ⟨w.heap.size, 0, none⟩) 1 1) [i] := by
  refine ⟨_, 1, rfl, Nat.le_refl _, by unfold maxLen; decide, fun h => (by cases h), fun a ha j u hu => ?_⟩
  cases ha
  rw [icl_one] at hu
  rw [add_none, cell_of_row _ _ (0 + j) _ _ _ (heap_alloc_new w _), Nat.zero_add]
  simpa [icells] using hu

/-- append, of instructions, to a row of the call's own. -/
theorem wpList_append_i (w : World) {ops : Array Oper} {rest : List Oper} {o : Oper} {a : Act} {Q : Exit → Act → World → Prop} (hgd : o.guard = none) (s x : Operand)
    (ho : o.op = .call { callee := .builtin .append, args := #[s, x], argTypes := #[23, 23] })
    (base : Nat) (v : Value) (xs : List Ins) (hs : a.eval s = v) (hown : OwnI w base v xs) (u : Value) (ys : List Ins) (hx : a.eval x = u) (hu : Inss w u ys)
    (hlen : xs.length + ys.length ≤ 1000000000) (hbase : base ≤ w.heap.size)
    (h : ∀ v' w', OwnI w' base v' (xs ++ ys) → w.grownBy w' v.ownBlock → wpList Tryz.prog ops Q rest (a.put o.dst v') w') : wpList Tryz.prog ops Q (o :: rest) a w := by
  obtain ⟨i, hi, hz, hs1, hb1⟩ := insInfo
  obtain ⟨ao, cap, rfl, h1, h2, h3, h4⟩ := hu
  have hm : xs.length + ys.length ≤ maxLen := by unfold maxLen; omega
  cases ao with
  | none =>
    obtain rfl : cap = 0 := h3 rfl
    obtain rfl : ys = [] := List.eq_nil_of_length_eq_zero (by omega)
    refine wpList_append_own_none hgd s x 23 ho base 47 i 8 Tryz.underlying23 hi v _ _ hs hown hx ?_
    refine h v w ?_ ⟨rfl, rfl, rfl, Nat.le_refl _, fun _ _ _ => rfl⟩
    rw [List.append_nil]; exact hown
  | some ad =>
    refine wpList_append_own w hgd s x 23 ho base 47 i (agg noIns) 8 56 Tryz.underlying23 hi hz hs1 hb1 rfl (by decide) v _ _ hs hown ad ys.length cap (icl ys) hx (icl_length ys)
      (fun j u hj => h4 ad rfl j u hj) (icl_oneCell _) hm (by omega) hbase (fun v' w' ho' hg _ => h v' w' ?_ hg)
    unfold OwnI
    rw [List.length_append, icl_append]
    exact ho'
/-- .. within its capacity. -/
theorem wpList_append_i_fits (w : World) {ops : Array Oper} {rest : List Oper} {o : Oper} {a : Act} {Q : Exit → Act → World → Prop} (hgd : o.guard = none) (s x : Operand)
    (ho : o.op = .call { callee := .builtin .append, args := #[s, x], argTypes := #[23, 23] })
    (base g cap n m : Nat) (xs : List Ins) (hn : xs.length = n) (hs : a.eval s = .slice (some ⟨g, 0, none⟩) n cap) (hown : OwnI w base (.slice (some ⟨g, 0, none⟩) n cap) xs) (u : Value) (ys : List Ins) (hm : ys.length = m) (hx : a.eval x = u) (hu : Inss w u ys)
    (hfit : n + m ≤ cap)
    (h : ∀ w', OwnI w' base (.slice (some ⟨g, 0, none⟩) (n + m) cap) (xs ++ ys) → w.grownBy w' (some g) → wpList Tryz.prog ops Q rest (a.put o.dst (.slice (some ⟨g, 0, none⟩) (n + m) cap)) w') : wpList Tryz.prog ops Q (o :: rest) a w := by
  obtain ⟨i, hi, hz, hs1, hb1⟩ := insInfo
  obtain ⟨ao, c, rfl, h1, h2, h3, h4⟩ := hu
  subst hn hm
  refine wpList_append_fits_any w hgd s x 23 ho base 47 i 8 Tryz.underlying23 hi hs1 g xs.length cap (icl xs) hs hown ao ys.length c (icl ys) hx (icl_length ys)
    (fun h => by have := h3 h; omega) (fun ad hd j u hj => h4 ad hd j u hj) (icl_oneCell _) hfit (fun w' ho' hg => ?_)
  refine h w' ?_ hg
  unfold OwnI
  rw [List.length_append, icl_append]
  exact ho'
/-- What is made, empty, with room. -/
theorem made_i {w w' : World} {n : Nat} {base : Nat} (h : w'.ownsRow base 47 8 (.slice (some ⟨w.heap.size, 0, none⟩) 0 n) 0 []) : OwnI w' base (.slice (some ⟨w.heap.size, 0, none⟩) 0 n) [] := h
end Go.Proofs.YthfkmackodbmkaaGreatDoor
