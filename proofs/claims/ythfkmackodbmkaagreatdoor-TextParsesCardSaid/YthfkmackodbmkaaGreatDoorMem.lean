/- Slices of bytes as plain lists: what reads as a list of bytes; what the call itself has made; worlds that differ in draws alone. -/
import Derived.Test.YthfkmackodbmkaaGreatDoorRows
import Derived.WalkKit
import Derived.OwnWalk
import Derived.Below
import Derived.Lib.Hide
import Derived.Deep.QuietTactic
import Derived.Laws.AppendOwnNone
namespace Go.Proofs.YthfkmackodbmkaaGreatDoor
open Go.RowKit
set_option linter.unusedVariables false

def nth (l : List Int) (j : Nat) : Int := l.getD j 0
def bv (l : List Int) : List Value := l.map (Value.int .u8)
/-- Each is a byte. -/
def Oct (l : List Int) : Prop := ∀ n ∈ l, 0 ≤ n ∧ n < 256

theorem nth_of {l : List Int} {j : Nat} (h : j < l.length) : nth l j = l[j] := by unfold nth; simp [List.getD, h]
theorem nth_past {l : List Int} {j : Nat} (h : l.length ≤ j) : nth l j = 0 := by unfold nth; simp [List.getD, h]
theorem Oct.nth {l : List Int} (h : Oct l) {j : Nat} (hj : j < l.length) : 0 ≤ nth l j ∧ nth l j < 256 := by
  rw [nth_of hj]; exact h _ (List.getElem_mem hj)
theorem Oct.nil : Oct [] := fun _ h => by cases h
theorem Oct.append {a b : List Int} (ha : Oct a) (hb : Oct b) : Oct (a ++ b) := fun n h => (List.mem_append.1 h).elim (ha n) (hb n)
theorem Oct.take {l : List Int} (h : Oct l) (n : Nat) : Oct (l.take n) := fun x hx => h x (List.mem_of_mem_take hx)
theorem Oct.drop {l : List Int} (h : Oct l) (n : Nat) : Oct (l.drop n) := fun x hx => h x (List.mem_of_mem_drop hx)
theorem nth_append_left {a b : List Int} {j : Nat} (h : j < a.length) : nth (a ++ b) j = nth a j := by
  unfold nth; simp [List.getD, List.getElem?_append_left h]
theorem nth_append_right {a b : List Int} {j : Nat} (h : a.length ≤ j) : nth (a ++ b) j = nth b (j - a.length) := by
  unfold nth; simp [List.getD, List.getElem?_append_right h]
theorem nth_take {l : List Int} {n j : Nat} (h : j < n) : nth (l.take n) j = nth l j := by
  unfold nth; simp [List.getD, h]
theorem nth_drop {l : List Int} {n j : Nat} : nth (l.drop n) j = nth l (n + j) := by
  unfold nth; simp [List.getD, List.getElem?_drop]
theorem list_ext {a b : List Int} (hl : a.length = b.length) (h : ∀ j, j < a.length → nth a j = nth b j) : a = b := by
  apply List.ext_getElem hl
  intro i h1 h2
  have := h i h1
  rwa [nth_of h1, nth_of h2] at this
theorem length_bv (l : List Int) : (bv l).length = l.length := by simp [bv]
theorem bv_append (a b : List Int) : bv (a ++ b) = bv a ++ bv b := by simp [bv]
theorem bv_take (a : List Int) (n : Nat) : (bv a).take n = bv (a.take n) := by simp [bv, List.map_take]
theorem bv_get {l : List Int} {j : Nat} (h : j < l.length) : (bv l)[j]? = some (.int .u8 (nth l j)) := by
  simp [bv, h, nth_of h]
theorem bv_oneCell (l : List Int) : ∀ u ∈ bv l, u.oneCell' = true := by
  intro u hu
  simp only [bv, List.mem_map] at hu
  obtain ⟨n, _, rfl⟩ := hu
  rfl

theorem add_none (b off j : Nat) : (⟨b, off, none⟩ : Addr).add j = ⟨b, off + j, none⟩ := by
  unfold Addr.add
  split
  · rename_i h; subst h; rfl
  · rfl

/-- v reads as the bytes l. -/
def Bs (w : World) (v : Value) (l : List Int) : Prop :=
  ∃ (ao : Option Addr) (cap : Nat), v = .slice ao l.length cap ∧ l.length ≤ cap ∧ cap ≤ maxLen ∧ (ao = none → cap = 0) ∧ ∀ a, ao = some a → ∀ j, j < l.length → w.cell? (a.add j) = some (.int .u8 (nth l j))

theorem Bs.nil (w : World) : Bs w (.slice none 0 0) [] := ⟨none, 0, rfl, Nat.le_refl _, Nat.zero_le _, fun _ => rfl, fun _ h => by cases h⟩

/-- What is not empty stands at an address. -/
theorem Bs.at {w : World} {v : Value} {l : List Int} (h : Bs w v l) (hl : 0 < l.length) :
    ∃ b off cap, v = .slice (some ⟨b, off, none⟩) l.length cap ∧ l.length ≤ cap ∧ cap ≤ maxLen ∧ b < w.heap.size ∧ ∀ j, j < l.length → w.cell? ⟨b, off + j, none⟩ = some (.int .u8 (nth l j)) := by
  obtain ⟨ao, cap, rfl, h1, h2, h3, h4⟩ := h
  cases ao with
  | none => have := h3 rfl; omega
  | some a =>
    have h0 := h4 a rfl 0 hl
    obtain ⟨b, off, s⟩ := a
    have hs : s = none := by simpa [Addr.add] using World.cell?_spot h0
    subst hs
    refine ⟨b, off, cap, rfl, h1, h2, World.block_lt_of_cell? w _ h0, fun j hj => ?_⟩
    rw [← add_none]; exact h4 _ rfl j hj

/-- What stands at an address reads. -/
theorem Bs.mk {w : World} {l : List Int} {b off cap : Nat} (h1 : l.length ≤ cap) (h2 : cap ≤ maxLen) (h : ∀ j, j < l.length → w.cell? ⟨b, off + j, none⟩ = some (.int .u8 (nth l j))) : Bs w (.slice (some ⟨b, off, none⟩) l.length cap) l :=
  ⟨some ⟨b, off, none⟩, cap, rfl, h1, h2, (fun h => by cases h), fun a ha j hj => by cases ha; rw [add_none]; exact h j hj⟩

theorem Bs.shape {w : World} {v : Value} {l : List Int} (h : Bs w v l) : ∃ ao cap, v = .slice ao l.length cap := by
  obtain ⟨ao, cap, hv, _⟩ := h; exact ⟨ao, cap, hv⟩

theorem Bs.len {w : World} {v : Value} {l : List Int} (h : Bs w v l) : l.length ≤ 9223372036854775807 := by
  obtain ⟨ao, cap, rfl, h1, h2, _⟩ := h; unfold maxLen at h2; omega

/-- The block that v stands in, if it is not empty. -/
def Under (B : Nat) (v : Value) : Prop := ∀ a n cap, v = .slice (some a) n cap → 0 < n → a.block < B

theorem Bs.under {w : World} {v : Value} {l : List Int} (h : Bs w v l) : Under w.heap.size v := by
  intro a n cap hv hn
  obtain ⟨ao, c, rfl, h1, h2, h3, h4⟩ := h
  cases hv
  have := World.block_lt_of_cell? w _ (h4 a rfl 0 hn)
  rwa [show a.add 0 = a from rfl] at this

theorem Under.mono {B B' : Nat} {v : Value} (h : Under B v) (hB : B ≤ B') : Under B' v := fun a n cap hv hn => Nat.lt_of_lt_of_le (h a n cap hv hn) hB

theorem block_of_add (a : Addr) (j : Nat) : (a.add j).block = a.block := by unfold Addr.add; split <;> rfl

/-- What lies under B reads as it did, where below B nothing has turned. -/
theorem Bs.below {B : Nat} {w w' : World} {v : Value} {l : List Int} (h : Bs w v l) (hu : Under B v) (hb : Below B w w') : Bs w' v l := by
  obtain ⟨ao, cap, rfl, h1, h2, h3, h4⟩ := h
  refine ⟨ao, cap, rfl, h1, h2, h3, fun a ha j hj => ?_⟩
  subst ha
  have := hu a _ _ rfl (by omega)
  rw [hb.cell (p := a.add j) (by rw [block_of_add]; exact this)]
  exact h4 a rfl j hj

/-- .. at once, where nothing that was there has turned. -/
theorem Bs.past {w w' : World} {v : Value} {l : List Int} (h : Bs w v l) (hb : Below w.heap.size w w') : Bs w' v l := h.below h.under hb

theorem Bs.drewN {w : World} {v : Value} {l : List Int} (h : Bs w v l) (n : Nat) : Bs (w.drewN n) v l := by
  obtain ⟨ao, cap, rfl, h1, h2, h3, h4⟩ := h
  exact ⟨ao, cap, rfl, h1, h2, h3, fun a ha j hj => by simpa using h4 a ha j hj⟩

/-- The first n of them, of whatever capacity. -/
theorem Bs.take {w : World} {ao : Option Addr} {m cap : Nat} {l : List Int} (h : Bs w (.slice ao m cap) l) {n : Nat} (hn : n ≤ l.length) : Bs w (.slice ao n cap) (l.take n) := by
  obtain ⟨ao', cap', hv, h1, h2, h3, h4⟩ := h
  cases hv
  have hlen : (l.take n).length = n := by simp; omega
  refine ⟨ao, cap, by rw [hlen], by omega, h2, h3, fun a ha j hj => ?_⟩
  rw [nth_take (by omega)]; exact h4 a ha j (by omega)

/-- What is left behind the first n. -/
theorem Bs.drop {w : World} {ao : Option Addr} {m cap : Nat} {l : List Int} (h : Bs w (.slice ao m cap) l) {n : Nat} (hn : n ≤ l.length) : Bs w (.slice (if cap - n = 0 then ao else ao.map (·.add n)) (m - n) (cap - n)) (l.drop n) := by
  obtain ⟨ao', cap', hv, h1, h2, h3, h4⟩ := h
  cases hv
  have hlen : (l.drop n).length = l.length - n := by simp
  by_cases hc : cap - n = 0
  · rw [if_pos hc]
    refine ⟨ao, cap - n, by rw [hlen], by omega, by omega, fun h => by omega, fun a ha j hj => by omega⟩
  · rw [if_neg hc]
    refine ⟨_, cap - n, by rw [hlen], by omega, by omega, fun h => ?_, fun a ha j hj => ?_⟩
    · cases ao with
      | none => have := h3 rfl; omega
      | some a => cases h
    · cases ao with
      | none => cases ha
      | some a0 =>
        cases ha
        rw [nth_drop]
        have := h4 a0 rfl (n + j) (by omega)
        rwa [show (a0.add n).add j = a0.add (n + j) from ?_]
        unfold Addr.add
        split <;> split <;> (try split) <;> simp_all <;> omega

/-- A row of the call's own reads. -/
theorem Bs.of_owns {w : World} {base e : Nat} {v : Value} {n : Nat} {l : List Int} (h : w.ownsRow base e 1 v n (bv l)) : Bs w v l := by
  obtain ⟨h1, h2⟩ := h
  rw [length_bv] at h1
  obtain rfl : n = l.length := by omega
  rcases h2 with ⟨rfl, hn⟩ | ⟨g, cap, cur, rfl, hb, hg, hn, hc, hs, ht⟩
  · obtain rfl : l = [] := List.eq_nil_of_length_eq_zero hn
    exact Bs.nil w
  · refine Bs.mk hn hc fun j hj => ?_
    rw [cell_of_row w g (0 + j) cur e (0, 0) hg]
    have : (cur.toList.take (l.length * 1))[j]? = some (.int .u8 (nth l j)) := by rw [ht]; exact bv_get hj
    rw [List.getElem?_take, if_pos (by omega)] at this
    simpa using this

/-- w' is w, but for draws. -/
def Still (w w' : World) : Prop := ∃ n, w' = w.drewN n
theorem Still.refl (w : World) : Still w w := ⟨0, rfl⟩
theorem Still.drewN {w w' : World} (h : Still w w') (n : Nat) : Still w (w'.drewN n) := by
  obtain ⟨m, rfl⟩ := h; exact ⟨m + n, by rw [World.drewN_drewN]⟩
theorem Still.trans {a b c : World} (h : Still a b) (k : Still b c) : Still a c := by
  obtain ⟨n, rfl⟩ := k; exact h.drewN n
theorem Still.below {w w' : World} (h : Still w w') (B : Nat) : Below B w w' := by
  obtain ⟨n, rfl⟩ := h
  exact ⟨rfl, rfl, rfl, Nat.le_refl _, fun k _ => rfl⟩
theorem Still.bs {w w' : World} (h : Still w w') {v : Value} {l : List Int} (hb : Bs w v l) : Bs w' v l := by
  obtain ⟨n, rfl⟩ := h; exact hb.drewN n
theorem Still.cell {w w' : World} (h : Still w w') (a : Addr) : w'.cell? a = w.cell? a := by
  obtain ⟨n, rfl⟩ := h; simp
theorem Still.heap {w w' : World} (h : Still w w') : w'.heap = w.heap := by
  obtain ⟨n, rfl⟩ := h; simp

/-- e returns v; the world differs in draws alone. -/
def Tells (v : Value) (w : World) (e : Ending) (w' : World) : Prop := e = .returned v ∧ Still w w'
theorem ret_bool {a b : Bool} (h : a = b) : Ending.returned (.bool a) = .returned (.bool b) := by rw [h]
theorem ret_int {k : IntKind} {a b : Int} (h : a = b) : Ending.returned (.int k a) = .returned (.int k b) := by rw [h]

theorem u8info : ∃ i, Tryz.prog.info? 5 = some i ∧ i.zero = some (.int .u8 0) ∧ i.size = 1 ∧ i.bytes = 1 :=
  info_parts (by kernel_rfl : (Tryz.prog.info? 5).map (fun i => (i.zero, i.size, i.bytes)) = some (some (.int .u8 0), 1, 1))

/-- v is a row of the bytes l that was made behind world w0: nil, or the head of a block from base on. -/
def Own (w : World) (base : Nat) (v : Value) (l : List Int) : Prop := w.ownsRow base 5 1 v l.length (bv l)

theorem Own.bs {w : World} {base : Nat} {v : Value} {l : List Int} (h : Own w base v l) : Bs w v l := Bs.of_owns h

/-- append, to a row of the call's own, of whatever bytes. -/
theorem wpList_append_bs (w : World) {ops : Array Oper} {rest : List Oper} {o : Oper} {a : Act} {Q : Exit → Act → World → Prop} (hgd : o.guard = none) (s x : Operand)
    (ho : o.op = .call { callee := .builtin .append, args := #[s, x], argTypes := #[42, 42] })
    (base : Nat) (v : Value) (xs : List Int) (hs : a.eval s = v) (hown : Own w base v xs) (u : Value) (ys : List Int) (hx : a.eval x = u) (hu : Bs w u ys)
    (hlen : xs.length + ys.length ≤ 140737488355328) (hbase : base ≤ w.heap.size)
    (h : ∀ v' w', Own w' base v' (xs ++ ys) → w.grownBy w' v.ownBlock → wpList Tryz.prog ops Q rest (a.put o.dst v') w') : wpList Tryz.prog ops Q (o :: rest) a w := by
  obtain ⟨i, hi, hz, hs1, hb1⟩ := u8info
  obtain ⟨ao, cap, rfl, h1, h2, h3, h4⟩ := hu
  have hm : xs.length + ys.length ≤ maxLen := by unfold maxLen; omega
  cases ao with
  | none =>
    obtain rfl : cap = 0 := h3 rfl
    obtain rfl : ys = [] := List.eq_nil_of_length_eq_zero (by omega)
    refine wpList_append_own_none hgd s x 42 ho base 5 i 1 Tryz.underlying42 hi v _ _ hs hown hx ?_
    refine h v w ?_ ⟨rfl, rfl, rfl, Nat.le_refl _, fun _ _ _ => rfl⟩
    rw [List.append_nil]; exact hown
  | some ad =>
    refine wpList_append_own w hgd s x 42 ho base 5 i (.int .u8 0) 1 1 Tryz.underlying42 hi hz hs1 hb1 rfl (by decide) v _ _ hs hown ad ys.length cap (bv ys) hx (by simp [bv])
      (fun j u hj => ?_) (bv_oneCell _) hm (by omega) hbase (fun v' w' ho' hg _ => h v' w' ?_ hg)
    · have hjl : j < ys.length := by
        have := (List.getElem?_eq_some_iff.1 hj).1
        simpa [bv] using this
      rw [bv_get hjl] at hj
      cases hj
      exact h4 ad rfl j hjl
    · unfold Own
      rw [List.length_append, bv_append]
      exact ho'

/-- .. within its capacity. -/
theorem wpList_append_bs_fits (w : World) {ops : Array Oper} {rest : List Oper} {o : Oper} {a : Act} {Q : Exit → Act → World → Prop} (hgd : o.guard = none) (s x : Operand)
    (ho : o.op = .call { callee := .builtin .append, args := #[s, x], argTypes := #[42, 42] })
    (base g cap n m : Nat) (xs : List Int) (hn : xs.length = n) (hs : a.eval s = .slice (some ⟨g, 0, none⟩) n cap) (hown : Own w base (.slice (some ⟨g, 0, none⟩) n cap) xs) (u : Value) (ys : List Int) (hm : ys.length = m) (hx : a.eval x = u) (hu : Bs w u ys)
    (hfit : n + m ≤ cap)
    (h : ∀ w', Own w' base (.slice (some ⟨g, 0, none⟩) (n + m) cap) (xs ++ ys) → w.grownBy w' (some g) → wpList Tryz.prog ops Q rest (a.put o.dst (.slice (some ⟨g, 0, none⟩) (n + m) cap)) w') : wpList Tryz.prog ops Q (o :: rest) a w := by
  obtain ⟨i, hi, hz, hs1, hb1⟩ := u8info
  obtain ⟨ao, c, rfl, h1, h2, h3, h4⟩ := hu
  subst hn hm
  refine wpList_append_fits_any w hgd s x 42 ho base 5 i 1 Tryz.underlying42 hi hs1 g xs.length cap (bv xs) hs hown ao ys.length c (bv ys) hx (by simp [bv])
    (fun h => by have := h3 h; omega) (fun ad hd j u hj => ?_) (bv_oneCell _) hfit (fun w' ho' hg => ?_)
  · have hjl : j < ys.length := by
      have := (List.getElem?_eq_some_iff.1 hj).1
      simpa [bv] using this
    rw [bv_get hjl] at hj
    cases hj
    exact h4 ad hd j hjl
  · refine h w' ?_ hg
    unfold Own
    rw [List.length_append, bv_append]
    exact ho'

/-- What was owned is, where new blocks came and another row was written. -/
theorem Own.kept {w w' : World} {base : Nat} {v : Value} {l : List Int} {row : Option Nat} (h : Own w base v l) (hg : w.grownBy w' row) (hne : v.ownBlock = none ∨ v.ownBlock ≠ row) : Own w' base v l := World.ownsRow.kept h hg hne
theorem Own.alloc {w : World} {base : Nat} {v : Value} {l : List Int} (h : Own w base v l) (o : Obj) : Own (w.alloc o) base v l := World.ownsRow.alloc h o
theorem Own.nil (w : World) (base : Nat) : Own w base (.slice none 0 0) [] := World.ownsRow_nil _ _ _ _

theorem Own.lt {w : World} {base : Nat} {v : Value} {l : List Int} (h : Own w base v l) : ∀ k, v.ownBlock = some k → base ≤ k ∧ k < w.heap.size := World.ownsRow.lt h
theorem Own.drewN {w : World} {base : Nat} {v : Value} {l : List Int} (h : Own w base v l) (n : Nat) : Own (w.drewN n) base v l := h
theorem Own.mono {w : World} {base base' : Nat} {v : Value} {l : List Int} (h : Own w base v l) (hb : base' ≤ base) : Own w base' v l := by
  refine ⟨h.1, ?_⟩
  rcases h.2 with hn | ⟨g, cap, cur, rfl, hb', rest⟩
  · exact .inl hn
  · exact .inr ⟨g, cap, cur, rfl, Nat.le_trans hb hb', rest⟩
/-- .. where below B nothing has turned, and the row lies below B. -/
theorem Own.below {w w' : World} {base B : Nat} {v : Value} {l : List Int} (h : Own w base v l) (hb : Below B w w') (hB : w.heap.size ≤ B) : Own w' base v l :=
  h.kept (row := none) ⟨hb.os, hb.tape, hb.output, hb.size, fun k hk _ => hb.block k (by omega)⟩ (by cases v.ownBlock <;> simp)

/-- e returns a new row of the bytes l; what was there is as it was. -/
def Fresh (l : List Int) (w : World) (e : Ending) (w' : World) : Prop := ∃ v, e = .returned v ∧ Own w' w.heap.size v l ∧ Below w.heap.size w w'
end Go.Proofs.YthfkmackodbmkaaGreatDoor
