/- Slices of numbers of 64 bits as plain lists: what reads as one, what the call itself has made, what append does to it. -/
import Derived.Test.YtknkmblacaaegaaDoorShaRot
import Derived.StillTailTactics
import Derived.BigQuiet
import Derived.Deep.DeepCutAuto
namespace Go.Proofs.YtknkmblacaaegaaDoor
open Go.RowKit
set_option linter.unusedVariables false
set_option linter.unusedSimpArgs false

def qv (l : List Nat) : List Value := l.map fun n => Value.int .u64 (n : Nat)
theorem qv_length (l : List Nat) : (qv l).length = l.length := by simp [qv]
theorem qv_append (a b : List Nat) : qv (a ++ b) = qv a ++ qv b := by simp [qv]
theorem qv_get {l : List Nat} {j : Nat} (h : j < l.length) : (qv l)[j]? = some (.int .u64 (wth l j : Nat)) := by
  simp [qv, wth, List.getD, h]
theorem qv_oneCell (l : List Nat) : ∀ u ∈ qv l, u.oneCell' = true := by
  intro u hu
  simp only [qv, List.mem_map] at hu
  obtain ⟨n, _, rfl⟩ := hu
  rfl
theorem u64info : ∃ i, Tryd.prog.info? 71 = some i ∧ i.zero = some (.int .u64 0) ∧ i.size = 1 ∧ i.bytes = 8 :=
  info_parts (by kernel_rfl : (Tryd.prog.info? 71).map (fun i => (i.zero, i.size, i.bytes)) = some (some (.int .u64 0), 1, 8))

/-- v reads as the numbers l. -/
def Qs (w : World) (v : Value) (l : List Nat) : Prop :=
  ∃ (ao : Option Addr) (cap : Nat), v = .slice ao l.length cap ∧ l.length ≤ cap ∧ cap ≤ maxLen ∧ (ao = none → cap = 0) ∧ ∀ a, ao = some a → ∀ j, j < l.length → w.cell? (a.add j) = some (.int .u64 (wth l j : Nat))
theorem Qs.nil (w : World) : Qs w (.slice none 0 0) [] := ⟨none, 0, rfl, Nat.le_refl _, Nat.zero_le _, fun _ => rfl, fun _ h => by cases h⟩
theorem Qs.at {w : World} {v : Value} {l : List Nat} (h : Qs w v l) (hl : 0 < l.length) :
    ∃ b off cap, v = .slice (some ⟨b, off, none⟩) l.length cap ∧ l.length ≤ cap ∧ cap ≤ maxLen ∧ b < w.heap.size ∧ ∀ j, j < l.length → w.cell? ⟨b, off + j, none⟩ = some (.int .u64 (wth l j : Nat)) := by
  obtain ⟨ao, cap, rfl, h1, h2, h3, h4⟩ := h
  cases ao with
  | none => have := h3 rfl; omega
  | some a =>
    have h0 := h4 a rfl 0 hl
    obtain ⟨b, off, s⟩ := a
    have hs : s = none := by simpa [Addr.add] using World.cell?_spot h0
    subst hs
    refine ⟨b, off, cap, rfl, h1, h2, World.block_lt_of_cell? w _ h0, fun j hj => ?_⟩
    rw [← add_none]; exact h4 _ rfl j hj
theorem Qs.shape {w : World} {v : Value} {l : List Nat} (h : Qs w v l) : ∃ ao cap, v = .slice ao l.length cap := by
  obtain ⟨ao, cap, hv, _⟩ := h; exact ⟨ao, cap, hv⟩
theorem Qs.past {w w' : World} {v : Value} {l : List Nat} (h : Qs w v l) (hb : Below w.heap.size w w') : Qs w' v l := by
  obtain ⟨ao, cap, rfl, h1, h2, h3, h4⟩ := h
  refine ⟨ao, cap, rfl, h1, h2, h3, fun a ha j hj => ?_⟩
  have h0 := h4 a ha j hj
  exact (hb.cell (p := a.add j) (World.block_lt_of_cell? w _ h0)).trans h0
theorem Qs.alloc {w : World} {v : Value} {l : List Nat} (h : Qs w v l) (o : Obj) : Qs (w.alloc o) v l := h.past (alloc_below w o)
theorem Qs.drewN {w : World} {v : Value} {l : List Nat} (h : Qs w v l) (n : Nat) : Qs (w.drewN n) v l := by
  obtain ⟨ao, cap, rfl, h1, h2, h3, h4⟩ := h
  exact ⟨ao, cap, rfl, h1, h2, h3, fun a ha j hj => by simpa using h4 a ha j hj⟩
/-- The first n of them. -/
theorem Qs.take {w : World} {ao : Option Addr} {m cap : Nat} {l : List Nat} (h : Qs w (.slice ao m cap) l) {n : Nat} (hn : n ≤ l.length) : Qs w (.slice ao n cap) (l.take n) := by
  obtain ⟨ao', cap', hv, h1, h2, h3, h4⟩ := h
  cases hv
  have hlen : (l.take n).length = n := by simp; omega
  refine ⟨ao, cap, by rw [hlen], by omega, h2, h3, fun a ha j hj => ?_⟩
  rw [hlen] at hj
  have e : wth (l.take n) j = wth l j := by unfold wth; simp [List.getD, hj]
  rw [e]; exact h4 a ha j (by omega)
theorem Qs.of_owns {w : World} {base e : Nat} {v : Value} {n : Nat} {l : List Nat} (h : w.ownsRow base e 1 v n (qv l)) : Qs w v l := by
  obtain ⟨h1, h2⟩ := h
  rw [qv_length] at h1
  obtain rfl : n = l.length := by omega
  rcases h2 with ⟨rfl, hn⟩ | ⟨g, cap, cur, rfl, hb, hg, hn, hc, hs, ht⟩
  · obtain rfl : l = [] := List.eq_nil_of_length_eq_zero hn
    exact Qs.nil w
  · refine ⟨_, cap, rfl, hn, hc, fun h => (by cases h), fun a ha j hj => ?_⟩
    cases ha
    rw [add_none, cell_of_row w g (0 + j) cur e (0, 0) hg]
    have : (cur.toList.take (l.length * 1))[j]? = some (.int .u64 (wth l j : Nat)) := by rw [ht]; exact qv_get hj
    rw [List.getElem?_take, if_pos (by omega)] at this
    simpa using this

/-- v is a row of the numbers l that was made behind world w0. -/
def OwnQ (w : World) (base : Nat) (v : Value) (l : List Nat) : Prop := w.ownsRow base 71 1 v l.length (qv l)
theorem OwnQ.qs {w : World} {base : Nat} {v : Value} {l : List Nat} (h : OwnQ w base v l) : Qs w v l := Qs.of_owns h
theorem OwnQ.kept {w w' : World} {base : Nat} {v : Value} {l : List Nat} {row : Option Nat} (h : OwnQ w base v l) (hg : w.grownBy w' row) (hne : v.ownBlock = none ∨ v.ownBlock ≠ row) : OwnQ w' base v l := World.ownsRow.kept h hg hne
theorem OwnQ.alloc {w : World} {base : Nat} {v : Value} {l : List Nat} (h : OwnQ w base v l) (o : Obj) : OwnQ (w.alloc o) base v l := World.ownsRow.alloc h o
theorem OwnQ.nil (w : World) (base : Nat) : OwnQ w base (.slice none 0 0) [] := World.ownsRow_nil _ _ _ _
theorem OwnQ.lt {w : World} {base : Nat} {v : Value} {l : List Nat} (h : OwnQ w base v l) : ∀ k, v.ownBlock = some k → base ≤ k ∧ k < w.heap.size := World.ownsRow.lt h
theorem OwnQ.drewN {w : World} {base : Nat} {v : Value} {l : List Nat} (h : OwnQ w base v l) (n : Nat) : OwnQ (w.drewN n) base v l := h
theorem OwnQ.below {w w' : World} {base B : Nat} {v : Value} {l : List Nat} (h : OwnQ w base v l) (hb : Below B w w') (hB : w.heap.size ≤ B) : OwnQ w' base v l :=
  h.kept (row := none) ⟨hb.os, hb.tape, hb.output, hb.size, fun k hk _ => hb.block k (by omega)⟩ (by cases v.ownBlock <;> simp)
theorem OwnQ.past {w w' : World} {base : Nat} {v : Value} {l : List Nat} (h : OwnQ w base v l) (hb : Below w.heap.size w w') : OwnQ w' base v l := h.below hb (Nat.le_refl _)
theorem OwnQ.mono {w : World} {base base' : Nat} {v : Value} {l : List Nat} (h : OwnQ w base v l) (hb : base' ≤ base) : OwnQ w base' v l := by
  refine ⟨h.1, ?_⟩
  rcases h.2 with hn | ⟨g, cap, cur, rfl, hb', rest⟩
  · exact .inl hn
  · exact .inr ⟨g, cap, cur, rfl, Nat.le_trans hb hb', rest⟩
theorem OwnQ.slen {w : World} {base g n c : Nat} {l : List Nat} (h : OwnQ w base (.slice (some ⟨g, 0, none⟩) n c) l) : n = l.length := by
  obtain ⟨ao, cap, hv⟩ := h.qs.shape
  cases hv; rfl
/-- Row v: its i-th number is written. -/
theorem OwnQ.stored {w : World} {base g n c : Nat} {l : List Nat} (h : OwnQ w base (.slice (some ⟨g, 0, none⟩) n c) l) (i : Nat) (x : Nat) : OwnQ (w.setCell ⟨g, i, none⟩ (.int .u64 (x : Nat))) base (.slice (some ⟨g, 0, none⟩) n c) (l.set i x) := by
  obtain rfl := h.slen
  have := (World.ownsRow.stored h i (.int .u64 (x : Nat))).1
  unfold OwnQ
  rw [List.length_set]
  simpa [qv, List.map_set] using this
/-- What is not empty heads a block. -/
theorem OwnQ.pos {w : World} {base : Nat} {v : Value} {l : List Nat} (h : OwnQ w base v l) (hl : 0 < l.length) : ∃ g c, v = .slice (some ⟨g, 0, none⟩) l.length c ∧ base ≤ g ∧ g < w.heap.size ∧ (∀ i, w.frozen? ⟨g, i, none⟩ = false) ∧ ∀ j, j < l.length → w.cell? ⟨g, j, none⟩ = some (.int .u64 (wth l j : Nat)) := by
  rcases h.2 with ⟨h1, h2⟩ | ⟨g, cap, cur, rfl, hb, hg, hn, hc, hs, ht⟩
  · omega
  · refine ⟨g, cap, rfl, hb, (Array.getElem?_eq_some_iff.1 hg).1, fun i => by simp [World.frozen?, hg], fun j hj => ?_⟩
    obtain ⟨_, _, hv, _, _, _, h4⟩ := h.qs
    cases hv
    have := h4 _ rfl j hj
    rw [add_none, Nat.zero_add] at this
    exact this
theorem ownq_lit (w : World) (base : Nat) (h : base ≤ w.heap.size) (l : List Nat) (hl : l.length ≤ 1000) : OwnQ (w.alloc (.cells (qv l).toArray 71)) base (.slice (some ⟨w.heap.size, 0, none⟩) l.length l.length) l :=
  ⟨by simp [qv], .inr ⟨w.heap.size, l.length, (qv l).toArray, rfl, h, heap_alloc_new w _, Nat.le_refl _, by unfold maxLen; omega, by simp [qv], by
    simp only [Nat.mul_one]
    rw [List.take_of_length_le (by simp [qv])]⟩⟩

/-- append, to a row of the call's own, of whatever numbers. -/
theorem wpList_append_q (w : World) {ops : Array Oper} {rest : List Oper} {o : Oper} {a : Act} {Q : Exit → Act → World → Prop} (hgd : o.guard = none) (s x : Operand)
    (ho : o.op = .call { callee := .builtin .append, args := #[s, x], argTypes := #[75, 75] })
    (base : Nat) (v : Value) (xs : List Nat) (hs : a.eval s = v) (hown : OwnQ w base v xs) (u : Value) (ys : List Nat) (hx : a.eval x = u) (hu : Qs w u ys) (hpos : 0 < ys.length)
    (hlen : xs.length + ys.length ≤ 1000000) (hbase : base ≤ w.heap.size)
    (h : ∀ v' w', OwnQ w' base v' (xs ++ ys) → w.grownBy w' v.ownBlock → wpList Tryd.prog ops Q rest (a.put o.dst v') w') : wpList Tryd.prog ops Q (o :: rest) a w := by
  obtain ⟨i, hi, hz, hs1, hb1⟩ := u64info
  obtain ⟨b, off, cap, rfl, -, -, -, cells⟩ := hu.at hpos
  refine wpList_append_own w hgd s x 75 ho base 71 i (.int .u64 0) 1 8 Tryd.underlying75 hi hz hs1 hb1 rfl (by decide) v _ _ hs hown ⟨b, off, none⟩ ys.length cap (qv ys) hx (by simp [qv])
    (fun j u hj => ?_) (qv_oneCell _) (by unfold maxLen; omega) (by omega) hbase (fun v' w' ho' hg _ => h v' w' ?_ hg)
  · have hjl : j < ys.length := by
      have := (List.getElem?_eq_some_iff.1 hj).1
      simpa [qv] using this
    rw [qv_get hjl] at hj
    cases hj
    rw [add_none]
    exact cells j hjl
  · unfold OwnQ
    rw [List.length_append, qv_append]
    exact ho'
/-- .. inside a region that draws its order. -/
theorem step_append_q {w : World} {ops : Array Oper} {o : Oper} {a : Act} {K : Act → World → Prop} {Q : Exit → Act → World → Prop} {E : Prop} (hgd : o.guard = none) (s x : Operand)
    (ho : o.op = .call { callee := .builtin .append, args := #[s, x], argTypes := #[75, 75] })
    (base : Nat) (v : Value) (xs : List Nat) (hs : a.eval s = v) (hown : OwnQ w base v xs) (u : Value) (ys : List Nat) (hx : a.eval x = u) (hu : Qs w u ys) (hpos : 0 < ys.length)
    (hlen : xs.length + ys.length ≤ 1000000) (hbase : base ≤ w.heap.size)
    (h : ∀ v' w', OwnQ w' base v' (xs ++ ys) → w.grownBy w' v.ownBlock → K (a.put o.dst v') w') :
    if Region.wanted o (yielded ops a.tmps) = true then Oper.wp Tryd.prog o a w K Q else E := by
  have hw : Region.wanted o (yielded ops a.tmps) = true := by simp [Region.wanted, hgd]
  rw [if_pos hw]
  obtain ⟨i, hi, hz, hs1, hb1⟩ := u64info
  obtain ⟨b, off, cap, rfl, -, -, -, cells⟩ := hu.at hpos
  refine wp_append_own w s x 75 ho base 71 i (.int .u64 0) 1 8 Tryd.underlying75 hi hz hs1 hb1 rfl (by decide) v _ _ hs hown ⟨b, off, none⟩ ys.length cap (qv ys) hx (by simp [qv])
    (fun j u hj => ?_) (qv_oneCell _) (by unfold maxLen; omega) (by omega) hbase (fun v' w' ho' hg _ => h v' w' ?_ hg)
  · have hjl : j < ys.length := by
      have := (List.getElem?_eq_some_iff.1 hj).1
      simpa [qv] using this
    rw [qv_get hjl] at hj
    cases hj
    rw [add_none]
    exact cells j hjl
  · unfold OwnQ
    rw [List.length_append, qv_append]
    exact ho'
theorem madeq {w : World} {base n : Nat} {v : Value} (h : w.ownsRow base 71 1 v n (madeCells #[Value.int .u64 0] n).toList) : OwnQ w base v (List.replicate n 0) := by
  have e : (madeCells #[Value.int .u64 0] n).toList = qv (List.replicate n 0) := by
    simp [madeCells, Value.cells, qv, Nat.mod_one, List.map_const']
  rw [e] at h
  unfold OwnQ
  rw [List.length_replicate]
  exact h

/-- e returns a row of n numbers; nothing that was there has turned. -/
def ShapedQ (n : Nat) (l : List Nat) (w : World) (e : Ending) (w' : World) : Prop := ∃ ao cap, e = .returned (.slice ao n cap) ∧ OwnQ w' w.heap.size (.slice ao n cap) l ∧ Below w.heap.size w w'

theorem mask32 {x : Nat} (h : x < 18446744073709551616) : bits .and .u64 (x : Int) 4294967295 = ((x % 4294967296 : Nat) : Int) := by
  rw [show (4294967295 : Int) = ((4294967295 : Nat) : Int) from rfl, Go.u64_and_nat _ _ h (by decide), show (4294967295 : Nat) = 2 ^ 32 - 1 from rfl, Nat.and_two_pow_sub_one_eq_mod]
theorem rot_ref {x n : Nat} (h : x < 4294967296) (hn : n ≤ 32) : bits .and .u64 (bits .or .u64 ((x : Int) / 2 ^ n) ((x : Int) * 2 ^ (32 - n))) 4294967295 = ((rotr n x : Nat) : Int) := by
  have hp : 2 ^ (32 - n) ≤ 4294967296 := Nat.pow_le_pow_right (n := 2) (by decide) (show 32 - n ≤ 32 by omega)
  have hm : x * 2 ^ (32 - n) < 18446744073709551616 := by
    have := Nat.mul_lt_mul_of_lt_of_le h hp (by decide)
    omega
  have hd : x / 2 ^ n < 4294967296 := Nat.lt_of_le_of_lt (Nat.div_le_self _ _) h
  have e1 : (x : Int) * 2 ^ (32 - n) = ((x * 2 ^ (32 - n) : Nat) : Int) := by simp
  have e2 : (x : Int) / 2 ^ n = ((x / 2 ^ n : Nat) : Int) := by simp
  rw [e1, e2, Go.u64_or_nat _ _ (by omega) hm, mask32 (Nat.or_lt_two_pow (n := 64) (by omega) hm), show (4294967296 : Nat) = 2 ^ 32 from rfl, Nat.or_mod_two_pow, Nat.or_comm]
  unfold rotr
  rw [show (4294967296 : Nat) = 2 ^ 32 from rfl, Nat.mod_eq_of_lt (a := x / 2 ^ n) hd]
set_option maxHeartbeats 1000000 in
theorem refTurned (x n : Nat) (k : Int) (w : World) (h : x < 4294967296) (hn : Turn n) (hk : k = (n : Int)) :
    Calls Tryd.prog 34 #[.int .u64 x, .int .u64 k] w fun e w' => w = w' ∧ e = .returned (.int .u64 (rotr n x : Nat)) := by
  have E := rot_ref (n := n) h (by unfold Turn at hn; omega)
  rcases hn with rfl | rfl | rfl | rfl | rfl | rfl | rfl | rfl | rfl | rfl
  all_goals
    simp only [Nat.reducePow, Nat.reduceSub, Int.reducePow] at E
    have HE := Lib.hid E
    clear E
    simp only [Int.cast_ofNat_Int] at hk
    subst hk
    go_enter Tryd.func34, Tryd.ntmps34
    go_wp2
    go_ret
    refine ⟨rfl, ret_u64 ?_⟩
    exact HE.out
theorem refMoved (x : Nat) (k : Int) (w : World) (h : x < 4294967296) (hk : k = 3 ∨ k = 10) :
    Calls Tryd.prog 63 #[.int .u64 x, .int .u64 k] w fun e w' => w = w' ∧ e = .returned (.int .u64 ((x / 2 ^ k.toNat : Nat) : Int)) := by
  rcases hk with rfl | rfl
  all_goals
    go_enter Tryd.func63, Tryd.ntmps63
    go_wp2
    go_ret
    refine ⟨rfl, ret_u64 ?_⟩
    simp
end Go.Proofs.YtknkmblacaaegaaDoor
