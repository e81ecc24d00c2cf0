/- What the lines that are gone through have told: in memory. -/
import Derived.Test.YthfkmackodbmkaaGreatDoorTextOne
namespace Go.Proofs.YthfkmackodbmkaaGreatDoor
open Go.RowKit Go.MapKept
set_option linter.unusedVariables false
set_option linter.unusedSimpArgs false
set_option maxRecDepth 100000
set_option maxHeartbeats 1000000

/-- Nothing has turned but where P says. -/
structure Turn (P : Nat → Prop) (w w' : World) : Prop where
  os : w'.os = w.os
  tape : w'.tape = w.tape
  output : w'.output = w.output
  size : w.heap.size ≤ w'.heap.size
  block : ∀ k, k < w.heap.size → ¬ P k → w'.heap[k]? = w.heap[k]?
theorem Turn.refl (P : Nat → Prop) (w : World) : Turn P w w := ⟨rfl, rfl, rfl, Nat.le_refl _, fun _ _ _ => rfl⟩
theorem Turn.trans {P : Nat → Prop} {w w' w'' : World} (h : Turn P w w') (h' : Turn P w' w'') : Turn P w w'' :=
  ⟨h'.os.trans h.os, h'.tape.trans h.tape, h'.output.trans h.output, Nat.le_trans h.size h'.size, fun k hk hn => (h'.block k (Nat.lt_of_lt_of_le hk h.size) hn).trans (h.block k hk hn)⟩
theorem Turn.of_grown {P : Nat → Prop} {w w' : World} {row : Option Nat} (h : w.grownBy w' row) (hp : ∀ k, row = some k → P k) : Turn P w w' :=
  ⟨h.os, h.tape, h.output, h.size, fun k hk hn => h.block k hk (fun e => hn (hp k e.symm))⟩
theorem Turn.of_below {P : Nat → Prop} {w w' : World} (h : Below w.heap.size w w') : Turn P w w' := ⟨h.os, h.tape, h.output, h.size, fun k hk _ => h.block k hk⟩
theorem Turn.below {P : Nat → Prop} {w w' : World} {B : Nat} (h : Turn P w w') (hB : B ≤ w.heap.size) (hp : ∀ k, k < B → ¬ P k) : Below B w w' :=
  ⟨h.os, h.tape, h.output, h.size, fun k hk => h.block k (by omega) (hp k hk)⟩
theorem Turn.mono {P Q : Nat → Prop} {w w' : World} (h : Turn P w w') (hp : ∀ k, P k → Q k) : Turn Q w w' := ⟨h.os, h.tape, h.output, h.size, fun k hk hn => h.block k hk (fun e => hn (hp k e))⟩

def jcells (j : Int × Int × Str) : List Value := [.int .i64 j.1, .int .i64 j.2.1, str j.2.2]
def jcl (l : List (Int × Int × Str)) : List Value := l.flatMap jcells
theorem jcl_append (a b : List (Int × Int × Str)) : jcl (a ++ b) = jcl a ++ jcl b := by simp [jcl]
theorem jcl_length (l : List (Int × Int × Str)) : (jcl l).length = l.length * 3 := by
  induction l with
  | nil => rfl
  | cons j l ih => simp only [jcl, List.flatMap_cons, List.length_append, List.length_cons] at ih ⊢; rw [ih]; simp [jcells]; omega
theorem jcl_get : ∀ (l : List (Int × Int × Str)) (k : Nat) (j : Int × Int × Str) (i : Nat), l[k]? = some j → i < 3 → (jcl l)[k * 3 + i]? = (jcells j)[i]?
  | [], _, _, _, h, _ => by simp at h
  | x :: l, 0, j, i, h, hi => by
    simp at h; subst h
    simp only [jcl, List.flatMap_cons, Nat.zero_mul, Nat.zero_add]
    rw [List.getElem?_append_left (by simpa [jcells] using hi)]
  | x :: l, k + 1, j, i, h, hi => by
    have := jcl_get l k j i (by simpa using h) hi
    simp only [jcl, List.flatMap_cons] at this ⊢
    rw [List.getElem?_append_right (by simp [jcells]; omega), ← this]
    congr 1
    simp [jcells]; omega
def OwnJ (w : World) (base : Nat) (v : Value) (l : List (Int × Int × Str)) : Prop := w.ownsRow base 132 3 v l.length (jcl l)
theorem jumpInfo : ∃ i, Tryz.prog.info? 132 = some i ∧ i.zero = some (.agg #[.int .i64 0, .int .i64 0, str []]) ∧ i.size = 3 ∧ i.bytes = 32 := ⟨_, rfl, rfl, rfl, rfl⟩
theorem OwnJ.kept {w w' : World} {base : Nat} {v : Value} {l : List (Int × Int × Str)} {row : Option Nat} (h : OwnJ w base v l) (hg : w.grownBy w' row) (hne : v.ownBlock = none ∨ v.ownBlock ≠ row) : OwnJ w' base v l := World.ownsRow.kept h hg hne
theorem OwnJ.shape {w : World} {base : Nat} {v : Value} {l : List (Int × Int × Str)} (h : OwnJ w base v l) : ∃ ao cap, v = .slice ao l.length cap := by
  rcases h.2 with ⟨rfl, h0⟩ | ⟨g, c, cur, rfl, _⟩
  · exact ⟨none, 0, by rw [h0]⟩
  · exact ⟨_, c, rfl⟩
theorem OwnJ.past {w w' : World} {base : Nat} {v : Value} {l : List (Int × Int × Str)} (h : OwnJ w base v l) (hb : Below w.heap.size w w') : OwnJ w' base v l :=
  h.kept (row := none) ⟨hb.os, hb.tape, hb.output, hb.size, fun k hk _ => hb.block k hk⟩ (by cases v.ownBlock <;> simp)
theorem OwnJ.at {w : World} {base : Nat} {ao : Option Addr} {n cap : Nat} {l : List (Int × Int × Str)} (h : OwnJ w base (.slice ao n cap) l) (hp : 0 < l.length) :
    ∃ g, ao = some ⟨g, 0, none⟩ ∧ base ≤ g ∧ n ≤ cap ∧ cap ≤ 9223372036854775807 ∧ ∀ k j, l[k]? = some j → w.cell? ⟨g, k * 3, none⟩ = some (.int .i64 j.1) ∧ w.cell? ⟨g, k * 3 + 1, none⟩ = some (.int .i64 j.2.1) ∧ w.cell? ⟨g, k * 3 + 2, none⟩ = some (str j.2.2) := by
  rcases h.2 with ⟨_, h0⟩ | ⟨g, c, cur, hv, hb, hg, hn, hc, hs, ht⟩
  · omega
  · cases hv
    unfold maxLen at hc
    refine ⟨g, rfl, hb, hn, hc, fun k j hj => ?_⟩
    have hk : k < l.length := (List.getElem?_eq_some_iff.1 hj).1
    have get : ∀ i, i < 3 → cur[k * 3 + i]? = (jcells j)[i]? := by
      intro i hi
      rw [← jcl_get l k j i hj hi, ← ht, List.getElem?_take, if_pos (by omega)]
      simp
    have g0 := get 0 (by omega)
    have g1 := get 1 (by omega)
    have g2 := get 2 (by omega)
    simp [jcells] at g0 g1 g2
    simp [World.cell?, hg, g0, g1, g2]
theorem step_append_j {w : World} {ops : Array Oper} {o : Oper} {a : Act} {K : Act → World → Prop} {Q : Exit → Act → World → Prop} {E : Prop} (hgd : o.guard = none) (s x : Operand)
    (ho : o.op = .call { callee := .builtin .append, args := #[s, x], argTypes := #[54, 54] })
    (base : Nat) (v : Value) (xs : List (Int × Int × Str)) (hs : a.eval s = v) (hown : OwnJ w base v xs) (b : Nat) (y : Int × Int × Str) (hx : a.eval x = .slice (some ⟨b, 0, none⟩) 1 1)
    (hy : w.cell? ⟨b, 0, none⟩ = some (.int .i64 y.1) ∧ w.cell? ⟨b, 1, none⟩ = some (.int .i64 y.2.1) ∧ w.cell? ⟨b, 2, none⟩ = some (str y.2.2))
    (hlen : xs.length ≤ 1000000000) (hbase : base ≤ w.heap.size)
    (h : ∀ v' w', OwnJ w' base v' (xs ++ [y]) → w.grownBy w' v.ownBlock → K (a.put o.dst v') w') :
    if Region.wanted o (yielded ops a.tmps) = true then Oper.wp Tryz.prog o a w K Q else E := by
  have hw : Region.wanted o (yielded ops a.tmps) = true := by simp [Region.wanted, hgd]
  rw [if_pos hw]
  obtain ⟨i, hi, hz, hs1, hb1⟩ := jumpInfo
  obtain ⟨v', w', hrun, ho', hg, _⟩ := run_append_own (w := w) base 54 o.type 132 i _ 3 32 Tryz.underlying54 hi hz hs1 hb1 rfl (by decide) v _ _ hown ⟨b, 0, none⟩ 1 1 (jcells y) rfl
    (fun j u hj => by
      match j, hj with
      | 0, hj => simp [jcells] at hj; subst hj; simpa [Addr.add] using hy.1
      | 1, hj => simp [jcells] at hj; subst hj; simpa [Addr.add] using hy.2.1
      | 2, hj => simp [jcells] at hj; subst hj; simpa [Addr.add] using hy.2.2) (fun u hu => by simp [jcells] at hu; rcases hu with rfl | rfl | rfl <;> rfl) (by unfold maxLen; omega) (by omega) hbase
  unfold Oper.wp
  simp [execOp, ho, resolve, invoke, builtin, hs, hx, hrun, Result.andThen]
  refine h _ _ ?_ hg
  unfold OwnJ
  rw [List.length_append, jcl_append]
  simpa [jcl] using ho'
theorem step_append_i {w : World} {ops : Array Oper} {o : Oper} {a : Act} {K : Act → World → Prop} {Q : Exit → Act → World → Prop} {E : Prop} (hgd : o.guard = none) (s x : Operand)
    (ho : o.op = .call { callee := .builtin .append, args := #[s, x], argTypes := #[23, 23] })
    (base : Nat) (v : Value) (xs : List Ins) (hs : a.eval s = v) (hown : OwnI w base v xs) (b : Nat) (y : Ins) (hx : a.eval x = .slice (some ⟨b, 0, none⟩) 1 1)
    (hy : w.heap[b]? = some (.cells (icells y).toArray 47 (0, 0)))
    (hlen : xs.length ≤ 1000000000) (hbase : base ≤ w.heap.size)
    (h : ∀ v' w', OwnI w' base v' (xs ++ [y]) → w.grownBy w' v.ownBlock → K (a.put o.dst v') w') :
    if Region.wanted o (yielded ops a.tmps) = true then Oper.wp Tryz.prog o a w K Q else E := by
  have hw : Region.wanted o (yielded ops a.tmps) = true := by simp [Region.wanted, hgd]
  rw [if_pos hw]
  obtain ⟨i, hi, hz, hs1, hb1⟩ := insInfo
  obtain ⟨v', w', hrun, ho', hg, _⟩ := run_append_own (w := w) base 23 o.type 47 i _ 8 56 Tryz.underlying23 hi hz hs1 hb1 rfl (by decide) v _ _ hown ⟨b, 0, none⟩ 1 1 (icells y) rfl
    (fun j u hj => by
      have : (icells y).toArray[j]? = some u := by simpa using hj
      rw [show Addr.add ⟨b, 0, none⟩ j = ⟨b, 0 + j, none⟩ from add_none b 0 j]
      simp [World.cell?, hy, this]) (icells_oneCell y) (by unfold maxLen; omega) (by omega) hbase
  unfold Oper.wp
  simp [execOp, ho, resolve, invoke, builtin, hs, hx, hrun, Result.andThen]
  refine h _ _ ?_ hg
  unfold OwnI
  rw [List.length_append, icl_append, icl_one]
  exact ho'

/-- The draft d stands in block D, its labels in the map mp, its rows from rb on. -/
structure DS (V : World) (mp D rb : Nat) (d : Dr) : Prop where
  cells : ∃ vl vj, V.heap[D]? = some (.cells #[vl, .map (some mp), vj] 56 (0, 0)) ∧ OwnI V rb vl d.list ∧ OwnJ V rb vj d.jumps
  places : SMap V mp (d.marks.map fun e => (e.1, Value.int .i64 e.2))
  lt : mp < D ∧ D < rb ∧ rb ≤ V.heap.size
  len : d.list.length ≤ 4096 ∧ d.jumps.length ≤ 1000000
theorem DS.past {V V' : World} {mp D rb : Nat} {d : Dr} (h : DS V mp D rb d) (hb : Below V.heap.size V V') : DS V' mp D rb d := by
  obtain ⟨⟨vl, vj, h1, h2, h3⟩, h4, h5, h6⟩ := h
  exact ⟨⟨vl, vj, (hb.block _ (Array.getElem?_eq_some_iff.1 h1).1).trans h1, h2.past hb, h3.past hb⟩, h4.below hb h4.lt, ⟨h5.1, h5.2.1, Nat.le_trans h5.2.2 hb.size⟩, h6⟩
theorem find_marks (key : Str) : ∀ l : List (Str × Int), sFind (l.map fun e => (e.1, Value.int .i64 e.2)) key = (findM l key).map fun n => Value.int .i64 n
  | [] => rfl
  | x :: l => by
    have := find_marks key l
    unfold sFind findM at this ⊢
    rw [List.map_cons, List.find?_cons, List.find?_cons]
    by_cases h : (x.1 == key) = true
    · simp [h]
    · simp only [h]
      exact this
theorem int_map_type : Tryz.prog.underlying 53 = some (.map 9 3) := by kernel_rfl
theorem int_zero (w : World) : (zeroValue 3).run Tryz.prog w = .ok (.int .i64 0) w := by
  have h : ∃ i, Tryz.prog.info? 3 = some i ∧ i.zero = some (.int .i64 0) := ⟨_, rfl, rfl⟩
  obtain ⟨i, hi, hz⟩ := h
  simp [zeroValue, typeInfo, hi, hz]
theorem look_mark {w : World} {mp : Nat} {l : List (Str × Int)} (M : SMap w mp (l.map fun e => (e.1, Value.int .i64 e.2))) (key : Str) :
    (Instr.lookup 53 (.map (some mp)) (str key) true).run Tryz.prog w = .ok (.tuple #[.int .i64 ((findM l key).getD 0), .bool (findM l key).isSome]) w := by
  have := M.look (P := Tryz.prog) (t := 53) (k := 9) (e := 3) int_map_type string_type (int_zero w) key true
  rw [this, find_marks]
  cases findM l key <;> rfl
/-- Where add writes. -/
def AP (mp D rb : Nat) (k : Nat) : Prop := k = mp ∨ k = D ∨ rb ≤ k
def Added (V : World) (mp D rb : Nat) (res : Dr ⊕ Int) (e : Ending) (V' : World) : Prop :=
  (match res with | .inl d => e = .returned (.int .i64 0) ∧ (d.list.length ≤ 4096 → d.jumps.length ≤ 1000000 → DS V' mp D rb d) | .inr n => e = .returned (.int .i64 n)) ∧ Turn (AP mp D rb) V V'
theorem added_no {V V' : World} {mp D rb : Nat} {res : Dr ⊕ Int} {e : Ending} {n : Int} (h : res = .inr n) (he : e = .returned (.int .i64 n)) (ht : Turn (AP mp D rb) V V') : Added V mp D rb res e V' := by
  subst h; exact ⟨he, ht⟩
theorem added_ok {V V' : World} {mp D rb : Nat} {res : Dr ⊕ Int} {e : Ending} {d : Dr} (h : res = .inl d) (he : e = .returned (.int .i64 0)) (hd : d.list.length ≤ 4096 → d.jumps.length ≤ 1000000 → DS V' mp D rb d) (ht : Turn (AP mp D rb) V V') : Added V mp D rb res e V' := by
  subst h; exact ⟨⟨he, hd⟩, ht⟩
theorem addLabel (c : UInt8) (r : Str) (i : Ins) (goal : Str) (at' : Int) {V : World} {mp D rb : Nat} {d : Dr} (h : DS V mp D rb d) :
    Calls Tryz.prog 28 #[.pointer (some ⟨D, 0, none⟩), lineV ⟨c :: r, i, goal⟩, .int .i64 at'] V (Added V mp D rb (addL d ⟨c :: r, i, goal⟩ at')) := by
  have hres : addL d ⟨c :: r, i, goal⟩ at' = if (findM d.marks (c :: r)).isSome then .inr 121 else .inl { d with marks := d.marks ++ [(c :: r, (d.list.length : Int))] } := by
    unfold addL; rw [if_pos (by simp)]
  obtain ⟨R0, hR0⟩ : ∃ R0, R0 = addL d ⟨c :: r, i, goal⟩ at' := ⟨_, rfl⟩
  rw [← hR0]
  have HR0 := Lib.hid (hR0.trans hres)
  clear hR0
  have bB := alloc_below V (.cells (lineC ⟨c :: r, i, goal⟩) 61)
  have hb := heap_alloc_new V (.cells (lineC ⟨c :: r, i, goal⟩) 61)
  have h2 := h.past bB
  have hlt := h.lt
  have HT := Lib.hid (Turn.of_below (P := AP mp D rb) bB)
  have HLT := Lib.hid hlt
  unfold lineV
  unfold lineC at bB hb h2 HT
  simp only at bB hb h2 HT ⊢
  clear hres h
  go_enter Tryz.func28, Tryz.ntmps28
  go_upto_region 1 with fail
  generalize V.alloc (.cells #[str (c :: r), .int .u8 i.op, .bool i.nw, .int .i64 i.dst, .int .i64 i.src, .bool i.ui, .int .i64 i.off, .int .i64 i.im, .int .i64 i.sz, str goal] 61) = V1 at *
  obtain ⟨vl, vj, hD, hl, hj⟩ := h2.cells
  obtain ⟨ao, cap, rfl⟩ := hl.shape
  have M2 := h2.places
  have hbD : V.heap.size ≠ D := by omega
  have hbm : V.heap.size ≠ mp := by omega
  generalize V.heap.size = b at *
  have q0 : V1.cell? ⟨b, 0, none⟩ = some (str (c :: r)) := by simp [World.cell?, hb]
  have q1 : V1.cell? ⟨D, 1, none⟩ = some (.map (some mp)) := by simp [World.cell?, hD]
  have q2 : V1.cell? ⟨D, 0, none⟩ = some (.slice ao d.list.length cap) := by simp [World.cell?, hD]
  have LK := look_mark (M2.below ((Below.refl _ V1).drew) M2.lt) (c :: r)
  have HP := Lib.hid (fun hn => M2.put (P := Tryz.prog) (t := 53) (k := 9) (e := 3) int_map_type string_type (key := c :: r) (val := .int .i64 d.list.length) hn)
  have HF := Lib.hid (find_marks (c :: r) d.marks)
  have H2 := Lib.hid h2
  have HD := Lib.hid hD
  have HLJ := Lib.hid (And.intro hl hj)
  clear h2 hD hl hj M2 bB hb hlt
  generalize hfm : findM d.marks (c :: r) = fm at *
  have HFM := Lib.hid hfm
  clear hfm
  go_wp2_with fail
  refine wp_region_held_drew (S := fun w' => w'.cell? ⟨b, 0, none⟩ = some (str (c :: r)) ∧ w'.cell? ⟨D, 1, none⟩ = some (.map (some mp)) ∧ (Instr.lookup 53 (.map (some mp)) (str (c :: r)) true).run Tryz.prog w' = .ok (.tuple #[.int .i64 (fm.getD 0), .bool fm.isSome]) w') (by kernel_rfl) ⟨q0, q1, LK⟩ (fun S0 => ?_)
  refine wpAnyH_take (i := 0) (v := ?v0t1) rfl (by kernel_rfl) (by kernel_rfl) (by kernel_rfl) (fun _ _ _ h => h) (Or.inl ⟨by rfl, ?y0t1⟩) S0 ?z0t1
  case y0t1 => intro w_ hSw; (try dsimp only at hSw); go_simp; with_reducible rfl
  try simp only [List.getElem_toArray, List.getElem_cons_zero, List.getElem_cons_succ, Act.put, List.setIfInBounds_toArray, List.set_cons_zero, List.set_cons_succ]
  refine wpAnyH_take (i := 1) (v := ?v1t2) rfl (by kernel_rfl) (by kernel_rfl) (by kernel_rfl) (fun _ _ _ h => h) (Or.inl ⟨by rfl, ?y1t2⟩) S0 ?z1t2
  case y1t2 => intro w_ hSw; (try dsimp only at hSw); go_simp; with_reducible rfl
  try simp only [List.getElem_toArray, List.getElem_cons_zero, List.getElem_cons_succ, Act.put, List.setIfInBounds_toArray, List.set_cons_zero, List.set_cons_succ]
  refine wpAnyH_take (i := 2) (v := ?v2t3) rfl (by kernel_rfl) (by kernel_rfl) (by kernel_rfl) (fun _ _ _ h => h) (Or.inl ⟨by rfl, ?y2t3⟩) S0 ?z2t3
  case y2t3 => intro w_ hSw; (try dsimp only at hSw); go_simp; with_reducible rfl
  try simp only [List.getElem_toArray, List.getElem_cons_zero, List.getElem_cons_succ, Act.put, List.setIfInBounds_toArray, List.set_cons_zero, List.set_cons_succ]
  refine wpAnyH_take (i := 3) (v := ?v3t4) rfl (by kernel_rfl) (by kernel_rfl) (by kernel_rfl) (fun _ _ _ h => h) (Or.inl ⟨by rfl, ?y3t4⟩) S0 ?z3t4
  case y3t4 => intro w_ hSw; (try dsimp only at hSw); go_simp; with_reducible rfl
  try simp only [List.getElem_toArray, List.getElem_cons_zero, List.getElem_cons_succ, Act.put, List.setIfInBounds_toArray, List.set_cons_zero, List.set_cons_succ]
  refine wpAnyH_take (i := 4) (v := ?v4t5) rfl (by kernel_rfl) (by kernel_rfl) (by kernel_rfl) (fun _ _ _ h => h) (Or.inl ⟨by rfl, ?y4t5⟩) S0 ?z4t5
  case y4t5 => intro w_ hSw; (try dsimp only at hSw); go_simp; with_reducible rfl
  try simp only [List.getElem_toArray, List.getElem_cons_zero, List.getElem_cons_succ, Act.put, List.setIfInBounds_toArray, List.set_cons_zero, List.set_cons_succ]
  refine wpAnyH_take (i := 5) (v := ?v5t6) rfl (by kernel_rfl) (by kernel_rfl) (by kernel_rfl) (fun _ _ _ h => h) (Or.inl ⟨by rfl, ?y5t6⟩) S0 ?z5t6
  case y5t6 => intro w_ hSw; (try dsimp only at hSw); go_simp; with_reducible rfl
  try simp only [List.getElem_toArray, List.getElem_cons_zero, List.getElem_cons_succ, Act.put, List.setIfInBounds_toArray, List.set_cons_zero, List.set_cons_succ]
  refine wpAnyH_take (i := 6) (v := ?v6t7) rfl (by kernel_rfl) (by kernel_rfl) (by kernel_rfl) (fun _ _ _ h => h) (Or.inl ⟨by rfl, ?y6t7⟩) S0 ?z6t7
  case y6t7 => intro w_ hSw; (try dsimp only at hSw); go_simp; with_reducible rfl
  try simp only [List.getElem_toArray, List.getElem_cons_zero, List.getElem_cons_succ, Act.put, List.setIfInBounds_toArray, List.set_cons_zero, List.set_cons_succ]
  refine wpAnyH_take (i := 7) (v := ?v7t8) rfl (by kernel_rfl) (by kernel_rfl) (by kernel_rfl) (fun _ _ _ h => h) (Or.inl ⟨by rfl, ?y7t8⟩) S0 ?z7t8
  case y7t8 => intro w_ hSw; (try dsimp only at hSw); go_simp; with_reducible rfl
  try simp only [List.getElem_toArray, List.getElem_cons_zero, List.getElem_cons_succ, Act.put, List.setIfInBounds_toArray, List.set_cons_zero, List.set_cons_succ]
  refine wpAnyH_take (i := 8) (v := ?v8t9) rfl (by kernel_rfl) (by kernel_rfl) (by kernel_rfl) (fun _ _ _ h => h) (Or.inl ⟨by rfl, ?y8t9⟩) S0 ?z8t9
  case y8t9 => intro w_ hSw; (try dsimp only at hSw); go_simp; with_reducible rfl
  try simp only [List.getElem_toArray, List.getElem_cons_zero, List.getElem_cons_succ, Act.put, List.setIfInBounds_toArray, List.set_cons_zero, List.set_cons_succ]
  refine wpAnyH_take (i := 9) (v := ?v9t10) rfl (by kernel_rfl) (by kernel_rfl) (by kernel_rfl) (fun _ _ _ h => h) (Or.inl ⟨by rfl, ?y9t10⟩) S0 ?z9t10
  case y9t10 => intro w_ hSw; (try dsimp only at hSw); go_simp; with_reducible rfl
  try simp only [List.getElem_toArray, List.getElem_cons_zero, List.getElem_cons_succ, Act.put, List.setIfInBounds_toArray, List.set_cons_zero, List.set_cons_succ]
  refine wpAnyH_take (i := 10) (v := ?v10t11) rfl (by kernel_rfl) (by kernel_rfl) (by kernel_rfl) (fun _ _ _ h => h) (Or.inl ⟨by rfl, ?y10t11⟩) S0 ?z10t11
  case y10t11 => intro w_ hSw; (try dsimp only at hSw); go_simp; with_reducible rfl
  try simp only [List.getElem_toArray, List.getElem_cons_zero, List.getElem_cons_succ, Act.put, List.setIfInBounds_toArray, List.set_cons_zero, List.set_cons_succ]
  refine wpAnyH_take (i := 11) (v := ?v11t12) rfl (by kernel_rfl) (by kernel_rfl) (by kernel_rfl) (fun _ _ _ h => h) (Or.inl ⟨by rfl, ?y11t12⟩) S0 ?z11t12
  case y11t12 => intro w_ hSw; (try dsimp only at hSw); go_simp; with_reducible rfl
  try simp only [List.getElem_toArray, List.getElem_cons_zero, List.getElem_cons_succ, Act.put, List.setIfInBounds_toArray, List.set_cons_zero, List.set_cons_succ]
  refine wpAnyH_done (by kernel_rfl) ?_ _
  clear S0 LK
  cases fm with
  | some n =>
    have T1 := Lib.hid ((HT.out).trans (Turn.of_below ((Below.refl _ V1).drew)))
    go_wp2_with fail
    go_ret
    exact added_no (by rw [HR0.out]; rfl) rfl T1.out
  | none =>
    obtain ⟨V3, hput, M3, g3⟩ := (show SMap V1.drew.drew mp _ from (H2.out).places.below ((Below.refl _ V1).drew.drew) (H2.out).places.lt).put (P := Tryz.prog) (t := 53) (k := 9) (e := 3) int_map_type string_type (key := c :: r) (val := .int .i64 d.list.length) (by rw [HF.out]; rfl)
    go_wp2_with fail
    refine wp_region_held_drew (S := fun w' => w'.cell? ⟨b, 0, none⟩ = some (str (c :: r)) ∧ w'.cell? ⟨D, 1, none⟩ = some (.map (some mp)) ∧ w'.cell? ⟨D, 0, none⟩ = some (.slice ao d.list.length cap)) (by kernel_rfl) ⟨q0, q1, q2⟩ (fun S0 => ?_)
    refine wpAnyH_take (i := 0) (v := ?v0t13) rfl (by kernel_rfl) (by kernel_rfl) (by kernel_rfl) (fun _ _ _ h => h) (Or.inl ⟨by rfl, ?y0t13⟩) S0 ?z0t13
    case y0t13 => intro w_ hSw; (try dsimp only at hSw); go_simp; with_reducible rfl
    try simp only [List.getElem_toArray, List.getElem_cons_zero, List.getElem_cons_succ, Act.put, List.setIfInBounds_toArray, List.set_cons_zero, List.set_cons_succ]
    refine wpAnyH_take (i := 1) (v := ?v1t14) rfl (by kernel_rfl) (by kernel_rfl) (by kernel_rfl) (fun _ _ _ h => h) (Or.inl ⟨by rfl, ?y1t14⟩) S0 ?z1t14
    case y1t14 => intro w_ hSw; (try dsimp only at hSw); go_simp; with_reducible rfl
    try simp only [List.getElem_toArray, List.getElem_cons_zero, List.getElem_cons_succ, Act.put, List.setIfInBounds_toArray, List.set_cons_zero, List.set_cons_succ]
    refine wpAnyH_take (i := 2) (v := ?v2t15) rfl (by kernel_rfl) (by kernel_rfl) (by kernel_rfl) (fun _ _ _ h => h) (Or.inl ⟨by rfl, ?y2t15⟩) S0 ?z2t15
    case y2t15 => intro w_ hSw; (try dsimp only at hSw); go_simp; with_reducible rfl
    try simp only [List.getElem_toArray, List.getElem_cons_zero, List.getElem_cons_succ, Act.put, List.setIfInBounds_toArray, List.set_cons_zero, List.set_cons_succ]
    refine wpAnyH_take (i := 3) (v := ?v3t16) rfl (by kernel_rfl) (by kernel_rfl) (by kernel_rfl) (fun _ _ _ h => h) (Or.inl ⟨by rfl, ?y3t16⟩) S0 ?z3t16
    case y3t16 => intro w_ hSw; (try dsimp only at hSw); go_simp; with_reducible rfl
    try simp only [List.getElem_toArray, List.getElem_cons_zero, List.getElem_cons_succ, Act.put, List.setIfInBounds_toArray, List.set_cons_zero, List.set_cons_succ]
    refine wpAnyH_take (i := 4) (v := ?v4t17) rfl (by kernel_rfl) (by kernel_rfl) (by kernel_rfl) (fun _ _ _ h => h) (Or.inl ⟨by rfl, ?y4t17⟩) S0 ?z4t17
    case y4t17 => intro w_ hSw; (try dsimp only at hSw); go_simp; with_reducible rfl
    try simp only [List.getElem_toArray, List.getElem_cons_zero, List.getElem_cons_succ, Act.put, List.setIfInBounds_toArray, List.set_cons_zero, List.set_cons_succ]
    refine wpAnyH_take (i := 5) (v := ?v5t18) rfl (by kernel_rfl) (by kernel_rfl) (by kernel_rfl) (fun _ _ _ h => h) (Or.inl ⟨by rfl, ?y5t18⟩) S0 ?z5t18
    case y5t18 => intro w_ hSw; (try dsimp only at hSw); go_simp; with_reducible rfl
    try simp only [List.getElem_toArray, List.getElem_cons_zero, List.getElem_cons_succ, Act.put, List.setIfInBounds_toArray, List.set_cons_zero, List.set_cons_succ]
    refine wpAnyH_take (i := 6) (v := ?v6t19) rfl (by kernel_rfl) (by kernel_rfl) (by kernel_rfl) (fun _ _ _ h => h) (Or.inl ⟨by rfl, ?y6t19⟩) S0 ?z6t19
    case y6t19 => intro w_ hSw; (try dsimp only at hSw); go_simp; with_reducible rfl
    try simp only [List.getElem_toArray, List.getElem_cons_zero, List.getElem_cons_succ, Act.put, List.setIfInBounds_toArray, List.set_cons_zero, List.set_cons_succ]
    refine wpAnyH_take (i := 7) (v := ?v7t20) rfl (by kernel_rfl) (by kernel_rfl) (by kernel_rfl) (fun _ _ _ h => h) (Or.inl ⟨by rfl, ?y7t20⟩) S0 ?z7t20
    case y7t20 => intro w_ hSw; (try dsimp only at hSw); go_simp; with_reducible rfl
    try simp only [List.getElem_toArray, List.getElem_cons_zero, List.getElem_cons_succ, Act.put, List.setIfInBounds_toArray, List.set_cons_zero, List.set_cons_succ]
    refine wpAnyH_take (i := 8) (v := ?v8t21) rfl (by kernel_rfl) (by kernel_rfl) (by kernel_rfl) (fun _ _ _ h => h) (Or.inl ⟨by rfl, ?y8t21⟩) S0 ?z8t21
    case y8t21 => intro w_ hSw; (try dsimp only at hSw); go_simp; with_reducible rfl
    try simp only [List.getElem_toArray, List.getElem_cons_zero, List.getElem_cons_succ, Act.put, List.setIfInBounds_toArray, List.set_cons_zero, List.set_cons_succ]
    refine wpAnyH_take (i := 9) (v := ?v9t22) rfl (by kernel_rfl) (by kernel_rfl) (by kernel_rfl) (fun _ _ _ h => h) (Or.inl ⟨by rfl, ?y9t22⟩) S0 ?z9t22
    case y9t22 => intro w_ hSw; (try dsimp only at hSw); go_simp; with_reducible rfl
    try simp only [List.getElem_toArray, List.getElem_cons_zero, List.getElem_cons_succ, Act.put, List.setIfInBounds_toArray, List.set_cons_zero, List.set_cons_succ]
    refine wpAnyH_take (i := 10) (v := ?v10t23) rfl (by kernel_rfl) (by kernel_rfl) (by kernel_rfl) (fun _ _ _ h => h) (Or.inl ⟨by rfl, ?y10t23⟩) S0 ?z10t23
    case y10t23 => intro w_ hSw; (try dsimp only at hSw); go_simp; with_reducible rfl
    try simp only [List.getElem_toArray, List.getElem_cons_zero, List.getElem_cons_succ, Act.put, List.setIfInBounds_toArray, List.set_cons_zero, List.set_cons_succ]
    refine wpAnyH_ready (rs := [11]) (by kernel_rfl) (by simp) ?_
    refine AllReadyH.cons rfl (fun K hK => ?_) AllReadyH.nil
    go_simp
    have n1 : some b ≠ some mp := fun e => hbm (Option.some.inj e)
    have n2 : some D ≠ some mp := fun e => by have := HLT.out; have := Option.some.inj e; omega
    refine hK.out _ _ ⟨g3.cell S0.1 n1, g3.cell S0.2.1 n2, g3.cell S0.2.2 n2⟩ (fun _ => ?_)
    clear hK K
    try simp only [List.getElem_toArray, List.getElem_cons_zero, List.getElem_cons_succ, Act.put, List.setIfInBounds_toArray, List.set_cons_zero, List.set_cons_succ]
    refine wpAnyH_done (by kernel_rfl) ?_ _
    have T3 := Lib.hid (((HT.out).trans (Turn.of_below ((Below.refl _ V1).drew.drew))).trans (Turn.of_grown g3 (fun k e => by cases e; exact .inl rfl)))
    have D3 : DS V3 mp D rb { d with marks := d.marks ++ [(c :: r, (d.list.length : Int))] } := by
      have hlt := HLT.out
      obtain ⟨hl, hj⟩ := HLJ.out
      have bd : Below V1.heap.size V1 V1.drew.drew := (Below.refl _ V1).drew.drew
      have hDl := (Array.getElem?_eq_some_iff.1 HD.out).1
      refine ⟨⟨_, vj, (g3.block D hDl (fun e => n2 e)).trans HD.out, ?_, ?_⟩, ?_, ⟨hlt.1, hlt.2.1, Nat.le_trans (H2.out).lt.2.2 g3.size⟩, (H2.out).len⟩
      · refine (hl.past bd).kept g3 ?_
        cases hk : (Value.slice ao d.list.length cap).ownBlock with
        | none => exact .inl rfl
        | some k => exact .inr (fun e => by have := (hl.lt k hk).1; have := Option.some.inj e; omega)
      · refine (hj.past bd).kept g3 ?_
        cases hk : vj.ownBlock with
        | none => exact .inl rfl
        | some k => exact .inr (fun e => by have := (World.ownsRow.lt hj k hk).1; have := Option.some.inj e; omega)
      · simpa using M3
    have HD3 := Lib.hid D3
    clear D3 n1 n2 g3 hput M3 S0
    go_wp2_with fail
    go_ret
    exact added_ok (by rw [HR0.out]; rfl) rfl (fun _ _ => HD3.out) T3.out
end Go.Proofs.YthfkmackodbmkaaGreatDoor
