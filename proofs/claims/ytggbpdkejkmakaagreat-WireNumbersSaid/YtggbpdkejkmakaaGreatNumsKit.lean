/- What WireNumbers wants: the two laws at arguments of any length, append and copy to a row of the call's own. -/
import Derived.Test.YtggbpdkejkmakaaGreatReadWalk
import Derived.Test.YtggbpdkejkmakaaGreatPuts
import Derived.Laws.CopyOwn
import Derived.BigFrame
namespace Go.Proofs.YtggbpdkejkmakaaGreat
open Go.RowKit
set_option linter.unusedVariables false
set_option linter.unusedSimpArgs false

theorem wireReadsAny (l ops : List Int) (ub uo : Value) (w : World) (hb : Bs w ub l) (hoc : Oct l) (ho : Is w uo ops) (hwf : ∀ j, j < ops.length → (Lit.int .i64 (nth ops j)).wf = true) :
    Calls Tryz.prog 6 #[ub, uo] w fun e w' => e = .returned (.bool true) ∧ Below w.heap.size w w' := by
  by_cases h1 : l.length ≤ 20000
  · exact wireReads l ops ub uo w hb hoc ho hwf h1
  · exact wireReads_far l ops ub uo w hb ho (by omega)
theorem wirePutsAny (n t k v s : Int) (g : Bool) (l d : List Int) (ub ud : Value) (w : World) (hb : Bs w ub l) (hd : Bs w ud d) (k0 : 0 ≤ k) (k1 : k < 256) :
    Calls Tryz.prog 5 #[.int .i64 n, ub, .agg #[.int .i64 t, .int .u8 k, .int .i64 v, .int .i64 s, .bool g, ud]] w fun e w' => e = .returned (.bool true) ∧ Below w.heap.size w w' := by
  by_cases h1 : l.length ≤ 20000
  · by_cases h2 : d.length ≤ 20000
    · exact wirePuts n t k v s g l d ub ud w hb hd h1 h2 k0 k1
    · exact wirePuts_far n t k v s g l d ub ud w hb hd (Or.inr (by omega))
  · exact wirePuts_far n t k v s g l d ub ud w hb hd (Or.inl (by omega))

/-- A literal of small numbers. -/
theorem is_lit (w : World) (ops : List Int) (h : ops.length ≤ 1000) : Is (w.alloc (.cells (ops.map (Value.int .i64)).toArray 3)) (.slice (some ⟨w.heap.size, 0, none⟩) ops.length ops.length) ops :=
  ⟨some ⟨w.heap.size, 0, none⟩, ops.length, rfl, Nat.le_refl _, by unfold maxLen; omega, fun e => (by cases e), fun a ha j hj => by
    cases ha
    rw [add_none, cell_of_row _ w.heap.size (0 + j) _ 3 (0, 0) (heap_alloc_new w _)]
    simp [hj, nth_of hj]⟩
theorem Is.past {w w' : World} {v : Value} {l : List Int} (h : Is w v l) (hb : Below w.heap.size w w') : Is w' v l := by
  obtain ⟨ao, cap, rfl, h1, h2, h3, h4⟩ := h
  refine ⟨ao, cap, rfl, h1, h2, h3, fun a ha j hj => ?_⟩
  have h0 := h4 a ha j hj
  exact (hb.cell (p := a.add j) (World.block_lt_of_cell? w _ h0)).trans h0
theorem small_wf {ops : List Int} (h : ops.all (fun n => decide (0 ≤ n ∧ n < 100)) = true) : ∀ j, j < ops.length → (Lit.int .i64 (nth ops j)).wf = true := fun j hj => by
  have := List.all_eq_true.1 h (nth ops j) (by rw [nth_of hj]; exact List.getElem_mem hj)
  have := of_decide_eq_true this
  simp [Lit.wf, IntKind.min, IntKind.max, IntKind.signed, IntKind.bits]
  omega
/-- WireReads, of a literal of reads that was just made. -/
theorem readsLit {w : World} {ub : Value} {l : List Int} (ops : List Int) (hb : Bs w ub l) (hoc : Oct l) (hn : ops.length ≤ 1000) (hs : ops.all (fun n => decide (0 ≤ n ∧ n < 100)) = true) :
    Calls Tryz.prog 6 #[ub, .slice (some ⟨w.heap.size, 0, none⟩) ops.length ops.length] (w.alloc (.cells (ops.map (Value.int .i64)).toArray 3)) fun e w' => e = .returned (.bool true) ∧ Below w.heap.size w w' :=
  (wireReadsAny l ops ub _ _ (hb.alloc _) hoc (is_lit w ops hn) (small_wf hs)).mono fun e w' ⟨h1, h2⟩ => ⟨h1, below_alloc h2⟩

/-- What was appended to is as it was. -/
theorem Own.behind {w w' : World} {base m : Nat} {v v' : Value} {xs ys : List Int} (h : Own w base v xs) (h' : Own w' base v' (xs ++ ys)) (hg : Grew w v m v' w') : Own w' base v xs := by
  rcases hg with ⟨g, n, c, rfl, rfl, hg⟩ | ⟨_, hg⟩
  · have := h.slen
    subst this
    have := h'.pre (n := xs.length) (by rw [List.length_append]; omega)
    simpa using this
  · exact h.kept hg (by cases v.ownBlock <;> simp)
theorem Grew.grown {w w' : World} {m : Nat} {v v' : Value} (h : Grew w v m v' w') : w.grownBy w' v.ownBlock := by
  rcases h with ⟨g, n, c, rfl, rfl, hg⟩ | ⟨_, hg⟩
  · exact hg
  · exact ⟨hg.os, hg.tape, hg.output, hg.size, fun k hk _ => hg.block k hk (by simp)⟩
theorem step_append_two {w : World} {ops : Array Oper} {o : Oper} {a : Act} {K : Act → World → Prop} {Q : Exit → Act → World → Prop} {E : Prop} (hgd : Region.wanted o (yielded ops a.tmps) = true) (s x : Operand)
    (ho : o.op = .call { callee := .builtin .append, args := #[s, x], argTypes := #[23, 23] })
    (base : Nat) (v : Value) (xs : List Int) (hs : a.eval s = v) (hown : Own w base v xs) (u : Value) (ys : List Int) (hx : a.eval x = u) (hu : Bs w u ys) (hpos : 0 < ys.length)
    (hlen : xs.length + ys.length ≤ 140737488355328) (hbase : base ≤ w.heap.size)
    (h : ∀ v' w', Own w' base v' (xs ++ ys) → Grew w v ys.length v' w' → K (a.put o.dst v') w') :
    if Region.wanted o (yielded ops a.tmps) = true then Oper.wp Tryz.prog o a w K Q else E := by
  rw [if_pos hgd]
  obtain ⟨b, off, cap, rfl, -, -, -, cells⟩ := hu.at hpos
  obtain ⟨v', w', hrun, r1, r2⟩ := run_append_two w base o.type v xs hown ⟨b, off, none⟩ cap ys hpos (fun j hj => by rw [add_none]; exact cells j hj) hlen hbase
  unfold Oper.wp
  simp [execOp, ho, resolve, invoke, builtin, hs, hx, hrun, Result.andThen]
  exact h _ _ r1 r2

theorem wpList_append_want (w : World) {ops : Array Oper} {rest : List Oper} {o : Oper} {a : Act} {Q : Exit → Act → World → Prop} (hgd : Region.wanted o (yielded ops a.tmps) = true) (s x : Operand)
    (ho : o.op = .call { callee := .builtin .append, args := #[s, x], argTypes := #[23, 23] })
    (base : Nat) (v : Value) (xs : List Int) (hs : a.eval s = v) (hown : Own w base v xs) (u : Value) (ys : List Int) (hx : a.eval x = u) (hu : Bs w u ys) (hpos : 0 < ys.length)
    (hlen : xs.length + ys.length ≤ 140737488355328) (hbase : base ≤ w.heap.size)
    (h : ∀ v' w', Own w' base v' (xs ++ ys) → Grew w v ys.length v' w' → wpList Tryz.prog ops Q rest (a.put o.dst v') w') : wpList Tryz.prog ops Q (o :: rest) a w := by
  obtain ⟨b, off, cap, rfl, -, -, -, cells⟩ := hu.at hpos
  obtain ⟨v', w', hrun, r1, r2⟩ := run_append_two w base o.type v xs hown ⟨b, off, none⟩ cap ys hpos (fun j hj => by rw [add_none]; exact cells j hj) hlen hbase
  refine BigFrame.wpList_want hgd fun K hK' => ?_
  unfold Oper.wp
  simp [execOp, ho, resolve, invoke, builtin, hs, hx, hrun, Result.andThen]
  exact hK' _ _ (h v' w' r1 r2)

theorem splice_take {C : List Value} {xs ys : List Int} {off : Nat} (ht : C.take xs.length = bv xs) (hfit : off + ys.length ≤ xs.length) :
    (C.take off ++ (bv ys ++ C.drop (off + ys.length))).take xs.length = bv (xs.take off ++ ys ++ xs.drop (off + ys.length)) := by
  have e : C = bv xs ++ C.drop xs.length := by rw [← ht, List.take_append_drop]
  generalize C.drop xs.length = R at e
  subst e
  have hl := length_bv xs
  rw [show (bv xs ++ R).take off = (bv xs).take off from List.take_append_of_le_length (by omega), show (bv xs ++ R).drop (off + ys.length) = (bv xs).drop (off + ys.length) ++ R from List.drop_append_of_le_length (by omega)]
  have e2 : (bv xs).take off ++ (bv ys ++ ((bv xs).drop (off + ys.length) ++ R)) = bv (xs.take off ++ ys ++ xs.drop (off + ys.length)) ++ R := by
    simp [bv, List.map_take, List.map_drop]
  rw [e2, List.take_append_of_le_length (by simp [bv]; omega), List.take_of_length_le (by simp [bv]; omega)]

/-- copy into a row of the call's own. -/
theorem wpList_copy_bs {w : World} {ops : Array Oper} {rest : List Oper} {o : Oper} {a : Act} {Q : Exit → Act → World → Prop} (hgd : o.guard = none) (d s : Operand)
    (ho : o.op = .call { callee := .builtin .copy, args := #[d, s], argTypes := #[23, 23] })
    (base g n c off m dc : Nat) (xs : List Int) (hown : Own w base (.slice (some ⟨g, 0, none⟩) n c) xs) (hd : a.eval d = .slice (some ⟨g, off, none⟩) m dc) (u : Value) (ys : List Int) (hs : a.eval s = u) (hu : Bs w u ys) (hpos : 0 < ys.length)
    (hm : ys.length ≤ m) (hfit : off + ys.length ≤ xs.length)
    (h : ∀ w', Own w' base (.slice (some ⟨g, 0, none⟩) n c) (xs.take off ++ (ys ++ xs.drop (off + ys.length))) → w.grownBy w' (some g) → wpList Tryz.prog ops Q rest (a.put o.dst (goInt ys.length)) w') :
    wpList Tryz.prog ops Q (o :: rest) a w := by
  obtain rfl := hown.slen
  obtain ⟨i, hi, hz, hs1, hb1⟩ := u8info
  obtain ⟨b, so, sc, rfl, -, -, -, cells⟩ := hu.at hpos
  rcases hown.2 with ⟨h1, _⟩ | ⟨g', cap, cur, h1, hbg, hg, hnc, hcm, hcs, htake⟩
  · cases h1
  · cases h1
    rw [Nat.mul_one] at htake
    have hC : cur.toList.length = cur.size := by simp
    refine wpList_copy_own hgd d s 23 23 ho 5 Tryz.underlying23 (by rw [hi]; simp [hs1]) g off m dc ⟨b, so, none⟩ ys.length sc hd hs cur _ hg (bv ys) (by rw [length_bv]; exact (Nat.min_eq_left hm).symm)
      (fun j v hj => ?_) (by rw [length_bv]; omega) (bv_oneCell _) ?_
    · have hjl : j < ys.length := by
        have := (List.getElem?_eq_some_iff.1 hj).1
        simpa [bv] using this
      rw [bv_get hjl] at hj
      cases hj
      rw [add_none]
      exact cells j hjl
    · rw [length_bv]
      rw [← List.append_assoc] at h
      refine h _ ?_ ⟨rfl, rfl, rfl, by simp, fun k _ hk => setRow_other w g k _ (fun e => hk (by rw [e]))⟩
      have hlen : (xs.take off ++ ys ++ xs.drop (off + ys.length)).length = xs.length := by simp; omega
      unfold Own
      rw [hlen]
      refine ⟨by rw [length_bv, hlen]; omega, .inr ⟨g, c, _, rfl, hbg, setRow_heap w g cur _ 5 _ hg, hnc, hcm, ?_, ?_⟩⟩
      · simp [bv]; omega
      · rw [Nat.mul_one]
        exact splice_take htake hfit
end Go.Proofs.YtggbpdkejkmakaaGreat
