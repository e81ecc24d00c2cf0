/- Going through a text's lines, as plain lists; the memory of it. -/
import Derived.Test.YthfkmackodbmkaaGreatDoorTextSeq
namespace Go.Proofs.YthfkmackodbmkaaGreatDoor
open Go.RowKit Go.MapKept
set_option linter.unusedVariables false
set_option linter.unusedSimpArgs false
set_option maxRecDepth 100000
set_option maxHeartbeats 1000000

/-- What holds of a draft. -/
structure DrOk (d : Dr) : Prop where
  jumps : ∀ j ∈ d.jumps, 0 ≤ j.2.1 ∧ j.2.1 < d.list.length
  marks : ∀ e ∈ d.marks, 0 ≤ e.2 ∧ e.2 ≤ 4096
  list : d.list.length ≤ 4096
  few : d.jumps.length ≤ d.list.length
def dr0 : Dr := ⟨[], [], []⟩
theorem dr0_ok : DrOk dr0 := by
  refine ⟨?_, ?_, by decide, by decide⟩
  · intro j h; simp [dr0] at h
  · intro e h; simp [dr0] at h
theorem addL_ok {d d' : Dr} {t : Told} {at' : Int} (h : DrOk d) (hd : addL d t at' = .inl d') : DrOk d' := by
  unfold addL at hd
  split at hd
  · split at hd
    · cases hd
    · cases hd
      refine ⟨h.jumps, fun e he => ?_, h.list, h.few⟩
      rcases List.mem_append.1 he with he | he
      · exact h.marks e he
      · simp only [List.mem_singleton] at he
        subst he
        have := h.list
        exact ⟨by simp, by simp; omega⟩
  · split at hd
    · split at hd
      · cases hd
      · rename_i h1 h2 h3
        cases hd
        have hl := h.list
        have hf := h.few
        refine ⟨fun j hj => ?_, h.marks, by simp; omega, ?_⟩
        · have old : j ∈ d.jumps → 0 ≤ j.2.1 ∧ j.2.1 < ((d.list ++ [t.ins]).length : Int) := fun hj => by
            have := h.jumps j hj
            simp only [List.length_append, List.length_singleton]; omega
          simp only at hj
          split at hj
          · rcases List.mem_append.1 hj with hj | hj
            · exact old hj
            · simp only [List.mem_singleton] at hj
              subst hj
              simp
              omega
          · exact old hj
        · simp only [List.length_append, List.length_singleton]
          split
          · simp; omega
          · omega
    · cases hd; exact h
theorem stepL_ok {d d' : Dr} {l : Str} {at' : Int} (h : DrOk d) (hd : stepL d at' l = .inl d') : DrOk d' := by
  unfold stepL at hd
  split at hd
  · cases hd
  · exact addL_ok h hd
theorem runL_snoc : ∀ (pre : List Str) (d0 : Dr) (n : Int) (d : Dr) (x : Str), runL d0 n pre = .inl d → runL d0 n (pre ++ [x]) = match stepL d (n + pre.length + 1) x with | .inl d' => .inl d' | .inr e => .inr (e, n + pre.length + 1)
  | [], d0, n, d, x, h => by
    simp only [runL] at h
    have h := Sum.inl.inj h
    subst h
    have e : n + (([] : List Str).length : Int) + 1 = n + 1 := by simp
    rw [e, List.nil_append, runL]
    cases stepL d0 (n + 1) x <;> simp [runL]
  | l :: pre, d0, n, d, x, h => by
    simp only [List.cons_append, runL] at h ⊢
    cases hs : stepL d0 (n + 1) l with
    | inl d1 =>
      rw [hs] at h
      simp only at h ⊢
      rw [runL_snoc pre d1 (n + 1) d x h]
      rw [show n + 1 + (pre.length : Int) + 1 = n + ((l :: pre).length : Int) + 1 from by simp only [List.length_cons]; omega]
    | inr e => rw [hs] at h; cases h
theorem runL_stop : ∀ (pre : List Str) (d0 : Dr) (n : Int) (e : Int × Int) (r : List Str), runL d0 n pre = .inr e → runL d0 n (pre ++ r) = .inr e
  | [], d0, n, e, r, h => by simp only [runL] at h; cases h
  | l :: pre, d0, n, e, r, h => by
    simp only [List.cons_append, runL] at h ⊢
    cases hs : stepL d0 (n + 1) l with
    | inl d1 => rw [hs] at h; simp only at h ⊢; exact runL_stop pre d1 (n + 1) e r h
    | inr e' => rw [hs] at h; simp only at h ⊢; exact h

/-- Where Parse's rounds write. -/
def PQ (mp D A rb : Nat) (k : Nat) : Prop := k = mp ∨ k = D ∨ k = A ∨ rb ≤ k
/-- What no round turns. -/
structure PF (w0 : World) (K4 mb mp D A LP rb : Nat) (o : Obj) (W : World) : Prop where
  r1 : W.heap[w0.heap.size]? = some (.cells #[.slice none 0 0] 23 (0, 0))
  r2 : W.heap[w0.heap.size + 1]? = some (.cells #[.int .i64 0, .int .i64 0] 26 (0, 0))
  kn : W.heap[K4]? = some (.cells #[.map (some mb)] 51 (0, 0))
  km : SMap W mb tabV
  df : W.heap[LP]? = some (.deferred (some []))
  lp : W.heap[LP + 1]? = some o
  bel : Below w0.heap.size w0 W
  ord : w0.heap.size + 1 < mb ∧ mb < K4 ∧ K4 < mp ∧ mp < D ∧ D < A ∧ A < LP ∧ LP + 1 < rb ∧ rb ≤ W.heap.size
theorem PF.turn {w0 W W' : World} {K4 mb mp D A LP rb : Nat} {o : Obj} (h : PF w0 K4 mb mp D A LP rb o W) (t : Turn (PQ mp D A rb) W W') : PF w0 K4 mb mp D A LP rb o W' := by
  have hr := h.ord
  have k : ∀ k, k < rb → k ≠ mp → k ≠ D → k ≠ A → W'.heap[k]? = W.heap[k]? := fun k hk h1 h2 h3 => t.block k (by omega) (by unfold PQ; omega)
  obtain ⟨es, c, hb, hm⟩ := h.km
  refine ⟨(k _ (by omega) (by omega) (by omega) (by omega)).trans h.r1, (k _ (by omega) (by omega) (by omega) (by omega)).trans h.r2, (k _ (by omega) (by omega) (by omega) (by omega)).trans h.kn,
    ⟨es, c, (k _ (by omega) (by omega) (by omega) (by omega)).trans hb, hm⟩, (k _ (by omega) (by omega) (by omega) (by omega)).trans h.df, (k _ (by omega) (by omega) (by omega) (by omega)).trans h.lp, ?_, ?_⟩
  · exact h.bel.trans (t.below h.bel.size (fun k hk => by unfold PQ; omega))
  · have := t.size; omega
theorem PF.loop {w0 W : World} {K4 mb mp D A LP rb : Nat} {o : Obj} (h : PF w0 K4 mb mp D A LP rb o W) (o' : Obj) : PF w0 K4 mb mp D A LP rb o' (W.putObj (LP + 1) o') := by
  have hr := h.ord
  have hlt : LP + 1 < W.heap.size := by omega
  have k : ∀ k, k ≠ LP + 1 → (W.putObj (LP + 1) o').heap[k]? = W.heap[k]? := fun k hk => World.putObj_heap_other hk
  obtain ⟨es, c, hb, hm⟩ := h.km
  refine ⟨(k _ (by omega)).trans h.r1, (k _ (by omega)).trans h.r2, (k _ (by omega)).trans h.kn, ⟨es, c, (k _ (by omega)).trans hb, hm⟩, (k _ (by omega)).trans h.df, World.putObj_heap_same hlt, ?_, ?_⟩
  · have g := grownBy_putObj' W (LP + 1) o'
    have B := h.bel
    exact ⟨g.os.trans B.os, g.tape.trans B.tape, g.output.trans B.output, Nat.le_trans B.size g.size, fun j hj => (k j (by omega)).trans (B.block j hj)⟩
  · have := (grownBy_putObj' W (LP + 1) o').size; omega
/-- What the rounds come to: the lines pre are read. -/
structure PI (w0 : World) (K4 mb mp D A LP rb : Nat) (o : Obj) (pre : List Str) (W : World) : Prop where
  fix : PF w0 K4 mb mp D A LP rb o W
  num : W.heap[A]? = some (.cells #[.int .i64 pre.length] 3 (0, 0))
  run : ∃ d, runL dr0 0 pre = .inl d ∧ DrOk d ∧ DS W mp D rb d
theorem PI.past {w0 W W' : World} {K4 mb mp D A LP rb : Nat} {o : Obj} {pre : List Str} (h : PI w0 K4 mb mp D A LP rb o pre W) (hb : Below W.heap.size W W') : PI w0 K4 mb mp D A LP rb o pre W' := by
  obtain ⟨d, h1, h2, h3⟩ := h.run
  exact ⟨h.fix.turn (Turn.of_below hb), (hb.block _ (Array.getElem?_eq_some_iff.1 h.num).1).trans h.num, d, h1, h2, h3.past hb⟩
theorem PI.loop {w0 W : World} {K4 mb mp D A LP rb : Nat} {o : Obj} {pre : List Str} (h : PI w0 K4 mb mp D A LP rb o pre W) (o' : Obj) (ho : ∃ l, o = .loop l) : PI w0 K4 mb mp D A LP rb o' pre (W.putObj (LP + 1) o') := by
  obtain ⟨d, h1, h2, h3⟩ := h.run
  have hr := h.fix.ord
  have k : ∀ k, k ≠ LP + 1 → (W.putObj (LP + 1) o').heap[k]? = W.heap[k]? := fun k hk => World.putObj_heap_other hk
  refine ⟨h.fix.loop o', (k _ (by omega)).trans h.num, d, h1, h2, ?_⟩
  have g := grownBy_putObj' W (LP + 1) o'
  obtain ⟨l, rfl⟩ := ho
  obtain ⟨⟨vl, vj, q1, q2, q3⟩, q4, q5, q6⟩ := h3
  refine ⟨⟨vl, vj, (k _ (by omega)).trans q1, q2.kept g ?_, q3.kept g ?_⟩, q4.kept g (fun e => by have := Option.some.inj e; omega), ⟨q5.1, q5.2.1, Nat.le_trans q5.2.2 g.size⟩, q6⟩
  · rcases q2.2 with ⟨rfl, _⟩ | ⟨g, c, cur, rfl, _, hgc, _⟩
    · exact .inl rfl
    · refine .inr (fun e => ?_)
      have e := Option.some.inj e
      simp only at e
      rw [e, h.fix.lp] at hgc
      cases hgc
  · rcases q3.2 with ⟨rfl, _⟩ | ⟨g, c, cur, rfl, _, hgc, _⟩
    · exact .inl rfl
    · refine .inr (fun e => ?_)
      have e := Option.some.inj e
      simp only at e
      rw [e, h.fix.lp] at hgc
      cases hgc
/-- A box that is none of ours is written. -/
theorem PI.box {w0 W W' : World} {K4 mb mp D A LP rb B : Nat} {o : Obj} {pre : List Str} (h : PI w0 K4 mb mp D A LP rb o pre W) (hB : A < B ∧ B < LP) (hg : W.grownBy W' (some B)) : PI w0 K4 mb mp D A LP rb o pre W' := by
  obtain ⟨d, h1, h2, h3⟩ := h.run
  have hr := h.fix.ord
  have k : ∀ k, k < W.heap.size → k ≠ B → W'.heap[k]? = W.heap[k]? := fun k hk hn => hg.block k hk (fun e => hn (Option.some.inj e))
  obtain ⟨es, c, hb, hm⟩ := h.fix.km
  have f := h.fix
  obtain ⟨⟨vl, vj, q1, q2, q3⟩, q4, q5, q6⟩ := h3
  refine ⟨⟨(k _ (by omega) (by omega)).trans f.r1, (k _ (by omega) (by omega)).trans f.r2, (k _ (by omega) (by omega)).trans f.kn, ⟨es, c, (k _ (by omega) (by omega)).trans hb, hm⟩, (k _ (by omega) (by omega)).trans f.df, (k _ (by omega) (by omega)).trans f.lp, ?_, ?_⟩,
    (k _ (by omega) (by omega)).trans h.num, d, h1, h2, ⟨⟨vl, vj, (k _ (by omega) (by omega)).trans q1, q2.kept hg ?_, q3.kept hg ?_⟩, q4.kept hg (fun e => by have := Option.some.inj e; omega), ⟨q5.1, q5.2.1, Nat.le_trans q5.2.2 hg.size⟩, q6⟩⟩
  · have B0 := f.bel
    exact ⟨hg.os.trans B0.os, hg.tape.trans B0.tape, hg.output.trans B0.output, Nat.le_trans B0.size hg.size, fun j hj => (k j (by omega) (by omega)).trans (B0.block j hj)⟩
  · have := hg.size; omega
  · cases hk : vl.ownBlock with
    | none => exact .inl rfl
    | some g => exact .inr (fun e => by have := (q2.lt g hk).1; have := Option.some.inj e; omega)
  · cases hk : vj.ownBlock with
    | none => exact .inl rfl
    | some g => exact .inr (fun e => by have := (World.ownsRow.lt q3 g hk).1; have := Option.some.inj e; omega)
theorem Boxes.trans {a b c : Nat} {W W' W'' : World} (h : Boxes a b c W W') (h' : Boxes a b c W' W'') : Boxes a b c W W'' := ⟨h'.b1.trans h.b1, h'.b2.trans h.b2, h'.b3.trans h.b3⟩
theorem boxes_turn {k : Nat} {W W' : World} (t : Turn (PQ (k + 1) (k + 2) (k + 3) (k + 9)) W W') (h : k + 9 ≤ W.heap.size) : Boxes (k + 5) (k + 4) (k + 6) W W' :=
  ⟨t.block _ (by omega) (by unfold PQ; omega), t.block _ (by omega) (by unfold PQ; omega), t.block _ (by omega) (by unfold PQ; omega)⟩
theorem boxes_put (k : Nat) (W : World) (o : Obj) : Boxes (k + 5) (k + 4) (k + 6) W (W.putObj (k + 7 + 1) o) :=
  ⟨World.putObj_heap_other (by omega), World.putObj_heap_other (by omega), World.putObj_heap_other (by omega)⟩
theorem splitSeqP (s : Str) (w : World) :
    Calls Tryz.prog 64 #[str s, str [10], .int .i64 0] w fun e w' => e = .returned (.func (.func 128) #[] #[.pointer (some ⟨w.heap.size + 1, 0, none⟩), .pointer (some ⟨w.heap.size, 0, none⟩), .pointer (some ⟨w.heap.size + 2, 0, none⟩)]) ∧
      w' = ((w.alloc (.cells #[str s] 9)).alloc (.cells #[str [10]] 9)).alloc (.cells #[.int .i64 0] 3) := by
  have hmf : ∀ (fn : Fn) (first cap : Array Value) (w : World), (Instr.makeFunc fn first cap).run Tryz.prog w = .ok (.func fn first cap) w := fun _ _ _ _ => rfl
  go_enter Tryz.func64, Tryz.ntmps64
  go_wp2_with fail
  go_ret
  exact ⟨rfl, rfl⟩
theorem SplitSeqP (s : Str) (w : World) :
    Calls Tryz.prog 26 #[str s, .string ⟨#[10]⟩] w fun e w' => e = .returned (.func (.func 128) #[] #[.pointer (some ⟨w.heap.size + 1, 0, none⟩), .pointer (some ⟨w.heap.size, 0, none⟩), .pointer (some ⟨w.heap.size + 2, 0, none⟩)]) ∧
      w' = ((w.alloc (.cells #[str s] 9)).alloc (.cells #[str [10]] 9)).alloc (.cells #[.int .i64 0] 3) := by
  have S := splitSeqP s w
  go_enter Tryz.func26, Tryz.ntmps26
  go_wp2_with fail
  refine S.mono ?_; rintro e w' ⟨rfl, rfl⟩
  go_wp2_with fail
  go_ret
  exact ⟨rfl, rfl⟩
end Go.Proofs.YthfkmackodbmkaaGreatDoor
