/- Parse tells what the language has of a text. -/
import Derived.Test.YthfkmackodbmkaaGreatDoorTextRun
namespace Go.Proofs.YthfkmackodbmkaaGreatDoor
open Go.RowKit Go.MapKept
set_option linter.unusedVariables false
set_option linter.unusedSimpArgs false
set_option maxRecDepth 100000
set_option maxHeartbeats 4000000
attribute [local go_sem] Oper.semAt_some

/-- Parse's answer: the instructions in new memory, and the fault. -/
def Parsed (r : List Ins × Int × Int) (w : World) (e : Ending) (w' : World) : Prop :=
  ∃ v, e = .returned (.tuple #[v, .agg #[.int .i64 r.2.1, .int .i64 r.2.2]]) ∧ OwnI w' w.heap.size v r.1 ∧ Below w.heap.size w w'
theorem parse_long (s : Str) (w : World) (h : 262144 < s.length) (hs : s.length ≤ 1000000000) :
    Calls Tryz.prog 9 #[str s] w (Parsed ([], 3, 0) w) := by
  have b1 := alloc_below w (.cells #[.slice none 0 0] 23)
  have b2 := alloc_below (w.alloc (.cells #[.slice none 0 0] 23)) (.cells #[.int .i64 0, .int .i64 0] 26)
  have hd : decide ((262144 : Int) < s.length) = true := by simp; omega
  refine (callsIn_wide (n := 3)).1 (callsIn_of_wp_marks Tryz.func9 rfl trivial ?_ rfl)
  simp only [Tryz.ntmps9, List.size_toArray, List.length_cons, List.length_nil, Nat.reduceAdd, Nat.reduceSub, Array.replicate_succ, Array.replicate_zero, List.push_toArray, List.append_toArray, List.nil_append, List.cons_append]
  gi_wp2_with fail
  have b3 := alloc_below (w.alloc (.cells #[.slice none 0 0] 23)) (.cells #[.int .i64 3, .int .i64 0] 26)
  have B := b1.trans (b3.mono b1.size)
  have r1 := (b3.block _ (by simp)).trans (heap_alloc_new w (.cells #[.slice none 0 0] 23))
  have r2 := heap_alloc_new (w.alloc (.cells #[.slice none 0 0] 23)) (.cells #[.int .i64 3, .int .i64 0] 26)
  have hz1 : (w.alloc (.cells #[.slice none 0 0] 23)).heap.size = w.heap.size + 1 := by simp
  rw [hz1] at r2
  generalize (w.alloc (.cells #[.slice none 0 0] 23)).alloc (.cells #[.int .i64 3, .int .i64 0] 26) = W at *
  have c1 : W.cell? ⟨w.heap.size, 0, none⟩ = some (.slice none 0 0) := by simp [World.cell?, r1]
  have c2 : W.cell? ⟨w.heap.size + 1, 0, none⟩ = some (.int .i64 3) := by simp [World.cell?, r2]
  have c3 : W.cell? ⟨w.heap.size + 1, 1, none⟩ = some (.int .i64 0) := by simp [World.cell?, r2]
  refine ⟨.tuple #[.slice none 0 0, .agg #[.int .i64 3, .int .i64 0]], by simp [results, Tryz.results9, go_sem, c1, c2, c3], ?_⟩
  exact ⟨_, rfl, OwnI.nil _ _, B⟩
theorem lines_len : ∀ s : Str, (lines s).length ≤ s.length + 1
  | [] => by simp [lines]
  | c :: r => by
    have := lines_len r
    unfold lines
    split
    · simp; omega
    · simp; omega
theorem lines_mem : ∀ (s : Str) (x : Str), x ∈ lines s → x.length ≤ s.length
  | [], x, h => by simp [lines] at h; simp [h]
  | c :: r, x, h => by
    have ih := lines_mem r
    unfold lines at h
    split at h
    · rcases List.mem_cons.1 h with rfl | h
      · simp
      · have := ih x h; simp; omega
    · cases hl : lines r with
      | nil =>
        rw [hl] at h
        simp at h
        subst h
        simp
      | cons y ys =>
        rw [hl] at h
        simp only [List.headD_cons, List.tail_cons] at h
        rcases List.mem_cons.1 h with rfl | h
        · have := ih y (by rw [hl]; simp); simp; omega
        · have := ih x (by rw [hl]; simp [h]); simp; omega
theorem alloc_at (w : World) (o : Obj) (k : Nat) : (w.alloc o).heap[k]? = if k = w.heap.size then some o else w.heap[k]? := by
  by_cases h : k = w.heap.size
  · subst h; rw [if_pos rfl]; exact World.alloc_heap_new w o
  · rw [if_neg h]
    rcases Nat.lt_or_ge k w.heap.size with h1 | h1
    · exact (Below.refl _ w).alloc (Nat.le_refl _) o |>.block k h1
    · exact (Array.getElem?_eq_none (by rw [World.size_alloc]; omega)).trans (Array.getElem?_eq_none h1).symm
def start4 (w3 : World) (mb : Nat) : World := (((w3.alloc (.cells #[.map (some mb)] 51)).alloc (.map #[] 0)).alloc (.cells #[.slice none 0 0, .map (some (w3.heap.size + 1)), .slice none 0 0] 56)).alloc (.cells #[.int .i64 0] 3)
def start7 (w3 : World) (mb : Nat) (s : Str) : World := (((start4 w3 mb).alloc (.cells #[str s] 9)).alloc (.cells #[str [10]] 9)).alloc (.cells #[.int .i64 0] 3)
theorem start_size (w3 : World) (mb : Nat) (s : Str) : (start4 w3 mb).heap.size = w3.heap.size + 4 ∧ (start7 w3 mb s).heap.size = w3.heap.size + 7 := by
  simp [start7, start4]
theorem pi_start {w w2 w3 : World} (s : Str) (B2 : Below w.heap.size w w2) (r1 : w2.heap[w.heap.size]? = some (.cells #[.slice none 0 0] 23 (0, 0))) (r2 : w2.heap[w.heap.size + 1]? = some (.cells #[.int .i64 0, .int .i64 0] 26 (0, 0))) (hz : w2.heap.size = w.heap.size + 2)
    (M3 : SMap w3 w2.heap.size tabV) (b3 : Below w2.heap.size w2 w3) :
    Sq (w3.heap.size + 5) (w3.heap.size + 4) (w3.heap.size + 6) s (start7 w3 w2.heap.size s) ∧
    ∀ o : Obj, Sq (w3.heap.size + 5) (w3.heap.size + 4) (w3.heap.size + 6) s (((start7 w3 w2.heap.size s).alloc (.deferred (some []))).alloc o) ∧ PI w w3.heap.size w2.heap.size (w3.heap.size + 1) (w3.heap.size + 2) (w3.heap.size + 3) (w3.heap.size + 7) (w3.heap.size + 9) o [] (((start7 w3 w2.heap.size s).alloc (.deferred (some []))).alloc o) := by
  have hlt := M3.lt
  have hs := b3.size
  obtain ⟨es, c, hb, hm⟩ := M3
  have g7 : ∀ k, k < w3.heap.size → (start7 w3 w2.heap.size s).heap[k]? = w3.heap[k]? := by
    intro k hk
    simp only [start7, start4, alloc_at, World.size_alloc]
    repeat rw [if_neg (by omega)]
  have g9 : ∀ (o : Obj) k, k < w3.heap.size + 7 → (((start7 w3 w2.heap.size s).alloc (.deferred (some []))).alloc o).heap[k]? = (start7 w3 w2.heap.size s).heap[k]? := by
    intro o k hk
    have := (start_size w3 w2.heap.size s).2
    simp only [alloc_at, World.size_alloc]
    repeat rw [if_neg (by omega)]
  have q : ∀ i, i < 7 → (start7 w3 w2.heap.size s).heap[w3.heap.size + i]? = [Obj.cells #[.map (some w2.heap.size)] 51 (0, 0), .map #[] 0, .cells #[.slice none 0 0, .map (some (w3.heap.size + 1)), .slice none 0 0] 56 (0, 0), .cells #[.int .i64 0] 3 (0, 0), .cells #[str s] 9 (0, 0), .cells #[str [10]] 9 (0, 0), .cells #[.int .i64 0] 3 (0, 0)][i]? := by
    intro i hi
    simp only [start7, start4, alloc_at, World.size_alloc]
    rcases (by omega : i = 0 ∨ i = 1 ∨ i = 2 ∨ i = 3 ∨ i = 4 ∨ i = 5 ∨ i = 6) with rfl | rfl | rfl | rfl | rfl | rfl | rfl
    all_goals
      repeat (first | rw [if_pos (by omega)] | rw [if_neg (by omega)])
      try rfl
  have SQ : Sq (w3.heap.size + 5) (w3.heap.size + 4) (w3.heap.size + 6) s (start7 w3 w2.heap.size s) := ⟨q 5 (by omega), q 4 (by omega), q 6 (by omega), by omega, by omega⟩
  refine ⟨SQ, fun o => ⟨⟨(g9 o _ (by omega)).trans SQ.sep, (g9 o _ (by omega)).trans SQ.rest, (g9 o _ (by omega)).trans SQ.save, SQ.far⟩, ⟨⟨?_, ?_, ?_, ?_, ?_, ?_, ?_, ?_⟩, ?_, dr0, rfl, dr0_ok, ?_⟩⟩⟩
  · rw [g9 o _ (by omega), g7 _ (by omega), b3.block _ (by omega)]; exact r1
  · rw [g9 o _ (by omega), g7 _ (by omega), b3.block _ (by omega)]; exact r2
  · rw [g9 o _ (by omega)]; exact q 0 (by omega)
  · exact ⟨es, c, by rw [g9 o _ (by omega), g7 _ hlt]; exact hb, hm⟩
  · have := (start_size w3 w2.heap.size s).2
    rw [alloc_at, if_neg (by rw [World.size_alloc]; omega), alloc_at, if_pos this.symm]
  · have := (start_size w3 w2.heap.size s).2
    rw [alloc_at, if_pos (by rw [World.size_alloc]; omega)]
  · have e := (start_size w3 w2.heap.size s).2
    refine ⟨?_, ?_, ?_, ?_, fun k hk => ?_⟩
    · exact b3.os.trans B2.os
    · exact b3.tape.trans B2.tape
    · exact b3.output.trans B2.output
    · rw [World.size_alloc, World.size_alloc]; omega
    · rw [g9 o _ (by omega), g7 _ (by omega), b3.block _ (by omega)]; exact B2.block k hk
  · have e := (start_size w3 w2.heap.size s).2
    rw [World.size_alloc, World.size_alloc]
    omega
  · rw [g9 o _ (by omega)]; exact q 3 (by omega)
  · have e := (start_size w3 w2.heap.size s).2
    refine ⟨⟨.slice none 0 0, .slice none 0 0, ?_, OwnI.nil _ _, World.ownsRow_nil _ _ _ _⟩, ?_, ⟨by omega, by omega, by rw [World.size_alloc, World.size_alloc]; omega⟩, by decide, by decide⟩
    · rw [g9 o _ (by omega)]; exact q 2 (by omega)
    · exact ⟨#[], 0, by rw [g9 o _ (by omega)]; exact q 1 (by omega), rfl⟩
theorem jx_end {w W V : World} {K4 mb mp D A LP rb : Nat} {o : Obj} {err at' : Int} (F : PF w K4 mb mp D A LP rb o W) (h1 : V.heap[w.heap.size]? = some (.cells #[.slice none 0 0] 23 (0, 0))) (h2 : V.heap[w.heap.size + 1]? = some (.cells #[.int .i64 err, .int .i64 at'] 26 (0, 0)))
    (hk : ∀ k, k ≠ w.heap.size → k ≠ w.heap.size + 1 → V.heap[k]? = W.heap[k]?) (hz : V.heap.size = W.heap.size) (ho : V.os = W.os ∧ V.tape = W.tape ∧ V.output = W.output) :
    V.heap[LP + 1]? = some o ∧ ∀ o', (V.putObj (LP + 1) o').heap[w.heap.size]? = some (.cells #[.slice none 0 0] 23 (0, 0)) ∧ (V.putObj (LP + 1) o').heap[w.heap.size + 1]? = some (.cells #[.int .i64 err, .int .i64 at'] 26 (0, 0)) ∧
      (V.putObj (LP + 1) o').heap[LP]? = some (.deferred (some [])) ∧ (V.putObj (LP + 1) o').heap[LP + 1]? = some o' ∧ Below w.heap.size w (V.putObj (LP + 1) o') := by
  have hr := F.ord
  have k : ∀ o' k, k ≠ LP + 1 → (V.putObj (LP + 1) o').heap[k]? = V.heap[k]? := fun o' k hk => World.putObj_heap_other hk
  refine ⟨(hk _ (by omega) (by omega)).trans F.lp, fun o' => ⟨(k o' _ (by omega)).trans h1, (k o' _ (by omega)).trans h2, (k o' _ (by omega)).trans ((hk _ (by omega) (by omega)).trans F.df), World.putObj_heap_same (by omega), ?_⟩⟩
  have g := grownBy_putObj' V (LP + 1) o'
  have B := F.bel
  exact ⟨g.os.trans (ho.1.trans B.os), g.tape.trans (ho.2.1.trans B.tape), g.output.trans (ho.2.2.trans B.output), Nat.le_trans B.size (by rw [← hz]; exact g.size), fun j hj => (k o' j (by omega)).trans ((hk j (by omega) (by omega)).trans (B.block j hj))⟩
theorem OwnI.low {w : World} {base base' : Nat} {v : Value} {l : List Ins} (h : OwnI w base v l) (hb : base' ≤ base) : OwnI w base' v l := by
  refine ⟨h.1, ?_⟩
  rcases h.2 with h1 | ⟨g, c, cur, h1, h2, h3⟩
  · exact .inl h1
  · exact .inr ⟨g, c, cur, h1, Nat.le_trans hb h2, h3⟩
/-- The end: what was deferred is taken, and the results are told. -/
theorem parse_fin {w V : World} {a : Act} {k : Nat} {v : Value} {err at' : Int} {r : List Ins × Int × Int} (h2 : a.tmps[2]? = some (.pointer (some ⟨w.heap.size, 0, none⟩))) (h3 : a.tmps[3]? = some (.pointer (some ⟨w.heap.size + 1, 0, none⟩))) (hd : a.defers = [{ target := .collected k, args := #[] }])
    (q1 : V.heap[w.heap.size]? = some (.cells #[v] 23 (0, 0))) (q2 : V.heap[w.heap.size + 1]? = some (.cells #[.int .i64 err, .int .i64 at'] 26 (0, 0))) (q3 : V.heap[k]? = some (.deferred (some []))) (hk : w.heap.size + 1 < k) (hB : Below w.heap.size w V)
    (hv : ∃ ao n c, v = .slice ao n c) (hr : r.2 = (err, at')) (ho : OwnI V w.heap.size v r.1) : bodyPostM Fence.wide 3 Tryz.prog Tryz.f9 (Parsed r w) .ret a V := by
  obtain ⟨tm, df⟩ := a
  simp only at h2 h3 hd
  subst hd
  refine ⟨by simp, .inl ⟨_, _, rfl, run_takeDeferred q3, ?_⟩⟩
  have g := grownBy_putObj' V k (.deferred none)
  have n : ∀ j, j ≠ k → (V.putObj k (.deferred none)).heap[j]? = V.heap[j]? := fun j hj => World.putObj_heap_other hj
  have r1 := (n w.heap.size (by omega)).trans q1
  have r2 := (n (w.heap.size + 1) (by omega)).trans q2
  have ow : OwnI (V.putObj k (.deferred none)) w.heap.size v r.1 := by
    refine ho.kept g ?_
    cases hk2 : v.ownBlock with
    | none => exact .inl rfl
    | some j =>
      refine .inr (fun e => ?_)
      have e := Option.some.inj e
      obtain ⟨ao, n', c, rfl⟩ := hv
      rcases ho.2 with ⟨e1, _⟩ | ⟨g', c', cur, e1, _, hg, _⟩
      · rw [e1] at hk2; cases hk2
      · rw [e1] at hk2
        have := Option.some.inj hk2
        simp only at this
        rw [this, e, q3] at hg
        cases hg
  have BZ : Below w.heap.size w (V.putObj k (.deferred none)) := ⟨g.os.trans hB.os, g.tape.trans hB.tape, g.output.trans hB.output, Nat.le_trans hB.size g.size, fun j hj => (n j (by omega)).trans (hB.block j hj)⟩
  generalize V.putObj k (.deferred none) = Z at *
  obtain ⟨ao, n', c, rfl⟩ := hv
  have c1 : Z.cell? ⟨w.heap.size, 0, none⟩ = some (.slice ao n' c) := by simp only [World.cell?, r1]; rfl
  have c2 : Z.cell? ⟨w.heap.size + 1, 0, none⟩ = some (.int .i64 err) := by simp only [World.cell?, r2]; rfl
  have c3 : Z.cell? ⟨w.heap.size + 1, 1, none⟩ = some (.int .i64 at') := by simp only [World.cell?, r2]; rfl
  have t2 : tm.getD 2 undef = .pointer (some ⟨w.heap.size, 0, none⟩) := by simp [Array.getD_eq_getD_getElem?, h2]
  have t3 : tm.getD 3 undef = .pointer (some ⟨w.heap.size + 1, 0, none⟩) := by simp [Array.getD_eq_getD_getElem?, h3]
  have t2' : tm[2]?.getD undef = .pointer (some ⟨w.heap.size, 0, none⟩) := by simp [h2]
  have t3' : tm[3]?.getD undef = .pointer (some ⟨w.heap.size + 1, 0, none⟩) := by simp [h3]
  refine ⟨.tuple #[.slice ao n' c, .agg #[.int .i64 err, .int .i64 at']], by simp [results, Tryz.results9, go_sem, t2, t3, t2', t3', c1, c2, c3], ?_⟩
  exact ⟨_, by rw [hr], ow, BZ⟩
theorem fin_df {w W V : World} {K4 mb mp D A LP rb : Nat} {o : Obj} (F : PF w K4 mb mp D A LP rb o W) (hk : ∀ k, k ≠ w.heap.size → k ≠ w.heap.size + 1 → V.heap[k]? = W.heap[k]?) : V.heap[LP]? = some (.deferred (some [])) := by
  have hr := F.ord
  exact (hk _ (by omega) (by omega)).trans F.df
theorem fin_bel {w W V : World} {K4 mb mp D A LP rb : Nat} {o : Obj} (F : PF w K4 mb mp D A LP rb o W) (hk : ∀ k, k ≠ w.heap.size → k ≠ w.heap.size + 1 → V.heap[k]? = W.heap[k]?) (hz : V.heap.size = W.heap.size) (ho : V.os = W.os ∧ V.tape = W.tape ∧ V.output = W.output) : Below w.heap.size w V := by
  have B := F.bel
  exact ⟨ho.1.trans B.os, ho.2.1.trans B.tape, ho.2.2.trans B.output, by rw [hz]; exact B.size, fun j hj => (hk j (by omega) (by omega)).trans (B.block j hj)⟩
theorem addL_err {d : Dr} {t : Told} {a n : Int} (h : addL d t a = .inr n) : n = 121 ∨ n = 3 := by
  unfold addL at h
  split at h
  · split at h
    · cases h; exact .inl rfl
    · cases h
  · split at h
    · split at h
      · cases h; exact .inr rfl
      · cases h
    · cases h
theorem run_end {ls rest : List Str} {x : Str} {d : Dr} {e : Int} (hr : runL dr0 0 ls = .inl d) (hs : stepL d ((ls.length : Int) + 1) x = .inr e) : runL dr0 0 (ls ++ [x] ++ rest) = .inr (e, (ls.length : Int) + 1) := by
  refine runL_stop _ _ _ _ _ ?_
  rw [runL_snoc ls dr0 0 d x hr, show (0 : Int) + (ls.length : Int) + 1 = (ls.length : Int) + 1 from by omega, hs]
theorem run_on {ls : List Str} {x : Str} {d d' : Dr} (hr : runL dr0 0 ls = .inl d) (hs : stepL d ((ls.length : Int) + 1) x = .inl d') : runL dr0 0 (ls ++ [x]) = .inl d' := by
  rw [runL_snoc ls dr0 0 d x hr, show (0 : Int) + (ls.length : Int) + 1 = (ls.length : Int) + 1 from by omega, hs]
theorem parse_short (s : Str) (w : World) (h : ¬ 262144 < s.length) (L : Lay w) :
    Calls Tryz.prog 9 #[str s] w (Parsed (parseL s) w) := by
  have hd : decide ((262144 : Int) < s.length) = false := by simp; omega
  have b1 := alloc_below w (.cells #[.slice none 0 0] 23)
  have b2 := alloc_below (w.alloc (.cells #[.slice none 0 0] 23)) (.cells #[.int .i64 0, .int .i64 0] 26)
  have B2 := b1.trans (b2.mono b1.size)
  have r1 := (b2.block _ (by simp)).trans (heap_alloc_new w (.cells #[.slice none 0 0] 23))
  have r2 := heap_alloc_new (w.alloc (.cells #[.slice none 0 0] 23)) (.cells #[.int .i64 0, .int .i64 0] 26)
  have hz : ((w.alloc (.cells #[.slice none 0 0] 23)).alloc (.cells #[.int .i64 0, .int .i64 0] 26)).heap.size = w.heap.size + 2 := by simp
  have hz1 : (w.alloc (.cells #[.slice none 0 0] 23)).heap.size = w.heap.size + 1 := by simp
  rw [hz1] at r2
  have WP := wordsP _ (L.past B2)
  have HF := Lib.hid (And.intro B2 (And.intro r1 (And.intro r2 hz)))
  have hmk : ∀ W : World, (Instr.makeMap 53 none).run Tryz.prog W = .ok (.map (some W.heap.size)) (W.alloc (.map #[] 0)) := fun W => run_makeMap _ W
  clear b1 b2 B2 r1 r2 hz hz1
  refine (callsIn_wide (n := 3)).1 (callsIn_of_wp_marks Tryz.func9 rfl trivial ?_ rfl)
  simp only [Tryz.ntmps9, List.size_toArray, List.length_cons, List.length_nil, Nat.reduceAdd, Nat.reduceSub, Array.replicate_succ, Array.replicate_zero, List.push_toArray, List.append_toArray, List.nil_append, List.cons_append]
  gi_wp2_with fail
  refine ⟨trivial, callsIn_wide.2 ?_⟩
  generalize (w.alloc (.cells #[.slice none 0 0] 23)).alloc (.cells #[.int .i64 0, .int .i64 0] 26) = w2 at *
  refine WP.mono ?_; rintro e w3 ⟨rfl, M3, b3⟩
  have PS := pi_start s (HF.out).1 (HF.out).2.1 (HF.out).2.2.1 (HF.out).2.2.2 M3 b3
  have hsz := start_size w3 w2.heap.size s
  have HL3 := Lib.hid L
  have HPS := Lib.hid PS
  clear PS HF M3 b3 WP L
  gi_wp2_with fail
  refine ⟨trivial, callsIn_wide.2 ?_⟩
  change Calls _ _ _ (start4 w3 w2.heap.size) _
  have SS : Calls Tryz.prog 26 #[str s, .string ⟨#[10]⟩] (start4 w3 w2.heap.size) fun e w' => e = .returned (.func (.func 128) #[] #[.pointer (some ⟨(start4 w3 w2.heap.size).heap.size + 1, 0, none⟩), .pointer (some ⟨(start4 w3 w2.heap.size).heap.size, 0, none⟩), .pointer (some ⟨(start4 w3 w2.heap.size).heap.size + 2, 0, none⟩)]) ∧ w' = start7 w3 w2.heap.size s := SplitSeqP s _
  refine SS.mono ?_; rintro e w5 ⟨rfl, rfl⟩
  clear SS
  rw [hsz.1]
  obtain ⟨S7, P7⟩ := HPS.out
  have hs7 := hsz.2
  clear HPS hsz hmk
  generalize start7 w3 w2.heap.size s = w7 at *
  generalize w3.heap.size = k4 at *
  generalize w2.heap.size = mb at *
  gi_wp2_with fail
  refine range_law2 (by decide) rfl (enters_of Tryz.func128 (by kernel_rfl) rfl) ?_
  intro rec hy
  rw [hs7] at hy ⊢
  obtain ⟨S9, P9⟩ := P7 (.loop (rec .ready none))
  have hlen : s.length ≤ 1000000000 := by omega
  refine (splits (k4 + 5) (k4 + 4) (k4 + 6) (k4 + 7 + 1) s hlen
    (fun ls W => PI w k4 mb (k4 + 1) (k4 + 2) (k4 + 3) (k4 + 7) (k4 + 9) (.loop (rec .ready none)) ls W)
    (fun W => ∃ err at' : Int, runL dr0 0 (lines s) = .inr (err, at') ∧ W.heap[w.heap.size]? = some (.cells #[.slice none 0 0] 23 (0, 0)) ∧ W.heap[w.heap.size + 1]? = some (.cells #[.int .i64 err, .int .i64 at'] 26 (0, 0)) ∧ W.heap[k4 + 7]? = some (.deferred (some [])) ∧ W.heap[k4 + 7 + 1]? = some (.loop (rec .done (some .ret))) ∧ Below w.heap.size w W)
    ?_ ?_ _ P9 S9).mono ?_
  · intro ls W W' h hg
    exact h.box ⟨by omega, by omega⟩ hg
  · -- ONE ROUND
    intro ls x W hP hpre
    refine hy #[str x] W _ rfl hP.fix.lp ?_
    have P2 := hP.loop (.loop (rec .busy none)) ⟨_, rfl⟩
    have HLP := Lib.hid hP.fix.lp
    obtain ⟨rest, hrest⟩ := hpre
    have hll := lines_len s
    rw [← hrest] at hll
    simp only [List.length_append, List.length_singleton] at hll
    have hxl := lines_mem s x (by rw [← hrest]; simp)
    have HRS := Lib.hid hrest
    have HXL := Lib.hid hxl
    have HNN := Lib.hid hll
    have HP2 := Lib.hid P2
    gi_wp2_with fail
    refine ⟨HLP.out, ?_⟩
    clear hP P2 HLP S9 P9 S7 P7 hy hrest hll hxl hs7
    have bP := (HP2.out).fix.ord
    have ca : (W.putObj (k4 + 7 + 1) (.loop (rec .busy none))).cell? ⟨k4 + 3, 0, none⟩ = some (.int .i64 ls.length) := by simp only [World.cell?, (HP2.out).num]; rfl
    have fa : (W.putObj (k4 + 7 + 1) (.loop (rec .busy none))).frozen? ⟨k4 + 3, 0, none⟩ = false := by simp only [World.frozen?, (HP2.out).num]; rfl
    have ck : (W.putObj (k4 + 7 + 1) (.loop (rec .busy none))).cell? ⟨k4, 0, none⟩ = some (.map (some mb)) := by simp only [World.cell?, (HP2.out).fix.kn]; rfl
    have hn1 : (ls.length : Int) + 1 ≤ 9223372036854775807 := by have := HNN.out; omega
    have g3 := setCell_grown (W.putObj (k4 + 7 + 1) (.loop (rec .busy none))) (k4 + 3) 0 (.int .i64 ((ls.length : Int) + 1))
    have T3 : Turn (PQ (k4 + 1) (k4 + 2) (k4 + 3) (k4 + 9)) _ _ := Turn.of_grown g3 (fun k e => by cases e; exact .inr (.inr (.inl rfl)))
    have F3 := (HP2.out).fix.turn (Turn.of_grown g3 (fun k e => by cases e; exact .inr (.inr (.inl rfl))))
    have n3 := heap_set (HP2.out).num 0 (.int .i64 ((ls.length : Int) + 1))
    obtain ⟨d, hrun, hok, hds⟩ := (HP2.out).run
    have D3 := hds.other (HP2.out).num (by decide) (by decide) (by decide) g3
    have ck3 := g3.cell ck (fun e => by have := Option.some.inj e; simp at this)
    have RD := readP mb x (by have := HXL.out; omega) _ F3.km (HL3.out.past F3.bel)
    have HRUN := Lib.hid (And.intro hrun hok)
    clear hds hrun hok g3
    gi_wp2_with fail
    refine ⟨trivial, CallsIn.inRound _ (callsIn_wide.2 ?_)⟩
    refine RD.mono ?_; rintro e w4 ⟨rfl, b4⟩
    generalize hW3 : (W.putObj (k4 + 7 + 1) (.loop (rec .busy none))).setCell ⟨k4 + 3, 0, none⟩ (.int .i64 ((ls.length : Int) + 1)) = W3 at *
    have F4 := Lib.hid (F3.turn (Turn.of_below b4))
    have n4 := (b4.block _ (Array.getElem?_eq_some_iff.1 n3).1).trans n3
    have D4 := Lib.hid (D3.past b4)
    have T4 := Lib.hid (T3.trans (Turn.of_below b4))
    clear RD ca fa ck ck3 F3 D3 b4 n3 hW3 T3
    cases ht : told x with
    | none =>
      rw [show errOf (none : Option Told) = 120 from rfl, show toldOf (none : Option Told) = nothing from rfl]
      have HT := Lib.hid ht
      clear ht
      unfold lineV nothing noIns
      simp only
      have bT := alloc_below w4 (.cells #[str [], .int .u8 0, .bool false, .int .i64 0, .int .i64 0, .bool false, .int .i64 0, .int .i64 0, .int .i64 0, str []] 61)
      have F5 := (F4.out).turn (Turn.of_below bT)
      have n5 := (bT.block _ (Array.getElem?_eq_some_iff.1 n4).1).trans n4
      gi_wp2_with fail
      generalize w4.alloc (.cells #[str [], .int .u8 0, .bool false, .int .i64 0, .int .i64 0, .bool false, .int .i64 0, .int .i64 0, .int .i64 0, str []] 61) = w5 at *
      have c1 : w5.cell? ⟨w.heap.size, 0, none⟩ = some (.slice none 0 0) := by simp only [World.cell?, F5.r1]; rfl
      have c2 : w5.cell? ⟨w.heap.size + 1, 0, none⟩ = some (.int .i64 0) := by simp only [World.cell?, F5.r2]; rfl
      have c3 : w5.cell? ⟨w.heap.size + 1, 1, none⟩ = some (.int .i64 0) := by simp only [World.cell?, F5.r2]; rfl
      have f1 : w5.frozen? ⟨w.heap.size, 0, none⟩ = false := by simp only [World.frozen?, F5.r1]; rfl
      have f2 : w5.frozen? ⟨w.heap.size + 1, 0, none⟩ = false := by simp only [World.frozen?, F5.r2]; rfl
      have f3 : w5.frozen? ⟨w.heap.size + 1, 1, none⟩ = false := by simp only [World.frozen?, F5.r2]; rfl
      have c4 : w5.cell? ⟨k4 + 3, 0, none⟩ = some (.int .i64 ((ls.length : Int) + 1)) := by have := n5; simp only [World.cell?, this]; rfl
      have c5 : w5.cell? ⟨k4 + 1 + 1 + 1, 0, none⟩ = some (.int .i64 ((ls.length : Int) + 1)) := c4
      have HE := Lib.hid (show runL dr0 0 (lines s) = .inr (120, (ls.length : Int) + 1) by rw [← HRS.out]; exact run_end (HRUN.out).1 (by unfold stepL; rw [HT.out]))
      gi_region
      all_goals
        gi_wp2_with fail
        refine (fun (J1 : _ ∧ ∀ o' : Obj, _) => ⟨J1.1, _, _, HE.out, (J1.2 _).1, (J1.2 _).2.1, (J1.2 _).2.2.1, (J1.2 _).2.2.2.1, (J1.2 _).2.2.2.2⟩) (jx_end F5 ?_ ?_ ?_ ?_ ?_)
        · simp [World.setCell, World.drew, Array.getElem?_modify, F5.r1]
        · simp [World.setCell, World.drew, Array.getElem?_modify, F5.r2]
        · intro k h1 h2
          have h1' : ¬ w.heap.size = k := fun e => h1 e.symm
          have h2' : ¬ w.heap.size + 1 = k := fun e => h2 e.symm
          simp [World.setCell, World.drew, Array.getElem?_modify, h1', h2']
        · simp [World.setCell, World.drew]
        · exact ⟨rfl, rfl, rfl⟩
    | some t =>
      rw [show errOf (some t) = 0 from rfl, show toldOf (some t) = t from rfl]
      have HT := Lib.hid ht
      clear ht
      obtain ⟨lab, ⟨op, nw, dst, src, ui, off, im, sz⟩, goal⟩ := t
      have bT := alloc_below w4 (.cells #[str lab, .int .u8 op, .bool nw, .int .i64 dst, .int .i64 src, .bool ui, .int .i64 off, .int .i64 im, .int .i64 sz, str goal] 61)
      have F5 := (F4.out).turn (Turn.of_below bT)
      have n5 := (bT.block _ (Array.getElem?_eq_some_iff.1 n4).1).trans n4
      have D5 := (D4.out).past bT
      have c5 : (w4.alloc (.cells #[str lab, .int .u8 op, .bool nw, .int .i64 dst, .int .i64 src, .bool ui, .int .i64 off, .int .i64 im, .int .i64 sz, str goal] 61)).cell? ⟨k4 + 1 + 1 + 1, 0, none⟩ = some (.int .i64 ((ls.length : Int) + 1)) := by have e : k4 + 1 + 1 + 1 = k4 + 3 := rfl; rw [e]; simp only [World.cell?, n5]; rfl
      have AD := addP ⟨lab, ⟨op, nw, dst, src, ui, off, im, sz⟩, goal⟩ ((ls.length : Int) + 1) D5 (by have := (HRUN.out).2.few; have := (HRUN.out).2.list; omega)
      unfold lineV at AD ⊢
      simp only at AD ⊢
      clear n4
      gi_wp2_with fail
      refine ⟨trivial, CallsIn.inRound _ (callsIn_wide.2 ?_)⟩
      generalize w4.alloc (.cells #[str lab, .int .u8 op, .bool nw, .int .i64 dst, .int .i64 src, .bool ui, .int .i64 off, .int .i64 im, .int .i64 sz, str goal] 61) = w5 at *
      refine AD.mono ?_; intro e w6 h6
      have T6 := h6.2
      have F6 := F5.turn (T6.mono (fun k hk => by unfold AP at hk; unfold PQ; omega))
      have n6 := (T6.block _ (Array.getElem?_eq_some_iff.1 n5).1 (by unfold AP; omega)).trans n5
      have K6 := (boxes_put k4 W (.loop (rec .busy none))).trans (boxes_turn (((T4.out).trans (Turn.of_below bT)).trans (T6.mono (fun k hk => by unfold AP at hk; unfold PQ; omega))) bP.2.2.2.2.2.2.2)
      cases ha : addL d ⟨lab, ⟨op, nw, dst, src, ui, off, im, sz⟩, goal⟩ ((ls.length : Int) + 1) with
      | inl d' =>
        rw [ha] at h6
        obtain ⟨⟨rfl, hd6⟩, -⟩ := h6
        have hst : stepL d ((ls.length : Int) + 1) x = .inl d' := by unfold stepL; rw [HT.out]; exact ha
        have hok := stepL_ok (HRUN.out).2 hst
        have PN : PI w k4 mb (k4 + 1) (k4 + 2) (k4 + 3) (k4 + 7) (k4 + 9) (.loop (rec .busy none)) (ls ++ [x]) w6 := ⟨F6, by simpa using n6, d', run_on (HRUN.out).1 hst, hok, hd6 hok.list (by have := hok.few; have := hok.list; omega)⟩
        have PN2 := Lib.hid (PN.loop (.loop (rec .ready none)) ⟨_, rfl⟩)
        have HLB := Lib.hid PN.fix.lp
        have HK6 := Lib.hid K6
        clear hst hok PN K6 F6 n6 T6 AD
        gi_wp2_with fail
        exact ⟨HLB.out, PN2.out, (HK6.out).trans (boxes_put k4 w6 _)⟩
      | inr n =>
        rw [ha] at h6
        obtain ⟨rfl, -⟩ := h6
        have HE := Lib.hid (show runL dr0 0 (lines s) = .inr (n, (ls.length : Int) + 1) by rw [← HRS.out]; exact run_end (HRUN.out).1 (by unfold stepL; rw [HT.out]; exact ha))
        have hn := addL_err ha
        have c1 : w6.cell? ⟨w.heap.size, 0, none⟩ = some (.slice none 0 0) := by simp only [World.cell?, F6.r1]; rfl
        have c2 : w6.cell? ⟨w.heap.size + 1, 0, none⟩ = some (.int .i64 0) := by simp only [World.cell?, F6.r2]; rfl
        have c3 : w6.cell? ⟨w.heap.size + 1, 1, none⟩ = some (.int .i64 0) := by simp only [World.cell?, F6.r2]; rfl
        have f1 : w6.frozen? ⟨w.heap.size, 0, none⟩ = false := by simp only [World.frozen?, F6.r1]; rfl
        have f2 : w6.frozen? ⟨w.heap.size + 1, 0, none⟩ = false := by simp only [World.frozen?, F6.r2]; rfl
        have f3 : w6.frozen? ⟨w.heap.size + 1, 1, none⟩ = false := by simp only [World.frozen?, F6.r2]; rfl
        have c4 : w6.cell? ⟨k4 + 3, 0, none⟩ = some (.int .i64 ((ls.length : Int) + 1)) := by simp only [World.cell?, n6]; rfl
        have c5 : w6.cell? ⟨k4 + 1 + 1 + 1, 0, none⟩ = some (.int .i64 ((ls.length : Int) + 1)) := c4
        clear AD K6 T6 ha
        have hn0 : (n != 0) = true := by rcases hn with rfl | rfl <;> rfl
        clear hn
        gi_wp2_with fail
        gi_region
        all_goals
          gi_wp2_with fail
          refine (fun (J1 : _ ∧ ∀ o' : Obj, _) => ⟨J1.1, _, _, HE.out, (J1.2 _).1, (J1.2 _).2.1, (J1.2 _).2.2.1, (J1.2 _).2.2.2.1, (J1.2 _).2.2.2.2⟩) (jx_end F6 ?_ ?_ ?_ ?_ ?_)
          · simp [World.setCell, World.drew, Array.getElem?_modify, F6.r1]
          · simp [World.setCell, World.drew, Array.getElem?_modify, F6.r2]
          · intro k h1 h2
            have h1' : ¬ w.heap.size = k := fun e => h1 e.symm
            have h2' : ¬ w.heap.size + 1 = k := fun e => h2 e.symm
            simp [World.setCell, World.drew, Array.getElem?_modify, h1', h2']
          · simp [World.setCell, World.drew]
          · exact ⟨rfl, rfl, rfl⟩
  · rintro e W1 ⟨hv, hJ | ⟨err, at', he, q1, q2, q3, q4, q5⟩⟩
    · refine ⟨hv, .inl ⟨hJ.fix.lp, ?_⟩⟩
      have P2 := hJ.loop (.loop (rec .exhausted none)) ⟨_, rfl⟩
      clear hJ S9 P9 S7 P7 hy hs7
      generalize W1.putObj (k4 + 7 + 1) (.loop (rec .exhausted none)) = V at *
      obtain ⟨d, hrun, hok, hds⟩ := P2.run
      have HPL := Lib.hid (show parseL s = linked d by unfold parseL; rw [if_neg h]; change (match runL dr0 0 (lines s) with | .inl d => linked d | .inr x => ([], x.1, x.2)) = _; rw [hrun])
      have LK := linkP hds hok.jumps hok.marks
      have HF := Lib.hid P2.fix
      have HSM := Lib.hid hds.lt
      clear hds hrun P2
      obtain ⟨rl, hrl⟩ : ∃ rl, rl = linkL d.marks d.list d.jumps := ⟨_, rfl⟩
      rw [← hrl] at LK
      have HRL := Lib.hid hrl
      clear hrl
      gi_wp2_with fail
      refine ⟨trivial, callsIn_wide.2 ?_⟩
      refine LK.mono ?_; intro e V2 h2
      have T2 := h2.2
      have F2 := (HF.out).turn (T2.mono (fun k hk => by unfold AP at hk; unfold PQ; omega))
      cases rl with
      | inr n =>
        obtain ⟨rfl, -⟩ := h2
        have bT := alloc_below V2 (.cells #[.int .i64 121, .int .i64 n] 26)
        have hT := heap_alloc_new V2 (.cells #[.int .i64 121, .int .i64 n] 26)
        have F3 := F2.turn (Turn.of_below bT)
        have hkl := F2.ord
        clear LK T2 F2
        gi_wp2_with fail
        generalize V2.alloc (.cells #[.int .i64 121, .int .i64 n] 26) = V3 at *
        generalize hbt : V2.heap.size = bt at *
        have x1 : V3.cell? ⟨bt, 0, none⟩ = some (.int .i64 121) := by simp only [World.cell?, hT]; rfl
        have x2 : V3.cell? ⟨bt, 1, none⟩ = some (.int .i64 n) := by simp only [World.cell?, hT]; rfl
        have c1 : V3.cell? ⟨w.heap.size, 0, none⟩ = some (.slice none 0 0) := by simp only [World.cell?, F3.r1]; rfl
        have c2 : V3.cell? ⟨w.heap.size + 1, 0, none⟩ = some (.int .i64 0) := by simp only [World.cell?, F3.r2]; rfl
        have c3 : V3.cell? ⟨w.heap.size + 1, 1, none⟩ = some (.int .i64 0) := by simp only [World.cell?, F3.r2]; rfl
        have f1 : V3.frozen? ⟨w.heap.size, 0, none⟩ = false := by simp only [World.frozen?, F3.r1]; rfl
        have f2 : V3.frozen? ⟨w.heap.size + 1, 0, none⟩ = false := by simp only [World.frozen?, F3.r2]; rfl
        have f3 : V3.frozen? ⟨w.heap.size + 1, 1, none⟩ = false := by simp only [World.frozen?, F3.r2]; rfl
        have HR := Lib.hid (show parseL s = ([], 121, n) by rw [HPL.out]; unfold linked; rw [← HRL.out])
        have H1 := F3.r1
        have H2 := F3.r2
        have HK : (k4 + 7 : Nat) ≠ w.heap.size ∧ (k4 + 7 : Nat) ≠ w.heap.size + 1 := by omega
        gi_region
        all_goals
          gi_wp2_with fail
          refine parse_fin (k := k4 + 7) (v := .slice none 0 0) (err := 121) (at' := n) (r := parseL s) rfl rfl rfl ?q1 ?q2 ?q3 (by omega) ?hB ⟨_, _, _, rfl⟩ ?hr ?ho
          case q1 => simp [World.setCell, World.drew, Array.getElem?_modify, H1]
          case q2 => simp [World.setCell, World.drew, Array.getElem?_modify, H2]
          case q3 =>
            refine fin_df F3 ?_
            intro k h1 h2
            have h1' : ¬ w.heap.size = k := fun e => h1 e.symm
            have h2' : ¬ w.heap.size + 1 = k := fun e => h2 e.symm
            simp [World.setCell, World.drew, Array.getElem?_modify, h1', h2']
          case hB =>
            refine fin_bel F3 ?_ (by simp [World.setCell, World.drew]) ⟨rfl, rfl, rfl⟩
            intro k h1 h2
            have h1' : ¬ w.heap.size = k := fun e => h1 e.symm
            have h2' : ¬ w.heap.size + 1 = k := fun e => h2 e.symm
            simp [World.setCell, World.drew, Array.getElem?_modify, h1', h2']
          case hr => rw [HR.out]
          case ho => rw [HR.out]; exact OwnI.nil _ _
      | inl l =>
        obtain ⟨⟨rfl, hd2⟩, -⟩ := h2
        have bT := alloc_below V2 (.cells #[.int .i64 0, .int .i64 0] 26)
        have hT := heap_alloc_new V2 (.cells #[.int .i64 0, .int .i64 0] 26)
        have F3 := F2.turn (Turn.of_below bT)
        have D3 := hd2.past bT
        have hkl := F2.ord
        obtain ⟨vl, vj, hD, hl, hj⟩ := D3.cells
        obtain ⟨al, cl, hvl⟩ := hl.shape
        subst hvl
        clear LK T2 F2 hd2
        have x1 : (V2.alloc (.cells #[.int .i64 0, .int .i64 0] 26)).cell? ⟨V2.heap.size, 0, none⟩ = some (.int .i64 0) := by simp only [World.cell?, hT]; rfl
        have x2 : (V2.alloc (.cells #[.int .i64 0, .int .i64 0] 26)).cell? ⟨V2.heap.size, 1, none⟩ = some (.int .i64 0) := by simp only [World.cell?, hT]; rfl
        have c0 : (V2.alloc (.cells #[.int .i64 0, .int .i64 0] 26)).cell? ⟨k4 + 1 + 1, 0, none⟩ = some (.slice al l.length cl) := by have := hD; simp only [World.cell?, show k4 + 1 + 1 = k4 + 2 from rfl, this]; rfl
        have c1 : (V2.alloc (.cells #[.int .i64 0, .int .i64 0] 26)).cell? ⟨w.heap.size, 0, none⟩ = some (.slice none 0 0) := by simp only [World.cell?, F3.r1]; rfl
        have c2 : (V2.alloc (.cells #[.int .i64 0, .int .i64 0] 26)).cell? ⟨w.heap.size + 1, 0, none⟩ = some (.int .i64 0) := by simp only [World.cell?, F3.r2]; rfl
        have c3 : (V2.alloc (.cells #[.int .i64 0, .int .i64 0] 26)).cell? ⟨w.heap.size + 1, 1, none⟩ = some (.int .i64 0) := by simp only [World.cell?, F3.r2]; rfl
        have f1 : (V2.alloc (.cells #[.int .i64 0, .int .i64 0] 26)).frozen? ⟨w.heap.size, 0, none⟩ = false := by simp only [World.frozen?, F3.r1]; rfl
        have f2 : (V2.alloc (.cells #[.int .i64 0, .int .i64 0] 26)).frozen? ⟨w.heap.size + 1, 0, none⟩ = false := by simp only [World.frozen?, F3.r2]; rfl
        have f3 : (V2.alloc (.cells #[.int .i64 0, .int .i64 0] 26)).frozen? ⟨w.heap.size + 1, 1, none⟩ = false := by simp only [World.frozen?, F3.r2]; rfl
        have HR := Lib.hid (show parseL s = (l, 0, 0) by rw [HPL.out]; unfold linked; rw [← HRL.out])
        have H1 := F3.r1
        have H2 := F3.r2
        have HL9 := Lib.hid hl
        clear hT bT hD hl hj D3
        gi_wp2_with fail
        generalize V2.alloc (.cells #[.int .i64 0, .int .i64 0] 26) = V3 at *
        refine parse_fin (k := k4 + 7) (v := .slice al l.length cl) (err := 0) (at' := 0) (r := parseL s) rfl rfl rfl ?q1 ?q2 ?q3 (by omega) ?hB ⟨_, _, _, rfl⟩ ?hr ?ho
        case q1 => simp [World.setCell, World.drew, Array.getElem?_modify, H1]
        case q2 => simp [World.setCell, World.drew, Array.getElem?_modify, H2]
        case q3 =>
          refine fin_df F3 ?_
          intro k h1 h2
          have h1' : ¬ w.heap.size = k := fun e => h1 e.symm
          have h2' : ¬ w.heap.size + 1 = k := fun e => h2 e.symm
          simp [World.setCell, World.drew, Array.getElem?_modify, h1', h2']
        case hB =>
          refine fin_bel F3 ?_ (by simp [World.setCell, World.drew]) ⟨rfl, rfl, rfl⟩
          intro k h1 h2
          have h1' : ¬ w.heap.size = k := fun e => h1 e.symm
          have h2' : ¬ w.heap.size + 1 = k := fun e => h2 e.symm
          simp [World.setCell, World.drew, Array.getElem?_modify, h1', h2']
        case hr => rw [HR.out]
        case ho =>
          rw [HR.out]
          refine OwnI.low (base := k4 + 9) ?_ (by omega)
          have own : ∀ j, (Value.slice al l.length cl).ownBlock = some j → k4 + 9 ≤ j := fun j e => ((HL9.out).lt j e).1
          have kp : ∀ (U : World) (i : Nat) (c : Nat) (u : Value), i < k4 + 9 → OwnI U (k4 + 9) (.slice al l.length cl) l → OwnI (U.setCell ⟨i, c, none⟩ u) (k4 + 9) (.slice al l.length cl) l := by
            intro U i c u hi hO
            refine hO.kept (setCell_grown U i c u) ?_
            cases hk : (Value.slice al l.length cl).ownBlock with
            | none => exact .inl rfl
            | some j => exact .inr (fun e => by have := own j hk; have := Option.some.inj e; omega)
          exact kp _ _ _ _ (by omega) (kp _ _ _ _ (by omega) (kp _ _ _ _ (by omega) HL9.out))
    · refine ⟨hv, .inr ⟨q4, ?_⟩⟩
      have HPL := Lib.hid (show parseL s = ([], err, at') by unfold parseL; rw [if_neg h]; change (match runL dr0 0 (lines s) with | .inl d => linked d | .inr x => ([], x.1, x.2)) = _; rw [he])
      have nn : ∀ k, k ≠ k4 + 7 + 1 → (W1.putObj (k4 + 7 + 1) (.loop (rec .exhausted (some .ret)))).heap[k]? = W1.heap[k]? := fun k hk => World.putObj_heap_other hk
      have bP := (P9).fix.ord
      have d1 := (nn (k4 + 7) (by omega)).trans q3
      have d2 := (nn w.heap.size (by omega)).trans q1
      have d3 := (nn (w.heap.size + 1) (by omega)).trans q2
      have g := grownBy_putObj' W1 (k4 + 7 + 1) (.loop (rec .exhausted (some .ret)))
      have B9 : Below w.heap.size w (W1.putObj (k4 + 7 + 1) (.loop (rec .exhausted (some .ret)))) := ⟨g.os.trans q5.os, g.tape.trans q5.tape, g.output.trans q5.output, Nat.le_trans q5.size g.size, fun j hj => (nn j (by omega)).trans (q5.block j hj)⟩
      exact parse_fin (k := k4 + 7) (v := .slice none 0 0) (err := err) (at' := at') rfl rfl rfl d2 d3 d1 (by omega) B9 ⟨_, _, _, rfl⟩ (by rw [HPL.out]) (by rw [HPL.out]; exact OwnI.nil _ _)
theorem parseP (s : Str) (w : World) (L : Lay w) (hs : s.length ≤ 1000000000) : Calls Tryz.prog 9 #[str s] w (Parsed (parseL s) w) := by
  by_cases h : 262144 < s.length
  · have := parse_long s w h hs
    rwa [show parseL s = ([], 3, 0) by unfold parseL; rw [if_pos h]]
  · exact parse_short s w h L
end Go.Proofs.YthfkmackodbmkaaGreatDoor
