/- Contract of Scan: the frames that are whole, in new memory, how many bytes they have, whether it is spoilt. -/
import Derived.Test.YtkiagnlpnphghaaDoorFrIter
namespace Go.Proofs.YtkiagnlpnphghaaDoor
open Go.RowKit
set_option linter.unusedVariables false
set_option linter.unusedSimpArgs false
attribute [local go_sem] Oper.semAt_some

/-- What was told: each frame's bytes are a row of their own from base on. -/
structure Told (w : World) (base : Nat) (vs : List Value) (fs : List Fr) : Prop where
  len : vs.length = fs.length
  rows : ∀ j, j < fs.length → Own w base (vth vs j) (fth fs j).2
  sep : ∀ i j, i < fs.length → j < fs.length → i ≠ j → ∀ Y, (vth vs i).ownBlock = some Y → (vth vs j).ownBlock = some Y → False
theorem Told.nil (w : World) (base : Nat) : Told w base [] [] := ⟨rfl, fun j hj => (by cases hj), fun i j hi => (by cases hi)⟩
theorem Told.kept {w w' : World} {base : Nat} {vs : List Value} {fs : List Fr} {row : Option Nat} (h : Told w base vs fs) (hg : w.grownBy w' row) (hr : ∀ k, row = some k → k < base ∨ NoBytes w k) : Told w' base vs fs :=
  ⟨h.len, fun j hj => (h.rows j hj).kept hg (by
    cases hv : (vth vs j).ownBlock with
    | none => exact Or.inl rfl
    | some k => exact Or.inr (fun e => by
        obtain ⟨cur, hc⟩ := (h.rows j hj).bytes hv
        have h1 := ((h.rows j hj).lt k hv).1
        rcases hr k e.symm with h2 | h2
        · omega
        · exact h2 cur _ hc)), h.sep⟩
theorem Told.past {w w' : World} {base : Nat} {vs : List Value} {fs : List Fr} (h : Told w base vs fs) (hb : Below w.heap.size w w') : Told w' base vs fs := h.kept (below_grownBy hb none) (fun k e => by cases e)
theorem vth_of_lt {vs : List Value} {u : Value} {j : Nat} (h : j < vs.length) : vth (vs ++ [u]) j = vth vs j := vth_left h
theorem fth_left {fs : List Fr} {f : Fr} {j : Nat} (h : j < fs.length) : fth (fs ++ [f]) j = fth fs j := by simp [fth, List.getD, List.getElem?_append_left h]
theorem fth_last (fs : List Fr) (f : Fr) : fth (fs ++ [f]) fs.length = f := by simp [fth, List.getD]
/-- One more was told, in memory that is newer than where the others were told. -/
theorem Told.push {wa w : World} {base lo : Nat} {vs : List Value} {fs : List Fr} {v : Value} {f : Fr} (h0 : Told wa base vs fs) (h : Told w base vs fs) (ho : Own w lo v f.2) (hlo : wa.heap.size ≤ lo) (hb : base ≤ lo) : Told w base (vs ++ [v]) (fs ++ [f]) := by
  have hl := h.len
  have hfar : ∀ j, j < fs.length → ∀ Y, (vth vs j).ownBlock = some Y → v.ownBlock = some Y → False := fun j hj Y h1 h2 => by
    have a := ((h0.rows j hj).lt Y h1).2
    have b := (ho.lt Y h2).1
    omega
  refine ⟨by simp [hl], fun j hj => ?_, fun i j hi hj hne Y h1 h2 => ?_⟩
  · rw [List.length_append] at hj
    by_cases hlt : j < fs.length
    · rw [vth_left (by omega), fth_left hlt]; exact h.rows j hlt
    · have : j = fs.length := by simp at hj; omega
      subst this
      rw [fth_last, ← hl, vth_last]
      exact ho.mono hb
  · rw [List.length_append] at hi hj
    simp only [List.length_cons, List.length_nil] at hi hj
    by_cases hi2 : i < fs.length
    · rw [vth_left (by omega)] at h1
      by_cases hj2 : j < fs.length
      · rw [vth_left (by omega)] at h2
        exact h.sep i j hi2 hj2 hne Y h1 h2
      · have : j = vs.length := by omega
        subst this
        rw [vth_last] at h2
        exact hfar i hi2 Y h1 h2
    · have : i = vs.length := by omega
      subst this
      rw [vth_last] at h1
      have hj2 : j < fs.length := by omega
      rw [vth_left (by omega)] at h2
      exact hfar j hj2 Y h2 h1
theorem Told.rowy {w : World} {base : Nat} {vs : List Value} {fs : List Fr} (h : Told w base vs fs) : Rowy w base (vth vs) fs.length (fun j => (fth fs j).2.length) :=
  ⟨fun j hj => ⟨_, rfl, h.rows j hj⟩, h.sep⟩

/-- What Scan has come to, between two rounds: the loop's record is ready. -/
structure SI (w0 W : World) (o : Obj) (vs : List Value) (fs : List Fr) : Prop where
  box : ∃ rv, Cel 25 W w0.heap.size rv ∧ OwnF 36 W (w0.heap.size + 5) rv vs fs
  told : Told W (w0.heap.size + 5) vs fs
  bel : Below w0.heap.size w0 W
  df : W.heap[w0.heap.size + 3]? = some (.deferred (some []))
  lp : W.heap[w0.heap.size + 3 + 1]? = some o
theorem SI.lt {w0 W : World} {o : Obj} {vs : List Value} {fs : List Fr} (h : SI w0 W o vs fs) : w0.heap.size + 5 ≤ W.heap.size := (Array.getElem?_eq_some_iff.1 h.lp).1
/-- Another block than these has turned. -/
theorem SI.kept {w0 W W' : World} {o : Obj} {vs : List Value} {fs : List Fr} (h : SI w0 W o vs fs) {r : Nat} (hg : W.grownBy W' (some r)) (h1 : r = w0.heap.size + 1 ∨ r = w0.heap.size + 2) : SI w0 W' o vs fs := by
  obtain ⟨⟨rv, c, ow⟩, t, b, d, l⟩ := h
  refine ⟨⟨rv, c.grown hg (fun e => by have := Option.some.inj e; omega), ow.kept hg ?_⟩, t.kept hg (fun k e => Or.inl (by have := Option.some.inj e; omega)), b.grown hg b.size (fun k e => by have := Option.some.inj e; omega),
    (hg.block _ (Array.getElem?_eq_some_iff.1 d).1 (fun e => by have := Option.some.inj e; omega)).trans d, (hg.block _ (Array.getElem?_eq_some_iff.1 l).1 (fun e => by have := Option.some.inj e; omega)).trans l⟩
  cases hv : rv.ownBlock with
  | none => exact Or.inl rfl
  | some k => exact Or.inr (fun e => by have h1 := (ow.lt k hv).1; have := Option.some.inj e; omega)
theorem SI.past {w0 W W' : World} {o : Obj} {vs : List Value} {fs : List Fr} (h : SI w0 W o vs fs) (hb : Below W.heap.size W W') : SI w0 W' o vs fs := h.kept (r := w0.heap.size + 1) (below_grownBy hb _) (Or.inl rfl)
/-- The loop's record turns. -/
theorem SI.put {w0 W : World} {o : Obj} {vs : List Value} {fs : List Fr} (h : SI w0 W o vs fs) (o' : Obj) : SI w0 (W.putObj (w0.heap.size + 3 + 1) o') o' vs fs := by
  have hlt := h.lt
  obtain ⟨⟨rv, c, ow⟩, t, b, d, l⟩ := h
  have hg := grownBy_putObj' W (w0.heap.size + 3 + 1) o'
  refine ⟨⟨rv, c.grown hg (fun e => by have := Option.some.inj e; omega), ow.kept hg ?_⟩, t.kept hg (fun k e => Or.inl (by have := Option.some.inj e; omega)), b.grown hg b.size (fun k e => by have := Option.some.inj e; omega),
    (World.putObj_heap_other (by omega)).trans d, World.putObj_heap_same (by omega)⟩
  cases hv : rv.ownBlock with
  | none => exact Or.inl rfl
  | some k => exact Or.inr (fun e => by have h1 := (ow.lt k hv).1; have := Option.some.inj e; omega)

theorem framesOf (R : Nat) (w : World) :
    Calls Tryd.prog 32 #[.pointer (some ⟨R, 0, none⟩)] w fun e w' => w' = w.alloc (.cells #[.pointer (some ⟨R, 0, none⟩)] 114) ∧ e = .returned (.func (.func 60) #[] #[.pointer (some ⟨w.heap.size, 0, none⟩)]) := by
  have hmf : ∀ (fn : Fn) (first cap : Array Value) (w : World), (Instr.makeFunc fn first cap).run Tryd.prog w = .ok (.func fn first cap) w := fun _ _ _ _ => rfl
  go_enter Tryd.func32, Tryd.ntmps32
  go_wp2
  go_ret
  exact ⟨rfl, rfl⟩

/-- A range over a function whose rounds all go on: the loop's record is known by its states alone. -/
theorem range_law {P : Program} {n : Nat} {g : Operand} {ps : Array Tmp} {assign body : Code} {Q : Exit → Act → World → Prop} {a : Act} {w : World} (h1 : 1 ≤ n) {gf : Nat} {lb : Array Value}
    (hg : a.eval g = .func (.func gf) #[] lb) (eg : ∀ args w, (callFunc gf args).run P w = .ok (.enter gf args) w)
    (h : ∀ (rec : LoopState → Option Code → Loop),
      (∀ (args : Array Value) (W : World) (R : Ending → World → Prop), args.size = ps.size → W.heap[w.heap.size + 1]? = some (.loop (rec .ready none)) →
        assign.wpIn (Fence.wide.inRound (w.heap.size + 1)) (n - 1 - 1) P (Exit.then (fun a₁ w₁ => w₁.heap[w.heap.size + 1]? = some (.loop (rec .ready none)) ∧
          body.wpIn (Fence.wide.inRound (w.heap.size + 1)) (n - 1 - 1) P (fun e _ w₃ => e = .normal ∧ w₃.heap[w.heap.size + 1]? = some (.loop (rec .busy none)) ∧ R (.returned (.bool true)) (w₃.putObj (w.heap.size + 1) (.loop (rec .ready none)))) a₁ (w₁.putObj (w.heap.size + 1) (.loop (rec .busy none)))) (fun _ _ _ => False))
          { tmps := (ps.zip args).foldl (fun t (p, v) => t.setIfInBounds p v) a.tmps, defers := [] } W →
        YieldAt Fence.wide (n - 1 - 1) P (w.heap.size + 1) args W R) →
      CallsIn Fence.wide (n - 1) P gf (#[.func (.yield (w.heap.size + 1)) #[] #[]] ++ lb) ((w.alloc (.deferred (some []))).alloc (.loop (rec .ready none))) fun e W' => (∃ v, e = .returned v) ∧ W'.heap[w.heap.size + 1]? = some (.loop (rec .ready none)) ∧
        Q .normal { a with defers := { target := .collected w.heap.size, args := #[] } :: a.defers } (W'.putObj (w.heap.size + 1) (.loop (rec .exhausted none)))) :
    (Code.rangeFunc g ps assign body).wpIn Fence.wide n P Q a w := by
  refine wpIn_rangeFunc ?_
  intro fn hfn
  obtain ⟨rec, hrec⟩ : ∃ rec : LoopState → Option Code → Loop, rec = fun st pe => { state := st, pending := pe, fn, tmps := a.tmps, params := ps, assign, body, defers := w.heap.size } := ⟨_, rfl⟩
  refine ⟨w.heap.size + 1, [{ target := .collected w.heap.size, args := #[] }], (w.alloc (.deferred (some []))).alloc (.loop (rec .ready none)), { target := .fn (.func gf) lb, args := #[.func (.yield (w.heap.size + 1)) #[] #[]] }, (w.alloc (.deferred (some []))).alloc (.loop (rec .ready none)), gf,
    #[.func (.yield (w.heap.size + 1)) #[] #[]] ++ lb, (w.alloc (.deferred (some []))).alloc (.loop (rec .ready none)), ?_, ?_, ?_, ?_, fun _ => h1, ?_⟩
  · rw [hrec]; exact run_enterLoop_outer _ _ _ _ _
  · simp only [resolve, hg]
    simp [go_sem]
  · intro f' hf'; trivial
  · simp [invoke, go_sem, eg]
  · refine (h rec (fun args W R hs hl hw => ?_)).mono ?_
    · have hy := run_yield (P := P) (args := args) hl (by rw [hrec]; exact hs)
      rw [hrec] at hy
      refine ⟨fn, _, assign, body, hy, roundIn_of_wpIn hfn (wpIn_mono hw ?_)⟩
      rintro e a₁ w₁ hp
      cases e with
      | normal =>
        obtain ⟨hl1, hb⟩ := hp
        have hbr := run_beginRound (P := P) hl1 (by rw [hrec])
        refine ⟨_, hbr, ?_⟩
        rw [hrec] at hb hbr ⊢
        refine wpIn_mono hb ?_
        rintro e2 a2 w₃ ⟨rfl, hl3, hR⟩
        have her := run_endRound (P := P) none hl3
        exact ⟨_, _, her, hR⟩
      | exit id => exact hp.elim
      | goto t => exact hp.elim
      | ret => exact hp.elim
      | panic c => exact hp.elim
      | outgrown => exact hp.elim
    · rintro e W2 ⟨⟨v, rfl⟩, hl, hQ⟩
      have hel := run_endLoop (P := P) hl (by rw [hrec]; simp)
      exact ⟨none, W2.putObj (w.heap.size + 1) (.loop (rec .exhausted none)), by rw [hrec] at hel ⊢; exact hel, hQ⟩

/-- append, of one frame, in a round's frame. -/
theorem wpListIn_append_f {F : Fence} {n : Nat} (w : World) {ops : Array Oper} {rest : List Oper} {o : Oper} {a : Act} {Q : Exit → Act → World → Prop}
    (hgd : o.guard = none) (s x : Operand) (hop : o.op = Op.call { callee := Callee.builtin Builtin.append, args := #[s, x], argTypes := #[25, 25] })
    (base : Nat) (v : Value) (vs : List Value) (fs : List Fr) (hs : a.eval s = v) (hown : OwnF 36 w base v vs fs) (b : Nat) (f : Fr) (u : Value) (hu : u.oneCell' = true) (hx : a.eval x = .slice (some ⟨b, 0, none⟩) 1 1) (h0 : w.cell? ⟨b, 0, none⟩ = some (.int .i64 f.1)) (h1 : w.cell? ⟨b, 1, none⟩ = some u)
    (hlen : fs.length ≤ 1000000) (hbase : base ≤ w.heap.size)
    (hK : ∀ v' w', OwnF 36 w' base v' (vs ++ [u]) (fs ++ [f]) → w.grownBy w' v.ownBlock → wpListIn F n Tryd.prog ops Q rest (a.put o.dst v') w') :
    wpListIn F n Tryd.prog ops Q (o :: rest) a w := by
  refine wpListIn_plain hgd fun K hK' => ?_
  obtain ⟨v', w', hrun, r1, r2⟩ := run_append_f w 36 25 o.type Tryd.underlying25 (Or.inl rfl) base v vs fs hown b f u hu h0 h1 hlen hbase
  unfold Oper.wpIn
  refine ⟨?_, ?_⟩
  · simp [Oper.about, hop, resolve, Target.leads, Sem.run_pure]
  · rw [Oper.semAt_plain F _ _ (by rw [hop]; intro c hc'; cases hc')]
    simp [execOp, hop, resolve, invoke, builtin, hs, hx, hrun, Result.andThen]
    exact hK' _ _ (hK v' w' r1 r2)
/-- A round has told one more frame. -/
theorem SI.told1 {w0 Wa W W' : World} {o : Obj} {vs : List Value} {fs : List Fr} {k : Int} {a : Option Addr} {c : Nat} {d : List Int} {rv rv' : Value} (h0 : SI w0 Wa o vs fs) {o' : Obj} (h : SI w0 W o' vs fs) (ho : Own W Wa.heap.size (.slice a d.length c) d)
    (hc : Cel 25 W w0.heap.size rv) (hr : OwnF 36 W (w0.heap.size + 5) rv vs fs) (hg : W.grownBy W' rv.ownBlock) (hn : OwnF 36 W' (w0.heap.size + 5) rv' (vs ++ [.slice a d.length c]) (fs ++ [(k, d)])) :
    SI w0 (W'.setCell ⟨w0.heap.size, 0, none⟩ rv') o' (vs ++ [.slice a d.length c]) (fs ++ [(k, d)]) := by
  have hlt := h.lt
  have hne : ∀ j, rv.ownBlock = some j → w0.heap.size + 5 ≤ j ∧ NoBytes W j := fun j hj => by
    obtain ⟨h1, cur, h2⟩ := hr.tag hj
    refine ⟨h1, fun c2 fr hb => ?_⟩
    rw [h2] at hb
    simp at hb
  have g := grownBy_setCell W' ⟨w0.heap.size, 0, none⟩ rv'
  have keepS : ∀ (v : Value), (∀ j, v.ownBlock = some j → w0.heap.size + 5 ≤ j) → v.ownBlock = none ∨ v.ownBlock ≠ some w0.heap.size := fun v hv => by
    cases e : v.ownBlock with
    | none => exact Or.inl rfl
    | some j => exact Or.inr (fun e2 => by have := hv j e; have := Option.some.inj e2; omega)
  have ho' : Own W' Wa.heap.size (.slice a d.length c) d := ho.kept hg (by
    cases e : (Value.slice a d.length c).ownBlock with
    | none => exact Or.inl rfl
    | some j => exact Or.inr (fun e2 => by
        obtain ⟨cur, hcur⟩ := ho.bytes e
        exact (hne j e2.symm).2 cur _ hcur))
  refine ⟨⟨rv', (hc.grown hg (fun e => by have := (hne _ e).1; omega)).set _, hn.kept g (keepS rv' (fun j hj => (hn.lt j hj).1))⟩, ?_, (h.bel.grown hg h.bel.size (fun j hj => by have := (hne j hj).1; omega)).setCell (p := ⟨w0.heap.size, 0, none⟩) (Nat.le_refl _) _, ?_, ?_⟩
  · have t1 := h.told.kept hg (fun j hj => Or.inr (hne j hj).2)
    have t2 : Told W' (w0.heap.size + 5) (vs ++ [.slice a d.length c]) (fs ++ [(k, d)]) := h0.told.push t1 ho' (Nat.le_refl _) h0.lt
    exact t2.kept g (fun j hj => Or.inl (by have e2 : w0.heap.size = j := Option.some.inj hj; omega))
  · exact (g.block _ (by have := hg.size; omega) (fun e => by have e2 : w0.heap.size + 3 = w0.heap.size := Option.some.inj e; omega)).trans ((hg.block _ (by omega) (fun e => by have := (hne _ e.symm).1; omega)).trans h.df)
  · exact (g.block _ (by have := hg.size; omega) (fun e => by have e2 : w0.heap.size + 3 + 1 = w0.heap.size := Option.some.inj e; omega)).trans ((hg.block _ (by omega) (fun e => by have := (hne _ e.symm).1; omega)).trans h.lp)

/-- Steps that turn one block each, from h on, which is none of two. -/
structure Kp (h : Nat) (W W' : World) : Prop where
  size : W.heap.size ≤ W'.heap.size
  bel : Below h W W'
  r : W'.heap[h + 1]? = W.heap[h + 1]?
  e : W'.heap[h + 1 + 1]? = W.heap[h + 1 + 1]?
theorem Kp.refl (h : Nat) (W : World) : Kp h W W := ⟨Nat.le_refl _, Below.refl _ _, rfl, rfl⟩
theorem Kp.step {h : Nat} {W W1 W2 : World} {row : Option Nat} (k : Kp h W W1) (hW : h + 3 ≤ W.heap.size) (hg : W1.grownBy W2 row) (hr : ∀ j, row = some j → j = h ∨ h + 3 ≤ j) : Kp h W W2 :=
  ⟨Nat.le_trans k.size hg.size, k.bel.grown hg (by have := k.size; omega) (fun j e => by have := hr j e; omega),
    (hg.block _ (by have := k.size; omega) (fun e => by have := hr _ e.symm; omega)).trans k.r, (hg.block _ (by have := k.size; omega) (fun e => by have := hr _ e.symm; omega)).trans k.e⟩

/-- At the return: the block for the rounds' deferred calls is shut. -/
theorem SI.fin {w0 W : World} {o : Obj} {vs : List Value} {fs : List Fr} {rv : Value} (h : SI w0 W o vs fs) (hc : Cel 25 W w0.heap.size rv) (hr : OwnF 36 W (w0.heap.size + 5) rv vs fs) :
    (W.setCell ⟨w0.heap.size, 0, none⟩ rv).heap[w0.heap.size + 3]? = some (.deferred (some [])) ∧ Cel 25 ((W.setCell ⟨w0.heap.size, 0, none⟩ rv).putObj (w0.heap.size + 3) (.deferred none)) w0.heap.size rv ∧
      OwnF 36 ((W.setCell ⟨w0.heap.size, 0, none⟩ rv).putObj (w0.heap.size + 3) (.deferred none)) w0.heap.size rv vs fs ∧ Told ((W.setCell ⟨w0.heap.size, 0, none⟩ rv).putObj (w0.heap.size + 3) (.deferred none)) w0.heap.size vs fs ∧
      Below w0.heap.size w0 ((W.setCell ⟨w0.heap.size, 0, none⟩ rv).putObj (w0.heap.size + 3) (.deferred none)) := by
  have g1 := grownBy_setCell W ⟨w0.heap.size, 0, none⟩ rv
  have g2 := grownBy_putObj' (W.setCell ⟨w0.heap.size, 0, none⟩ rv) (w0.heap.size + 3) (.deferred none)
  have hlt := h.lt
  have keepS : ∀ (B : Nat), B < w0.heap.size + 5 → rv.ownBlock = none ∨ rv.ownBlock ≠ some B := fun B hB => by
    cases e : rv.ownBlock with
    | none => exact Or.inl rfl
    | some j => exact Or.inr (fun e2 => by have := (hr.lt j e).1; have := Option.some.inj e2; omega)
  have r2 := (hr.kept g1 (keepS _ (by show w0.heap.size < _; omega))).kept g2 (keepS _ (by omega))
  have t2 := (h.told.kept g1 (fun k e => Or.inl (by have e2 : w0.heap.size = k := Option.some.inj e; omega))).kept g2 (fun k e => Or.inl (by have := Option.some.inj e; omega))
  refine ⟨(g1.block _ (by omega) (fun e => by have e2 : w0.heap.size + 3 = w0.heap.size := Option.some.inj e; omega)).trans h.df, (hc.set rv).grown g2 (fun e => by have := Option.some.inj e; omega), ⟨r2.1, ?_⟩, ⟨t2.len, fun j hj => (t2.rows j hj).mono (by omega), t2.sep⟩, ?_⟩
  · obtain ⟨p1, p2⟩ := r2.2
    refine ⟨p1, ?_⟩
    rcases p2 with p2 | ⟨g, cap, cur, q1, q2, q3⟩
    · exact Or.inl p2
    · exact Or.inr ⟨g, cap, cur, q1, by omega, q3⟩
  · exact (h.bel.setCell (p := ⟨w0.heap.size, 0, none⟩) (Nat.le_refl _) rv).grown g2 (by have := h.bel.size; simp [World.setCell]; omega) (fun k e => by have := Option.some.inj e; omega)
/-- What Scan answers. -/
def ScanAns (l : List Int) (w : World) (e : Ending) (w' : World) : Prop :=
  ∃ a n c vs, e = .returned (.tuple #[.slice a n c, .int .i64 ((scan l).2.1 : Nat), .bool (scan l).2.2]) ∧ OwnF 36 w' w.heap.size (.slice a n c) vs (scan l).1 ∧ Told w' w.heap.size vs (scan l).1 ∧ Below w.heap.size w w' ∧ (scan l).1.length = n
theorem scan_end {l0 l : List Int} {u : Nat} (h : scan l0 = ((scan l0).1 ++ (scan l).1, u + (scan l).2.1, (scan l).2.2)) (hz : (scan l).1 = []) : (scan l0).2.1 = u ∧ (scan l0).2.2 = spoiltB l := by
  have hw : wholeB l = false := by
    cases e : wholeB l
    · rfl
    · rw [scan_yes e] at hz; cases hz
  have h2 := congrArg (fun x => x.2) h
  rw [scan_no hw] at h2
  simp only at h2
  rw [h2]
  exact ⟨rfl, rfl⟩
/-- What Scan's end holds fast. -/
theorem keep_end {w : World} {B R : Nat} {v x : Value} (hne : R ≠ B) (h : w.cell? ⟨B, 0, none⟩ = some v ∧ w.cell? ⟨R, 1, none⟩ = some x ∧ w.frozen? ⟨B, 0, none⟩ = false) :
    (w.setCell ⟨B, 0, none⟩ v).cell? ⟨B, 0, none⟩ = some v ∧ (w.setCell ⟨B, 0, none⟩ v).cell? ⟨R, 1, none⟩ = some x ∧ (w.setCell ⟨B, 0, none⟩ v).frozen? ⟨B, 0, none⟩ = false := by
  refine ⟨?_, (grownBy_setCell w ⟨B, 0, none⟩ v).cell (a := ⟨R, 1, none⟩) h.2.1 (fun e => hne (Option.some.inj e)), by rw [World.frozen?_setCell]; exact h.2.2⟩
  exact World.cell?_setCell_same' _ _ _ (by rw [h.1]; rfl)

set_option maxHeartbeats 4000000 in
set_option maxRecDepth 100000 in
theorem scanOf (v : Value) (l : List Int) (w : World) (T : Tab w) (h : Bs w v l) (ho : Oct l) (hlen : l.length ≤ 1000000) :
    Calls Tryd.prog 20 #[v] w (ScanAns l w) := by
  obtain ⟨ao, cap, hsh⟩ := h.shape
  have H := Lib.hid h
  subst hsh
  clear h
  have FR := fun W => Lib.hid (framesOf (w.heap.size + 1) W)
  refine (callsIn_wide (n := 3)).1 (callsIn_of_wp_marks Tryd.func20 rfl trivial ?_ rfl)
  simp only [Tryd.ntmps20, List.size_toArray, List.length_cons, List.length_nil, Nat.reduceAdd, Nat.reduceSub, Array.replicate_succ, Array.replicate_zero, List.push_toArray, List.append_toArray, List.nil_append, List.cons_append]
  gi_wp2_with fail
  refine ⟨trivial, callsIn_wide.2 ?_⟩
  refine ((FR _).out).mono ?_; rintro e w1 ⟨rfl, rfl⟩
  gi_wp2_with fail
  have c0 : Cel 25 (((w.alloc (.cells #[.slice none 0 0] 25)).alloc (.cells #[.slice ao l.length cap, .int .i64 0] 86)).alloc (.cells #[.pointer (some ⟨w.heap.size + 1, 0, none⟩)] 114)) w.heap.size (.slice none 0 0) :=
    ((Cel.new _ _ _).past (alloc_below _ _)).past (alloc_below _ _)
  have c1 : ScB (((w.alloc (.cells #[.slice none 0 0] 25)).alloc (.cells #[.slice ao l.length cap, .int .i64 0] 86)).alloc (.cells #[.pointer (some ⟨w.heap.size + 1, 0, none⟩)] 114)) (w.heap.size + 1) (.slice ao l.length cap) 0 := by
    have : ScB ((w.alloc (.cells #[.slice none 0 0] 25)).alloc (.cells #[.slice ao l.length cap, .int .i64 0] 86)) (w.heap.size + 1) (.slice ao l.length cap) 0 := by
      have := heap_alloc_new (w.alloc (.cells #[.slice none 0 0] 25)) (.cells #[.slice ao l.length cap, .int .i64 0] 86)
      unfold ScB
      simpa using this
    exact this.past (alloc_below _ _)
  have c2 : Cel 114 (((w.alloc (.cells #[.slice none 0 0] 25)).alloc (.cells #[.slice ao l.length cap, .int .i64 0] 86)).alloc (.cells #[.pointer (some ⟨w.heap.size + 1, 0, none⟩)] 114)) (w.heap.size + 1 + 1) (.pointer (some ⟨w.heap.size + 1, 0, none⟩)) := by
    have := Cel.new 114 ((w.alloc (.cells #[.slice none 0 0] 25)).alloc (.cells #[.slice ao l.length cap, .int .i64 0] 86)) (.pointer (some ⟨w.heap.size + 1, 0, none⟩))
    simpa using this
  have c3 : Below w.heap.size w (((w.alloc (.cells #[.slice none 0 0] 25)).alloc (.cells #[.slice ao l.length cap, .int .i64 0] 86)).alloc (.cells #[.pointer (some ⟨w.heap.size + 1, 0, none⟩)] 114)) :=
    bel_trans (bel_trans (alloc_below _ _) (alloc_below _ _)) (alloc_below _ _)
  have hsz : (((w.alloc (.cells #[.slice none 0 0] 25)).alloc (.cells #[.slice ao l.length cap, .int .i64 0] 86)).alloc (.cells #[.pointer (some ⟨w.heap.size + 1, 0, none⟩)] 114)).heap.size = w.heap.size + 3 := by simp
  generalize ((w.alloc (.cells #[.slice none 0 0] 25)).alloc (.cells #[.slice ao l.length cap, .int .i64 0] 86)).alloc (.cells #[.pointer (some ⟨w.heap.size + 1, 0, none⟩)] 114) = w1 at *
  refine range_law (by decide) rfl (enters_of Tryd.func60 (by kernel_rfl) rfl) ?_
  intro rec hy
  simp only [hsz] at hy ⊢
  have g2 : w1.grownBy ((w1.alloc (.deferred (some []))).alloc (.loop (rec .ready none))) none := grownBy_trans (alloc_grown _ _ _) (alloc_grown _ _ _)
  have hS0 : SI w ((w1.alloc (.deferred (some []))).alloc (.loop (rec .ready none))) (.loop (rec .ready none)) [] [] := by
    refine ⟨⟨.slice none 0 0, c0.grown g2 (by simp), OwnF.nil _ _ _⟩, Told.nil _ _, c3.grown g2 c3.size (fun k e => by cases e), ?_, ?_⟩
    · rw [← hsz]
      exact (Below.heap_alloc _ _ _ (by simp)).trans (World.alloc_heap_new w1 _)
    · have := World.alloc_heap_new (w1.alloc (.deferred (some []))) (.loop (rec .ready none))
      rw [World.size_alloc, hsz] at this
      exact this
  have hI0 : It w ((w1.alloc (.deferred (some []))).alloc (.loop (rec .ready none))) (w.heap.size + 1) (w.heap.size + 1 + 1) l [] l 0 :=
    ⟨⟨⟨_, c1.grown g2 (by simp), H.out⟩, ho, c3.grown g2 c3.size (fun k e => by cases e), Nat.le_succ _⟩, c2.grown g2 (by simp), by omega, by simp, by simp, by simp⟩
  clear c0 c1 c2 c3 g2
  have HL := Lib.hid hlen
  have HT := Lib.hid T
  clear hlen
  refine (frames1 w (w.heap.size + 1) (w.heap.size + 1 + 1) (w.heap.size + 3 + 1) l (fun vs fs W => SI w W (.loop (rec .ready none)) vs fs) (by have := HL.out; omega) (fun vs fs W W' hJ hg => hJ.kept hg (Or.inl rfl)) ?_ _ T hS0 hI0).mono ?_
  · -- ONE ROUND
    intro vs fs k a c d Wa W hfl hJa hga hown
    have S1 := hJa.kept hga (Or.inl rfl)
    refine hy #[.agg #[.int .i64 k, .slice a d.length c]] W _ rfl S1.lp ?_
    have S2 := S1.past (alloc_below W (.cells #[.int .i64 k, .slice a d.length c] 36))
    have S3 := S2.put (.loop (rec .busy none))
    have F3 : FrBox 36 ((W.alloc (.cells #[.int .i64 k, .slice a d.length c] 36)).putObj (w.heap.size + 3 + 1) (.loop (rec .busy none))) W.heap.size k (.slice a d.length c) :=
      (FrBox.new _ _ _ _).grown (grownBy_putObj' _ _ _) (fun e => by have := Option.some.inj e; have := S1.lt; omega)
    have O3 : Own ((W.alloc (.cells #[.int .i64 k, .slice a d.length c] 36)).putObj (w.heap.size + 3 + 1) (.loop (rec .busy none))) Wa.heap.size (.slice a d.length c) d :=
      (hown.alloc _).kept (grownBy_putObj' _ (w.heap.size + 3 + 1) _) (by
        cases e : (Value.slice a d.length c).ownBlock with
        | none => exact Or.inl rfl
        | some j => exact Or.inr (fun e2 => by have h1 := (hown.lt j e).1; have := Option.some.inj e2; have := hJa.lt; omega))
    have K3 : Kp w.heap.size W ((W.alloc (.cells #[.int .i64 k, .slice a d.length c] 36)).putObj (w.heap.size + 3 + 1) (.loop (rec .busy none))) :=
      ((Kp.refl _ W).step (by have := S1.lt; omega) (alloc_grown W _ none) (fun j e => by cases e)).step (by have := S1.lt; omega) (grownBy_putObj' _ _ _) (fun j e => by have := Option.some.inj e; omega)
    have HLP := Lib.hid S2.lp
    have hlt1 := Lib.hid S1.lt
    have HKA := Lib.hid hJa
    clear S1 S2 hJa hga hown hS0 hI0 hy
    gi_wp2_with fail
    refine ⟨HLP.out, ?_⟩
    generalize hF : W.heap.size = F at *
    generalize (W.alloc (.cells #[.int .i64 k, .slice a d.length c] 36)).putObj (w.heap.size + 3 + 1) (.loop (rec .busy none)) = W3 at *
    obtain ⟨rv, hc, hr⟩ := S3.box
    obtain ⟨ra, rc, hrs⟩ := hr.shape
    obtain ⟨f0, f1⟩ := F3.cells
    have b0 := hc.cell
    have S4 := S3.past (alloc_below W3 (.cells #[.int .i64 k, .slice a d.length c] 36))
    have O4 := O3.alloc (.cells #[.int .i64 k, .slice a d.length c] 36)
    have C4 := hc.past (alloc_below W3 (.cells #[.int .i64 k, .slice a d.length c] 36))
    have R4 := hr.past (alloc_below W3 (.cells #[.int .i64 k, .slice a d.length c] 36))
    obtain ⟨n0, n1⟩ := (FrBox.new 36 W3 k (.slice a d.length c)).cells
    have K4 := K3.step (by have := hlt1.out; omega) (alloc_grown W3 (.cells #[.int .i64 k, .slice a d.length c] 36) none) (fun j e => by cases e)
    have hfl2 := Lib.hid (show fs.length ≤ 1000000 from Nat.le_trans hfl HL.out)
    have hsz4 := Lib.hid S4.lt
    have H4 := Lib.hid S4
    have HO4 := Lib.hid O4
    have HC4 := Lib.hid C4
    have HR4 := Lib.hid R4
    have HK4 := Lib.hid K4
    have N0 := Lib.hid n0
    have N1 := Lib.hid n1
    clear S3 S4 O3 O4 C4 R4 K3 K4 hc hr F3 n0 n1 hfl
    subst hrs
    gi_wp2_with (gi_at_builtin; refine wpListIn_append_f _ rfl _ _ rfl (w.heap.size + 5) _ vs fs rfl HR4.out W3.heap.size (k, d) (.slice a d.length c) rfl rfl N0.out N1.out hfl2.out hsz4.out ?_)
    intro v' w' hn hg
    have hrlt := (HR4.out).lt
    have S5 := (HKA.out).told1 H4.out HO4.out HC4.out HR4.out hg hn
    have S6 := S5.put (.loop (rec .ready none))
    have K5 := (HK4.out).step (by have := hlt1.out; omega) hg (fun j e => Or.inr (by have := (hrlt j e).1; omega))
    have K6 := K5.step (by have := hlt1.out; omega) (grownBy_setCell w' ⟨w.heap.size, 0, none⟩ v') (fun j e => by have e2 : w.heap.size = j := Option.some.inj e; omega)
    have K7 := K6.step (by have := hlt1.out; omega) (grownBy_putObj' (w'.setCell ⟨w.heap.size, 0, none⟩ v') (w.heap.size + 3 + 1) (.loop (rec .ready none))) (fun j e => by have := Option.some.inj e; omega)
    have cb := ((HC4.out).grown hg (fun e => by have := (hrlt _ e).1; omega))
    have b1 := cb.cell
    have z1 := cb.free
    obtain ⟨va, vc, hvs⟩ := hn.shape
    have HS5 := Lib.hid S5.lp
    have HS6 := Lib.hid S6
    have HK7 := Lib.hid K7
    clear S5 S6 K5 K6 K7 hn hg cb hrlt
    obtain ⟨pn, hpn⟩ : ∃ pn, (fs ++ [(k, d)]).length = pn := ⟨_, rfl⟩
    rw [hpn] at hvs
    clear hpn
    subst hvs
    gi_wp2_with fail
    exact ⟨HS5.out, HS6.out, ⟨(HK7.out).r, (HK7.out).e, (HK7.out).bel⟩⟩
  · rintro e W1 ⟨hv, vs, l', u, hJ, hI, hz⟩
    refine ⟨hv, hJ.lp, ?_⟩
    have S1 := hJ.put (.loop (rec .exhausted none))
    obtain ⟨hu, hsp⟩ := scan_end hI.told hz
    have C1 : ScS w (W1.putObj (w.heap.size + 3 + 1) (.loop (rec .exhausted none))) (w.heap.size + 1) l' u := hI.sc.grown (grownBy_putObj' _ _ _) (fun k e => by have := Option.some.inj e; omega)
    have hlt := Lib.hid S1.lt
    clear hJ hI hz
    generalize W1.putObj (w.heap.size + 3 + 1) (.loop (rec .exhausted none)) = V at *
    obtain ⟨rv, hc, hr⟩ := S1.box
    obtain ⟨ra, rc, hrs⟩ := hr.shape
    have B0 := hc.past (drew_below V)
    have C0 := C1.past (drew_below V)
    obtain ⟨v', hlf⟩ := C0.lf
    obtain ⟨q1, q2⟩ := C0.cell1
    have G0 := And.intro B0.cell (And.intro q1 B0.free)
    have SP := Lib.hid (spoiltOf (w.heap.size + 1) v' l' V.drew (T.past C0.bel) hlf)
    have hne : w.heap.size + 1 ≠ w.heap.size := by omega
    have HS1 := Lib.hid S1
    have HC1 := Lib.hid C1
    have HB0 := Lib.hid hc
    have HHR := Lib.hid hr
    have HU := Lib.hid hu
    have HSP := Lib.hid hsp
    clear S1 C1 hlf q1 q2 hu hsp C0 hc hr B0
    subst hrs
    generalize hnn : (scan l).1.length = n at *
    have HN := Lib.hid hnn
    clear hnn
    generalize spoiltB l' = sb at *
    gi_wp2_with fail
    refine wpIn_wide.2 ?_
    go_region_held3 (fun w' => w'.cell? ⟨w.heap.size, 0, none⟩ = some (.slice ra n rc) ∧ w'.cell? ⟨w.heap.size + 1, 1, none⟩ = some (.int .i64 u) ∧ w'.frozen? ⟨w.heap.size, 0, none⟩ = false) (first | (with_reducible assumption) | (with_reducible exact keep_end hne (by with_reducible assumption))) (first | (go_at_call 33; refine (SP.out).mono ?_; rintro e w1 ⟨rfl, hb1⟩; have B1 := bel_trans (drew_below V) hb1; have X1 := (HB0.out).past B1; have Y1 := ((HC1.out).past B1).cell1; have G1 := And.intro X1.cell (And.intro Y1.1 X1.free)))
    have S2 := (HS1.out).past B1
    have R2 := (HHR.out).past B1
    obtain ⟨d1, d2, d3, d4, d5⟩ := S2.fin X1 R2
    have HD1 := Lib.hid d1
    clear S2 R2 X1 Y1 G1 G0 d1
    gi_wp2
    refine ⟨by simp, .inl ⟨_, _, rfl, run_takeDeferred HD1.out, ?_⟩⟩
    have y0 := d2.cell
    generalize (w1.setCell ⟨w.heap.size, 0, none⟩ (.slice ra n rc)).putObj (w.heap.size + 3) (.deferred none) = Z at *
    refine ⟨.tuple #[.slice ra n rc, .int .i64 u, .bool sb], by simp [results, Tryd.results20, go_sem, y0], ?_⟩
    exact ⟨ra, n, rc, vs, by rw [HU.out, HSP.out], d3, d4, d5, HN.out⟩
end Go.Proofs.YtkiagnlpnphghaaDoor
