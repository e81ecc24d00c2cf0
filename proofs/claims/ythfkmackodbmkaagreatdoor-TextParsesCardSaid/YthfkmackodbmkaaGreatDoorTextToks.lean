/- A line's tokens. -/
import Derived.Test.YthfkmackodbmkaaGreatDoorTextStd
import Derived.Test.YthfkmackodbmkaaGreatDoorTextMap
import Derived.Deep.RegionHeld3
import Derived.Deep.DeepCutAuto
namespace Go.Proofs.YthfkmackodbmkaaGreatDoor
open Go.RowKit
set_option linter.unusedVariables false
set_option linter.unusedSimpArgs false
set_option maxRecDepth 100000
set_option maxHeartbeats 1000000

theorem toks_blanks : ∀ s : Str, toks [] (s.dropWhile blankC) = toks [] s
  | [] => rfl
  | c :: r => by
    by_cases h : blankC c = true
    · rw [List.dropWhile_cons_of_pos h, toks_blanks r, toks_blank r h]
    · rw [List.dropWhile_cons_of_neg h]
theorem take_while {α : Type} (p : α → Bool) : ∀ s : List α, s.take (s.takeWhile p).length = s.takeWhile p ∧ s.drop (s.takeWhile p).length = s.dropWhile p ∧ s.length = (s.takeWhile p).length + (s.dropWhile p).length
  | [] => ⟨rfl, rfl, rfl⟩
  | c :: r => by
    obtain ⟨h1, h2, h3⟩ := take_while p r
    by_cases h : p c = true
    · rw [List.takeWhile_cons_of_pos h, List.dropWhile_cons_of_pos h]
      simp [h1, h2]; omega
    · rw [List.takeWhile_cons_of_neg h, List.dropWhile_cons_of_neg h]
      simp
theorem toks_piece {c : UInt8} {r : Str} (h : wordC c = true) : toks [] (c :: r) = (toks [] ((c :: r).dropWhile wordC)).map ((c :: r).takeWhile wordC :: ·) := by
  have hall : ((c :: r).takeWhile wordC).all wordC = true := by
    have : ∀ l : Str, (l.takeWhile wordC).all wordC = true := by
      intro l
      induction l with
      | nil => rfl
      | cons x l ih => by_cases hx : wordC x = true <;> simp [hx, ih]
    exact this _
  have h0 : (c :: r).takeWhile wordC ≠ [] := by rw [List.takeWhile_cons_of_pos h]; simp
  have hd : ∀ x, ((c :: r).dropWhile wordC).head? = some x → wordC x = false := by
    intro x hx
    have := List.head?_dropWhile_not wordC (c :: r)
    rw [hx] at this
    simpa using this
  have := toks_word hall h0 hd
  rwa [List.takeWhile_append_dropWhile] at this

theorem str_to {n : Nat} {l : Str} (h : n ≤ l.length) (W : World) : (Instr.slice 9 (str l) none (some (.int .i64 (n : Int))) none).run Tryz.prog W = .ok (str (l.take n)) W := by
  rw [run_slice_string_to_if W 9 ⟨l.toArray⟩ .i64 n (by kernel_rfl), if_pos ⟨by omega, by simp [ByteArray.size]; omega⟩]
  congr 2
  apply ByteArray.ext
  simp
theorem str_from {n : Nat} {l : Str} (h : n ≤ l.length) (W : World) : (Instr.slice 9 (str l) (some (.int .i64 (n : Int))) none none).run Tryz.prog W = .ok (str (l.drop n)) W := by
  rw [run_slice_string_from_if W 9 ⟨l.toArray⟩ .i64 n (by kernel_rfl), if_pos ⟨by omega, by simp [ByteArray.size]; omega⟩]
  congr 2
  apply ByteArray.ext
  simp [ByteArray.size]
  rw [List.take_of_length_le (by simp)]
theorem ext_to {n : Nat} {l : Str} : (⟨l.toArray⟩ : ByteArray).extract 0 n = ⟨(l.take n).toArray⟩ := by
  apply ByteArray.ext
  simp
theorem ext_from {n m : Nat} {l : Str} (h : m = l.length) : (⟨l.toArray⟩ : ByteArray).extract n m = ⟨(l.drop n).toArray⟩ := by
  subst h
  apply ByteArray.ext
  simp
  rw [List.take_of_length_le (by simp)]
/-- v is a row of strings of the call's own. -/
def OwnS (w : World) (base : Nat) (v : Value) (l : List Str) : Prop := w.ownsRow base 9 1 v l.length (l.map str)
theorem OwnS.nil (w : World) (base : Nat) : OwnS w base (.slice none 0 0) [] := World.ownsRow_nil _ _ _ _
theorem OwnS.lt {w : World} {base : Nat} {v : Value} {l : List Str} (h : OwnS w base v l) : ∀ k, v.ownBlock = some k → base ≤ k ∧ k < w.heap.size := World.ownsRow.lt h
theorem OwnS.kept {w w' : World} {base : Nat} {v : Value} {l : List Str} {row : Option Nat} (h : OwnS w base v l) (hg : w.grownBy w' row) (hne : v.ownBlock = none ∨ v.ownBlock ≠ row) : OwnS w' base v l := World.ownsRow.kept h hg hne
theorem OwnS.past {w w' : World} {base : Nat} {v : Value} {l : List Str} (h : OwnS w base v l) (hb : Below w.heap.size w w') : OwnS w' base v l :=
  h.kept (row := none) ⟨hb.os, hb.tape, hb.output, hb.size, fun k hk _ => hb.block k hk⟩ (by cases v.ownBlock <;> simp)
theorem OwnS.ss {w : World} {base : Nat} {v : Value} {l : List Str} (h : OwnS w base v l) : Ss w v l := by
  rcases h.2 with ⟨rfl, h0⟩ | ⟨g, c, cur, rfl, _, hg, hn, hc, hs, ht⟩
  · obtain rfl : l = [] := List.eq_nil_of_length_eq_zero h0
    exact Ss.nil w
  · refine ⟨_, c, rfl, hn, hc, .inr ⟨g, 0, cur, (0, 0), rfl, hg, fun j t hj => ?_⟩⟩
    have hl : j < l.length := (List.getElem?_eq_some_iff.1 hj).1
    have : (cur.toList.take (l.length * 1))[j]? = some (str t) := by rw [ht]; simp [hj]
    rw [List.getElem?_take, if_pos (by omega)] at this
    simpa using this
theorem strInfo : ∃ i, Tryz.prog.info? 9 = some i ∧ i.zero = some (str []) ∧ i.size = 1 ∧ i.bytes = 16 := ⟨_, rfl, rfl, rfl, rfl⟩
theorem run_append_s (w : World) (base : Nat) (ty : TypeId) (v : Value) (xs : List Str) (hown : OwnS w base v xs) (b : Nat) (x : Str) (hx : w.cell? ⟨b, 0, none⟩ = some (str x)) (hlen : xs.length ≤ 1000000000) (hbase : base ≤ w.heap.size) :
    ∃ v' w', (Builtin.append_ #[37, 37] ty #[v, .slice (some ⟨b, 0, none⟩) 1 1]).run Tryz.prog w = .ok v' w' ∧ OwnS w' base v' (xs ++ [x]) ∧ w.grownBy w' v.ownBlock := by
  obtain ⟨i, hi, hz, hs1, hb1⟩ := strInfo
  obtain ⟨v', w', hrun, ho, hg, _⟩ := run_append_own (w := w) base 37 ty 9 i (str []) 1 16 Tryz.underlying37 hi hz hs1 hb1 rfl (by decide) v _ _ hown ⟨b, 0, none⟩ 1 1 [str x] rfl
    (fun j u hj => by match j, hj with | 0, hj => simp at hj; subst hj; simpa [Addr.add] using hx) (fun u hu => by simp at hu; subst hu; rfl) (by unfold maxLen; omega) (by omega) hbase
  refine ⟨v', w', hrun, ?_, hg⟩
  unfold OwnS
  rw [List.length_append, List.map_append]
  exact ho
theorem step_append_s {w : World} {ops : Array Oper} {o : Oper} {a : Act} {K : Act → World → Prop} {Q : Exit → Act → World → Prop} {E : Prop} (hgd : o.guard = none) (s x : Operand)
    (ho : o.op = .call { callee := .builtin .append, args := #[s, x], argTypes := #[37, 37] })
    (base : Nat) (v : Value) (xs : List Str) (hs : a.eval s = v) (hown : OwnS w base v xs) (b : Nat) (y : Str) (hx : a.eval x = .slice (some ⟨b, 0, none⟩) 1 1) (hy : w.cell? ⟨b, 0, none⟩ = some (str y))
    (hlen : xs.length ≤ 1000000000) (hbase : base ≤ w.heap.size)
    (h : ∀ v' w', OwnS w' base v' (xs ++ [y]) → w.grownBy w' v.ownBlock → K (a.put o.dst v') w') :
    if Region.wanted o (yielded ops a.tmps) = true then Oper.wp Tryz.prog o a w K Q else E := by
  have hw : Region.wanted o (yielded ops a.tmps) = true := by simp [Region.wanted, hgd]
  rw [if_pos hw]
  obtain ⟨v', w', hrun, r1, r2⟩ := run_append_s w base o.type v xs hown b y hy hlen hbase
  unfold Oper.wp
  simp [execOp, ho, resolve, invoke, builtin, hs, hx, hrun, Result.andThen]
  exact h _ _ r1 r2
/-- The tokens that were made so far stand in block n + 1; what is told, in block n, is empty yet. -/
structure TS (w : World) (v : Value) (acc : List Str) (V : World) : Prop where
  res : V.heap[w.heap.size]? = some (.cells #[.slice none 0 0] 124 (0, 0))
  cur : V.heap[w.heap.size + 1]? = some (.cells #[v] 124 (0, 0))
  own : OwnS V (w.heap.size + 2) v acc
  below : Below w.heap.size w V
theorem TS.lt {w V : World} {v : Value} {acc : List Str} (h : TS w v acc V) : w.heap.size + 1 < V.heap.size := (Array.getElem?_eq_some_iff.1 h.cur).1
theorem TS.cells {w V : World} {v : Value} {acc : List Str} (h : TS w v acc V) : V.cell? ⟨w.heap.size + 1, 0, none⟩ = some v ∧ V.frozen? ⟨w.heap.size + 1, 0, none⟩ = false ∧ V.cell? ⟨w.heap.size, 0, none⟩ = some (.slice none 0 0) ∧ V.frozen? ⟨w.heap.size, 0, none⟩ = false := by
  simp [World.cell?, World.frozen?, h.res, h.cur]
theorem TS.done {w V : World} {v : Value} {acc : List Str} (h : TS w v acc V) : (V.setCell ⟨w.heap.size, 0, none⟩ v).cell? ⟨w.heap.size, 0, none⟩ = some v ∧ Ss (V.setCell ⟨w.heap.size, 0, none⟩ v) v acc ∧ Below w.heap.size w (V.setCell ⟨w.heap.size, 0, none⟩ v) := by
  have gs := setCell_grown V w.heap.size 0 v
  have hr := heap_set h.res 0 v
  refine ⟨by simp [World.cell?, hr], h.own.ss.grown gs (fun k e cur fr hb => ?_), ?_⟩
  · cases e
    rw [h.res] at hb
    simp at hb
  · have B := h.below
    exact ⟨gs.os.trans B.os, gs.tape.trans B.tape, gs.output.trans B.output, Nat.le_trans B.size gs.size, fun k hk => (gs.block k (Nat.lt_of_lt_of_le hk B.size) (fun e => by have := Option.some.inj e; omega)).trans (B.block k hk)⟩
theorem TS.past {w V V' : World} {v : Value} {acc : List Str} (h : TS w v acc V) (hb : Below V.heap.size V V') : TS w v acc V' :=
  ⟨(hb.block _ (by have := h.lt; omega)).trans h.res, (hb.block _ h.lt).trans h.cur, h.own.past hb, h.below.trans (hb.mono h.below.size)⟩
theorem TS.put {w V V' : World} {v v' : Value} {acc acc' : List Str} (h : TS w v acc V) (hg : V.grownBy V' v.ownBlock) (ho : OwnS V' (w.heap.size + 2) v' acc') (hge : V.heap.size ≤ V'.heap.size) : TS w v' acc' (V'.setCell ⟨w.heap.size + 1, 0, none⟩ v') := by
  have hne : ∀ k, k < w.heap.size + 2 → some k ≠ v.ownBlock := fun k hk e => by have := (h.own.lt k e.symm).1; omega
  have hc := (hg.block _ h.lt (hne _ (by omega))).trans h.cur
  have hr := (hg.block _ (by have := h.lt; omega) (hne w.heap.size (by omega))).trans h.res
  have gs := setCell_grown V' (w.heap.size + 1) 0 v'
  refine ⟨?_, by have := heap_set hc 0 v'; simpa using this, ho.kept gs ?_, ?_⟩
  · rw [gs.block _ (Array.getElem?_eq_some_iff.1 hr).1 (fun e => by have := Option.some.inj e; omega)]; exact hr
  · cases hk : v'.ownBlock with
    | none => exact .inl rfl
    | some k => exact .inr (fun e => by have := Option.some.inj e; have := (ho.lt k hk).1; omega)
  · have B := h.below
    exact ⟨gs.os.trans (hg.os.trans B.os), gs.tape.trans (hg.tape.trans B.tape), gs.output.trans (hg.output.trans B.output), Nat.le_trans B.size (Nat.le_trans hg.size gs.size),
      fun k hk => (gs.block k (Nat.lt_of_lt_of_le hk (Nat.le_trans B.size hg.size)) (fun e => by have := Option.some.inj e; omega)).trans ((hg.block k (Nat.lt_of_lt_of_le hk B.size) (hne k (by omega))).trans (B.block k hk))⟩
theorem ts_start (w : World) : TS w (.slice none 0 0) [] ((w.alloc (.cells #[.slice none 0 0] 124)).alloc (.cells #[.slice none 0 0] 124)) := by
  have b1 := alloc_below w (.cells #[.slice none 0 0] 124)
  have b2 := alloc_below (w.alloc (.cells #[.slice none 0 0] 124)) (.cells #[.slice none 0 0] 124)
  refine ⟨(b2.block _ (by simp)).trans (heap_alloc_new w _), ?_, OwnS.nil _ _, b1.trans (b2.mono b1.size)⟩
  have := heap_alloc_new (w.alloc (.cells #[.slice none 0 0] 124)) (.cells #[.slice none 0 0] 124)
  simpa using this
/-- A line's tokens, in new memory; or the panic. -/
def Tokd (res : Option (List Str)) (w : World) (e : Ending) (w' : World) : Prop :=
  (match res with | some ts => ∃ v, e = .returned (.agg #[v]) ∧ Ss w' v ts ∧ ts.length ≤ 1000000000 | none => e = NoLine) ∧ Below w.heap.size w w'
theorem tokd_some {res : Option (List Str)} {w w' : World} {e : Ending} {ts : List Str} (h : res = some ts) {v : Value} (he : e = .returned (.agg #[v])) (hs : Ss w' v ts) (hl : ts.length ≤ 1000000000) (hb : Below w.heap.size w w') : Tokd res w e w' := by
  subst h; exact ⟨⟨v, he, hs, hl⟩, hb⟩
theorem tokd_none {res : Option (List Str)} {w w' : World} {e : Ending} (h : res = none) (he : e = NoLine) (hb : Below w.heap.size w w') : Tokd res w e w' := by
  subst h; exact ⟨he, hb⟩
theorem tokensP (s : Str) (hs : s.length ≤ 1000000000) (w : World) (L : Lay w) :
    Calls Tryz.prog 66 #[str s] w (Tokd (tokL s) w) := by
  have T0 := ts_start w
  have C := cutP s _ (L.past ((alloc_below w (.cells #[.slice none 0 0] 124)).trans ((alloc_below _ (.cells #[.slice none 0 0] 124)).mono (alloc_below w _).size))) hs
  have hcl : (cutHash s).length ≤ 1000000000 := by
    have := (take_while (· != 35) s).2.2
    unfold cutHash; omega
  have HL := Lib.hid L
  have htok : tokL s = toks [] (cutHash s) := rfl
  rw [htok]
  generalize cutHash s = q at C hcl ⊢
  have HC := Lib.hid hcl
  clear L hs htok hcl
  go_enter Tryz.func66, Tryz.ntmps66
  go_wp2_with fail
  refine C.mono ?_; rintro e w1 ⟨⟨b, c, rfl⟩, b1⟩
  have T1 := T0.past b1
  clear T0 C
  go_wp2_with fail
  refine (trimBlank q w1).mono ?_; rintro e w2 ⟨rfl, b2⟩
  have T2 := Lib.hid (T1.past b2)
  clear T1 b1 b2
  have hq0 : toks [] q = (toks [] (q.dropWhile blankC)).map ([] ++ ·) := by rw [toks_blanks]; cases toks [] q <;> simp
  have hq1 : ([] : List Str).length + (q.dropWhile blankC).length ≤ 1000000000 := by have := (take_while blankC q).2.2; have := HC.out; simp; omega
  have hq2 : ∀ c, (q.dropWhile blankC).head? = some c → blankC c = false := by
    intro x hx
    have := List.head?_dropWhile_not blankC q
    rw [hx] at this
    simpa using this
  have HQ := Lib.hid (And.intro hq0 (And.intro hq1 hq2))
  clear hq0 hq1 hq2
  generalize q.dropWhile blankC = r0 at HQ ⊢
  go_wp2_with fail
  go_loopw [0, 4] (fun t u wr => ∃ (r : Str) (acc : List Str) (v : Value), t = str r ∧ Hid (toks [] q = (toks [] r).map (acc ++ ·) ∧ acc.length + r.length ≤ 1000000000 ∧ ∀ c, r.head? = some c → blankC c = false) ∧ Hid (TS w v acc wr)) (fun t _ _ => match t with | .string b => b.size | _ => 0)
  case atStart => exact ⟨_, _, _, rfl, HQ, T2⟩
  case round =>
    obtain ⟨r, acc, v, rfl, HR, HT⟩ := hrel
    cases r with
    | nil =>
      obtain ⟨ao, cap, hv⟩ := (HT.out).own.ss.shape
      subst hv
      obtain ⟨c1, f1, c2, f2⟩ := (HT.out).cells
      have D := Lib.hid (HT.out).done
      obtain ⟨d1, -, -⟩ := (HT.out).done
      have he : toks [] q = some acc := by rw [(HR.out).1]; simp [toks, flush]
      have hal : acc.length ≤ 1000000000 := by have := (HR.out).2.1; simp at this; omega
      have HE := Lib.hid (And.intro he hal)
      clear he hal
      go_wp2_with fail
      refine bodyPost_ret (v := .agg #[.slice ao acc.length cap]) (by simp [results, Tryz.results66, go_sem, d1]) rfl ?_
      exact tokd_some (HE.out).1 rfl (D.out).2.1 (HE.out).2 (D.out).2.2
    | cons c r =>
      have HB := Lib.hid (take_while wordC (c :: r))
      go_wp2_with fail
      refine (trimWord (c :: r) wr).mono ?_; rintro e w3 ⟨rfl, b3⟩
      have T3 := Lib.hid ((HT.out).past b3)
      clear b3
      have hl3 := (take_while wordC (c :: r)).2.2
      have hlen : (c :: r).length = r.length + 1 := rfl
      have hbig := (HR.out).2.1
      rw [hlen] at hbig hl3
      have hc0 : (⟨(c :: r).toArray⟩ : ByteArray).size = r.length + 1 := by simp [ByteArray.size]
      cases hw : wordC c with
      | true =>
        have HT2 := Lib.hid (toks_piece (r := r) hw)
        have hpos : 0 < ((c :: r).takeWhile wordC).length := by rw [List.takeWhile_cons_of_pos hw]; simp
        have hdl : ((c :: r).dropWhile wordC).length + ((c :: r).takeWhile wordC).length = r.length + 1 := by omega
        have HD := Lib.hid (fun c => by exact List.head?_dropWhile_not wordC (c :: r))
        have e1 := ext_to (n := ((c :: r).takeWhile wordC).length) (l := c :: r)
        have e2 := ext_from (n := ((c :: r).takeWhile wordC).length) (m := r.length + 1) (l := c :: r) rfl
        rw [(HB.out).1] at e1
        rw [(HB.out).2.1] at e2
        clear HB HD hl3 hlen
        generalize hu : (c :: r).takeWhile wordC = u at *
        generalize hd : (c :: r).dropWhile wordC = d at *
        generalize hn : u.length = n at *
        have hsub : wrap64 ((r.length : Int) + 1 - (d.length : Int)) = (n : Int) := by
          rw [IntWalk.wrap64_in _ ⟨by omega, by omega⟩]; omega
        have n1 : (n : Int) ≤ (r.length : Int) + 1 := by omega
        have n2 : ((n : Int) == 0) = false := by simp; omega
        have n3 : ¬ n = 0 := by omega
        obtain ⟨ao, cap, hv⟩ := (T3.out).own.ss.shape
        subst hv
        obtain ⟨c1, -, -, -⟩ := (T3.out).cells
        have HX := Lib.hid (And.intro (show acc.length ≤ 1000000000 by omega) (And.intro hbig (And.intro hdl (And.intro hpos hn))))
        clear hbig hdl hpos hu hd hn
        go_wp2_with fail
        refine wp_region_held_drew (S := fun _ => True) (by kernel_rfl) trivial (fun _ => ?_)
        have T4 := Lib.hid ((T3.out).past ((Below.refl _ w3).drew))
        refine wpAnyH_take (i := 0) (v := ?v0t1) rfl (by kernel_rfl) (by kernel_rfl) (by kernel_rfl) (fun _ _ _ h => h) (Or.inl ⟨by rfl, ?y0t1⟩) trivial ?z0t1
        case y0t1 => intro w_ hSw; go_simp; with_reducible rfl
        try simp only [List.getElem_toArray, List.getElem_cons_zero, List.getElem_cons_succ, Act.put, List.setIfInBounds_toArray, List.set_cons_zero, List.set_cons_succ]
        refine wpAnyH_take (i := 2) (v := ?v2t2) rfl (by kernel_rfl) (by kernel_rfl) (by kernel_rfl) (fun _ _ _ h => h) (Or.inl ⟨by rfl, ?y2t2⟩) trivial ?z2t2
        case y2t2 => intro w_ hSw; go_simp; with_reducible rfl
        try simp only [List.getElem_toArray, List.getElem_cons_zero, List.getElem_cons_succ, Act.put, List.setIfInBounds_toArray, List.set_cons_zero, List.set_cons_succ]
        refine wpAnyH_take (i := 3) (v := ?v3t3) rfl (by kernel_rfl) (by kernel_rfl) (by kernel_rfl) (fun _ _ _ h => h) (Or.inl ⟨by rfl, ?y3t3⟩) trivial ?z3t3
        case y3t3 => intro w_ hSw; go_simp; with_reducible rfl
        try simp only [List.getElem_toArray, List.getElem_cons_zero, List.getElem_cons_succ, Act.put, List.setIfInBounds_toArray, List.set_cons_zero, List.set_cons_succ]
        refine wpAnyH_take (i := 4) (v := ?v4t4) rfl (by kernel_rfl) (by kernel_rfl) (by kernel_rfl) (fun _ _ _ h => h) (Or.inl ⟨by rfl, ?y4t4⟩) trivial ?z4t4
        case y4t4 => intro w_ hSw; go_simp; with_reducible rfl
        try simp only [List.getElem_toArray, List.getElem_cons_zero, List.getElem_cons_succ, Act.put, List.setIfInBounds_toArray, List.set_cons_zero, List.set_cons_succ]
        have bA := alloc_below w3.drew (.cells #[str u] 9)
        have TA := (T4.out).past bA
        have hx : (w3.drew.alloc (.cells #[str u] 9)).cell? ⟨w3.heap.size, 0, none⟩ = some (str u) := by
          have := heap_alloc_new w3.drew (.cells #[str u] 9)
          simp only [World.cell?]
          rw [show w3.heap.size = w3.drew.heap.size from rfl, this]
          rfl
        have cA := (TA.cells).1
        have cA2 : ((w3.alloc (.cells #[.string ⟨u.toArray⟩] 9)).drew).cell? ⟨w.heap.size + 1, 0, none⟩ = some (.slice ao acc.length cap) := cA
        refine wpAnyH_ready (rs := [1, 5]) (by kernel_rfl) (by simp) ?_
        refine AllReadyH.cons rfl (fun K hK => ?_) (AllReadyH.cons rfl (fun K hK => ?_) AllReadyH.nil)
        · go_simp
          refine hK.out _ _ trivial (fun _ => ?_)
          clear hK K
          try simp only [List.getElem_toArray, List.getElem_cons_zero, List.getElem_cons_succ, Act.put, List.setIfInBounds_toArray, List.set_cons_zero, List.set_cons_succ]
          refine wpAnyH_ready (rs := [5]) (by kernel_rfl) (by simp) ?_
          refine AllReadyH.cons rfl (fun K hK => ?_) AllReadyH.nil
          go_simp
          refine hK.out _ _ trivial (fun _ => ?_)
          clear hK K
          try simp only [List.getElem_toArray, List.getElem_cons_zero, List.getElem_cons_succ, Act.put, List.setIfInBounds_toArray, List.set_cons_zero, List.set_cons_succ]
          refine wpAnyH_ready (rs := [6]) (by kernel_rfl) (by simp) ?_
          refine AllReadyH.cons rfl (fun K hK => ?_) AllReadyH.nil
          refine step_append_s (by rfl) (.tmp 31) (.tmp 35) (by rfl) (w.heap.size + 2) (.slice ao acc.length cap) acc (by rfl) TA.own w3.heap.size u (by rfl) hx (HX.out).1 (Nat.succ_le_of_lt TA.lt) ?_
          intro v' w5 ho5 hg5
          obtain ⟨ao', cap', hv'⟩ := ho5.ss.shape
          subst hv'
          have T5 := Lib.hid (TA.put hg5 ho5 hg5.size)
          obtain ⟨c5, f5⟩ : w5.cell? ⟨w.heap.size + 1, 0, none⟩ = some (.slice ao acc.length cap) ∧ w5.frozen? ⟨w.heap.size + 1, 0, none⟩ = false := by
            have h5 := (hg5.block _ TA.lt (fun e => by have := (TA.own.lt _ e.symm).1; omega)).trans TA.cur
            exact ⟨by simp [World.cell?, h5], by simp [World.frozen?, h5]⟩
          clear hx ho5 hg5 TA cA cA2 bA
          refine hK.out _ _ trivial (fun _ => ?_)
          clear hK K
          try simp only [List.getElem_toArray, List.getElem_cons_zero, List.getElem_cons_succ, Act.put, List.setIfInBounds_toArray, List.set_cons_zero, List.set_cons_succ]
          refine wpAnyH_take (i := 7) (v := ?v7t5) rfl (by kernel_rfl) (by kernel_rfl) (by kernel_rfl) (fun _ _ _ h => h) (Or.inl ⟨by rfl, ?y7t5⟩) trivial ?z7t5
          case y7t5 => intro w_ hSw; go_simp; with_reducible rfl
          try simp only [List.getElem_toArray, List.getElem_cons_zero, List.getElem_cons_succ, Act.put, List.setIfInBounds_toArray, List.set_cons_zero, List.set_cons_succ]
          refine wpAnyH_ready (rs := [8]) (by kernel_rfl) (by simp) ?_
          refine AllReadyH.cons rfl (fun K hK => ?_) AllReadyH.nil
          go_simp
          refine hK.out _ _ trivial (fun _ => ?_)
          clear hK K
          try simp only [List.getElem_toArray, List.getElem_cons_zero, List.getElem_cons_succ, Act.put, List.setIfInBounds_toArray, List.set_cons_zero, List.set_cons_succ]
          refine wpAnyH_done (by kernel_rfl) ?_ _
          have hal : (acc ++ [u]).length = acc.length + 1 := by simp
          rw [hal] at T5
          have HR2 := Lib.hid (show toks [] q = (toks [] d).map ((acc ++ [u]) ++ ·) by rw [(HR.out).1, HT2.out]; cases toks [] d <;> simp)
          go_wp2_with fail
          refine (trimBlank d _).mono ?_; rintro e w6 ⟨rfl, b6⟩
          have T6 := Lib.hid ((T5.out).past b6)
          have hl6 := (take_while blankC d).2.2
          have hq2 : ∀ x, (d.dropWhile blankC).head? = some x → blankC x = false := by
            intro x hx
            have := List.head?_dropWhile_not blankC d
            rw [hx] at this
            simpa using this
          have hq1 : (acc ++ [u]).length + (d.dropWhile blankC).length ≤ 1000000000 := by have := HX.out; simp only [List.length_append, List.length_singleton]; omega
          have hq0 : toks [] q = (toks [] (d.dropWhile blankC)).map ((acc ++ [u]) ++ ·) := by rw [toks_blanks]; exact HR2.out
          have HQ := Lib.hid (And.intro hq0 (And.intro hq1 hq2))
          have HL6 := Lib.hid hl6
          clear b6 hl6 hq0 hq1 hq2
          go_wp2_with fail
          go_roundw
          case rel => exact ⟨_, _, _, rfl, HQ, T6⟩
          have x0 := HL6.out
          obtain ⟨x1, x2, x3, x4, x5⟩ := HX.out
          show (ByteArray.mk (d.dropWhile blankC).toArray).size < (ByteArray.mk (c :: r).toArray).size
          simp only [ByteArray.size, List.size_toArray, List.length_cons]
          omega
        · go_simp
          refine hK.out _ _ trivial (fun _ => ?_)
          clear hK K
          try simp only [List.getElem_toArray, List.getElem_cons_zero, List.getElem_cons_succ, Act.put, List.setIfInBounds_toArray, List.set_cons_zero, List.set_cons_succ]
          refine wpAnyH_ready (rs := [1]) (by kernel_rfl) (by simp) ?_
          refine AllReadyH.cons rfl (fun K hK => ?_) AllReadyH.nil
          go_simp
          refine hK.out _ _ trivial (fun _ => ?_)
          clear hK K
          try simp only [List.getElem_toArray, List.getElem_cons_zero, List.getElem_cons_succ, Act.put, List.setIfInBounds_toArray, List.set_cons_zero, List.set_cons_succ]
          refine wpAnyH_ready (rs := [6]) (by kernel_rfl) (by simp) ?_
          refine AllReadyH.cons rfl (fun K hK => ?_) AllReadyH.nil
          refine step_append_s (by rfl) (.tmp 31) (.tmp 35) (by rfl) (w.heap.size + 2) (.slice ao acc.length cap) acc (by rfl) TA.own w3.heap.size u (by rfl) hx (HX.out).1 (Nat.succ_le_of_lt TA.lt) ?_
          intro v' w5 ho5 hg5
          obtain ⟨ao', cap', hv'⟩ := ho5.ss.shape
          subst hv'
          have T5 := Lib.hid (TA.put hg5 ho5 hg5.size)
          obtain ⟨c5, f5⟩ : w5.cell? ⟨w.heap.size + 1, 0, none⟩ = some (.slice ao acc.length cap) ∧ w5.frozen? ⟨w.heap.size + 1, 0, none⟩ = false := by
            have h5 := (hg5.block _ TA.lt (fun e => by have := (TA.own.lt _ e.symm).1; omega)).trans TA.cur
            exact ⟨by simp [World.cell?, h5], by simp [World.frozen?, h5]⟩
          clear hx ho5 hg5 TA cA cA2 bA
          refine hK.out _ _ trivial (fun _ => ?_)
          clear hK K
          try simp only [List.getElem_toArray, List.getElem_cons_zero, List.getElem_cons_succ, Act.put, List.setIfInBounds_toArray, List.set_cons_zero, List.set_cons_succ]
          refine wpAnyH_take (i := 7) (v := ?v7t6) rfl (by kernel_rfl) (by kernel_rfl) (by kernel_rfl) (fun _ _ _ h => h) (Or.inl ⟨by rfl, ?y7t6⟩) trivial ?z7t6
          case y7t6 => intro w_ hSw; go_simp; with_reducible rfl
          try simp only [List.getElem_toArray, List.getElem_cons_zero, List.getElem_cons_succ, Act.put, List.setIfInBounds_toArray, List.set_cons_zero, List.set_cons_succ]
          refine wpAnyH_ready (rs := [8]) (by kernel_rfl) (by simp) ?_
          refine AllReadyH.cons rfl (fun K hK => ?_) AllReadyH.nil
          go_simp
          refine hK.out _ _ trivial (fun _ => ?_)
          clear hK K
          try simp only [List.getElem_toArray, List.getElem_cons_zero, List.getElem_cons_succ, Act.put, List.setIfInBounds_toArray, List.set_cons_zero, List.set_cons_succ]
          refine wpAnyH_done (by kernel_rfl) ?_ _
          have hal : (acc ++ [u]).length = acc.length + 1 := by simp
          rw [hal] at T5
          have HR2 := Lib.hid (show toks [] q = (toks [] d).map ((acc ++ [u]) ++ ·) by rw [(HR.out).1, HT2.out]; cases toks [] d <;> simp)
          go_wp2_with fail
          refine (trimBlank d _).mono ?_; rintro e w6 ⟨rfl, b6⟩
          have T6 := Lib.hid ((T5.out).past b6)
          have hl6 := (take_while blankC d).2.2
          have hq2 : ∀ x, (d.dropWhile blankC).head? = some x → blankC x = false := by
            intro x hx
            have := List.head?_dropWhile_not blankC d
            rw [hx] at this
            simpa using this
          have hq1 : (acc ++ [u]).length + (d.dropWhile blankC).length ≤ 1000000000 := by have := HX.out; simp only [List.length_append, List.length_singleton]; omega
          have hq0 : toks [] q = (toks [] (d.dropWhile blankC)).map ((acc ++ [u]) ++ ·) := by rw [toks_blanks]; exact HR2.out
          have HQ := Lib.hid (And.intro hq0 (And.intro hq1 hq2))
          have HL6 := Lib.hid hl6
          clear b6 hl6 hq0 hq1 hq2
          go_wp2_with fail
          go_roundw
          case rel => exact ⟨_, _, _, rfl, HQ, T6⟩
          have x0 := HL6.out
          obtain ⟨x1, x2, x3, x4, x5⟩ := HX.out
          show (ByteArray.mk (d.dropWhile blankC).toArray).size < (ByteArray.mk (c :: r).toArray).size
          simp only [ByteArray.size, List.size_toArray, List.length_cons]
          omega
      | false =>
        have hn : ((((c :: r).takeWhile wordC).length : Int) == 0) = true := by rw [List.takeWhile_cons_of_neg (by simp [hw])]; rfl
        clear hl3 hlen hbig
        go_wp2_with fail
        refine (signAt c w3).mono ?_; rintro e w4 ⟨n, rfl, hn2, rfl⟩
        cases hs : signC c with
        | false =>
          rw [hs] at hn2
          go_wp2_with fail
          refine (must_no w3).mono ?_; rintro e w4 ⟨rfl, rfl⟩
          have hb : blankC c = false := (HR.out).2.2 c rfl
          have he : toks [] q = none := by rw [(HR.out).1, toks_none r hw hb hs]; rfl
          have HE := Lib.hid he
          clear he
          go_wp2_with fail
          exact ⟨rfl, tokd_none HE.out rfl (T3.out).below⟩
        | true =>
          rw [hs] at hn2
          have HS2 := Lib.hid (toks_sign r hs)
          go_wp2_with fail
          obtain ⟨ao, cap, hv⟩ := (T3.out).own.ss.shape
          subst hv
          obtain ⟨c1, -, -, -⟩ := (T3.out).cells
          have hacc : acc.length ≤ 1000000000 := by have := (HR.out).2.1; omega
          have s1 : (1 : Int) ≤ (r.length : Int) + 1 := by omega
          have e1 : (⟨(c :: r).toArray⟩ : ByteArray).extract 0 1 = ⟨[c].toArray⟩ := by have := ext_to (n := 1) (l := c :: r); simpa using this
          have e2 : (⟨(c :: r).toArray⟩ : ByteArray).extract 1 (r.length + 1) = ⟨r.toArray⟩ := by have := ext_from (n := 1) (m := r.length + 1) (l := c :: r) rfl; simpa using this
          have HX := Lib.hid hacc
          clear hacc
          refine (must_ok w3).mono ?_; rintro e w4 ⟨rfl, rfl⟩
          go_wp2_with fail
          refine wp_region_held_drew (S := fun _ => True) (by kernel_rfl) trivial (fun _ => ?_)
          have T4 := Lib.hid ((T3.out).past ((Below.refl _ w3).drew))
          refine wpAnyH_take (i := 0) (v := ?v0t7) rfl (by kernel_rfl) (by kernel_rfl) (by kernel_rfl) (fun _ _ _ h => h) (Or.inl ⟨by rfl, ?y0t7⟩) trivial ?z0t7
          case y0t7 => intro w_ hSw; go_simp; with_reducible rfl
          try simp only [List.getElem_toArray, List.getElem_cons_zero, List.getElem_cons_succ, Act.put, List.setIfInBounds_toArray, List.set_cons_zero, List.set_cons_succ]
          refine wpAnyH_take (i := 2) (v := ?v2t8) rfl (by kernel_rfl) (by kernel_rfl) (by kernel_rfl) (fun _ _ _ h => h) (Or.inl ⟨by rfl, ?y2t8⟩) trivial ?z2t8
          case y2t8 => intro w_ hSw; go_simp; with_reducible rfl
          try simp only [List.getElem_toArray, List.getElem_cons_zero, List.getElem_cons_succ, Act.put, List.setIfInBounds_toArray, List.set_cons_zero, List.set_cons_succ]
          refine wpAnyH_take (i := 3) (v := ?v3t9) rfl (by kernel_rfl) (by kernel_rfl) (by kernel_rfl) (fun _ _ _ h => h) (Or.inl ⟨by rfl, ?y3t9⟩) trivial ?z3t9
          case y3t9 => intro w_ hSw; go_simp; with_reducible rfl
          try simp only [List.getElem_toArray, List.getElem_cons_zero, List.getElem_cons_succ, Act.put, List.setIfInBounds_toArray, List.set_cons_zero, List.set_cons_succ]
          refine wpAnyH_take (i := 4) (v := ?v4t10) rfl (by kernel_rfl) (by kernel_rfl) (by kernel_rfl) (fun _ _ _ h => h) (Or.inl ⟨by rfl, ?y4t10⟩) trivial ?z4t10
          case y4t10 => intro w_ hSw; go_simp; with_reducible rfl
          try simp only [List.getElem_toArray, List.getElem_cons_zero, List.getElem_cons_succ, Act.put, List.setIfInBounds_toArray, List.set_cons_zero, List.set_cons_succ]
          have bA := alloc_below w3.drew (.cells #[str [c]] 9)
          have TA := (T4.out).past bA
          have hx : (w3.drew.alloc (.cells #[str [c]] 9)).cell? ⟨w3.heap.size, 0, none⟩ = some (str [c]) := by
            have := heap_alloc_new w3.drew (.cells #[str [c]] 9)
            simp only [World.cell?]
            rw [show w3.heap.size = w3.drew.heap.size from rfl, this]
            rfl
          have cA := (TA.cells).1
          have cA2 : ((w3.alloc (.cells #[.string ⟨#[c]⟩] 9)).drew).cell? ⟨w.heap.size + 1, 0, none⟩ = some (.slice ao acc.length cap) := cA
          refine wpAnyH_ready (rs := [1, 5]) (by kernel_rfl) (by simp) ?_
          refine AllReadyH.cons rfl (fun K hK => ?_) (AllReadyH.cons rfl (fun K hK => ?_) AllReadyH.nil)
          · go_simp
            refine hK.out _ _ trivial (fun _ => ?_)
            clear hK K
            try simp only [List.getElem_toArray, List.getElem_cons_zero, List.getElem_cons_succ, Act.put, List.setIfInBounds_toArray, List.set_cons_zero, List.set_cons_succ]
            refine wpAnyH_ready (rs := [5]) (by kernel_rfl) (by simp) ?_
            refine AllReadyH.cons rfl (fun K hK => ?_) AllReadyH.nil
            go_simp
            refine hK.out _ _ trivial (fun _ => ?_)
            clear hK K
            try simp only [List.getElem_toArray, List.getElem_cons_zero, List.getElem_cons_succ, Act.put, List.setIfInBounds_toArray, List.set_cons_zero, List.set_cons_succ]
            refine wpAnyH_ready (rs := [6]) (by kernel_rfl) (by simp) ?_
            refine AllReadyH.cons rfl (fun K hK => ?_) AllReadyH.nil
            refine step_append_s (by rfl) (.tmp 31) (.tmp 35) (by rfl) (w.heap.size + 2) (.slice ao acc.length cap) acc (by rfl) TA.own w3.heap.size [c] (by rfl) hx HX.out (Nat.succ_le_of_lt TA.lt) ?_
            intro v' w5 ho5 hg5
            obtain ⟨ao', cap', hv'⟩ := ho5.ss.shape
            subst hv'
            have T5 := Lib.hid (TA.put hg5 ho5 hg5.size)
            obtain ⟨c5, f5⟩ : w5.cell? ⟨w.heap.size + 1, 0, none⟩ = some (.slice ao acc.length cap) ∧ w5.frozen? ⟨w.heap.size + 1, 0, none⟩ = false := by
              have h5 := (hg5.block _ TA.lt (fun e => by have := (TA.own.lt _ e.symm).1; omega)).trans TA.cur
              exact ⟨by simp [World.cell?, h5], by simp [World.frozen?, h5]⟩
            clear hx ho5 hg5 TA cA cA2 bA
            refine hK.out _ _ trivial (fun _ => ?_)
            clear hK K
            try simp only [List.getElem_toArray, List.getElem_cons_zero, List.getElem_cons_succ, Act.put, List.setIfInBounds_toArray, List.set_cons_zero, List.set_cons_succ]
            refine wpAnyH_take (i := 7) (v := ?v7t11) rfl (by kernel_rfl) (by kernel_rfl) (by kernel_rfl) (fun _ _ _ h => h) (Or.inl ⟨by rfl, ?y7t11⟩) trivial ?z7t11
            case y7t11 => intro w_ hSw; go_simp; with_reducible rfl
            try simp only [List.getElem_toArray, List.getElem_cons_zero, List.getElem_cons_succ, Act.put, List.setIfInBounds_toArray, List.set_cons_zero, List.set_cons_succ]
            refine wpAnyH_ready (rs := [8]) (by kernel_rfl) (by simp) ?_
            refine AllReadyH.cons rfl (fun K hK => ?_) AllReadyH.nil
            go_simp
            refine hK.out _ _ trivial (fun _ => ?_)
            clear hK K
            try simp only [List.getElem_toArray, List.getElem_cons_zero, List.getElem_cons_succ, Act.put, List.setIfInBounds_toArray, List.set_cons_zero, List.set_cons_succ]
            refine wpAnyH_done (by kernel_rfl) ?_ _
            have hal : (acc ++ [[c]]).length = acc.length + 1 := by simp
            rw [hal] at T5
            have HR2 := Lib.hid (show toks [] q = (toks [] r).map ((acc ++ [[c]]) ++ ·) by rw [(HR.out).1, HS2.out]; cases toks [] r <;> simp)
            go_wp2_with fail
            refine (trimBlank r _).mono ?_; rintro e w6 ⟨rfl, b6⟩
            have T6 := Lib.hid ((T5.out).past b6)
            have hl6 := (take_while blankC r).2.2
            have hq2 : ∀ x, (r.dropWhile blankC).head? = some x → blankC x = false := by
              intro x hx
              have := List.head?_dropWhile_not blankC r
              rw [hx] at this
              simpa using this
            have HL6 := Lib.hid hl6
            have hq1 : (acc ++ [[c]]).length + (r.dropWhile blankC).length ≤ 1000000000 := by have := (HR.out).2.1; have := HL6.out; simp only [List.length_append, List.length_singleton, List.length_cons] at *; omega
            have hq0 : toks [] q = (toks [] (r.dropWhile blankC)).map ((acc ++ [[c]]) ++ ·) := by rw [toks_blanks]; exact HR2.out
            have HQ := Lib.hid (And.intro hq0 (And.intro hq1 hq2))
            have HL6 := Lib.hid hl6
            clear b6 hl6 hq0 hq1 hq2
            go_wp2_with fail
            go_roundw
            case rel => exact ⟨_, _, _, rfl, HQ, T6⟩
            have x0 := HL6.out
            have x1 := HX.out
            show (ByteArray.mk (r.dropWhile blankC).toArray).size < (ByteArray.mk (c :: r).toArray).size
            simp only [ByteArray.size, List.size_toArray, List.length_cons]
            omega
          · go_simp
            refine hK.out _ _ trivial (fun _ => ?_)
            clear hK K
            try simp only [List.getElem_toArray, List.getElem_cons_zero, List.getElem_cons_succ, Act.put, List.setIfInBounds_toArray, List.set_cons_zero, List.set_cons_succ]
            refine wpAnyH_ready (rs := [1]) (by kernel_rfl) (by simp) ?_
            refine AllReadyH.cons rfl (fun K hK => ?_) AllReadyH.nil
            go_simp
            refine hK.out _ _ trivial (fun _ => ?_)
            clear hK K
            try simp only [List.getElem_toArray, List.getElem_cons_zero, List.getElem_cons_succ, Act.put, List.setIfInBounds_toArray, List.set_cons_zero, List.set_cons_succ]
            refine wpAnyH_ready (rs := [6]) (by kernel_rfl) (by simp) ?_
            refine AllReadyH.cons rfl (fun K hK => ?_) AllReadyH.nil
            refine step_append_s (by rfl) (.tmp 31) (.tmp 35) (by rfl) (w.heap.size + 2) (.slice ao acc.length cap) acc (by rfl) TA.own w3.heap.size [c] (by rfl) hx HX.out (Nat.succ_le_of_lt TA.lt) ?_
            intro v' w5 ho5 hg5
            obtain ⟨ao', cap', hv'⟩ := ho5.ss.shape
            subst hv'
            have T5 := Lib.hid (TA.put hg5 ho5 hg5.size)
            obtain ⟨c5, f5⟩ : w5.cell? ⟨w.heap.size + 1, 0, none⟩ = some (.slice ao acc.length cap) ∧ w5.frozen? ⟨w.heap.size + 1, 0, none⟩ = false := by
              have h5 := (hg5.block _ TA.lt (fun e => by have := (TA.own.lt _ e.symm).1; omega)).trans TA.cur
              exact ⟨by simp [World.cell?, h5], by simp [World.frozen?, h5]⟩
            clear hx ho5 hg5 TA cA cA2 bA
            refine hK.out _ _ trivial (fun _ => ?_)
            clear hK K
            try simp only [List.getElem_toArray, List.getElem_cons_zero, List.getElem_cons_succ, Act.put, List.setIfInBounds_toArray, List.set_cons_zero, List.set_cons_succ]
            refine wpAnyH_take (i := 7) (v := ?v7t12) rfl (by kernel_rfl) (by kernel_rfl) (by kernel_rfl) (fun _ _ _ h => h) (Or.inl ⟨by rfl, ?y7t12⟩) trivial ?z7t12
            case y7t12 => intro w_ hSw; go_simp; with_reducible rfl
            try simp only [List.getElem_toArray, List.getElem_cons_zero, List.getElem_cons_succ, Act.put, List.setIfInBounds_toArray, List.set_cons_zero, List.set_cons_succ]
            refine wpAnyH_ready (rs := [8]) (by kernel_rfl) (by simp) ?_
            refine AllReadyH.cons rfl (fun K hK => ?_) AllReadyH.nil
            go_simp
            refine hK.out _ _ trivial (fun _ => ?_)
            clear hK K
            try simp only [List.getElem_toArray, List.getElem_cons_zero, List.getElem_cons_succ, Act.put, List.setIfInBounds_toArray, List.set_cons_zero, List.set_cons_succ]
            refine wpAnyH_done (by kernel_rfl) ?_ _
            have hal : (acc ++ [[c]]).length = acc.length + 1 := by simp
            rw [hal] at T5
            have HR2 := Lib.hid (show toks [] q = (toks [] r).map ((acc ++ [[c]]) ++ ·) by rw [(HR.out).1, HS2.out]; cases toks [] r <;> simp)
            go_wp2_with fail
            refine (trimBlank r _).mono ?_; rintro e w6 ⟨rfl, b6⟩
            have T6 := Lib.hid ((T5.out).past b6)
            have hl6 := (take_while blankC r).2.2
            have hq2 : ∀ x, (r.dropWhile blankC).head? = some x → blankC x = false := by
              intro x hx
              have := List.head?_dropWhile_not blankC r
              rw [hx] at this
              simpa using this
            have HL6 := Lib.hid hl6
            have hq1 : (acc ++ [[c]]).length + (r.dropWhile blankC).length ≤ 1000000000 := by have := (HR.out).2.1; have := HL6.out; simp only [List.length_append, List.length_singleton, List.length_cons] at *; omega
            have hq0 : toks [] q = (toks [] (r.dropWhile blankC)).map ((acc ++ [[c]]) ++ ·) := by rw [toks_blanks]; exact HR2.out
            have HQ := Lib.hid (And.intro hq0 (And.intro hq1 hq2))
            have HL6 := Lib.hid hl6
            clear b6 hl6 hq0 hq1 hq2
            go_wp2_with fail
            go_roundw
            case rel => exact ⟨_, _, _, rfl, HQ, T6⟩
            have x0 := HL6.out
            have x1 := HX.out
            show (ByteArray.mk (r.dropWhile blankC).toArray).size < (ByteArray.mk (c :: r).toArray).size
            simp only [ByteArray.size, List.size_toArray, List.length_cons]
            omega
end Go.Proofs.YthfkmackodbmkaaGreatDoor
