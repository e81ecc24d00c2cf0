/- Contracts of the document's own reader: New, Bad, Done, Number, Bytes, Entry. -/
import Derived.Test.YtggbpdkejkmakaaGreatRdr
import Derived.Test.YtggbpdkejkmakaaGreatApp
import Derived.Deep.Upon
namespace Go.Proofs.YtggbpdkejkmakaaGreat
open Go.RowKit
set_option linter.unusedVariables false
set_option linter.unusedSimpArgs false

/-- Block D is the document's reader: all bytes, where it stands, whether it is bad. -/
def Dr (w : World) (D : Nat) (v : Value) (p : Nat) (b : Bool) : Prop := w.heap[D]? = some (.cells #[v, .int .i64 p, .bool b] 78 (0, 0))
section
variable {w : World} {D p : Nat} {v : Value} {b : Bool}
theorem Dr.lt (h : Dr w D v p b) : D < w.heap.size := (Array.getElem?_eq_some_iff.1 h).1
theorem Dr.cell0 (h : Dr w D v p b) : w.cell? ⟨D, 0, none⟩ = some v := by rw [cell_of_row w D 0 _ _ _ h]; rfl
theorem Dr.cell1 (h : Dr w D v p b) : w.cell? ⟨D, 1, none⟩ = some (.int .i64 p) := by rw [cell_of_row w D 1 _ _ _ h]; rfl
theorem Dr.cell2 (h : Dr w D v p b) : w.cell? ⟨D, 2, none⟩ = some (.bool b) := by rw [cell_of_row w D 2 _ _ _ h]; rfl
theorem Dr.free (h : Dr w D v p b) (i : Nat) : w.frozen? ⟨D, i, none⟩ = false := by simp [World.frozen?, show w.heap[D]? = _ from h]
theorem Dr.set1 (h : Dr w D v p b) (q : Nat) : Dr (w.setCell ⟨D, 1, none⟩ (.int .i64 q)) D v q b := by
  unfold Dr at h ⊢
  simp only [World.setCell, Array.getElem?_modify, h]
  simp
theorem Dr.set2 (h : Dr w D v p b) (c : Bool) : Dr (w.setCell ⟨D, 2, none⟩ (.bool c)) D v p c := by
  unfold Dr at h ⊢
  simp only [World.setCell, Array.getElem?_modify, h]
  simp
theorem Dr.noBytes (h : Dr w D v p b) : NoBytes w D := by
  intro cur fr hb
  rw [show w.heap[D]? = _ from h] at hb
  simp at hb
end

/-- The document's reader D: the bytes L, of which p are behind it. -/
def Dl (w : World) (D : Nat) (L : List Int) (p : Nat) (b : Bool) : Prop := Oct L ∧ p ≤ L.length ∧ ∃ v, Dr w D v p b ∧ Bs w v L ∧ Tag w v
/-- What the document's reader has left, or none where it is bad. -/
def Ref (w : World) (D : Nat) : Option (List Int) → Prop
  | some l => ∃ L p, Dl w D L p false ∧ l = L.drop p
  | none => ∃ L p, Dl w D L p true

theorem Dl.lt {w : World} {D : Nat} {L : List Int} {p : Nat} {b : Bool} (h : Dl w D L p b) : D < w.heap.size := by obtain ⟨_, _, v, hr, _⟩ := h; exact hr.lt
theorem Dl.keep {w w' : World} {D : Nat} {L : List Int} {p : Nat} {b : Bool} {row : Option Nat} (h : Dl w D L p b) (hg : w.grownBy w' row) (hX : ∀ k, row = some k → k ≠ D ∧ NoBytes w k) : Dl w' D L p b := by
  obtain ⟨ho, hp, v, hr, hb, ht⟩ := h
  exact ⟨ho, hp, v, (hg.block D hr.lt (fun e => (hX D e.symm).1 rfl)).trans hr, ht.bs hb hg (fun k hk => (hX k hk).2), ht.keep hg (fun k hk => (hX k hk).2)⟩
theorem Dl.drewN {w : World} {D : Nat} {L : List Int} {p : Nat} {b : Bool} (h : Dl w D L p b) (n : Nat) : Dl (w.drewN n) D L p b := h.keep (row := none) ⟨rfl, rfl, rfl, Nat.le_refl _, fun _ _ _ => rfl⟩ (fun _ hk => by cases hk)
theorem Dl.set2 {w : World} {D : Nat} {L : List Int} {p : Nat} {b : Bool} (h : Dl w D L p b) (c : Bool) : Dl (w.setCell ⟨D, 2, none⟩ (.bool c)) D L p c := by
  obtain ⟨ho, hp, v, hr, hb, ht⟩ := h
  have hg := grownBy_setCell w ⟨D, 2, none⟩ (.bool c)
  have hN : ∀ k, some D = some k → NoBytes w k := fun k hk => by cases hk; exact hr.noBytes
  exact ⟨ho, hp, v, hr.set2 c, ht.bs hb hg hN, ht.keep hg hN⟩
theorem Dl.set1 {w : World} {D : Nat} {L : List Int} {p : Nat} {b : Bool} (h : Dl w D L p b) (q : Nat) (hq : q ≤ L.length) : Dl (w.setCell ⟨D, 1, none⟩ (.int .i64 q)) D L q b := by
  obtain ⟨ho, hp, v, hr, hb, ht⟩ := h
  have hg := grownBy_setCell w ⟨D, 1, none⟩ (.int .i64 q)
  have hN : ∀ k, some D = some k → NoBytes w k := fun k hk => by cases hk; exact hr.noBytes
  exact ⟨ho, hq, v, hr.set1 q, ht.bs hb hg hN, ht.keep hg hN⟩
theorem Ref.lt {w : World} {D : Nat} {st : Option (List Int)} (h : Ref w D st) : D < w.heap.size := by
  cases st with
  | some l => obtain ⟨L, p, h, _⟩ := h; exact h.lt
  | none => obtain ⟨L, p, h⟩ := h; exact h.lt
theorem Ref.keep {w w' : World} {D : Nat} {st : Option (List Int)} {row : Option Nat} (h : Ref w D st) (hg : w.grownBy w' row) (hX : ∀ k, row = some k → k ≠ D ∧ NoBytes w k) : Ref w' D st := by
  cases st with
  | some l => obtain ⟨L, p, h, e⟩ := h; exact ⟨L, p, h.keep hg hX, e⟩
  | none => obtain ⟨L, p, h⟩ := h; exact ⟨L, p, h.keep hg hX⟩
theorem grownBy_drewN (w : World) (n : Nat) (row : Option Nat) : w.grownBy (w.drewN n) row := ⟨rfl, rfl, rfl, Nat.le_refl _, fun _ _ _ => rfl⟩

/-- e returns v; the document's reader D is at st, and nothing else has turned. -/
def Says (D : Nat) (v : Value) (st : Option (List Int)) (w : World) (e : Ending) (w' : World) : Prop :=
  e = .returned v ∧ Ref w' D st ∧ w.grownBy w' (some D)

/-- The document's reader's cells. -/
theorem Dl.cells {w : World} {D : Nat} {L : List Int} {p : Nat} {b : Bool} (h : Dl w D L p b) :
    ∃ ao cap, w.cell? ⟨D, 0, none⟩ = some (.slice ao L.length cap) ∧ w.cell? ⟨D, 1, none⟩ = some (.int .i64 p) ∧ w.cell? ⟨D, 2, none⟩ = some (.bool b) ∧ (∀ i, w.frozen? ⟨D, i, none⟩ = false) ∧
      L.length ≤ cap ∧ cap ≤ maxLen ∧ Bs w (.slice ao L.length cap) L := by
  obtain ⟨ho, hp, v, hr, hb, ht⟩ := h
  have hb' := hb
  obtain ⟨ao, cap, rfl, h1, h2, h3, h4⟩ := hb'
  exact ⟨ao, cap, hr.cell0, hr.cell1, hr.cell2, hr.free, h1, h2, hb⟩

set_option maxRecDepth 100000 in
theorem refBad_at (D : Nat) (L : List Int) (p : Nat) (b : Bool) (w : World) (h : Dl w D L p b) : Calls Tryz.prog 32 #[.pointer (some ⟨D, 0, none⟩)] w fun e w' => w = w' ∧ e = .returned (.bool b) := by
  obtain ⟨ao, cap, c0, c1, c2, -⟩ := h.cells
  clear h
  go_enter Tryz.func32, Tryz.ntmps32
  go_wp2
  go_ret
  exact ⟨rfl, rfl⟩
theorem refBad (D : Nat) (st : Option (List Int)) (w : World) (h : Ref w D st) : Calls Tryz.prog 32 #[.pointer (some ⟨D, 0, none⟩)] w fun e w' => w = w' ∧ e = .returned (.bool st.isNone) := by
  cases st with
  | some l => obtain ⟨L, p, h, _⟩ := h; exact refBad_at D L p _ w h
  | none => obtain ⟨L, p, h⟩ := h; exact refBad_at D L p _ w h

set_option maxRecDepth 100000 in
theorem refNumber_bad (D : Nat) (L : List Int) (p : Nat) (w : World) (h : Dl w D L p true) :
    Calls Tryz.prog 25 #[.pointer (some ⟨D, 0, none⟩)] w (Says D (.int .i64 0) none w) := by
  obtain ⟨ao, cap, c0, c1, c2, fr, hl, hm, hb⟩ := h.cells
  have f2 := fr 2
  have H := Lib.hid h
  clear h hb fr
  go_enter Tryz.func25, Tryz.ntmps25
  go_wp2_with fail
  go_quiet (fail)
  go_wp2_with fail
  go_ret
  exact ⟨rfl, ⟨L, p, ((H.out).drewN _).set2 true⟩, grownBy_trans (grownBy_drewN w _ _) (grownBy_setCell _ ⟨D, 2, none⟩ _)⟩

set_option maxRecDepth 100000 in
theorem refNumber_short (D : Nat) (L : List Int) (p : Nat) (w : World) (h : Dl w D L p false) (hs : L.length - p < 8) :
    Calls Tryz.prog 25 #[.pointer (some ⟨D, 0, none⟩)] w (Says D (.int .i64 0) none w) := by
  obtain ⟨ao, cap, c0, c1, c2, fr, hl, hm, hb⟩ := h.cells
  have f2 := fr 2
  have hp := h.2.1
  have H := Lib.hid h
  have hm' : L.length ≤ 9223372036854775807 := by unfold maxLen at hm; omega
  have e1 : wrap64 ((L.length : Int) - (p : Int)) = (L.length : Int) - p := IntWalk.wrap64_in _ ⟨by omega, by omega⟩
  have hd : decide ((L.length : Int) - (p : Int) < 8) = true := by simp; omega
  clear h hb fr
  go_enter Tryz.func25, Tryz.ntmps25
  go_wp2_with fail
  go_quiet (fail)
  go_wp2_with fail
  go_ret
  exact ⟨rfl, ⟨L, p, ((H.out).drewN _).set2 true⟩, grownBy_trans (grownBy_drewN w _ _) (grownBy_setCell _ ⟨D, 2, none⟩ _)⟩

theorem be_step {l : List Int} (ho : Oct l) {k : Nat} (hk : k < 8) (h : k < l.length) : IntKind.u64.wrap (IntKind.u64.wrap (256 * be l k) + IntKind.u64.wrap (nth l k)) = be l (k + 1) := by
  have hb := be_top ho hk (Nat.le_of_lt h)
  have hn := ho.nth h
  rw [be_succ, IntKind.wrap_u64, IntKind.wrap_u64, IntKind.wrap_u64]
  generalize be l k = x at *
  generalize nth l k = y at *
  omega

set_option maxHeartbeats 1000000 in
set_option maxRecDepth 100000 in
theorem refNumber_long (D : Nat) (L : List Int) (p : Nat) (w : World) (h : Dl w D L p false) (hs : 8 ≤ L.length - p) :
    Calls Tryz.prog 25 #[.pointer (some ⟨D, 0, none⟩)] w (Says D (.int .i64 (val (L.drop p))) (some ((L.drop p).drop 8)) w) := by
  obtain ⟨ao, cap, c0, c1, c2, fr, hl, hm, hb⟩ := h.cells
  have f1 := fr 1
  have hp := h.2.1
  have H := Lib.hid h
  have HO := Lib.hid (h.1.drop p)
  have hm' : L.length ≤ 9223372036854775807 := by unfold maxLen at hm; omega
  have e1 : wrap64 ((L.length : Int) - (p : Int)) = (L.length : Int) - p := IntWalk.wrap64_in _ ⟨by omega, by omega⟩
  have hd : decide ((L.length : Int) - (p : Int) < 8) = false := by simp; omega
  obtain ⟨b, off, c, hsh, -, -, -, cells⟩ := hb.at (by omega)
  have hao : ao = some ⟨b, off, none⟩ := by cases hsh; rfl
  subst hao
  have CU := Lib.hid cells
  have HS := Lib.hid hs
  clear h hb fr cells hsh
  go_enter Tryz.func25, Tryz.ntmps25
  go_wp2_with fail
  go_quiet (fail)
  go_wp2_with fail
  go_loopw [3, 4] (fun x i wr => ∃ k : Nat, k ≤ 8 ∧ x = .int .u64 (be (L.drop p) k) ∧ i = .int .i64 k ∧ Still w wr) (fun _ i _ => 8 - (intOf i).toNat)
  case atStart => exact ⟨0, by omega, rfl, rfl, ⟨_, rfl⟩⟩
  case round =>
    obtain ⟨k, hk, rfl, rfl, hst⟩ := hrel
    obtain ⟨d, rfl⟩ := hst
    by_cases hlt : k < 8
    · have cb := CU.out (p + k) (by have := HS.out; omega)
      have hd2 : decide (k < 8) = true := by simpa using hlt
      have eb := be_step (HO.out) hlt (by rw [List.length_drop]; have := HS.out; omega)
      rw [nth_drop] at eb
      generalize be (L.drop p) k = x at *
      go_wp2_with fail
      go_quiet (fail)
      go_wp2_with fail
      go_roundw
      case rel => exact ⟨k + 1, by omega, by go_num, by go_num, ⟨_, rfl⟩⟩
      case measure => simp [intOf]; omega
    · obtain rfl : k = 8 := by omega
      go_wp2_with fail
      go_ret
      rw [show ((p : Int) + 8) = ((p + 8 : Nat) : Int) from by omega]
      exact ⟨rfl, ⟨L, p + 8, ((H.out).drewN _).set1 (p + 8) (by have := HS.out; omega), by rw [List.drop_drop]⟩, grownBy_trans (grownBy_drewN w _ _) (grownBy_setCell _ ⟨D, 1, none⟩ _)⟩

theorem refRdrNumber (D : Nat) (st : Option (List Int)) (w : World) (h : Ref w D st) :
    Calls Tryz.prog 25 #[.pointer (some ⟨D, 0, none⟩)] w (Says D (.int .i64 (ans rdNum 0 st).1) (ans rdNum 0 st).2 w) := by
  cases st with
  | none => obtain ⟨L, p, h⟩ := h; exact refNumber_bad D L p w h
  | some l =>
    obtain ⟨L, p, h, rfl⟩ := h
    by_cases h8 : 8 ≤ (L.drop p).length
    · have : rdNum (L.drop p) = some (val (L.drop p), (L.drop p).drop 8) := by unfold rdNum; rw [if_pos h8]
      rw [ans_some this]
      exact refNumber_long D L p w h (by simpa using h8)
    · have : rdNum (L.drop p) = none := by unfold rdNum; rw [if_neg h8]
      rw [ans_none this]
      exact refNumber_short D L p w h (by simpa using h8)

set_option maxRecDepth 100000 in
theorem refDone_at (D : Nat) (L : List Int) (p : Nat) (w : World) (h : Dl w D L p false) : Calls Tryz.prog 34 #[.pointer (some ⟨D, 0, none⟩)] w (Tells (.bool (decide (p = L.length))) w) := by
  obtain ⟨ao, cap, c0, c1, c2, -⟩ := h.cells
  clear h
  generalize hd : decide (p = L.length) = b
  go_enter Tryz.func34, Tryz.ntmps34
  go_wp2_with fail
  go_quiet (fail)
  go_wp2_with fail
  go_ret
  exact ⟨ret_bool (by subst hd; rw [Bool.eq_iff_iff]; simp; try omega), ⟨_, rfl⟩⟩
set_option maxRecDepth 100000 in
theorem refDone_no (D : Nat) (L : List Int) (p : Nat) (w : World) (h : Dl w D L p true) : Calls Tryz.prog 34 #[.pointer (some ⟨D, 0, none⟩)] w (Tells (.bool false) w) := by
  obtain ⟨ao, cap, c0, c1, c2, -⟩ := h.cells
  clear h
  go_enter Tryz.func34, Tryz.ntmps34
  go_wp2_with fail
  go_quiet (fail)
  go_wp2_with fail
  go_ret
  exact ⟨rfl, ⟨_, rfl⟩⟩
theorem refDone (D : Nat) (st : Option (List Int)) (w : World) (h : Ref w D st) : Calls Tryz.prog 34 #[.pointer (some ⟨D, 0, none⟩)] w (Tells (.bool (isDone st)) w) := by
  cases st with
  | none => obtain ⟨L, p, h⟩ := h; exact refDone_no D L p w h
  | some l =>
    obtain ⟨L, p, h, rfl⟩ := h
    have e : isDone (some (L.drop p)) = decide (p = L.length) := by
      have := h.2.1
      unfold isDone
      rw [Bool.eq_iff_iff]
      simp
      omega
    rw [e]
    exact refDone_at D L p w h

theorem run_append_any (w : World) (base : Nat) (ty : TypeId) (v : Value) (xs : List Int) (hown : Own w base v xs) (u : Value) (ys : List Int) (hu : Bs w u ys) (hlen : xs.length + ys.length ≤ 140737488355328) (hbase : base ≤ w.heap.size) :
    ∃ v' w', (Builtin.append_ #[23, 23] ty #[v, u]).run Tryz.prog w = .ok v' w' ∧ Own w' base v' (xs ++ ys) ∧ w.grownBy w' v.ownBlock := by
  by_cases hpos : 0 < ys.length
  · obtain ⟨b, off, cap, rfl, -, -, -, cells⟩ := hu.at hpos
    obtain ⟨v', w', hrun, r1, r2⟩ := run_append_two w base ty v xs hown ⟨b, off, none⟩ cap ys hpos (fun j hj => by rw [add_none]; exact cells j hj) (by omega) hbase
    refine ⟨v', w', hrun, r1, ?_⟩
    rcases r2 with ⟨g, n, c', rfl, _, hg⟩ | ⟨_, hg⟩
    · exact hg
    · exact ⟨hg.os, hg.tape, hg.output, hg.size, fun k hk _ => hg.block k hk (by simp)⟩
  · obtain rfl : ys = [] := List.eq_nil_of_length_eq_zero (by omega)
    obtain ⟨i, hi, hz, hs1, hb1⟩ := u8info
    obtain ⟨ao, cap, rfl, h1, h2, h3, h4⟩ := hown.bs
    obtain ⟨ao', cap', rfl, k1, k2, k3, k4⟩ := hu
    have hsrc : Src Tryz.prog i.size 23 (.slice ao' 0 cap') 0 [] w := by
      cases ao' with
      | none => exact Src.ofNil w Tryz.underlying23 cap'
      | some a => exact Src.ofSlice w Tryz.underlying23 a 0 cap' [] (by simp) (fun j u h => by simp at h) (fun u h => by cases h)
    refine ⟨_, _, run_append_nothing w 23 23 ty 5 i Tryz.underlying23 hi ao xs.length cap h1 _ hsrc, by rw [List.append_nil]; exact hown, grownBy_refl _ _⟩

theorem step_append_any {w : World} {ops : Array Oper} {o : Oper} {a : Act} {K : Act → World → Prop} {Q : Exit → Act → World → Prop} {E : Prop} (hgd : o.guard = none) (s x : Operand)
    (ho : o.op = .call { callee := .builtin .append, args := #[s, x], argTypes := #[23, 23] })
    (base : Nat) (v : Value) (xs : List Int) (hs : a.eval s = v) (hown : Own w base v xs) (u : Value) (ys : List Int) (hx : a.eval x = u) (hu : Bs w u ys)
    (hlen : xs.length + ys.length ≤ 140737488355328) (hbase : base ≤ w.heap.size)
    (h : ∀ v' w', Own w' base v' (xs ++ ys) → w.grownBy w' v.ownBlock → K (a.put o.dst v') w') :
    if Region.wanted o (yielded ops a.tmps) = true then Oper.wp Tryz.prog o a w K Q else E := by
  have hw : Region.wanted o (yielded ops a.tmps) = true := by simp [Region.wanted, hgd]
  rw [if_pos hw]
  obtain ⟨v', w', hrun, r1, r2⟩ := run_append_any w base o.type v xs hown u ys hu hlen hbase
  unfold Oper.wp
  simp [execOp, ho, resolve, invoke, builtin, hs, hx, hrun, Result.andThen]
  exact h _ _ r1 r2

/-- e returns a new row of the bytes d; the document's reader D is at st, and nothing else has turned. -/
def SaysNew (D : Nat) (d : List Int) (st : Option (List Int)) (w : World) (e : Ending) (w' : World) : Prop :=
  ∃ v, e = .returned v ∧ Own w' w.heap.size v d ∧ Ref w' D st ∧ w.grownBy w' (some D)

set_option maxRecDepth 100000 in
theorem refBytes_bad (D : Nat) (n : Int) (w : World) (N : Hid (Calls Tryz.prog 25 #[.pointer (some ⟨D, 0, none⟩)] w (Says D (.int .i64 n) none w))) :
    Calls Tryz.prog 27 #[.pointer (some ⟨D, 0, none⟩)] w (SaysNew D [] none w) := by
  go_enter Tryz.func27, Tryz.ntmps27
  go_wp2_with fail
  refine (N.out).mono ?_
  rintro e w1 ⟨rfl, ⟨L, p, h⟩, hg⟩
  obtain ⟨ao, cap, c0, c1, c2, fr, hl, hm, hb⟩ := h.cells
  have f2 := fr 2
  have H := Lib.hid h
  have HG := Lib.hid hg
  clear h hb fr hg
  go_wp2_with fail
  go_quiet (fail)
  go_wp2_with fail
  go_ret
  exact ⟨_, rfl, Own.nil _ _, ⟨L, p, ((H.out).drewN _).set2 true⟩, grownBy_trans (HG.out) (grownBy_trans (grownBy_drewN w1 _ _) (grownBy_setCell _ ⟨D, 2, none⟩ _))⟩

set_option maxRecDepth 100000 in
theorem refBytes_out (D : Nat) (n : Int) (r : List Int) (w : World) (N : Hid (Calls Tryz.prog 25 #[.pointer (some ⟨D, 0, none⟩)] w (Says D (.int .i64 n) (some r) w))) (hn : n < 0 ∨ (r.length : Int) < n) :
    Calls Tryz.prog 27 #[.pointer (some ⟨D, 0, none⟩)] w (SaysNew D [] none w) := by
  have HN := Lib.hid hn
  clear hn
  go_enter Tryz.func27, Tryz.ntmps27
  go_wp2_with fail
  refine (N.out).mono ?_
  rintro e w1 ⟨rfl, ⟨L, p, h, hr⟩, hg⟩
  obtain ⟨ao, cap, c0, c1, c2, fr, hl, hm, hb⟩ := h.cells
  have f2 := fr 2
  have hp := h.2.1
  have H := Lib.hid h
  have HG := Lib.hid hg
  have hrl : r.length = L.length - p := by rw [hr]; simp
  have HR := Lib.hid hrl
  have hm' : L.length ≤ 9223372036854775807 := by unfold maxLen at hm; omega
  have e1 : wrap64 ((L.length : Int) - (p : Int)) = (L.length : Int) - p := IntWalk.wrap64_in _ ⟨by omega, by omega⟩
  clear h hb fr hg hr hrl
  rcases Classical.em (n < 0) with hz | hz
  · have hd : decide (n < 0) = true := by simpa using hz
    go_wp2_with fail
    go_quiet (fail)
    go_wp2_with fail
    go_ret
    exact ⟨_, rfl, Own.nil _ _, ⟨L, p, ((H.out).drewN _).set2 true⟩, grownBy_trans (HG.out) (grownBy_trans (grownBy_drewN w1 _ _) (grownBy_setCell _ ⟨D, 2, none⟩ _))⟩
  · have hd : decide (n < 0) = false := by simpa using hz
    have hd2 : decide ((L.length : Int) - (p : Int) < n) = true := by have := HN.out; have := HR.out; simp; omega
    go_wp2_with fail
    go_quiet (fail)
    go_wp2_with fail
    go_ret
    exact ⟨_, rfl, Own.nil _ _, ⟨L, p, ((H.out).drewN _).set2 true⟩, grownBy_trans (HG.out) (grownBy_trans (grownBy_drewN w1 _ _) (grownBy_setCell _ ⟨D, 2, none⟩ _))⟩
end Go.Proofs.YtggbpdkejkmakaaGreat
