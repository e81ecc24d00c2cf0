/- The function that a scan's frames are ranged over: what it hands out, whatever the rounds do. -/
import Derived.Test.YtkiagnlpnphghaaDoorFrTake
import Derived.RangeFuncFrom
import Derived.RangeFuncBound
import Derived.RangeFuncCalls
import Derived.RangeFuncLeaves
import Derived.Shelf.Abstract
import Derived.OwnWalkIn
import Derived.TacticsInMore
import Derived.LoopNIn
import Derived.LoopIn
namespace Go.Proofs.YtkiagnlpnphghaaDoor
open Go.RowKit
set_option linter.unusedVariables false
set_option linter.unusedSimpArgs false
attribute [local go_sem] Oper.semAt_some

/-- How much a scan has left, read off the world. -/
def lenAt (w : World) (R : Nat) : Nat := match w.cell? ⟨R, 0, none⟩ with
  | some (.slice _ n _) => n
  | _ => 0
theorem ScS.lenAt {w0 w : World} {R : Nat} {l : List Int} {u : Int} (h : ScS w0 w R l u) : lenAt w R = l.length := by
  obtain ⟨⟨v, h1, h2⟩, -, -, -⟩ := h
  obtain ⟨ao, cap, rfl⟩ := h2.shape
  unfold Go.Proofs.YtkiagnlpnphghaaDoor.lenAt
  rw [h1.cells.1]
/-- What a round keeps: the scan, the variable that leads to it, and what lay before. -/
structure Keeps (w0 : World) (R E : Nat) (W W' : World) : Prop where
  r : W'.heap[R]? = W.heap[R]?
  e : W'.heap[E]? = W.heap[E]?
  bel : Below w0.heap.size W W'
theorem ScS.keeps {w0 W W' : World} {R E : Nat} {l : List Int} {u : Int} (h : ScS w0 W R l u) (k : Keeps w0 R E W W') : ScS w0 W' R l u := by
  obtain ⟨⟨v, h1, h2⟩, h3, h4, h5⟩ := h
  exact ⟨⟨v, k.r.trans h1, h2⟩, h3, h4.trans k.bel, h5⟩

/-- What the iterator has come to. -/
structure It (w0 wr : World) (R E : Nat) (l0 : List Int) (fs : List Fr) (l : List Int) (u : Nat) : Prop where
  sc : ScS w0 wr R l u
  ce : Cel 114 wr E (.pointer (some ⟨R, 0, none⟩))
  far : R ≠ E
  told : scan l0 = (fs ++ (scan l).1, u + (scan l).2.1, (scan l).2.2)
  sum : u + l.length = l0.length
  cnt : fs.length * 9 ≤ u

theorem It.next {w0 w1 W4 W5 : World} {R E : Nat} {l0 l : List Int} {fs : List Fr} {u : Nat} (h : It w0 w1 R E l0 fs l u) (hw : wholeB l = true) (hs : ScS w0 W4 R (l.drop (9 + says l)) ((u + (9 + says l) : Nat) : Int)) (hg : w1.grownBy W4 (some R)) (k : Keeps w0 R E W4 W5) :
    It w0 W5 R E l0 (fs ++ [(nth l 0, dataOf l)]) (l.drop (9 + says l)) (u + (9 + says l)) := by
  have hsc := scan_yes hw
  have ht := h.told
  rw [hsc] at ht
  have hc := wholeB_complete hw
  refine ⟨hs.keeps k, k.e.trans (h.ce.grown hg (fun e => h.far (Option.some.inj e))), h.far, ?_, ?_, by have := h.cnt; simp; omega⟩
  · rw [ht]
    simp only [List.append_assoc, List.cons_append, List.nil_append]
    rw [Nat.add_assoc u]
    rfl
  · have := h.sum
    rw [List.length_drop]
    omega
theorem It.past {w0 w1 w2 : World} {R E : Nat} {l0 l : List Int} {fs : List Fr} {u : Nat} (h : It w0 w1 R E l0 fs l u) (hb : Below w1.heap.size w1 w2) : It w0 w2 R E l0 fs l u :=
  ⟨h.sc.past hb, h.ce.past hb, h.far, h.told, h.sum, h.cnt⟩
theorem ScS.put1 {w0 w : World} {R : Nat} {l : List Int} {u : Int} (h : ScS w0 w R l u) (u' : Int) : ScS w0 (w.setCell ⟨R, 1, none⟩ (.int .i64 u')) R l u' := by
  obtain ⟨⟨v, h1, h2⟩, h3, h4, h5⟩ := h
  exact ⟨⟨v, h1.set1 u', h2⟩, h3, h4.setCell (p := ⟨R, 1, none⟩) h5 _, h5⟩
theorem ScS.cell1 {w0 w : World} {R : Nat} {l : List Int} {u : Int} (h : ScS w0 w R l u) : w.cell? ⟨R, 1, none⟩ = some (.int .i64 u) ∧ w.frozen? ⟨R, 1, none⟩ = false := by
  obtain ⟨⟨v, h1, h2⟩, h3, h4, h5⟩ := h
  exact ⟨h1.cells.2, h1.free 1⟩

set_option maxHeartbeats 4000000 in
set_option maxRecDepth 100000 in
theorem frames1 (w0 : World) (R E L : Nat) (l0 : List Int) (J : List Value → List Fr → World → Prop) (hlen : l0.length ≤ 1000000000)
    (hJ : ∀ vs fs W W', J vs fs W → W.grownBy W' (some R) → J vs fs W')
    (hY : ∀ vs fs k a c d Wa W, fs.length ≤ l0.length → J vs fs Wa → Wa.grownBy W (some R) → Own W Wa.heap.size (.slice a (List.length d) c) d → YieldAt Fence.wide 1 Tryd.prog L #[.agg #[.int .i64 k, .slice a (List.length d) c]] W fun e W' =>
      e = .returned (.bool true) ∧ J (vs ++ [.slice a (List.length d) c]) (fs ++ [(k, d)]) W' ∧ Keeps w0 R E W W')
    (W : World) (T0 : Tab w0) (h0 : J [] [] W) (hI : It w0 W R E l0 [] l0 0) :
    CallsIn Fence.wide 2 Tryd.prog 60 #[.func (.yield L) #[] #[], .pointer (some ⟨E, 0, none⟩)] W fun e W' => (∃ v, e = .returned v) ∧
      ∃ vs l u, J vs (scan l0).1 W' ∧ It w0 W' R E l0 (scan l0).1 l u ∧ (scan l).1 = [] := by
  refine callsIn_of_wp Tryd.func60 rfl trivial ?_ rfl
  simp only [Tryd.ntmps60, List.size_toArray, List.length_cons, List.length_nil, Nat.reduceAdd, Nat.reduceSub, Array.replicate_succ, Array.replicate_zero, List.push_toArray, List.append_toArray, List.nil_append, List.cons_append]
  have H0 := Lib.hid h0
  have HI := Lib.hid hI
  clear h0 hI
  gi_wp2
  gi_loopw [4] (fun _ wr => ∃ (vs : List Value) (fs : List Fr) (l : List Int) (u : Nat), Hid (J vs fs wr) ∧ Hid (It w0 wr R E l0 fs l u)) (fun _ wr => lenAt wr R)
  case atStart => exact ⟨[], [], l0, 0, H0, HI⟩
  case round =>
    obtain ⟨vs, fs, l, u, HJJ, HIt⟩ := hrel
    obtain ⟨v, hlf⟩ := (HIt.out).sc.lf
    have WH := Lib.hid (wholeOf R v l wr (T0.past (HIt.out).sc.bel) hlf)
    have ce := (HIt.out).ce.cell
    clear hlf
    cases hw : wholeB l
    · have HW := Lib.hid hw
      rw [hw] at WH
      clear hw
      gi_wp2_with fail
      refine ⟨trivial, callsIn_wide.2 ?_⟩
      refine (WH.out).mono ?_; rintro e w1 ⟨rfl, hb⟩
      have HB := Lib.hid hb
      clear hb
      gi_wp2
      go_end0
      have ht := (HIt.out).told
      rw [scan_no HW.out] at ht
      have hf : (scan l0).1 = fs := by rw [ht]; simp
      exact ⟨⟨_, rfl⟩, vs, l, u, by rw [hf]; exact hJ _ _ _ _ HJJ.out (below_grownBy HB.out _), by rw [hf]; exact (HIt.out).past HB.out, by rw [scan_no HW.out]⟩
    · have HW := Lib.hid hw
      rw [hw] at WH
      have hcp := wholeB_complete hw
      have hcB : completeB l = true := decide_eq_true hcp
      have hD := Lib.hid (dataOf_length hcp.2.2)
      have hsm := (HIt.out).sum
      have TK := fun w1 (hb : Below wr.heap.size wr w1) => Lib.hid (takeOf w0 R l u w1 ((HIt.out).sc.past hb) hcB)
      have HC := Lib.hid hcp
      have hs2 := hcp.2.1
      have hs3 := hcp.2.2
      clear hw hcp hcB
      gi_wp2_with fail
      refine ⟨trivial, callsIn_wide.2 ?_⟩
      refine (WH.out).mono ?_; rintro e w1 ⟨rfl, hb⟩
      have HB := Lib.hid hb
      have ce1 := ((HIt.out).ce.past hb).cell
      have TK1 := TK w1 hb
      clear hb TK ce
      gi_wp2_with fail
      refine ⟨trivial, callsIn_wide.2 ?_⟩
      refine (TK1.out).mono ?_; rintro e w2 ⟨a, c, rfl, ho, hsc, hg⟩
      have I1 := (HIt.out).past HB.out
      have ce2 := (I1.ce.grown hg (fun e => I1.far (Option.some.inj e))).past (alloc_below w2 (.cells #[.int .i64 (nth l 0), .slice a (says l) c] 36))
      have sc2 := hsc.past (alloc_below w2 (.cells #[.int .i64 (nth l 0), .slice a (says l) c] 36))
      have fb2 := FrBox.new 36 w2 (nth l 0) (.slice a (says l) c)
      have ow2 := Own.alloc ho (.cells #[.int .i64 (nth l 0), .slice a (says l) c] 36)
      have g2 : w1.grownBy (w2.alloc (.cells #[.int .i64 (nth l 0), .slice a (says l) c] 36)) (some R) := grownBy_trans hg (alloc_grown _ _ _)
      have hu : u + (9 + says l) ≤ 1000000000 := by omega
      have hne : w2.heap.size ≠ R := fun e => by have := (hsc.b).choose_spec.1.lt; omega
      have q0 := ce2.cell
      obtain ⟨q1, q2⟩ := sc2.cell1
      have sc4 := sc2.put1 ((u + (9 + says l) : Nat) : Int)
      have g4 := grownBy_trans g2 (grownBy_setCell (w2.alloc (.cells #[.int .i64 (nth l 0), .slice a (says l) c] 36)) ⟨R, 1, none⟩ (.int .i64 ((u + (9 + says l) : Nat) : Int)))
      have fb4 := fb2.grown (grownBy_setCell (w2.alloc (.cells #[.int .i64 (nth l 0), .slice a (says l) c] 36)) ⟨R, 1, none⟩ (.int .i64 ((u + (9 + says l) : Nat) : Int))) (fun e => hne (Option.some.inj e).symm)
      have ow4 := ow2.kept (grownBy_setCell (w2.alloc (.cells #[.int .i64 (nth l 0), .slice a (says l) c] 36)) ⟨R, 1, none⟩ (.int .i64 ((u + (9 + says l) : Nat) : Int))) (by
        cases hv : (Value.slice a (says l) c).ownBlock with
        | none => exact Or.inl rfl
        | some j => exact Or.inr (fun e => by have h1 := (ho.lt j hv).1; have : j = R := Option.some.inj e; have := (I1.sc.b).choose_spec.1.lt; omega))
      obtain ⟨q3, q4⟩ := fb4.cells
      have ce4 := (ce2.grown (grownBy_setCell (w2.alloc (.cells #[.int .i64 (nth l 0), .slice a (says l) c] 36)) ⟨R, 1, none⟩ (.int .i64 ((u + (9 + says l) : Nat) : Int))) (fun e => I1.far (Option.some.inj e)))
      have YY := hY vs fs (nth l 0) a c (dataOf l) w1 ((w2.alloc (.cells #[.int .i64 (nth l 0), .slice a (says l) c] 36)).setCell ⟨R, 1, none⟩ (.int .i64 ((u + (9 + says l) : Nat) : Int))) (by have := (HIt.out).cnt; omega) (hJ _ _ _ _ HJJ.out (below_grownBy HB.out _)) g4 (by rw [hD.out]; exact ow4)
      rw [hD.out] at YY
      have hcast : ((u + (9 + says l) : Nat) : Int) = (u : Int) + (9 + (says l : Int)) := by omega
      rw [hcast] at YY q3 q4
      obtain ⟨fn, tmps, assign, body, hy, hR⟩ := YY
      have HYR := Lib.hid hR
      have HI1 := Lib.hid I1
      have HS4 := Lib.hid sc4
      have HG4 := Lib.hid g4
      have HE4 := Lib.hid ce4
      have HHC := Lib.hid hcast
      clear hR I1 sc4 g4 ce4 fb4 ow4 ow2 g2 fb2 sc2 ce2 hsc ho hg hcast hsm
      gi_wp2_with fail
      refine (HYR.out).mono ?_
      rintro e W5 ⟨rfl, hJ5, hk⟩
      have I5 := Lib.hid ((HI1.out).next HW.out (by have := HS4.out; rwa [HHC.out] at this ⊢) (by have := HG4.out; rwa [HHC.out] at this) hk)
      have HJ5 := Lib.hid hJ5
      clear hJ5 hk
      gi_wp2
      go_roundw
      case rel => exact ⟨_, _, _, _, HJ5, I5⟩
      case measure =>
        have e1 := (I5.out).sc.lenAt
        have e2 := (HIt.out).sc.lenAt
        rw [e1, e2, List.length_drop]
        have := (HC.out).1
        omega
end Go.Proofs.YtkiagnlpnphghaaDoor
