/- A map whose entries are known one by one (integer keys, any values, functions too), and the laws for a store into it and a look-up in it. -/
import Derived.Maps.OwnSet
import Derived.Maps.OwnOps
import Derived.Below
import Derived.WalkKit
import Derived.OwnWalk
import Derived.Lib.Hide
import Derived.Deep.QuietTactic
namespace Go.Proofs.Ytlggmfbmaoajcaa
open Go.ChangeMaps Go.MapKept Go.Maps
open Go.ChangeShapes Go.WideShapes Go.RowKit

/-- Block b of w is a map whose entries are ps, in the order in which they came; its keys are of the integer kind q. -/
def PsMap (w : World) (b : Nat) (q : IntKind) (ps : List (Int × Value)) : Prop :=
  ∃ es clock, w.heap[b]? = some (.map es clock) ∧ es.toList.map (fun e => (e.key, e.val)) = ps.map fun p => (Value.int q p.1, p.2)

def psFind (ps : List (Int × Value)) (k : Int) : Option Value := (ps.find? fun p => p.1 == k).map (·.2)

theorem PsMap.lt {w : World} {b : Nat} {q : IntKind} {ps : List (Int × Value)} (h : PsMap w b q ps) : b < w.heap.size := by
  obtain ⟨es, clock, hb, _⟩ := h
  exact (Array.getElem?_eq_some_iff.1 hb).1

theorem PsMap.kept {w w' : World} {b : Nat} {q : IntKind} {ps : List (Int × Value)} {row : Option Nat} (h : PsMap w b q ps) (hg : w.grownBy w' row) (hne : some b ≠ row) : PsMap w' b q ps := by
  have hlt := h.lt
  obtain ⟨es, clock, hb, hD⟩ := h
  exact ⟨es, clock, (hg.block b hlt hne).trans hb, hD⟩

theorem PsMap.below {B : Nat} {w w' : World} {b : Nat} {q : IntKind} {ps : List (Int × Value)} (h : PsMap w b q ps) (hb : Below B w w') (hlt : b < B) : PsMap w' b q ps := by
  obtain ⟨es, clock, he, hD⟩ := h
  exact ⟨es, clock, (hb.block b hlt).trans he, hD⟩

theorem PsMap.made (w : World) (q : IntKind) : PsMap (w.alloc (.map #[] 0)) w.heap.size q [] := ⟨#[], 0, (MapKept.heap_alloc w _).1, rfl⟩

theorem findNow_ps (q : IntKind) (key : Int) : ∀ (es : List MapEntry) (ps : List (Int × Value)) (i : Nat), es.map (fun e => (e.key, e.val)) = ps.map (fun p => (Value.int q p.1, p.2)) →
    ∃ r, Instr.findNow (.int q) (.int q key) es i = some r ∧ r.map (·.2) = psFind ps key
  | [], [], i, _ => ⟨none, rfl, rfl⟩
  | [], _ :: _, _, h => by simp at h
  | _ :: _, [], _, h => by simp at h
  | e :: es, p :: ps, i, h => by
    simp only [List.map_cons, List.cons.injEq, Prod.mk.injEq] at h
    obtain ⟨⟨h1, h2⟩, h3⟩ := h
    obtain ⟨r, hr, hr'⟩ := findNow_ps q key es ps (i + 1) h3
    by_cases hk : key = p.1
    · refine ⟨some (i, e.val), ?_, ?_⟩
      · simp [Instr.findNow, h1, Instr.sameNow, hk]
      · simp [psFind, hk, h2]
    · refine ⟨r, ?_, ?_⟩
      · have : (key == p.1) = false := by simpa using hk
        simp [Instr.findNow, h1, Instr.sameNow, this, hr]
      · have : (p.1 == key) = false := by simp; omega
        rw [hr']; simp [psFind, this]

theorem run_findKey_ps {P : Program} {k : TypeId} {q : IntKind} (hk : P.underlying k = some (.int q)) (w : World) (key : Int) (es : List MapEntry) (ps : List (Int × Value))
    (h : es.map (fun e => (e.key, e.val)) = ps.map (fun p => (Value.int q p.1, p.2))) : ∃ r, (Instr.findKey k (.int q key) es).run P w = .ok r w ∧ r.map (·.2) = psFind ps key := by
  obtain ⟨r, hr, hr'⟩ := findNow_ps q key es ps 0 h
  exact ⟨r, by simp [Instr.findKey, run_underlying hk, hr, Result.andThen], hr'⟩

theorem run_checkKey_int {P : Program} {k : TypeId} {q : IntKind} (hk : P.underlying k = some (.int q)) (w : World) (em : Bool) (key : Int) : (Instr.checkKey em 10000 k (.int q key)).run P w = .ok () w := by
  unfold Instr.checkKey
  simp [run_underlying hk, Result.andThen]

/-- The store of a new key. -/
theorem PsMap.put {P : Program} {w : World} {t k e : TypeId} {b : Nat} {q : IntKind} {ps : List (Int × Value)} (h : PsMap w b q ps) (ht : P.underlying t = some (.map k e)) (hk : P.underlying k = some (.int q)) {key : Int} {val : Value} (hn : psFind ps key = none) :
    ∃ w', (Instr.mapUpdate t (.map (some b)) (.int q key) val).run P w = .ok () w' ∧ PsMap w' b q (ps ++ [(key, val)]) ∧ w.grownBy w' (some b) := by
  obtain ⟨es, clock, hb, hD⟩ := h
  obtain ⟨r, hr, hr'⟩ := run_findKey_ps hk w key es.toList ps hD
  rw [hn] at hr'
  obtain rfl : r = none := by cases r <;> simp_all
  refine ⟨setBlock w b (.map (es.push ⟨.int q key, val, clock⟩) (clock + 1)), ?_, ⟨_, _, heap_setBlock_same hb _, ?_⟩, ⟨rfl, rfl, rfl, by simp [setBlock], fun i _ hi => heap_setBlock_other hb _ (fun e => hi (by rw [e]))⟩⟩
  · simp [Instr.mapUpdate, run_underlying ht, MapKept.run_getObj_map hb, run_checkKey_int hk, hr, MapKept.run_setObj_map _ hb, Result.andThen, setBlock]
  · simp [hD]

/-- The look-up, with its second result. -/
theorem PsMap.look {P : Program} {w : World} {t k e : TypeId} {b : Nat} {q : IntKind} {ps : List (Int × Value)} (h : PsMap w b q ps) (ht : P.underlying t = some (.map k e)) (hk : P.underlying k = some (.int q)) {z : Value} (hz : (zeroValue e).run P w = .ok z w) (key : Int) (c : Bool) :
    (Instr.lookup t (.map (some b)) (.int q key) c).run P w = .ok (if c then .tuple #[(psFind ps key).getD z, .bool (psFind ps key).isSome] else (psFind ps key).getD z) w := by
  obtain ⟨es, clock, hb, hD⟩ := h
  obtain ⟨r, hr, hr'⟩ := run_findKey_ps hk w key es.toList ps hD
  cases r with
  | none =>
    have h0 : psFind ps key = none := by rw [← hr']; rfl
    simp [Instr.lookup, run_underlying ht, MapKept.run_getObj_map hb, run_checkKey_int hk, hr, Result.andThen, hz, h0]
  | some x =>
    have h0 : psFind ps key = some x.2 := by rw [← hr']; rfl
    simp [Instr.lookup, run_underlying ht, MapKept.run_getObj_map hb, run_checkKey_int hk, hr, Result.andThen, h0]

/-- A map that was made behind w1, and holds ps; nothing that was there in w1 has turned. -/
structure PsMade (w1 w : World) (b : Nat) (q : IntKind) (ps : List (Int × Value)) : Prop where
  map : PsMap w b q ps
  below : Below w1.heap.size w1 w
  new : w1.heap.size ≤ b

/-- A map's literal is made, for the walk. -/
theorem wpList_make_ps {P : Program} (w : World) {ops : Array Oper} {rest : List Oper} {o : Oper} {a : Act} {Q : Exit → Act → World → Prop}
    (hg : o.guard = none) (t : TypeId) (q : IntKind) (hop : o.op = Op.makeMap t none)
    (hK : ∀ b w', PsMade w w' b q [] → wpList P ops Q rest (a.put o.dst (.map (some b))) w') :
    wpList P ops Q (o :: rest) a w := by
  refine wpList_plain hg fun K' hK' => ?_
  unfold Oper.wp
  have hrun := run_makeMap (P := P) t w
  simp [execOp, hop, hrun, Result.andThen]
  exact hK' _ _ (hK _ _ ⟨PsMap.made w q, (Below.refl _ _).alloc (Nat.le_refl _) _, Nat.le_refl _⟩)

/-- An entry of a map's literal, for the walk. -/
theorem wpList_insert_ps {P : Program} (w : World) {ops : Array Oper} {rest : List Oper} {o : Oper} {a : Act} {Q : Exit → Act → World → Prop}
    (hg : o.guard = none) (m x v : Operand) (t : TypeId) (hop : o.op = Op.insert t m x v)
    (k e : TypeId) (q : IntKind) (ht : P.underlying t = some (.map k e)) (hk : P.underlying k = some (.int q)) (w1 : World) (b : Nat) (ps : List (Int × Value))
    (hown : PsMade w1 w b q ps) (hm : a.eval m = .map (some b)) (key : Int) (val : Value) (hx : a.eval x = .int q key) (hv : a.eval v = val) (hn : psFind ps key = none)
    (hK : ∀ w', PsMade w1 w' b q (ps ++ [(key, val)]) → wpList P ops Q rest (a.put o.dst undef) w') :
    wpList P ops Q (o :: rest) a w := by
  refine wpList_plain hg fun K' hK' => ?_
  obtain ⟨w', hrun, r1, r2⟩ := hown.map.put ht hk (val := val) hn
  unfold Oper.wp
  simp [execOp, hop, hm, hx, hv, hrun, Result.andThen]
  have hlt := hown.map.lt
  have hbel := hown.below
  exact hK' _ _ (hK w' ⟨r1, hbel.trans ⟨r2.os, r2.tape, r2.output, r2.size, fun i hi => r2.block i (Nat.lt_of_lt_of_le hi hbel.size) (fun e => by cases e; have := hown.new; omega)⟩, hown.new⟩)

/-- A look-up with its second result, for the walk: found. -/
theorem wpList_look_ps {P : Program} (w : World) {ops : Array Oper} {rest : List Oper} {o : Oper} {a : Act} {Q : Exit → Act → World → Prop}
    (hg : o.guard = none) (m x : Operand) (t : TypeId) (c : Bool) (hop : o.op = Op.lookup t m x c)
    (k e : TypeId) (q : IntKind) (ht : P.underlying t = some (.map k e)) (hk : P.underlying k = some (.int q)) {z : Value} (hz : ∀ w : World, (zeroValue e).run P w = .ok z w) (b : Nat) (ps : List (Int × Value))
    (hown : PsMap w b q ps) (hm : a.eval m = .map (some b)) (key : Int) (hx : a.eval x = .int q key) (r : Option Value) (hr : psFind ps key = r)
    (hK : wpList P ops Q rest (a.put o.dst (if c then .tuple #[r.getD z, .bool r.isSome] else r.getD z)) w) :
    wpList P ops Q (o :: rest) a w := by
  refine wpList_plain hg fun K' hK' => ?_
  have hrun := hown.look ht hk (hz w) key c
  rw [hr] at hrun
  unfold Oper.wp
  simp only [execOp, hop, hm, hx]
  simp [hrun, Result.andThen]
  exact hK' _ _ (by simpa using hK)

/-- Two results; nothing that was there has turned. -/
def Pair (r : Value) (x : Int) (w : World) (e : Ending) (w' : World) : Prop := e = .returned (.tuple #[r, .int .i64 x]) ∧ Below w.heap.size w w'
theorem below_drewN {B : Nat} {a w : World} (h : Below B a w) : ∀ n, Below B a (w.drewN n)
  | 0 => h
  | n + 1 => (below_drewN h n).drew
end Go.Proofs.Ytlggmfbmaoajcaa
