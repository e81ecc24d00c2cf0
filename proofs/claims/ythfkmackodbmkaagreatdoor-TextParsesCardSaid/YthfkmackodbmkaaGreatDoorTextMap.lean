/- A map whose entries are known one by one (strings for keys, any values), and the laws for a store into it and a look-up in it. -/
import Derived.Test.YthfkmackodbmkaaGreatDoorTextMem
import Derived.Maps.OwnSet
import Derived.Maps.OwnOps
import Derived.Below
import Derived.WalkKit
import Derived.OwnWalk
import Derived.Lib.Hide
import Derived.Deep.QuietTactic
namespace Go.Proofs.YthfkmackodbmkaaGreatDoor
open Go.ChangeMaps Go.MapKept Go.Maps
open Go.ChangeShapes Go.WideShapes Go.RowKit

/-- Block b of w is a map whose entries are ps, in the order in which they came; its keys are strings. -/
def SMap (w : World) (b : Nat) (ps : List (Str × Value)) : Prop :=
  ∃ es clock, w.heap[b]? = some (.map es clock) ∧ es.toList.map (fun e => (e.key, e.val)) = ps.map fun p => (str p.1, p.2)

def sFind (ps : List (Str × Value)) (k : Str) : Option Value := (ps.find? fun p => p.1 == k).map (·.2)

theorem SMap.lt {w : World} {b : Nat} {ps : List (Str × Value)} (h : SMap w b ps) : b < w.heap.size := by
  obtain ⟨es, clock, hb, _⟩ := h
  exact (Array.getElem?_eq_some_iff.1 hb).1

theorem SMap.kept {w w' : World} {b : Nat} {ps : List (Str × Value)} {row : Option Nat} (h : SMap w b ps) (hg : w.grownBy w' row) (hne : some b ≠ row) : SMap w' b ps := by
  have hlt := h.lt
  obtain ⟨es, clock, hb, hD⟩ := h
  exact ⟨es, clock, (hg.block b hlt hne).trans hb, hD⟩

theorem SMap.below {B : Nat} {w w' : World} {b : Nat} {ps : List (Str × Value)} (h : SMap w b ps) (hb : Below B w w') (hlt : b < B) : SMap w' b ps := by
  obtain ⟨es, clock, he, hD⟩ := h
  exact ⟨es, clock, (hb.block b hlt).trans he, hD⟩

theorem SMap.made (w : World) : SMap (w.alloc (.map #[] 0)) w.heap.size [] := ⟨#[], 0, (MapKept.heap_alloc w _).1, rfl⟩

theorem str_beq (a b : Str) : ((⟨a.toArray⟩ : ByteArray) == ⟨b.toArray⟩) = decide (a = b) := by
  change (a.toArray == b.toArray) = decide (a = b)
  rw [Bool.eq_iff_iff]
  simp
theorem findNow_ss (key : Str) : ∀ (es : List MapEntry) (ps : List (Str × Value)) (i : Nat), es.map (fun e => (e.key, e.val)) = ps.map (fun p => (str p.1, p.2)) →
    ∃ r, Instr.findNow .string (str key) es i = some r ∧ r.map (·.2) = sFind ps key
  | [], [], i, _ => ⟨none, rfl, rfl⟩
  | [], _ :: _, _, h => by simp at h
  | _ :: _, [], _, h => by simp at h
  | e :: es, p :: ps, i, h => by
    simp only [List.map_cons, List.cons.injEq, Prod.mk.injEq] at h
    obtain ⟨⟨h1, h2⟩, h3⟩ := h
    obtain ⟨r, hr, hr'⟩ := findNow_ss key es ps (i + 1) h3
    by_cases hk : key = p.1
    · refine ⟨some (i, e.val), ?_, ?_⟩
      · simp [Instr.findNow, h1, Instr.sameNow, str_beq, hk]
      · simp [sFind, hk, h2]
    · refine ⟨r, ?_, ?_⟩
      · have hk' : ¬ p.1 = key := fun e => hk e.symm
        have : ((⟨key.toArray⟩ : ByteArray) == ⟨p.1.toArray⟩) = false := by rw [str_beq]; simpa using hk
        simp [Instr.findNow, h1, Instr.sameNow, this, hr]
      · have : (p.1 == key) = false := by simpa using fun e => hk (Eq.symm e)
        rw [hr']; simp [sFind, this]

theorem run_findKey_ss {P : Program} {k : TypeId} (hk : P.underlying k = some .string) (w : World) (key : Str) (es : List MapEntry) (ps : List (Str × Value))
    (h : es.map (fun e => (e.key, e.val)) = ps.map (fun p => (str p.1, p.2))) : ∃ r, (Instr.findKey k (str key) es).run P w = .ok r w ∧ r.map (·.2) = sFind ps key := by
  obtain ⟨r, hr, hr'⟩ := findNow_ss key es ps 0 h
  exact ⟨r, by simp [Instr.findKey, run_underlying hk, hr, Result.andThen], hr'⟩

theorem run_checkKey_str {P : Program} {k : TypeId} (hk : P.underlying k = some .string) (w : World) (em : Bool) (key : Str) : (Instr.checkKey em 10000 k (str key)).run P w = .ok () w := by
  unfold Instr.checkKey
  simp [run_underlying hk, Result.andThen]

/-- The store of a new key. -/
theorem SMap.put {P : Program} {w : World} {t k e : TypeId} {b : Nat} {ps : List (Str × Value)} (h : SMap w b ps) (ht : P.underlying t = some (.map k e)) (hk : P.underlying k = some .string) {key : Str} {val : Value} (hn : sFind ps key = none) :
    ∃ w', (Instr.mapUpdate t (.map (some b)) (str key) val).run P w = .ok () w' ∧ SMap w' b (ps ++ [(key, val)]) ∧ w.grownBy w' (some b) := by
  obtain ⟨es, clock, hb, hD⟩ := h
  obtain ⟨r, hr, hr'⟩ := run_findKey_ss hk w key es.toList ps hD
  rw [hn] at hr'
  obtain rfl : r = none := by cases r <;> simp_all
  refine ⟨setBlock w b (.map (es.push ⟨str key, val, clock⟩) (clock + 1)), ?_, ⟨_, _, heap_setBlock_same hb _, ?_⟩, ⟨rfl, rfl, rfl, by simp [setBlock], fun i _ hi => heap_setBlock_other hb _ (fun e => hi (by rw [e]))⟩⟩
  · simp [Instr.mapUpdate, run_underlying ht, MapKept.run_getObj_map hb, run_checkKey_str hk, hr, MapKept.run_setObj_map _ hb, Result.andThen, setBlock]
  · simp [hD]

/-- The look-up, with its second result. -/
theorem SMap.look {P : Program} {w : World} {t k e : TypeId} {b : Nat} {ps : List (Str × Value)} (h : SMap w b ps) (ht : P.underlying t = some (.map k e)) (hk : P.underlying k = some .string) {z : Value} (hz : (zeroValue e).run P w = .ok z w) (key : Str) (c : Bool) :
    (Instr.lookup t (.map (some b)) (str key) c).run P w = .ok (if c then .tuple #[(sFind ps key).getD z, .bool (sFind ps key).isSome] else (sFind ps key).getD z) w := by
  obtain ⟨es, clock, hb, hD⟩ := h
  obtain ⟨r, hr, hr'⟩ := run_findKey_ss hk w key es.toList ps hD
  cases r with
  | none =>
    have h0 : sFind ps key = none := by rw [← hr']; rfl
    simp [Instr.lookup, run_underlying ht, MapKept.run_getObj_map hb, run_checkKey_str hk, hr, Result.andThen, hz, h0]
  | some x =>
    have h0 : sFind ps key = some x.2 := by rw [← hr']; rfl
    simp [Instr.lookup, run_underlying ht, MapKept.run_getObj_map hb, run_checkKey_str hk, hr, Result.andThen, h0]

/-- A map that was made behind w1, and holds ps; nothing that was there in w1 has turned. -/
structure SMade (w1 w : World) (b : Nat) (ps : List (Str × Value)) : Prop where
  map : SMap w b ps
  below : Below w1.heap.size w1 w
  new : w1.heap.size ≤ b

/-- A map's literal is made, for the walk. -/
theorem wpList_make_ss {P : Program} (w : World) {ops : Array Oper} {rest : List Oper} {o : Oper} {a : Act} {Q : Exit → Act → World → Prop}
    (hg : o.guard = none) (t : TypeId) (hop : o.op = Op.makeMap t none)
    (hK : ∀ b w', SMade w w' b [] → wpList P ops Q rest (a.put o.dst (.map (some b))) w') :
    wpList P ops Q (o :: rest) a w := by
  refine wpList_plain hg fun K' hK' => ?_
  unfold Oper.wp
  have hrun := run_makeMap (P := P) t w
  simp [execOp, hop, hrun, Result.andThen]
  exact hK' _ _ (hK _ _ ⟨SMap.made w, (Below.refl _ _).alloc (Nat.le_refl _) _, Nat.le_refl _⟩)

/-- An entry of a map's literal, for the walk. -/
theorem wpList_insert_ss {P : Program} (w : World) {ops : Array Oper} {rest : List Oper} {o : Oper} {a : Act} {Q : Exit → Act → World → Prop}
    (hg : o.guard = none) (m x v : Operand) (t : TypeId) (hop : o.op = Op.insert t m x v)
    (k e : TypeId) (ht : P.underlying t = some (.map k e)) (hk : P.underlying k = some .string) (w1 : World) (b : Nat) (ps : List (Str × Value))
    (hown : SMade w1 w b ps) (hm : a.eval m = .map (some b)) (key : Str) (val : Value) (hx : a.eval x = .string ⟨key.toArray⟩) (hv : a.eval v = val) (hn : sFind ps key = none)
    (hK : ∀ w', SMade w1 w' b (ps ++ [(key, val)]) → wpList P ops Q rest (a.put o.dst undef) w') :
    wpList P ops Q (o :: rest) a w := by
  refine wpList_plain hg fun K' hK' => ?_
  obtain ⟨w', hrun, r1, r2⟩ := hown.map.put ht hk (val := val) hn
  unfold Oper.wp
  simp [execOp, hop, hm, hx, hv, hrun, Result.andThen]
  have hlt := hown.map.lt
  have hbel := hown.below
  exact hK' _ _ (hK w' ⟨r1, hbel.trans ⟨r2.os, r2.tape, r2.output, r2.size, fun i hi => r2.block i (Nat.lt_of_lt_of_le hi hbel.size) (fun e => by cases e; have := hown.new; omega)⟩, hown.new⟩)

/-- A look-up with its second result, for the walk: found. -/
theorem wpList_look_ss {P : Program} (w : World) {ops : Array Oper} {rest : List Oper} {o : Oper} {a : Act} {Q : Exit → Act → World → Prop}
    (hg : o.guard = none) (m x : Operand) (t : TypeId) (c : Bool) (hop : o.op = Op.lookup t m x c)
    (k e : TypeId) (ht : P.underlying t = some (.map k e)) (hk : P.underlying k = some .string) {z : Value} (hz : ∀ w : World, (zeroValue e).run P w = .ok z w) (b : Nat) (ps : List (Str × Value))
    (hown : SMap w b ps) (hm : a.eval m = .map (some b)) (key : Str) (hx : a.eval x = .string ⟨key.toArray⟩) (r : Option Value) (hr : sFind ps key = r)
    (hK : wpList P ops Q rest (a.put o.dst (if c then .tuple #[r.getD z, .bool r.isSome] else r.getD z)) w) :
    wpList P ops Q (o :: rest) a w := by
  refine wpList_plain hg fun K' hK' => ?_
  have hrun := hown.look ht hk (hz w) key c
  rw [hr] at hrun
  unfold Oper.wp
  simp only [execOp, hop, hm, hx]
  simp [hrun, Result.andThen]
  exact hK' _ _ (by simpa using hK)
end Go.Proofs.YthfkmackodbmkaaGreatDoor
