/- Contracts of the readers' making: wire's NewReader once more (it keeps what it was given over a write into an older block), the document's New; a slice of numbers that came in. -/
import Derived.Test.YtggbpdkejkmakaaGreatRefEnt
import Derived.Test.YtggbpdkejkmakaaGreatOpen
namespace Go.Proofs.YtggbpdkejkmakaaGreat
open Go.ChangeShapes Go.WideShapes Go.ChangeAt Go.RowKit
set_option linter.unusedVariables false
set_option linter.unusedSimpArgs false
set_option maxRecDepth 100000

/-- e returns a new reader R of the bytes l; a write into a block that was there does not reach it. -/
def NewRdr2 (l : List Int) (w : World) (e : Ending) (w' : World) : Prop :=
  ∃ R, e = .returned (.pointer (some ⟨R, 0, none⟩)) ∧ w.heap.size ≤ R ∧ Rdr w' R (some l) ∧ Below w.heap.size w w' ∧ ∀ w2 g, g < w.heap.size → w'.grownBy w2 (some g) → Rdr w2 R (some l)

theorem newReader2 (v : Value) (l : List Int) (w : World) (h : Bs w v l) (ho : Oct l) (hlen : l.length ≤ 140737488355328) :
    Calls Tryz.prog 20 #[v] w fun e w' => NewRdr2 l w e w' := by
  have C := Lib.hid (clone v l w h hlen)
  clear h
  go_enter Tryz.func20, Tryz.ntmps20
  go_wp2_with fail
  refine (C.out).mono ?_
  rintro e w1 ⟨v1, rfl, ho1, hb⟩
  obtain ⟨ao, cap, hs⟩ := ho1.bs.shape
  have HO := Lib.hid ho1
  have HB := Lib.hid hb
  subst hs
  clear ho1 hb
  go_wp2_with fail
  go_ret
  have hL : Rd (w1.alloc (Obj.cells #[.slice ao l.length cap, .pointer (some ⟨w1.heap.size, 0, none⟩)] 76)) w1.heap.size (.slice ao l.length cap) (.pointer (some ⟨w1.heap.size, 0, none⟩)) := heap_alloc_new w1 _
  have hg := World.grownBy_alloc w1 (Obj.cells #[.slice ao l.length cap, .pointer (some ⟨w1.heap.size, 0, none⟩)] 76) none
  have hO2 : Own (w1.alloc (Obj.cells #[.slice ao l.length cap, .pointer (some ⟨w1.heap.size, 0, none⟩)] 76)) w.heap.size (.slice ao l.length cap) l := (HO.out).alloc _
  refine ⟨w1.heap.size, rfl, (HB.out).size, ⟨ho, _, hL, hO2.bs, own_tag hO2⟩, (HB.out).alloc (HB.out).size _, fun w2 g hgl hg2 => ?_⟩
  have hO3 := hO2.kept hg2 (Or.inr (fun e => by have := (hO2.lt _ e).1; omega))
  exact ⟨ho, _, (hg2.block w1.heap.size (by simp) (fun e => by have e := Option.some.inj e; have := (HB.out).size; omega)).trans hL, hO3.bs, own_tag hO3⟩

/-- e returns a new reader of the document's, of the bytes l. -/
def NewRef (l : List Int) (w : World) (e : Ending) (w' : World) : Prop :=
  ∃ D, e = .returned (.pointer (some ⟨D, 0, none⟩)) ∧ w.heap.size ≤ D ∧ Ref w' D (some l) ∧ Below w.heap.size w w' ∧ ∀ w2 g, g < w.heap.size → w'.grownBy w2 (some g) → Ref w2 D (some l)

theorem refNew (v : Value) (l : List Int) (w : World) (h : Bs w v l) (ho : Oct l) (hlen : l.length ≤ 140737488355328) :
    Calls Tryz.prog 21 #[v] w fun e w' => NewRef l w e w' := by
  have HB := Lib.hid h
  have hom : Own (w.alloc (.cells #[] 5)) w.heap.size (.slice (some ⟨w.heap.size, 0, none⟩) 0 0) [] := World.ownsRow_made w #[] 0 (Nat.le_refl _) (Nat.zero_le _) rfl
  have hb0 : Below w.heap.size w (w.alloc (.cells #[] 5)) := (Below.refl _ _).alloc (Nat.le_refl _) _
  have HO := Lib.hid hom
  have HB0 := Lib.hid hb0
  clear h hom hb0
  go_enter Tryz.func21, Tryz.ntmps21
  go_wp2_with (at_builtin; refine wpList_append_bs _ rfl _ _ rfl w.heap.size _ _ rfl HO.out _ _ rfl (HB.out.alloc _) (by simpa using hlen) (by simp) ?_)
  intro v2 w2 ho2 hg2
  have hb2 := (HB0.out).grown hg2 (by simp) (fun k hk => ((HO.out).lt k hk).1)
  obtain ⟨ao, cap, hs⟩ := ho2.bs.shape
  have H2 := Lib.hid ho2
  have HB2 := Lib.hid hb2
  subst hs
  clear ho2 hb2 hg2
  go_wp2_with fail
  go_ret
  have hL : Dr (w2.alloc (Obj.cells #[.slice ao ([] ++ l).length cap, .int .i64 0, .bool false] 78)) w2.heap.size (.slice ao ([] ++ l).length cap) 0 false := heap_alloc_new w2 _
  have hg := World.grownBy_alloc w2 (Obj.cells #[.slice ao ([] ++ l).length cap, .int .i64 0, .bool false] 78) none
  have hO2 := (H2.out).alloc (Obj.cells #[.slice ao ([] ++ l).length cap, .int .i64 0, .bool false] 78)
  refine ⟨w2.heap.size, rfl, (HB2.out).size, ⟨l, 0, ⟨ho, Nat.zero_le _, _, hL, hO2.bs, own_tag hO2⟩, rfl⟩, (HB2.out).alloc (HB2.out).size _, fun w3 g hgl hg2 => ?_⟩
  have hO3 := hO2.kept hg2 (Or.inr (fun e => by have := (hO2.lt _ e).1; omega))
  exact ⟨l, 0, ⟨ho, Nat.zero_le _, _, (hg2.block w2.heap.size (by simp) (fun e => by have e := Option.some.inj e; have := (HB2.out).size; omega)).trans hL, hO3.bs, own_tag hO3⟩, rfl⟩

/-- Numbers that came in: where each stands. -/
def Is (w : World) (v : Value) (l : List Int) : Prop :=
  ∃ (ao : Option Addr) (cap : Nat), v = .slice ao l.length cap ∧ l.length ≤ cap ∧ cap ≤ maxLen ∧ (ao = none → l = []) ∧ ∀ a, ao = some a → ∀ j, j < l.length → w.cell? (a.add j) = some (.int .i64 (nth l j))

theorem open_is {H : Type} {enc : TypeId × Value → H} {W : World} {r : Reach} {b0 base : Nat} {held : Bool} {v : Value} {d : DataW H} {p : List MemPlace}
    (hval : Value.okWide Tryz.prog W r b0 22 v) (h : DataW.Trod enc Tryz.prog W base (fun _ => true) held 22 v d p) : ∃ l : List Int, Is W v l := by
  obtain ⟨a, len, cap, rfl⟩ := okWide_slice Tryz.underlying22 hval
  obtain ⟨fuel, hf⟩ := h
  have hf : DataW.trod enc Tryz.prog W base (fun _ => true) held fuel 22 [.slice a len cap] = some (d, p) := by simpa [Value.cells] using hf
  rcases open_ints Tryz.underlying22 Tryz.underlying3 (by kernel_rfl) hf with ⟨hcs, hx⟩ | ⟨a', len', cap', zs, hcs, _, hl, hm, hz, hx, hcell, hwz⟩
  · simp at hcs
    obtain ⟨rfl, rfl, rfl⟩ := hcs
    exact ⟨[], none, 0, rfl, Nat.le_refl _, Nat.zero_le _, fun _ => rfl, fun _ h => by cases h⟩
  · simp at hcs
    obtain ⟨rfl, rfl, rfl⟩ := hcs
    simp only [if_true] at hz
    have hlen : (zs.take len).length = len := by rw [List.length_take]; omega
    refine ⟨zs.take len, some a', cap, by rw [hlen], by rw [hlen]; exact hl, hm, (by intro e; cases e), fun a2 ha j hj => ?_⟩
    cases ha
    rw [hlen] at hj
    have hj' : j < zs.length := by omega
    rw [hcell j hj', nth_of (by rw [hlen]; exact hj)]
    simp [List.getD, hj', List.getElem_take]
end Go.Proofs.YtggbpdkejkmakaaGreat
