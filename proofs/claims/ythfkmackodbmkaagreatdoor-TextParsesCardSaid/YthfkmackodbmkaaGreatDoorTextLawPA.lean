/- Both tell the same of a text (barbicanlaw07.parses). -/
import Derived.Test.YthfkmackodbmkaaGreatDoorTextAwake
import Derived.Test.YthfkmackodbmkaaGreatDoorTextRefB
import Derived.Test.YthfkmackodbmkaaGreatDoorIrFlat
import Derived.Test.YthfkmackodbmkaaGreatDoorFlatNil
namespace Go.Proofs.YthfkmackodbmkaaGreatDoor
open Go.RowKit
set_option linter.unusedVariables false
set_option linter.unusedSimpArgs false
set_option maxRecDepth 100000
set_option maxHeartbeats 8000000

theorem parsesP (s : Str) (w : World) (L : Lay w) (hs : s.length ≤ 1000000000) : Calls Tryz.prog 10 #[str s] w (Says true w) := by
  have PS := parseC s w L hs
  have PR := fun W (L : Lay W) => refParse s W L
  obtain ⟨R, hR⟩ : ∃ R, R = parseL s := ⟨_, rfl⟩
  rw [← hR] at PS PR
  obtain ⟨xs, fe, fa⟩ := R
  unfold ParsedD at PR
  simp only at PS PR
  have HPR := Lib.hid PR
  have HL := Lib.hid L
  clear hR L PR
  go_enter Tryz.func10, Tryz.ntmps10
  go_wp2_with fail
  refine PS.mono ?_; rintro e w6 ⟨a6, c6, rfl, o6, b6⟩
  have A6 := alloc_below w6 (.cells #[.int .i64 fe, .int .i64 fa] 26)
  have F6 := Lib.hid (show Fb (w6.alloc (.cells #[.int .i64 fe, .int .i64 fa] 26)) w6.heap.size fe fa from heap_alloc_new w6 _)
  have I6 := Lib.hid ((o6.inss).past A6)
  have B6 := Lib.hid (b6.trans (A6.mono b6.size))
  clear o6 b6 A6 PS
  go_wp2_with fail
  refine ((HPR.out) _ ((HL.out).past B6.out)).mono ?_; rintro e w7 ⟨v7, rfl, i7, b7⟩
  obtain ⟨a7, c7, hv7⟩ := i7.shape
  subst hv7
  have A7 := alloc_below w7 (.cells #[.int .i64 fe, .int .i64 fa] 26)
  have F7 := (show Fb (w7.alloc (.cells #[.int .i64 fe, .int .i64 fa] 26)) w7.heap.size fe fa from heap_alloc_new w7 _)
  have G7 := ((F6.out).past b7).past A7
  have I7 := Lib.hid (i7.past A7)
  have J7 := Lib.hid (((I6.out).past b7).past A7)
  have b7' := (B6.out).trans (b7.mono (B6.out).size)
  have B7 := Lib.hid (b7'.trans (A7.mono b7'.size))
  obtain ⟨f0, f1⟩ := F7.cells
  obtain ⟨g0, g1⟩ := G7.cells
  have SJ := sameIns _ _ xs _ J7.out I7.out
  clear i7 b7 A7 F7 G7 F6 b7'
  go_wp2_with fail
  with_reducible refine SJ.mono ?_
  rintro e w9 ⟨rfl, st⟩
  have B9 := Lib.hid ((B7.out).trans (st.below w.heap.size))
  clear st SJ
  go_wp2_with fail
  go_ret
  exact ⟨rfl, B9.out⟩
end Go.Proofs.YthfkmackodbmkaaGreatDoor
/- Bags: whether all lists in one lie apart; rows of instructions in one. -/
namespace Go.Proofs.YthfkmackodbmkaaGreatDoor.Ir
open Go.RowKit
set_option linter.unusedVariables false
set_option linter.unusedSimpArgs false

theorem bagTag : 88 ≠ 47 := by decide
/-- Block b is a bag that has the list v of rows of instructions, and no other list. -/
def Bag (w : World) (b : Nat) (v : Value) : Prop := w.heap[b]? = some (.cells #[.slice none 0 0, .slice none 0 0, .slice none 0 0, .slice none 0 0, .slice none 0 0, .slice none 0 0, .slice none 0 0, v, .slice none 0 0, .slice none 0 0, .slice none 0 0, .slice none 0 0, .slice none 0 0, .slice none 0 0, .slice none 0 0, .slice none 0 0, .slice none 0 0, .slice none 0 0, .slice none 0 0, .slice none 0 0, .slice none 0 0] 88 (0, 0))
theorem Bag.lt {w : World} {b : Nat} {v : Value} (h : Bag w b v) : b < w.heap.size := (Array.getElem?_eq_some_iff.1 h).1
theorem Bag.cell {w : World} {b : Nat} {v : Value} (h : Bag w b v) : w.cell? ⟨b, 0, none⟩ = some (.slice none 0 0) ∧ w.cell? ⟨b, 1, none⟩ = some (.slice none 0 0) ∧ w.cell? ⟨b, 2, none⟩ = some (.slice none 0 0) ∧ w.cell? ⟨b, 3, none⟩ = some (.slice none 0 0) ∧ w.cell? ⟨b, 4, none⟩ = some (.slice none 0 0) ∧ w.cell? ⟨b, 5, none⟩ = some (.slice none 0 0) ∧ w.cell? ⟨b, 6, none⟩ = some (.slice none 0 0) ∧ w.cell? ⟨b, 7, none⟩ = some (v) ∧ w.cell? ⟨b, 8, none⟩ = some (.slice none 0 0) ∧ w.cell? ⟨b, 9, none⟩ = some (.slice none 0 0) ∧ w.cell? ⟨b, 10, none⟩ = some (.slice none 0 0) ∧ w.cell? ⟨b, 11, none⟩ = some (.slice none 0 0) ∧ w.cell? ⟨b, 12, none⟩ = some (.slice none 0 0) ∧ w.cell? ⟨b, 13, none⟩ = some (.slice none 0 0) ∧ w.cell? ⟨b, 14, none⟩ = some (.slice none 0 0) ∧ w.cell? ⟨b, 15, none⟩ = some (.slice none 0 0) ∧ w.cell? ⟨b, 16, none⟩ = some (.slice none 0 0) ∧ w.cell? ⟨b, 17, none⟩ = some (.slice none 0 0) ∧ w.cell? ⟨b, 18, none⟩ = some (.slice none 0 0) ∧ w.cell? ⟨b, 19, none⟩ = some (.slice none 0 0) ∧ w.cell? ⟨b, 20, none⟩ = some (.slice none 0 0) := by
  refine ⟨?_, ?_, ?_, ?_, ?_, ?_, ?_, ?_, ?_, ?_, ?_, ?_, ?_, ?_, ?_, ?_, ?_, ?_, ?_, ?_, ?_⟩ <;> (rw [cell_of_row w b _ _ _ _ h]; rfl)
theorem Bag.free {w : World} {b : Nat} {v : Value} (h : Bag w b v) (i : Nat) : w.frozen? ⟨b, i, none⟩ = false := by
  simp [World.frozen?, show w.heap[b]? = _ from h]
theorem Bag.past {w w' : World} {b : Nat} {v : Value} (h : Bag w b v) (hb : Below w.heap.size w w') : Bag w' b v := (hb.block b h.lt).trans h
theorem Bag.spares {w w' : World} {b : Nat} {v : Value} (h : Bag w b v) (hs : Spares w w') : Bag w' b v := (hs b _ _ _ h bagTag).trans h
theorem Bag.set {w : World} {b : Nat} {v : Value} (h : Bag w b v) (u : Value) : Bag (w.setCell ⟨b, 7, none⟩ u) b u := by
  unfold Bag at h ⊢; simp only [World.setCell, Array.getElem?_modify, h]; simp

/-- What the rows' looking gives. -/
def Looked (B : Nat) (w : World) (e : Ending) (w' : World) : Prop := e = .returned (.bool true) ∧ Below B w w' ∧ Spares w w'

set_option maxHeartbeats 4000000 in
set_option maxRecDepth 100000 in
theorem bagApart (b B : Nat) (v : Value) (w : World) (hb : Bag w b v) (hB : B ≤ w.heap.size)
    (F : ∀ w1, Below w.heap.size w w1 → Calls Tryz.prog 80 #[v] w1 (Looked B w1)) :
    Calls Tryz.prog 32 #[.pointer (some ⟨b, 0, none⟩)] w fun e w' => e = .returned (.bool true) ∧ Below B w w' := by
  have FF := fun w1 h => Lib.hid (F w1 h)
  have K0 := Lib.hid hb
  have hc0 := (hb.cell)
  obtain ⟨c0, -⟩ := hc0
  have D0 := Lib.hid (Below.refl w.heap.size w)
  clear hb F
  go_enter Tryz.func32, Tryz.ntmps32
  go_wp2_with fail
  refine (flatLimbs_nil _).mono ?_; rintro e w1 ⟨rfl, hb⟩
  have K1 := Lib.hid ((K0.out).past hb)
  have D1 := Lib.hid ((D0.out).trans (hb.mono (D0.out).size))
  have hc := (K1.out).cell
  obtain ⟨-, c1, -⟩ := hc
  clear hb c0
  go_wp2_with fail
  refine (flatWords_nil _).mono ?_; rintro e w2 ⟨rfl, hb⟩
  have K2 := Lib.hid ((K1.out).past hb)
  have D2 := Lib.hid ((D1.out).trans (hb.mono (D1.out).size))
  have hc := (K2.out).cell
  obtain ⟨-, -, c2, -⟩ := hc
  clear hb c1
  go_wp2_with fail
  refine (flatInts_nil _).mono ?_; rintro e w3 ⟨rfl, hb⟩
  have K3 := Lib.hid ((K2.out).past hb)
  have D3 := Lib.hid ((D2.out).trans (hb.mono (D2.out).size))
  have hc := (K3.out).cell
  obtain ⟨-, -, -, c3, -⟩ := hc
  clear hb c2
  go_wp2_with fail
  refine (flatLongs_nil _).mono ?_; rintro e w4 ⟨rfl, hb⟩
  have K4 := Lib.hid ((K3.out).past hb)
  have D4 := Lib.hid ((D3.out).trans (hb.mono (D3.out).size))
  have hc := (K4.out).cell
  obtain ⟨-, -, -, -, c4, -⟩ := hc
  clear hb c3
  go_wp2_with fail
  refine (flatTexts_nil _).mono ?_; rintro e w5 ⟨rfl, hb⟩
  have K5 := Lib.hid ((K4.out).past hb)
  have D5 := Lib.hid ((D4.out).trans (hb.mono (D4.out).size))
  have hc := (K5.out).cell
  obtain ⟨-, -, -, -, -, c5, -⟩ := hc
  clear hb c4
  go_wp2_with fail
  refine (flatBytes_nil _).mono ?_; rintro e w6 ⟨rfl, hb⟩
  have K6 := Lib.hid ((K5.out).past hb)
  have D6 := Lib.hid ((D5.out).trans (hb.mono (D5.out).size))
  have hc := (K6.out).cell
  obtain ⟨-, -, -, -, -, -, c6, -⟩ := hc
  clear hb c5
  go_wp2_with fail
  refine (flatTruths_nil _).mono ?_; rintro e w7 ⟨rfl, hb⟩
  have K7 := Lib.hid ((K6.out).past hb)
  have D7 := Lib.hid ((D6.out).trans (hb.mono (D6.out).size))
  have hc := (K7.out).cell
  obtain ⟨-, -, -, -, -, -, -, c7, -⟩ := hc
  clear hb c6
  go_wp2_with fail
  have q7 := FF _ D7.out
  refine (q7.out).mono ?_; rintro e w8 ⟨rfl, hb, hsp⟩
  have K8 := Lib.hid ((K7.out).spares hsp)
  have E8 := Lib.hid (((D7.out).mono hB).trans hb)
  clear hsp q7 FF
  have hc := (K8.out).cell
  obtain ⟨-, -, -, -, -, -, -, -, c8, -⟩ := hc
  clear hb c7
  go_wp2_with fail
  refine (flatSpans_nil _).mono ?_; rintro e w9 ⟨rfl, hb⟩
  have K9 := Lib.hid ((K8.out).past hb)
  have E9 := Lib.hid ((E8.out).trans (hb.mono (Nat.le_trans hB (E8.out).size)))
  have hc := (K9.out).cell
  obtain ⟨-, -, -, -, -, -, -, -, -, c9, -⟩ := hc
  clear hb c8
  go_wp2_with fail
  refine (flatKnowns_nil _).mono ?_; rintro e w10 ⟨rfl, hb⟩
  have K10 := Lib.hid ((K9.out).past hb)
  have E10 := Lib.hid ((E9.out).trans (hb.mono (Nat.le_trans hB (E9.out).size)))
  have hc := (K10.out).cell
  obtain ⟨-, -, -, -, -, -, -, -, -, -, c10, -⟩ := hc
  clear hb c9
  go_wp2_with fail
  refine (flatPlaces_nil _).mono ?_; rintro e w11 ⟨rfl, hb⟩
  have K11 := Lib.hid ((K10.out).past hb)
  have E11 := Lib.hid ((E10.out).trans (hb.mono (Nat.le_trans hB (E10.out).size)))
  have hc := (K11.out).cell
  obtain ⟨-, -, -, -, -, -, -, -, -, -, -, c11, -⟩ := hc
  clear hb c10
  go_wp2_with fail
  refine (flatFaults_nil _).mono ?_; rintro e w12 ⟨rfl, hb⟩
  have K12 := Lib.hid ((K11.out).past hb)
  have E12 := Lib.hid ((E11.out).trans (hb.mono (Nat.le_trans hB (E11.out).size)))
  have hc := (K12.out).cell
  obtain ⟨-, -, -, -, -, -, -, -, -, -, -, -, c12, -⟩ := hc
  clear hb c11
  go_wp2_with fail
  refine (flatOutcomes_nil _).mono ?_; rintro e w13 ⟨rfl, hb⟩
  have K13 := Lib.hid ((K12.out).past hb)
  have E13 := Lib.hid ((E12.out).trans (hb.mono (Nat.le_trans hB (E12.out).size)))
  have hc := (K13.out).cell
  obtain ⟨-, -, -, -, -, -, -, -, -, -, -, -, -, c13, -⟩ := hc
  clear hb c12
  go_wp2_with fail
  refine (flatFlats_nil _).mono ?_; rintro e w14 ⟨rfl, hb⟩
  have K14 := Lib.hid ((K13.out).past hb)
  have E14 := Lib.hid ((E13.out).trans (hb.mono (Nat.le_trans hB (E13.out).size)))
  have hc := (K14.out).cell
  obtain ⟨-, -, -, -, -, -, -, -, -, -, -, -, -, -, c14, -⟩ := hc
  clear hb c13
  go_wp2_with fail
  refine (flatBundles_nil _).mono ?_; rintro e w15 ⟨rfl, hb⟩
  have K15 := Lib.hid ((K14.out).past hb)
  have E15 := Lib.hid ((E14.out).trans (hb.mono (Nat.le_trans hB (E14.out).size)))
  have hc := (K15.out).cell
  obtain ⟨-, -, -, -, -, -, -, -, -, -, -, -, -, -, -, c15, -⟩ := hc
  clear hb c14
  go_wp2_with fail
  refine (flatEntries_nil _).mono ?_; rintro e w16 ⟨rfl, hb⟩
  have K16 := Lib.hid ((K15.out).past hb)
  have E16 := Lib.hid ((E15.out).trans (hb.mono (Nat.le_trans hB (E15.out).size)))
  have hc := (K16.out).cell
  obtain ⟨-, -, -, -, -, -, -, -, -, -, -, -, -, -, -, -, c16, -⟩ := hc
  clear hb c15
  go_wp2_with fail
  refine (flatHeldRow_nil _).mono ?_; rintro e w17 ⟨rfl, hb⟩
  have K17 := Lib.hid ((K16.out).past hb)
  have E17 := Lib.hid ((E16.out).trans (hb.mono (Nat.le_trans hB (E16.out).size)))
  have hc := (K17.out).cell
  obtain ⟨-, -, -, -, -, -, -, -, -, -, -, -, -, -, -, -, -, c17, -⟩ := hc
  clear hb c16
  go_wp2_with fail
  refine (flatRegistries_nil _).mono ?_; rintro e w18 ⟨rfl, hb⟩
  have K18 := Lib.hid ((K17.out).past hb)
  have E18 := Lib.hid ((E17.out).trans (hb.mono (Nat.le_trans hB (E17.out).size)))
  have hc := (K18.out).cell
  obtain ⟨-, -, -, -, -, -, -, -, -, -, -, -, -, -, -, -, -, -, c18, -⟩ := hc
  clear hb c17
  go_wp2_with fail
  refine (flatLetters_nil _).mono ?_; rintro e w19 ⟨rfl, hb⟩
  have K19 := Lib.hid ((K18.out).past hb)
  have E19 := Lib.hid ((E18.out).trans (hb.mono (Nat.le_trans hB (E18.out).size)))
  have hc := (K19.out).cell
  obtain ⟨-, -, -, -, -, -, -, -, -, -, -, -, -, -, -, -, -, -, -, c19, -⟩ := hc
  clear hb c18
  go_wp2_with fail
  refine (flatSteps_nil _).mono ?_; rintro e w20 ⟨rfl, hb⟩
  have K20 := Lib.hid ((K19.out).past hb)
  have E20 := Lib.hid ((E19.out).trans (hb.mono (Nat.le_trans hB (E19.out).size)))
  have hc := (K20.out).cell
  obtain ⟨-, -, -, -, -, -, -, -, -, -, -, -, -, -, -, -, -, -, -, -, c20⟩ := hc
  clear hb c19
  go_wp2_with fail
  refine (flatTales_nil _).mono ?_; rintro e w21 ⟨rfl, hb⟩
  have K21 := Lib.hid ((K20.out).past hb)
  have E21 := Lib.hid ((E20.out).trans (hb.mono (Nat.le_trans hB (E20.out).size)))
  go_wp2_with fail
  go_ret
  exact ⟨rfl, E21.out⟩
end Go.Proofs.YthfkmackodbmkaaGreatDoor.Ir
/- Whether rows of instructions lie apart: they are put into a bag, and looked at. -/
namespace Go.Proofs.YthfkmackodbmkaaGreatDoor.Ir
open Go.RowKit
set_option linter.unusedVariables false
set_option linter.unusedSimpArgs false

/-- v is a row of slices of the call's own. -/
def OwnL (w : World) (base : Nat) (v : Value) (vs : List Value) : Prop := w.ownsRow base 23 1 v vs.length vs
theorem OwnL.nil (w : World) (base : Nat) : OwnL w base (.slice none 0 0) [] := World.ownsRow_nil _ _ _ _
theorem OwnL.shape {w : World} {base : Nat} {v : Value} {vs : List Value} (h : OwnL w base v vs) : ∃ ao cap, v = .slice ao vs.length cap := by
  rcases h.2 with ⟨rfl, h0⟩ | ⟨g, c, cur, rfl, _⟩
  · exact ⟨none, 0, by rw [h0]⟩
  · exact ⟨_, c, rfl⟩
theorem OwnL.lst {w : World} {base : Nat} {v : Value} {vs : List Value} (h : OwnL w base v vs) (hp : 0 < vs.length) : ∃ g c, v = .slice (some ⟨g, 0, none⟩) vs.length c ∧ Lst w g 0 vs.length (vth vs) := by
  rcases h.2 with ⟨_, h0⟩ | ⟨g, c, cur, rfl, _, hg, hn, hc, hs, ht⟩
  · omega
  · refine ⟨g, c, rfl, cur, hg, fun j hj => ?_⟩
    have : (cur.toList.take (vs.length * 1))[j]? = some (vth vs j) := by rw [ht]; simp [vth, List.getD, hj]
    rw [List.getElem?_take, if_pos (by omega)] at this
    simpa using this
theorem OwnL.below {w w' : World} {base B : Nat} {v : Value} {vs : List Value} (h : OwnL w base v vs) (hb : Below B w w') (hB : w.heap.size ≤ B) : OwnL w' base v vs :=
  World.ownsRow.kept h (row := none) ⟨hb.os, hb.tape, hb.output, hb.size, fun k hk _ => hb.block k (by omega)⟩ (by cases v.ownBlock <;> simp)

/-- append, of one slice, to a row of slices. -/
theorem wpList_append_l (w : World) {ops : Array Oper} {rest : List Oper} {o : Oper} {a : Act} {Q : Exit → Act → World → Prop} (hgd : o.guard = none) (s x : Operand)
    (ho : o.op = .call { callee := .builtin .append, args := #[s, x], argTypes := #[31, 31] })
    (base : Nat) (v : Value) (vs : List Value) (hs : a.eval s = v) (hown : OwnL w base v vs) (b : Nat) (u : Value) (hu1 : u.oneCell' = true) (hx : a.eval x = .slice (some ⟨b, 0, none⟩) 1 1) (hu : w.cell? ⟨b, 0, none⟩ = some u)
    (hlen : vs.length ≤ 1000000) (hbase : base ≤ w.heap.size)
    (h : ∀ v' w', OwnL w' base v' (vs ++ [u]) → w.grownBy w' v.ownBlock → wpList Tryz.prog ops Q rest (a.put o.dst v') w') : wpList Tryz.prog ops Q (o :: rest) a w := by
  obtain ⟨i, hi, hz, hs1, hb1⟩ := sliceinfo
  refine wpList_append_own w hgd s x 31 ho base 23 i (.slice none 0 0) 1 24 Tryz.underlying31 hi hz hs1 hb1 rfl (by decide) v _ _ hs hown ⟨b, 0, none⟩ 1 1 [u] hx rfl
    (fun j u' hj => ?_) (fun u' hu' => by simp at hu'; subst hu'; exact hu1) (by unfold maxLen; omega) (by omega) hbase (fun v' w' ho' hg _ => h v' w' ?_ hg)
  · match j, hj with
    | 0, hj => simp at hj; subst hj; simpa [Addr.add] using hu
  · unfold OwnL
    rw [List.length_append]
    exact ho'

set_option maxHeartbeats 1000000 in
set_option maxRecDepth 100000 in
theorem putIns (b base : Nat) (v : Value) (vs : List Value) (a : Option Addr) (n c : Nat) (w : World) (hB : Bag w b v) (hO : OwnL w base v vs) (hb : base ≤ b) (hlen : vs.length ≤ 1000000) :
    Calls Tryz.prog 31 #[.pointer (some ⟨b, 0, none⟩), .slice a n c] w fun e w' =>
      e = .returned (.tuple #[]) ∧ ∃ v', Bag w' b v' ∧ OwnL w' base v' (vs ++ [.slice a n c]) ∧ Below base w w' := by
  have hlt := hB.lt
  have hbs : base ≤ w.heap.size := by omega
  have hcell := hB.cell
  obtain ⟨-, -, -, -, -, -, -, c5, -⟩ := hcell
  have H1 := Lib.hid hB
  have H2 := Lib.hid hO
  have hU : (w.alloc (.cells #[.slice a n c] 23)).cell? ⟨w.heap.size, 0, none⟩ = some (.slice a n c) := by simp
  have HU := Lib.hid hU
  obtain ⟨av, cv, hsh⟩ := hO.shape
  have HSH := Lib.hid hsh
  clear hB hO hU hsh
  go_enter Tryz.func31, Tryz.ntmps31
  go_wp2_with (at_builtin; refine wpList_append_l _ rfl _ _ rfl base _ vs rfl (World.ownsRow.alloc H2.out _) w.heap.size (.slice a n c) rfl rfl HU.out hlen (by simp; omega) ?_)
  intro v2 w2 ho2 hg2
  have gA := World.grownBy_alloc w (.cells #[.slice a n c] 23) none
  have hvb : ∀ X, v.ownBlock = some X → base ≤ X := fun X hX => (World.ownsRow.lt H2.out X hX).1
  have hB2 : Bag w2 b v := by
    refine (hg2.block b (by simp; omega) (fun e => ?_)).trans ((gA.block b hlt (by simp)).trans H1.out)
    rcases (H2.out).2 with ⟨h1, _⟩ | ⟨g, c', cur, h1, _, hg, _⟩
    · rw [h1] at e; cases e
    · rw [h1] at e
      cases e
      have := H1.out
      unfold Bag at this
      rw [hg] at this
      simp at this
  have hbel : Below base w w2 := (((Below.refl base w).alloc hbs (.cells #[.slice a n c] 23))).grown hg2 (by simp; omega) hvb
  have hcell := hB2.cell
  obtain ⟨-, -, -, -, -, -, -, d5, -⟩ := hcell
  have f5 := hB2.free 7
  obtain ⟨a2, c2, hs2⟩ := OwnL.shape ho2
  rw [List.length_append] at hs2
  have hB3 := Lib.hid (hB2.set v2)
  have hO3 : OwnL (w2.setCell ⟨b, 7, none⟩ v2) base v2 (vs ++ [.slice a n c]) := World.ownsRow.kept ho2 (grownBy_setCell w2 ⟨b, 7, none⟩ v2) (by
    rcases ho2.2 with ⟨h1, _⟩ | ⟨g, c', cur, h1, _, hg, _⟩
    · left; rw [h1]; rfl
    · right
      rw [h1]
      intro e
      have e' : g = b := Option.some.inj e
      subst e'
      have := hB2
      unfold Bag at this
      rw [hg] at this
      simp at this)
  have HO3 := Lib.hid hO3
  have HBL := Lib.hid (hbel.setCell (p := ⟨b, 7, none⟩) hb v2)
  subst hs2
  clear hB2 hbel ho2 hg2 gA hvb hO3 H1 H2
  go_wp2_with fail
  go_end0
  exact ⟨rfl, _, hB3.out, HO3.out, HBL.out⟩

theorem vth_take {vs : List Value} {k : Nat} (h : k < vs.length) : vs.take k ++ [vth vs k] = vs.take (k + 1) := by
  rw [List.take_succ_eq_append_getElem h]
  simp [vth, List.getD, h]

set_option maxHeartbeats 2000000 in
set_option maxRecDepth 100000 in
theorem apartIns (v : Value) (vs : List Value) (n : Nat → Nat) (B : Nat) (w : World) (hv : Vals w v vs) (hR : Rowz w B (vth vs) vs.length n) (hB : B ≤ w.heap.size) (hm : vs.length ≤ 100000) (hn : ∀ j, j < vs.length → n j ≤ 100000000) :
    Calls Tryz.prog 11 #[v] w fun e w' => e = .returned (.bool true) ∧ Below B w w' := by
  obtain ⟨ao, cap, hsh⟩ := hv.shape
  have CU : Hid (∀ j, j < vs.length → ∀ w1, Below w.heap.size w w1 → ∃ b off, ao = some ⟨b, off, none⟩ ∧ w1.cell? ⟨b, off + j, none⟩ = some (vth vs j)) := Lib.hid (fun j hj w1 hb => by
    obtain ⟨b, off, c, hs, -, -, hlt, cells⟩ := hv.at (by omega)
    rw [hsh] at hs
    cases hs
    exact ⟨b, off, rfl, (hb.cell (p := ⟨b, off + j, none⟩) hlt).trans (cells j hj)⟩)
  have HRR := Lib.hid hR
  have HNN := Lib.hid hn
  have hbag : Bag (w.alloc (.cells #[.slice none 0 0, .slice none 0 0, .slice none 0 0, .slice none 0 0, .slice none 0 0, .slice none 0 0, .slice none 0 0, .slice none 0 0, .slice none 0 0, .slice none 0 0, .slice none 0 0, .slice none 0 0, .slice none 0 0, .slice none 0 0, .slice none 0 0, .slice none 0 0, .slice none 0 0, .slice none 0 0, .slice none 0 0, .slice none 0 0, .slice none 0 0] 88)) w.heap.size (.slice none 0 0) := heap_alloc_new w _
  have HBG := Lib.hid hbag
  have HB0 := Lib.hid (alloc_below w (.cells #[.slice none 0 0, .slice none 0 0, .slice none 0 0, .slice none 0 0, .slice none 0 0, .slice none 0 0, .slice none 0 0, .slice none 0 0, .slice none 0 0, .slice none 0 0, .slice none 0 0, .slice none 0 0, .slice none 0 0, .slice none 0 0, .slice none 0 0, .slice none 0 0, .slice none 0 0, .slice none 0 0, .slice none 0 0, .slice none 0 0, .slice none 0 0] 88))
  subst hsh
  clear hv hR hn hbag
  generalize hm' : vs.length = m at *
  have HM := Lib.hid hm'
  clear hm'
  generalize hW : w.alloc (.cells #[.slice none 0 0, .slice none 0 0, .slice none 0 0, .slice none 0 0, .slice none 0 0, .slice none 0 0, .slice none 0 0, .slice none 0 0, .slice none 0 0, .slice none 0 0, .slice none 0 0, .slice none 0 0, .slice none 0 0, .slice none 0 0, .slice none 0 0, .slice none 0 0, .slice none 0 0, .slice none 0 0, .slice none 0 0, .slice none 0 0, .slice none 0 0] 88) = W0 at *
  have HW := Lib.hid hW
  clear hW
  go_enter Tryz.func11, Tryz.ntmps11
  go_wp2_with fail
  rw [HW.out]
  go_loopw [4] (fun kk wr => ∃ (k : Nat) (u : Value), k ≤ m ∧ kk = .int .i64 k ∧ Hid (Bag wr w.heap.size u) ∧ Hid (OwnL wr w.heap.size u (vs.take k)) ∧ Hid (Below w.heap.size w wr) ∧ Hid (k = 0 → u = .slice none 0 0)) (fun kk _ => m - (intOf kk).toNat)
  case atStart => exact ⟨0, _, Nat.zero_le _, rfl, HBG, Lib.hid (OwnL.nil _ _), HB0, Lib.hid (fun _ => rfl)⟩
  case round =>
    obtain ⟨k, u, hk, rfl, HG, HO, HBW, HZ⟩ := hrel
    by_cases hlt : k < m
    · have hd : decide (k < m) = true := by simpa using hlt
      obtain ⟨b, off, hao, cL⟩ := CU.out k hlt _ HBW.out
      subst hao
      obtain ⟨l, hl, hown⟩ := (HRR.out).row k hlt
      obtain ⟨av, cv, hsv⟩ := hown.inss.shape
      rw [hsv] at cL
      have hP := Lib.hid (putIns w.heap.size w.heap.size u (vs.take k) av l.length cv _ HG.out HO.out (Nat.le_refl _) (by simp; omega))
      have hvt := vth_take (vs := vs) (k := k) (by have := HM.out; omega)
      rw [hsv] at hvt
      rw [hvt] at hP
      clear hown hsv hl hvt
      go_wp2_with fail
      refine (hP.out).mono ?_; rintro e w1 ⟨rfl, u1, hb1, ho1, hbl1⟩
      have X1 := Lib.hid hb1
      have X2 := Lib.hid ho1
      have X3 := Lib.hid ((HBW.out).trans hbl1)
      clear hb1 ho1 hbl1 hP
      go_wp2_with fail
      go_roundw
      case rel => exact ⟨k + 1, u1, by omega, by go_num, X1, X2, X3, Lib.hid (fun h => by omega)⟩
      case measure => simp [intOf]; omega
    · have hd : decide (k < m) = false := by simpa using hlt
      have hkm : m = k := by omega
      subst hkm
      have hO : OwnL wr w.heap.size u vs := by have := HO.out; rwa [List.take_of_length_le (by have := HM.out; omega)] at this
      have hF : ∀ w1, Below wr.heap.size wr w1 → Calls Tryz.prog 80 #[u] w1 (Looked B w1) := fun w1 hb1 => by
        have hO1 : OwnL w1 w.heap.size u vs := hO.below hb1 (Nat.le_refl _)
        have hw1 : Below w.heap.size w w1 := (HBW.out).trans (hb1.mono (HBW.out).size)
        by_cases h0 : 0 < vs.length
        · obtain ⟨g, c, hu, hL⟩ := hO1.lst h0
          rw [hu]
          have hmv : vs.length = m := HM.out
          rw [hmv] at hL ⊢
          refine flatIns g 0 c m B (vth vs) n w1 hL ⟨fun j hj => ?_, (HRR.out).sep⟩ (Nat.le_trans hB hw1.size) hm HNN.out
          obtain ⟨l, hl, ho⟩ := (HRR.out).row j hj
          exact ⟨l, hl, ho.below hw1 (Nat.le_refl _)⟩
        · rw [(HZ.out) (by have := HM.out; omega)]
          exact (flatIns_nil w1).mono fun e w' ⟨he, hb⟩ => ⟨he, hb.mono (Nat.le_trans hB hw1.size), spares_below hb⟩
      have Z := Lib.hid (bagApart w.heap.size B u wr HG.out (Nat.le_trans hB (HBW.out).size) hF)
      clear hO hF
      go_wp2_with fail
      refine (Z.out).mono ?_; rintro e w1 ⟨rfl, hb1⟩
      go_wp2_with fail
      go_ret
      exact ⟨rfl, ((HBW.out).mono hB).trans hb1⟩
end Go.Proofs.YthfkmackodbmkaaGreatDoor.Ir
/- The filter that a text says, or the fault, is what the document tells; answers lie apart (TextParses). -/
namespace Go.Proofs.YthfkmackodbmkaaGreatDoor
open Go.RowKit
set_option linter.unusedVariables false
set_option linter.unusedSimpArgs false
set_option maxRecDepth 100000
set_option maxHeartbeats 8000000

theorem runL_ok : ∀ (ls : List Str) (d d' : Dr) (n : Int), DrOk d → runL d n ls = .inl d' → DrOk d'
  | [], d, d', n, h, e => by
    simp only [runL, Sum.inl.injEq] at e
    subst e; exact h
  | l :: ls, d, d', n, h, e => by
    unfold runL at e
    cases hs : stepL d (n + 1) l with
    | inl d1 =>
      rw [hs] at e
      exact runL_ok ls d1 d' _ (stepL_ok h hs) e
    | inr x =>
      rw [hs] at e
      cases e
theorem parse_few (s : Str) : (parseL s).1.length ≤ 4096 := by
  unfold parseL
  split
  · exact Nat.zero_le _
  · cases hr : runL ⟨[], [], []⟩ 0 (lines s) with
    | inr e => exact Nat.zero_le _
    | inl d =>
      have hd := (runL_ok (lines s) dr0 d 0 dr0_ok hr).list
      simp only
      unfold linked
      cases hk : linkL d.marks d.list d.jumps with
      | inr e => exact Nat.zero_le _
      | inl l => simp only; rw [linkL_len _ _ _ _ hk]; exact hd
theorem vals_pair (w : World) (a c : Value) : Vals (w.alloc (.cells #[a, c] 23)) (.slice (some ⟨w.heap.size, 0, none⟩) 2 2) [a, c] := by
  refine ⟨_, 2, rfl, Nat.le_refl _, by unfold maxLen; decide, fun h => (by cases h), fun p hp j hj => ?_⟩
  cases hp
  rw [add_none, cell_of_row _ _ (0 + j) _ _ _ (heap_alloc_new w _), Nat.zero_add]
  match j, hj with
  | 0, _ => rfl
  | 1, _ => rfl
theorem textParsesOf (s : Str) (w : World) (L : Lay w) (hs : s.length ≤ 140737488351232) : Calls Tryz.prog 3 #[str s] w (Says true w) := by
  have HL := Lib.hid L
  have hcs : (⟨s.toArray⟩ : ByteArray).size = s.length := by simp [ByteArray.size]
  by_cases hsb : 20000 < s.length
  · have d2 : decide (20000 < s.length) = true := by simpa using hsb
    have d3 : decide ((20000 : Int) < s.length) = true := by simp; omega
    have AW := awake w L
    clear L hsb
    go_enter Tryz.func3, Tryz.ntmps3
    go_wp2_with fail
    refine AW.mono ?_; rintro e w1 ⟨rfl, b1⟩
    go_wp2_with fail
    go_ret
    exact ⟨rfl, b1⟩
  · have d2 : decide (20000 < s.length) = false := by simpa using hsb
    have d3 : decide ((20000 : Int) < s.length) = false := by simp; omega
    have HSB := Lib.hid (show s.length ≤ 20000 by omega)
    have PS := fun W (L : Lay W) => parseC s W L (by have := HSB.out; omega)
    have HTD := parse_few s
    obtain ⟨R, hR⟩ : ∃ R, R = parseL s := ⟨_, rfl⟩
    rw [← hR] at PS HTD
    obtain ⟨xs, fe, fa⟩ := R
    simp only at PS HTD
    have HPS := Lib.hid PS
    have HTD := Lib.hid HTD
    clear hR L PS hsb
    go_enter Tryz.func3, Tryz.ntmps3
    go_wp2_with fail
    refine ((HPS.out) _ HL.out).mono ?_; rintro e w1 ⟨a1, c1, rfl, o1, b1⟩
    have A1 := alloc_below w1 (.cells #[.int .i64 fe, .int .i64 fa] 26)
    have O1 := Lib.hid (o1.past A1)
    have B1 := Lib.hid (b1.trans (A1.mono b1.size))
    clear o1 b1 A1
    go_wp2_with fail
    refine ((HPS.out) _ ((HL.out).past B1.out)).mono ?_; rintro e w2 ⟨a2, c2, rfl, o2, b2⟩
    have A2 := alloc_below w2 (.cells #[.int .i64 fe, .int .i64 fa] 26)
    have O2 := Lib.hid (o2.past A2)
    have P2 := Lib.hid (((O1.out).past b2).past A2)
    have b2' := (B1.out).trans (b2.mono (B1.out).size)
    have B2 := Lib.hid (b2'.trans (A2.mono b2'.size))
    have HBS := Lib.hid ((B1.out).size)
    have HSEP := Lib.hid (fun Y (hY : (Value.slice a1 xs.length c1).ownBlock = some Y) (hY2 : (Value.slice a2 xs.length c2).ownBlock = some Y) => show False by
      have h1 := (OwnI.lt O1.out Y hY).2
      have h2 := (OwnI.lt O2.out Y hY2).1
      omega)
    have PP := parsesP s _ ((HL.out).past B2.out) (by have := HSB.out; omega)
    clear b2 b2' A2 o2
    go_wp2_with fail
    refine PP.mono ?_; rintro e w3 ⟨rfl, b3⟩
    have B3 := Lib.hid ((B2.out).trans (b3.mono (B2.out).size))
    have O3 := Lib.hid ((O2.out).past b3)
    have P3 := Lib.hid ((P2.out).past b3)
    clear b3 PP
    have A4 := alloc_below w3 (.cells #[.slice a1 xs.length c1, .slice a2 xs.length c2] 23)
    have B4 := Lib.hid ((B3.out).trans (A4.mono (B3.out).size))
    have AP := Lib.hid (Ir.apartIns (.slice (some ⟨w3.heap.size, 0, none⟩) 2 2) [.slice a1 xs.length c1, .slice a2 xs.length c2] (fun _ => xs.length) w.heap.size _ (vals_pair w3 _ _)
      ⟨fun j hj => by
        match j, hj with
        | 0, _ => exact ⟨xs, rfl, (P3.out).past A4⟩
        | 1, _ => exact ⟨xs, rfl, ((O3.out).past A4).mono HBS.out⟩,
       fun i j hi hj hne Y h1 h2 => by
        match i, hi, j, hj with
        | 0, _, 0, _ => exact hne rfl
        | 0, _, 1, _ => exact HSEP.out Y h1 h2
        | 1, _, 0, _ => exact HSEP.out Y h2 h1
        | 1, _, 1, _ => exact hne rfl⟩ (B4.out).size (by simp) (fun _ _ => by have := HTD.out; omega))
    clear A4
    go_wp2_with fail
    refine (AP.out).mono ?_; rintro e w5 ⟨rfl, b5⟩
    have B5 := Lib.hid ((B4.out).trans b5)
    clear b5 AP
    have AW := awake w5 ((HL.out).past B5.out)
    go_wp2_with fail
    refine AW.mono ?_; rintro e w6 ⟨rfl, b6⟩
    go_wp2_with fail
    go_ret
    exact ⟨rfl, (B5.out).trans (b6.mono (B5.out).size)⟩
end Go.Proofs.YthfkmackodbmkaaGreatDoor
