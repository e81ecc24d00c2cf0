/- Whether rows of bytes lie apart: they are put into a bag, and looked at. -/
import Derived.Test.YtknkmblacaaegaaDoorApart
namespace Go.Proofs.YtknkmblacaaegaaDoor
open Go.RowKit
set_option linter.unusedVariables false
set_option linter.unusedSimpArgs false

/-- v is a row of slices of the call's own. -/
def OwnL (w : World) (base : Nat) (v : Value) (vs : List Value) : Prop := w.ownsRow base 22 1 v vs.length vs
theorem OwnL.nil (w : World) (base : Nat) : OwnL w base (.slice none 0 0) [] := World.ownsRow_nil _ _ _ _
theorem OwnL.shape {w : World} {base : Nat} {v : Value} {vs : List Value} (h : OwnL w base v vs) : ∃ ao cap, v = .slice ao vs.length cap := by
  rcases h.2 with ⟨rfl, h0⟩ | ⟨g, c, cur, rfl, _⟩
  · exact ⟨none, 0, by rw [h0]⟩
  · exact ⟨_, c, rfl⟩
theorem OwnL.lst {w : World} {base : Nat} {v : Value} {vs : List Value} (h : OwnL w base v vs) (hp : 0 < vs.length) : ∃ g c, v = .slice (some ⟨g, 0, none⟩) vs.length c ∧ Lst w g 0 vs.length (vth vs) := by
  rcases h.2 with ⟨_, h0⟩ | ⟨g, c, cur, rfl, _, hg, hn, hc, hs, ht⟩
  · omega
  · refine ⟨g, c, rfl, cur, hg, fun j hj => ?_⟩
    have : (cur.toList.take (vs.length * 1))[j]? = some (vth vs j) := by rw [ht]; simp [vth, List.getD, hj]
    rw [List.getElem?_take, if_pos (by omega)] at this
    simpa using this
theorem OwnL.below {w w' : World} {base B : Nat} {v : Value} {vs : List Value} (h : OwnL w base v vs) (hb : Below B w w') (hB : w.heap.size ≤ B) : OwnL w' base v vs :=
  World.ownsRow.kept h (row := none) ⟨hb.os, hb.tape, hb.output, hb.size, fun k hk _ => hb.block k (by omega)⟩ (by cases v.ownBlock <;> simp)

/-- append, of one slice, to a row of slices. -/
theorem wpList_append_l (w : World) {ops : Array Oper} {rest : List Oper} {o : Oper} {a : Act} {Q : Exit → Act → World → Prop} (hgd : o.guard = none) (s x : Operand)
    (ho : o.op = .call { callee := .builtin .append, args := #[s, x], argTypes := #[29, 29] })
    (base : Nat) (v : Value) (vs : List Value) (hs : a.eval s = v) (hown : OwnL w base v vs) (b : Nat) (u : Value) (hu1 : u.oneCell' = true) (hx : a.eval x = .slice (some ⟨b, 0, none⟩) 1 1) (hu : w.cell? ⟨b, 0, none⟩ = some u)
    (hlen : vs.length ≤ 1000000) (hbase : base ≤ w.heap.size)
    (h : ∀ v' w', OwnL w' base v' (vs ++ [u]) → w.grownBy w' v.ownBlock → wpList Tryd.prog ops Q rest (a.put o.dst v') w') : wpList Tryd.prog ops Q (o :: rest) a w := by
  obtain ⟨i, hi, hz, hs1, hb1⟩ := sliceinfo
  refine wpList_append_own w hgd s x 29 ho base 22 i (.slice none 0 0) 1 24 Tryd.underlying29 hi hz hs1 hb1 rfl (by decide) v _ _ hs hown ⟨b, 0, none⟩ 1 1 [u] hx rfl
    (fun j u' hj => ?_) (fun u' hu' => by simp at hu'; subst hu'; exact hu1) (by unfold maxLen; omega) (by omega) hbase (fun v' w' ho' hg _ => h v' w' ?_ hg)
  · match j, hj with
    | 0, hj => simp at hj; subst hj; simpa [Addr.add] using hu
  · unfold OwnL
    rw [List.length_append]
    exact ho'

set_option maxHeartbeats 1000000 in
set_option maxRecDepth 100000 in
theorem putBytes (b base : Nat) (v : Value) (vs : List Value) (a : Option Addr) (n c : Nat) (w : World) (hB : Bag w b v) (hO : OwnL w base v vs) (hb : base ≤ b) (hlen : vs.length ≤ 1000000) :
    Calls Tryd.prog 23 #[.pointer (some ⟨b, 0, none⟩), .slice a n c] w fun e w' =>
      e = .returned (.tuple #[]) ∧ ∃ v', Bag w' b v' ∧ OwnL w' base v' (vs ++ [.slice a n c]) ∧ Below base w w' := by
  have hlt := hB.lt
  have hbs : base ≤ w.heap.size := by omega
  have hcell := hB.cell
  obtain ⟨-, -, -, -, -, c5, -⟩ := hcell
  have H1 := Lib.hid hB
  have H2 := Lib.hid hO
  have hU : (w.alloc (.cells #[.slice a n c] 22)).cell? ⟨w.heap.size, 0, none⟩ = some (.slice a n c) := by simp
  have HU := Lib.hid hU
  obtain ⟨av, cv, hsh⟩ := hO.shape
  have HSH := Lib.hid hsh
  clear hB hO hU hsh
  go_enter Tryd.func23, Tryd.ntmps23
  go_wp2_with (at_builtin; refine wpList_append_l _ rfl _ _ rfl base _ vs rfl (World.ownsRow.alloc H2.out _) w.heap.size (.slice a n c) rfl rfl HU.out hlen (by simp; omega) ?_)
  intro v2 w2 ho2 hg2
  have gA := World.grownBy_alloc w (.cells #[.slice a n c] 22) none
  have hvb : ∀ X, v.ownBlock = some X → base ≤ X := fun X hX => (World.ownsRow.lt H2.out X hX).1
  have hB2 : Bag w2 b v := by
    refine (hg2.block b (by simp; omega) (fun e => ?_)).trans ((gA.block b hlt (by simp)).trans H1.out)
    rcases (H2.out).2 with ⟨h1, _⟩ | ⟨g, c', cur, h1, _, hg, _⟩
    · rw [h1] at e; cases e
    · rw [h1] at e
      cases e
      have := H1.out
      unfold Bag at this
      rw [hg] at this
      simp at this
  have hbel : Below base w w2 := (((Below.refl base w).alloc hbs (.cells #[.slice a n c] 22))).grown hg2 (by simp; omega) hvb
  have hcell := hB2.cell
  obtain ⟨-, -, -, -, -, d5, -⟩ := hcell
  have f5 := hB2.free 5
  obtain ⟨a2, c2, hs2⟩ := OwnL.shape ho2
  rw [List.length_append] at hs2
  have hB3 := Lib.hid (hB2.set v2)
  have hO3 : OwnL (w2.setCell ⟨b, 5, none⟩ v2) base v2 (vs ++ [.slice a n c]) := World.ownsRow.kept ho2 (grownBy_setCell w2 ⟨b, 5, none⟩ v2) (by
    rcases ho2.2 with ⟨h1, _⟩ | ⟨g, c', cur, h1, _, hg, _⟩
    · left; rw [h1]; rfl
    · right
      rw [h1]
      intro e
      have e' : g = b := Option.some.inj e
      subst e'
      have := hB2
      unfold Bag at this
      rw [hg] at this
      simp at this)
  have HO3 := Lib.hid hO3
  have HBL := Lib.hid (hbel.setCell (p := ⟨b, 5, none⟩) hb v2)
  subst hs2
  clear hB2 hbel ho2 hg2 gA hvb hO3 H1 H2
  go_wp2_with fail
  go_end0
  exact ⟨rfl, _, hB3.out, HO3.out, HBL.out⟩

theorem vth_take {vs : List Value} {k : Nat} (h : k < vs.length) : vs.take k ++ [vth vs k] = vs.take (k + 1) := by
  rw [List.take_succ_eq_append_getElem h]
  simp [vth, List.getD, h]

set_option maxHeartbeats 2000000 in
set_option maxRecDepth 100000 in
theorem apartBytesZ (v : Value) (vs : List Value) (n : Nat → Nat) (B : Nat) (w : World) (hv : Vals w v vs) (hR : Rowz w B (vth vs) vs.length n) (hB : B ≤ w.heap.size) (hm : vs.length ≤ 100000) (hn : ∀ j, j < vs.length → n j ≤ 100000000) :
    Calls Tryd.prog 14 #[v] w fun e w' => e = .returned (.bool true) ∧ Below B w w' := by
  obtain ⟨ao, cap, hsh⟩ := hv.shape
  have CU : Hid (∀ j, j < vs.length → ∀ w1, Below w.heap.size w w1 → ∃ b off, ao = some ⟨b, off, none⟩ ∧ w1.cell? ⟨b, off + j, none⟩ = some (vth vs j)) := Lib.hid (fun j hj w1 hb => by
    obtain ⟨b, off, c, hs, -, -, hlt, cells⟩ := hv.at (by omega)
    rw [hsh] at hs
    cases hs
    exact ⟨b, off, rfl, (hb.cell (p := ⟨b, off + j, none⟩) hlt).trans (cells j hj)⟩)
  have HRR := Lib.hid hR
  have HNN := Lib.hid hn
  have hbag : Bag (w.alloc (.cells #[.slice none 0 0, .slice none 0 0, .slice none 0 0, .slice none 0 0, .slice none 0 0, .slice none 0 0, .slice none 0 0, .slice none 0 0, .slice none 0 0, .slice none 0 0, .slice none 0 0, .slice none 0 0, .slice none 0 0, .slice none 0 0, .slice none 0 0, .slice none 0 0, .slice none 0 0, .slice none 0 0, .slice none 0 0, .slice none 0 0, .slice none 0 0] 63)) w.heap.size (.slice none 0 0) := heap_alloc_new w _
  have HBG := Lib.hid hbag
  have HB0 := Lib.hid (alloc_below w (.cells #[.slice none 0 0, .slice none 0 0, .slice none 0 0, .slice none 0 0, .slice none 0 0, .slice none 0 0, .slice none 0 0, .slice none 0 0, .slice none 0 0, .slice none 0 0, .slice none 0 0, .slice none 0 0, .slice none 0 0, .slice none 0 0, .slice none 0 0, .slice none 0 0, .slice none 0 0, .slice none 0 0, .slice none 0 0, .slice none 0 0, .slice none 0 0] 63))
  subst hsh
  clear hv hR hn hbag
  generalize hm' : vs.length = m at *
  have HM := Lib.hid hm'
  clear hm'
  generalize hW : w.alloc (.cells #[.slice none 0 0, .slice none 0 0, .slice none 0 0, .slice none 0 0, .slice none 0 0, .slice none 0 0, .slice none 0 0, .slice none 0 0, .slice none 0 0, .slice none 0 0, .slice none 0 0, .slice none 0 0, .slice none 0 0, .slice none 0 0, .slice none 0 0, .slice none 0 0, .slice none 0 0, .slice none 0 0, .slice none 0 0, .slice none 0 0, .slice none 0 0] 63) = W0 at *
  have HW := Lib.hid hW
  clear hW
  go_enter Tryd.func14, Tryd.ntmps14
  go_wp2_with fail
  rw [HW.out]
  go_loopw [4] (fun kk wr => ∃ (k : Nat) (u : Value), k ≤ m ∧ kk = .int .i64 k ∧ Hid (Bag wr w.heap.size u) ∧ Hid (OwnL wr w.heap.size u (vs.take k)) ∧ Hid (Below w.heap.size w wr) ∧ Hid (k = 0 → u = .slice none 0 0)) (fun kk _ => m - (intOf kk).toNat)
  case atStart => exact ⟨0, _, Nat.zero_le _, rfl, HBG, Lib.hid (OwnL.nil _ _), HB0, Lib.hid (fun _ => rfl)⟩
  case round =>
    obtain ⟨k, u, hk, rfl, HG, HO, HBW, HZ⟩ := hrel
    by_cases hlt : k < m
    · have hd : decide (k < m) = true := by simpa using hlt
      obtain ⟨b, off, hao, cL⟩ := CU.out k hlt _ HBW.out
      subst hao
      obtain ⟨l, hl, hown⟩ := (HRR.out).row k hlt
      obtain ⟨av, cv, hsv⟩ := hown.bs.shape
      rw [hsv] at cL
      have hP := Lib.hid (putBytes w.heap.size w.heap.size u (vs.take k) av l.length cv _ HG.out HO.out (Nat.le_refl _) (by simp; omega))
      have hvt := vth_take (vs := vs) (k := k) (by have := HM.out; omega)
      rw [hsv] at hvt
      rw [hvt] at hP
      clear hown hsv hl hvt
      go_wp2_with fail
      refine (hP.out).mono ?_; rintro e w1 ⟨rfl, u1, hb1, ho1, hbl1⟩
      have X1 := Lib.hid hb1
      have X2 := Lib.hid ho1
      have X3 := Lib.hid ((HBW.out).trans hbl1)
      clear hb1 ho1 hbl1 hP
      go_wp2_with fail
      go_roundw
      case rel => exact ⟨k + 1, u1, by omega, by go_num, X1, X2, X3, Lib.hid (fun h => by omega)⟩
      case measure => simp [intOf]; omega
    · have hd : decide (k < m) = false := by simpa using hlt
      have hkm : m = k := by omega
      subst hkm
      have hO : OwnL wr w.heap.size u vs := by have := HO.out; rwa [List.take_of_length_le (by have := HM.out; omega)] at this
      have hF : ∀ w1, Below wr.heap.size wr w1 → Calls Tryd.prog 40 #[u] w1 (Looked B w1) := fun w1 hb1 => by
        have hO1 : OwnL w1 w.heap.size u vs := hO.below hb1 (Nat.le_refl _)
        have hw1 : Below w.heap.size w w1 := (HBW.out).trans (hb1.mono (HBW.out).size)
        by_cases h0 : 0 < vs.length
        · obtain ⟨g, c, hu, hL⟩ := hO1.lst h0
          rw [hu]
          have hmv : vs.length = m := HM.out
          rw [hmv] at hL ⊢
          refine flatBytes g 0 c m B (vth vs) n w1 hL ⟨fun j hj => ?_, (HRR.out).sep⟩ (Nat.le_trans hB hw1.size) hm HNN.out
          obtain ⟨l, hl, ho⟩ := (HRR.out).row j hj
          exact ⟨l, hl, ho.below hw1 (Nat.le_refl _)⟩
        · rw [(HZ.out) (by have := HM.out; omega)]
          exact (flatBytes_nil w1).mono fun e w' ⟨he, hb⟩ => ⟨he, hb.mono (Nat.le_trans hB hw1.size), spares_below hb⟩
      have Z := Lib.hid (bagApart w.heap.size B u wr HG.out (Nat.le_trans hB (HBW.out).size) hF)
      clear hO hF
      go_wp2_with fail
      refine (Z.out).mono ?_; rintro e w1 ⟨rfl, hb1⟩
      go_wp2_with fail
      go_ret
      exact ⟨rfl, ((HBW.out).mono hB).trans hb1⟩
theorem apartBytes (v : Value) (vs : List Value) (n : Nat → Nat) (B : Nat) (w : World) (hv : Vals w v vs) (hR : Rowy w B (vth vs) vs.length n) (hB : B ≤ w.heap.size) (hm : vs.length ≤ 100000) (hn : ∀ j, j < vs.length → n j ≤ 100000000) :
    Calls Tryd.prog 14 #[v] w fun e w' => e = .returned (.bool true) ∧ Below B w w' := apartBytesZ v vs n B w hv hR.z hB hm hn
end Go.Proofs.YtknkmblacaaegaaDoor
