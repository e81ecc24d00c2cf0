/- Contract of the document's Scan. -/
import Derived.Test.YtkiagnlpnphghaaDoorFrRef
import Derived.Test.YtkiagnlpnphghaaDoorFrScan
namespace Go.Proofs.YtkiagnlpnphghaaDoor
open Go.RowKit
set_option linter.unusedVariables false
set_option linter.unusedSimpArgs false

/-- What the document's Scan has come to. -/
structure RSs (w0 wr : World) (l : List Int) (at_ : Nat) (u : Value) (vs : List Value) (fs : List Fr) : Prop where
  own : OwnF 46 wr w0.heap.size u vs fs
  told : Told wr w0.heap.size vs fs
  bel : Below w0.heap.size w0 wr
  scan : scan l = (fs ++ (scan (l.drop at_)).1, at_ + (scan (l.drop at_)).2.1, (scan (l.drop at_)).2.2)
  le : at_ ≤ l.length
  cnt : fs.length * 9 ≤ at_
/-- What it answers. -/
def RefScanAns (l : List Int) (w : World) (e : Ending) (w' : World) : Prop :=
  ∃ a n c vs, e = .returned (.tuple #[.slice a n c, .int .i64 ((scan l).2.1 : Nat), .bool (scan l).2.2]) ∧ OwnF 46 w' w.heap.size (.slice a n c) vs (scan l).1 ∧ Told w' w.heap.size vs (scan l).1 ∧ Below w.heap.size w w' ∧ (scan l).1.length = n
theorem RSs.answer {w0 wr w' : World} {l : List Int} {at_ n c : Nat} {a : Option Addr} {vs : List Value} {fs : List Fr} {sp : Bool} (h : RSs w0 wr l at_ (.slice a n c) vs fs) (hb : Below wr.heap.size wr w') (hw : wholeB (l.drop at_) = false) (hs : spoiltB (l.drop at_) = sp) :
    RefScanAns l w0 (.returned (.tuple #[.slice a n c, .int .i64 (at_ : Nat), .bool sp])) w' := by
  have hsc := h.scan
  rw [scan_no hw, hs] at hsc
  simp only [List.append_nil, Nat.add_zero] at hsc
  have hn : fs.length = n := by
    obtain ⟨ao, cap, hv⟩ := h.own.shape
    cases hv; rfl
  refine ⟨a, n, c, vs, by rw [hsc], by rw [hsc]; exact h.own.past hb, by rw [hsc]; exact h.told.past hb, bel_past h.bel hb, by rw [hsc]; exact hn⟩

theorem Bs.cell_at {w : World} {b o n cap : Nat} {l : List Int} (h : Bs w (.slice (some ⟨b, o, none⟩) n cap) l) {j : Nat} (hj : j < l.length) : w.cell? ⟨b, o + j, none⟩ = some (.int .u8 (nth l j)) := by
  obtain ⟨ao, c, hv, h1, h2, h3, h4⟩ := h
  cases hv
  have := h4 _ rfl j hj
  rwa [add_none] at this
/-- A frame that was made of the bytes is in block E. -/
structure MkF (w wx : World) (E : Nat) (k : Int) (u : Value) (d : List Int) : Prop where
  fr : FrBox 46 wx E k u
  own : Own wx w.heap.size u d
  bel : Below w.heap.size w wx
theorem keep_one {w : World} {E b o : Nat} {x : Value} (hb : b ≠ E) (h : w.cell? ⟨b, o, none⟩ = some x) (u0 u1 : Value) : ((w.setCell ⟨E, 0, none⟩ u0).setCell ⟨E, 1, none⟩ u1).cell? ⟨b, o, none⟩ = some x :=
  (put_grown w E u0 u1).cell (a := ⟨b, o, none⟩) h (fun e => hb (Option.some.inj e))
theorem MkF.new {w w2 : World} {k : Int} {u : Value} {d : List Int} (ho : Own w2 w.heap.size u d) (hb : Below w.heap.size w w2) : MkF w (w2.alloc (.cells #[.int .i64 k, u] 46)) w2.heap.size k u d :=
  ⟨FrBox.new _ _ _ _, ho.alloc _, bel_past hb (alloc_below _ _)⟩
theorem MkF.put {w w2 : World} {E : Nat} {k k0 : Int} {u u0 : Value} {d : List Int} (hf : FrBox 46 w2 E k0 u0) (ho : Own w2 w.heap.size u d) (hb : Below w.heap.size w w2) (hE : w.heap.size ≤ E) :
    MkF w ((w2.setCell ⟨E, 0, none⟩ (.int .i64 k)).setCell ⟨E, 1, none⟩ u) E k u d :=
  ⟨hf.put k u, ho.kept (put_grown w2 E _ _) (by
    cases e : u.ownBlock with
    | none => exact Or.inl rfl
    | some j => exact Or.inr (fun e2 => hf.other (by decide) ho (e.trans e2))), hb.grown (put_grown w2 E _ _) hb.size (fun j e => by cases e; exact hE)⟩
theorem MkF.past {w wx wy : World} {E : Nat} {k : Int} {u : Value} {d : List Int} (h : MkF w wx E k u d) (hb : Below wx.heap.size wx wy) : MkF w wy E k u d := ⟨h.fr.past hb, h.own.below hb (Nat.le_refl _), bel_past h.bel hb⟩
theorem Own.size_of {w : World} {base : Nat} {v : Value} {l : List Int} {s : Nat} (h : Own w base v l) (hl : l.length = s) : ∃ a c, v = .slice a s c := by
  obtain ⟨a, c, hv⟩ := h.bs.shape
  exact ⟨a, c, by rw [hv, hl]⟩

/-- append, of one frame. -/
theorem wpList_append_f (w : World) {ops : Array Oper} {rest : List Oper} {o : Oper} {a : Act} {Q : Exit → Act → World → Prop} (t tl : TypeId) (htl : Tryd.prog.underlying tl = some (.slice t)) (ht : t = 36 ∨ t = 46)
    (hgd : o.guard = none) (s x : Operand) (hop : o.op = Op.call { callee := Callee.builtin Builtin.append, args := #[s, x], argTypes := #[tl, tl] })
    (base : Nat) (v : Value) (vs : List Value) (fs : List Fr) (hs : a.eval s = v) (hown : OwnF t w base v vs fs) (b : Nat) (f : Fr) (u : Value) (hu : u.oneCell' = true) (hx : a.eval x = .slice (some ⟨b, 0, none⟩) 1 1) (h0 : w.cell? ⟨b, 0, none⟩ = some (.int .i64 f.1)) (h1 : w.cell? ⟨b, 1, none⟩ = some u)
    (hlen : fs.length ≤ 1000000) (hbase : base ≤ w.heap.size)
    (hK : ∀ v' w', OwnF t w' base v' (vs ++ [u]) (fs ++ [f]) → w.grownBy w' v.ownBlock → wpList Tryd.prog ops Q rest (a.put o.dst v') w') :
    wpList Tryd.prog ops Q (o :: rest) a w := by
  obtain ⟨v', w', hrun, r1, r2⟩ := run_append_f w t tl o.type htl ht base v vs fs hown b f u hu h0 h1 hlen hbase
  refine wpList_plain hgd fun K hK' => ?_
  unfold Oper.wp
  simp [execOp, hop, resolve, invoke, builtin, hs, hx, hrun, Result.andThen]
  exact hK' _ _ (hK v' w' r1 r2)
theorem RSs.push {w0 wr w1 wx w' : World} {l : List Int} {at_ s E c2 : Nat} {a2 : Option Addr} {x : Int} {d : List Int} {u u' : Value} {vs : List Value} {fs : List Fr} (h : RSs w0 wr l at_ u vs fs) (hp : Below wr.heap.size wr w1) (hm : MkF w1 wx E x (.slice a2 s c2) d) (hx : Below wr.heap.size wr wx) (hg : wx.grownBy w' u.ownBlock)
    (hn : OwnF 46 w' w0.heap.size u' (vs ++ [.slice a2 s c2]) (fs ++ [(x, d)])) (hw : wholeB (l.drop at_) = true) (h1 : says (l.drop at_) = s) (h2 : theFr (l.drop at_) = (x, d)) : RSs w0 w' l (at_ + 9 + s) u' (vs ++ [.slice a2 s c2]) (fs ++ [(x, d)]) := by
  have hs := wholeB_complete hw
  have hlen := hs.2.2
  rw [List.length_drop, h1] at hlen
  have o1 := h.own.past hx
  have hne : ∀ j, u.ownBlock = some j → w0.heap.size ≤ j ∧ NoBytes wx j := fun j hj => by
    obtain ⟨h1, cur, h2⟩ := o1.tag hj
    refine ⟨h1, fun c2 fr hb => ?_⟩
    rw [h2] at hb
    simp at hb
  refine ⟨hn, ?_, (bel_past h.bel hx).grown hg (bel_past h.bel hx).size (fun j e => (hne j e).1), ?_, by have := h.le; omega, by have := h.cnt; simp; omega⟩
  · have t1 := (h.told.past hx).kept hg (fun j hj => Or.inr (hne j hj).2)
    have ow : Own w' w1.heap.size (.slice a2 s c2) d := hm.own.kept hg (by
      cases e : (Value.slice a2 s c2).ownBlock with
      | none => exact Or.inl rfl
      | some j => exact Or.inr (fun e2 => by
          obtain ⟨cur, hcur⟩ := hm.own.bytes e
          exact (hne j e2.symm).2 cur _ hcur))
    exact Told.push h.told t1 ow hp.size (Nat.le_trans h.bel.size hp.size)
  · have hsc := h.scan
    rw [scan_yes hw, h1, h2, List.drop_drop] at hsc
    rw [hsc, show at_ + 9 + s = at_ + (9 + s) from by omega]
    simp only [List.append_assoc, List.cons_append, List.nil_append]
    rw [Nat.add_assoc at_]

set_option maxHeartbeats 4000000 in
set_option maxRecDepth 100000 in
theorem refScan (v : Value) (l : List Int) (w : World) (h : Bs w v l) (ho : Oct l) (hlen : l.length ≤ 1000000) :
    Calls Tryd.prog 31 #[v] w (RefScanAns l w) := by
  obtain ⟨ao, cap, hsh⟩ := h.shape
  have hln := h.len
  have H := Lib.hid h
  have HO := Lib.hid ho
  have HL := Lib.hid hlen
  have hcap : l.length ≤ cap ∧ cap ≤ maxLen := by
    obtain ⟨a', c', e, h1, h2, _⟩ := h
    rw [hsh] at e; cases e
    exact ⟨h1, h2⟩
  have hc1 := hcap.1
  have hc2 : cap ≤ 9223372036854775807 := by have := hcap.2; unfold maxLen at this; omega
  subst hsh
  clear h ho hlen hcap
  generalize hn : l.length = n at *
  have hN := Lib.hid hn
  clear hn
  go_enter Tryd.func31, Tryd.ntmps31
  go_wp2
  go_loopw [5, 6] (fun s i wr => ∃ (k : Nat) (a : Option Addr) (p c : Nat) (vs : List Value) (fs : List Fr), k ≤ n ∧ i = .int .i64 k ∧ s = .slice a p c ∧ Hid (RSs w wr l k (.slice a p c) vs fs)) (fun _ i _ => n - (intOf i).toNat)
  case atStart => exact ⟨0, _, _, _, [], [], Nat.zero_le _, rfl, rfl, Lib.hid ⟨OwnF.nil _ _ _, Told.nil _ _, Below.refl _ _, by simp, Nat.zero_le _, by simp⟩⟩
  case round =>
    obtain ⟨k, a, p, c, vs, fs, hk, rfl, rfl, HR⟩ := hrel
    by_cases hlt : k < n
    · have hd : decide (k < n) = true := by simpa using hlt
      obtain ⟨b, off, cap', hsh, -, -, -, -⟩ := (H.out).at (by have := hN.out; omega)
      have hao : ao = some ⟨b, off, none⟩ := by cases hsh; rfl
      subst hao
      have hbs := ((H.out).past (HR.out).bel).drop (n := k) (by have := hN.out; omega)
      rw [if_neg (by omega)] at hbs
      simp only [Option.map_some, add_none] at hbs
      have HBS := Lib.hid hbs
      have hcz : ¬ cap = k := by omega
      have hlr : (l.drop k).length = n - k := by rw [List.length_drop]; have := hN.out; omega
      have HLR := Lib.hid hlr
      have HOR := Lib.hid ((HO.out).drop k)
      clear hbs hsh hlr
      by_cases h9 : n - k < 9
      · have hd9 : decide (((n - k : Nat) : Int) < 9) = true := by simp; omega
        have hw : wholeB (l.drop k) = false := by unfold wholeB completeB; rw [HLR.out, decide_eq_false (by omega)]; rfl
        have hs : spoiltB (l.drop k) = false := by unfold spoiltB completeB tooLongB; rw [HLR.out, decide_eq_false (by omega), decide_eq_false (by omega)]; rfl
        have HW := Lib.hid hw
        have HS := Lib.hid hs
        clear hw hs
        go_wp2
        refine bodyPost_ret (v := .tuple #[.slice a p c, .int .i64 k, .bool false]) (by simp [results, Tryd.results31, go_sem]) rfl ?_
        exact (HR.out).answer (Below.refl _ _) HW.out HS.out
      · have hd9 : decide (((n - k : Nat) : Int) < 9) = false := by simp; omega
        obtain ⟨L, hL⟩ : ∃ L, l.drop k = L := ⟨_, rfl⟩
        rw [hL] at HBS HLR HOR
        have HLL := Lib.hid hL
        clear hL
        have hb1 := (HBS.out).drop (n := 1) (by have := HLR.out; omega)
        rw [if_neg (by omega)] at hb1
        simp only [Option.map_some, add_none] at hb1
        have hb15 := hb1.take (n := 4) (by rw [List.length_drop]; have := HLR.out; omega)
        have N1 := number4 59 (Or.inl rfl) _ _ wr hb15 (((HOR.out).drop 1).take 4) (by rw [List.length_take, List.length_drop]; have := HLR.out; omega)
        rw [n4_take (Nat.le_refl 4), (says_nat HOR.out (by have := HLR.out; omega)).1] at N1
        have HN1 := Lib.hid N1
        have hs32 := (says_nat HOR.out (by have := HLR.out; omega)).2
        clear hb1 hb15 N1
        by_cases hq : 262144 < says L
        · have hdq : decide ((262144 : Int) < (says L : Nat)) = true := by simp; omega
          have HW := Lib.hid (show wholeB (l.drop k) = false by rw [HLL.out]; unfold wholeB completeB; rw [decide_eq_false (by omega)]; rfl)
          have HS := Lib.hid (show spoiltB (l.drop k) = true by rw [HLL.out]; unfold spoiltB tooLongB; rw [decide_eq_true ⟨by have := HLR.out; omega, hq⟩]; rfl)
          generalize says L = s at *
          go_wp2_with fail
          refine (HN1.out).mono ?_; rintro e w1 ⟨rfl, hst⟩
          go_wp2
          refine bodyPost_ret (v := .tuple #[.slice a p c, .int .i64 k, .bool true]) (by simp [results, Tryd.results31, go_sem]) rfl ?_
          exact (HR.out).answer hst.past HW.out HS.out
        · have hdq : decide ((262144 : Int) < (says L : Nat)) = false := by simp; omega
          have hwc : IntKind.i64.wrap (9 + (says L : Int)) = 9 + (says L : Int) := IntWalk.i64_in _ (by omega)
          by_cases hr : n - k < 9 + says L
          · have hdr : decide (((n - k : Nat) : Int) < 9 + (says L : Int)) = true := by simp; omega
            have HW := Lib.hid (show wholeB (l.drop k) = false by rw [HLL.out]; unfold wholeB completeB; rw [decide_eq_false (by have := HLR.out; omega)]; rfl)
            have HS := Lib.hid (show spoiltB (l.drop k) = false by rw [HLL.out]; unfold spoiltB tooLongB completeB; rw [decide_eq_false (by omega), decide_eq_false (by have := HLR.out; omega)]; rfl)
            generalize says L = s at *
            go_wp2_with fail
            refine (HN1.out).mono ?_; rintro e w1 ⟨rfl, hst⟩
            go_wp2
            refine bodyPost_ret (v := .tuple #[.slice a p c, .int .i64 k, .bool false]) (by simp [results, Tryd.results31, go_sem]) rfl ?_
            exact (HR.out).answer hst.past HW.out HS.out
          · have hdr : decide (((n - k : Nat) : Int) < 9 + (says L : Int)) = false := by simp; omega
            have HCP := Lib.hid (show completeB L = true from decide_eq_true ⟨by have := HLR.out; omega, by omega, by have := HLR.out; omega⟩)
            have hqs : says L ≤ 262144 := by omega
            have hrs : 9 + says L ≤ n - k := by omega
            generalize hs : says L = s at *
            have HSY := Lib.hid hs
            clear hs
            go_wp2_with fail
            refine (HN1.out).mono ?_; rintro e w1 ⟨rfl, hst⟩
            have RP := Lib.hid hst.past
            have HB1 := Lib.hid ((HBS.out).past hst.past)
            clear hst
            go_wp2_with fail
            have hm9 : 9 ≤ n - k := by omega
            have hmc : n - k ≤ cap - k := by omega
            have hcp2 : cap - k ≤ 9223372036854775807 := by omega
            generalize off + k = o at *
            generalize hmm : n - k = m at *
            have HMM := Lib.hid hmm
            clear hmm
            generalize cap - k = cp at *
            obtain ⟨q, hqq⟩ : ∃ q : Nat, 9 + (s : Int) = (q : Int) := ⟨9 + s, by omega⟩
            have hwq : IntKind.i64.wrap (q : Int) = (q : Int) := by rw [hqq] at hwc; exact hwc
            clear hwc
            have HQQ := Lib.hid hqq
            have hsl : ∀ W : World, (Instr.slice 27 (.slice (some ⟨b, o, none⟩) m cp) (some (.int .i64 9)) (some (.int .i64 (q : Int))) none).run Tryd.prog W = .ok (.slice (dAt b o cp) s (cp - 9)) W := fun W => by
              have := slice_part (some ⟨b, o, none⟩) m cp 9 s (by omega) W
              rw [show ((9 + s : Nat) : Int) = (q : Int) from by omega] at this
              simp only [Option.map_some, add_none] at this
              exact this
            have x0 : w1.cell? ⟨b, o, none⟩ = some (.int .u8 (nth L 0)) := (HB1.out).cell_at (j := 0) (by have := HLR.out; omega)
            have hdat := Lib.hid (dAt_bs (HB1.out) HCP.out)
            rw [HSY.out] at hdat
            have hdl := Lib.hid (show (dataOf L).length = s by rw [← HSY.out]; exact dataOf_length (by have := HLR.out; have := HSY.out; omega))
            have hx := (HOR.out).nth (j := 0) (by have := HLR.out; omega)
            obtain ⟨hx0, hx1⟩ := hx
            have hwx : IntKind.i64.wrap (nth L 0) = nth L 0 := IntWalk.i64_in _ (by omega)
            generalize hxx : nth L 0 = x at *
            have HX := Lib.hid hxx
            clear hxx
            generalize hda : (Value.slice (dAt b o cp) s (cp - 9)) = da at *
            have HDA := Lib.hid hda
            clear hda
            have xd : w1.drew.cell? ⟨b, o, none⟩ = some (.int .u8 x) := x0
            have hbw : b < w1.heap.size := World.block_lt_of_cell? w1 _ x0
            have hi0 : (0 : Int) < (m : Int) := by omega
            have hi1 : 0 < m := by omega
            have hws : IntKind.i64.wrap (s : Int) = (s : Int) := IntWalk.i64_in _ (by omega)
            have hbE0 : b ≠ w1.heap.size := by omega
            have hbE1 : b ≠ w1.heap.size + 1 := by omega
            have hln0 := Lib.hid (show ([] : List Int).length + (dataOf L).length ≤ 140737488355328 by rw [hdl.out]; simp; omega)
            have F1 : Own (w1.alloc (.cells #[] 5)).drew w1.heap.size (.slice (some ⟨w1.heap.size, 0, none⟩) 0 0) [] := made_now w1 _ (Nat.le_refl _)
            have D1 : Below w1.heap.size w1 (w1.alloc (.cells #[] 5)).drew := bel_trans (alloc_below w1 (.cells #[] 5)) (drew_below _)
            have F2 : Own ((w1.alloc (.cells #[] 5)).alloc (.cells #[.int .i64 0, .slice none 0 0] 46)).drew w1.heap.size (.slice (some ⟨w1.heap.size, 0, none⟩) 0 0) [] := (made_now w1 _ (Nat.le_refl _)).alloc (.cells #[.int .i64 0, .slice none 0 0] 46)
            have D2 : Below w1.heap.size w1 ((w1.alloc (.cells #[] 5)).alloc (.cells #[.int .i64 0, .slice none 0 0] 46)).drew := bel_trans (bel_trans (alloc_below w1 (.cells #[] 5)) (alloc_below _ (.cells #[.int .i64 0, .slice none 0 0] 46))) (drew_below _)
            have X2 : FrBox 46 ((w1.alloc (.cells #[] 5)).alloc (.cells #[.int .i64 0, .slice none 0 0] 46)).drew (w1.heap.size + 1) 0 (.slice none 0 0) := by
              have := FrBox.new 46 (w1.alloc (.cells #[] 5)) 0 (.slice none 0 0)
              rw [World.size_alloc] at this
              exact this
            have F3 : Own ((w1.alloc (.cells #[.int .i64 0, .slice none 0 0] 46)).alloc (.cells #[] 5)).drew w1.heap.size (.slice (some ⟨w1.heap.size + 1, 0, none⟩) 0 0) [] := by
              have := made_now (w1.alloc (.cells #[.int .i64 0, .slice none 0 0] 46)) w1.heap.size (by simp)
              rw [World.size_alloc] at this
              exact this
            have D3 : Below w1.heap.size w1 ((w1.alloc (.cells #[.int .i64 0, .slice none 0 0] 46)).alloc (.cells #[] 5)).drew := bel_trans (bel_trans (alloc_below w1 (.cells #[.int .i64 0, .slice none 0 0] 46)) (alloc_below _ (.cells #[] 5))) (drew_below _)
            have X3 : FrBox 46 ((w1.alloc (.cells #[.int .i64 0, .slice none 0 0] 46)).alloc (.cells #[] 5)).drew w1.heap.size 0 (.slice none 0 0) := (FrBox.new 46 w1 0 (.slice none 0 0)).past (bel_trans (alloc_below _ (.cells #[] 5)) (drew_below _))
            go_upto_region 12 with fail
            go_cut [9] (fun t9 wx => ∃ (E : Nat) (a2 : Option Addr) (c2 : Nat), t9 = .pointer (some ⟨E, 0, none⟩) ∧ Hid (MkF w1 wx E x (.slice a2 s c2) (dataOf L)))
            case first =>
              go_region_held3 (fun w' => w'.cell? ⟨b, o, none⟩ = some (.int .u8 x)) (first | (with_reducible assumption) | (with_reducible exact keep_one hbE0 (by with_reducible assumption) _ _) | (with_reducible exact keep_one hbE1 (by with_reducible assumption) _ _) | go_keep) (first | (refine step_slice (by rfl) (.tmp 42) (.const (.int .i64 9)) (.tmp 45) (by rfl) _ _ _ _ (by rfl) (by rfl) (by rfl) hsl ?_) | (refine step_append_any (by rfl) (.tmp 41) (.tmp 46) (by rfl) w1.heap.size (.slice (some ⟨w1.heap.size, 0, none⟩) 0 0) [] (by rfl) F1 da (dataOf L) (by rfl) ((hdat.out).past D1) hln0.out D1.size ?_; intro v2 w2 o2 g2; rw [List.nil_append] at o2; obtain ⟨a2, c2, rfl⟩ := o2.size_of hdl.out; have B2 := D1.grown g2 D1.size (fun j e => (F1.lt j e).1); have y2 := (B2.cell (p := ⟨b, o, none⟩) hbw).trans x0) | (refine step_append_any (by rfl) (.tmp 41) (.tmp 46) (by rfl) w1.heap.size (.slice (some ⟨w1.heap.size, 0, none⟩) 0 0) [] (by rfl) F2 da (dataOf L) (by rfl) ((hdat.out).past D2) hln0.out D2.size ?_; intro v2 w2 o2 g2; rw [List.nil_append] at o2; obtain ⟨a2, c2, rfl⟩ := o2.size_of hdl.out; have B2 := D2.grown g2 D2.size (fun j e => (F2.lt j e).1); have y2 := (B2.cell (p := ⟨b, o, none⟩) hbw).trans x0; have X4 := X2.grown g2 (X2.other (by decide) F2); obtain ⟨z0, z1⟩ := X4.cells; have zf0 := X4.free 0; have zf1 := X4.free 1) | (refine step_append_any (by rfl) (.tmp 41) (.tmp 46) (by rfl) w1.heap.size (.slice (some ⟨w1.heap.size + 1, 0, none⟩) 0 0) [] (by rfl) F3 da (dataOf L) (by rfl) ((hdat.out).past D3) hln0.out D3.size ?_; intro v2 w2 o2 g2; rw [List.nil_append] at o2; obtain ⟨a2, c2, rfl⟩ := o2.size_of hdl.out; have B2 := D3.grown g2 D3.size (fun j e => (F3.lt j e).1); have y2 := (B2.cell (p := ⟨b, o, none⟩) hbw).trans x0; have X4 := X3.grown g2 (X3.other (by decide) F3); obtain ⟨z0, z1⟩ := X4.cells; have zf0 := X4.free 0; have zf1 := X4.free 1))
              · have R := Lib.hid (MkF.new (k := x) o2 B2)
                clear o2 g2 B2 y2
                go_wp2_with fail
                go_meet
                exact ⟨_, _, _, rfl, R⟩
              · have R := Lib.hid (MkF.put (k := x) X4 o2 B2 (Nat.le_succ _))
                clear o2 g2 B2 y2 X4 z0 z1 zf0 zf1
                go_wp2_with fail
                go_meet
                exact ⟨_, _, _, rfl, R⟩
              · have R := Lib.hid (MkF.put (k := x) X4 o2 B2 (Nat.le_refl _))
                clear o2 g2 B2 y2 X4 z0 z1 zf0 zf1
                go_wp2_with fail
                go_meet
                exact ⟨_, _, _, rfl, R⟩
            case rest =>
              obtain ⟨E, a2, c2, rfl, HM⟩ := hcut
              clear F1 D1 F2 D2 X2 F3 D3 X3 hsl hwq hqq hws hwx xd
              have HBL := Lib.hid ((HB1.out).past (HM.out).bel)
              have hz5 : ¬ cp = 5 := by omega
              have h9c : (9 : Int) ≤ (cp : Int) := by omega
              have h5c : (5 : Int) ≤ (cp : Int) := by omega
              have h9n : 9 ≤ cp := by omega
              have h5n : 5 ≤ cp := by omega
              have N2 := fun W (g : Below wc.heap.size wc W) => Lib.hid (by
                have h1 := ((HBL.out).past g).drop (n := 5) (by have := HLR.out; omega)
                rw [if_neg (by omega)] at h1
                simp only [Option.map_some, add_none] at h1
                have h2 := h1.take (n := 4) (by rw [List.length_drop]; have := HLR.out; omega)
                have h3 := number4 59 (Or.inl rfl) _ _ W h2 (((HOR.out).drop 5).take 4) (by rw [List.length_take, List.length_drop]; have := HLR.out; omega)
                rw [n4_take (Nat.le_refl 4)] at h3
                exact h3)
              have T5 := fun W (g : Below wc.heap.size wc W) => Lib.hid (((HBL.out).past g).take (n := 5) (by have := HLR.out; omega))
              have hl5 : (L.take 5).length = 5 := by rw [List.length_take]; have := HLR.out; omega
              have h05 : 0 < (L.take 5).length := by omega
              have hp5 : ([] : List Int).length + (L.take 5).length = 5 := by simpa using hl5
              have hl5d := Lib.hid (show (L.take 5).length + (dataOf L).length ≤ 140737488355328 by rw [hl5, hdl.out]; omega)
              have ho5d := Lib.hid (((HOR.out).take 5).append (((HOR.out).drop 9).take (says L)) : Oct (L.take 5 ++ dataOf L))
              have SU := fun v5 w5 (h5 : Bs w5 v5 (L.take 5 ++ dataOf L)) => Lib.hid (refSum v5 _ w5 h5 ho5d.out)
              have c0 : wc.drew.cell? ⟨E, 1, none⟩ = some (.slice a2 s c2) := (HM.out).fr.cells.2
              have D0 := drew_below wc
              have DA : Below wc.heap.size wc (wc.alloc (.cells #[] 5)).drew := bel_trans (alloc_below wc (.cells #[] 5)) (drew_below _)
              have cA : (wc.alloc (.cells #[] 5)).drew.cell? ⟨E, 1, none⟩ = some (.slice a2 s c2) := cellP (HM.out).fr.cells.2 DA
              have OA : Own (wc.alloc (.cells #[] 5)).drew wc.heap.size (.slice (some ⟨wc.heap.size, 0, none⟩) 0 0) [] := made_now wc _ (Nat.le_refl _)
              have D2 := fun W (g : Below wc.heap.size wc W) => Lib.hid ((HM.out).own.bs.past g)
              have hEc : E < wc.heap.size := (HM.out).fr.lt
              have HMM2 := HM
              clear hl5 HB1 hdat HN1
              generalize hz1 : n4 (L.drop 5) = z1 at *
              have HZ1 := Lib.hid hz1
              clear hz1
              generalize hz2 : ((crc (L.take 5 ++ dataOf L) : Nat) : Int) = z2 at *
              have HZ2 := Lib.hid hz2
              clear hz2
              go_upto_region 13 with fail
              go_cut [60] (fun t60 wx => t60 = .bool (z1 != z2) ∧ Hid (MkF w1 wx E x (.slice a2 s c2) (dataOf L)))
              case first =>
                go_region_held3 (fun w' => w'.cell? ⟨E, 1, none⟩ = some (.slice a2 s c2)) (first | (with_reducible assumption) | (with_reducible exact cA) | (with_reducible exact cellA (by with_reducible assumption))) (first
                  | (go_at_call 59; refine ((N2 _ (by first | (with_reducible exact D0) | (with_reducible exact DA) | (with_reducible exact B4) | (with_reducible exact B5))).out).mono ?_; rintro e w3 ⟨rfl, hs3⟩; (first | (with_reducible have B3 := bel_trans D0 hs3.past) | ((with_reducible have B3 := bel_trans DA hs3.past); have O3 := OA.below hs3.past (Nat.le_refl _)) | ((with_reducible have B3 := bel_trans B4 hs3.past); have O3 := o4.below hs3.past (Nat.le_refl _)) | ((with_reducible have B3 := bel_trans B5 hs3.past); have O3 := o5.below hs3.past (Nat.le_refl _))); have c3 := cellP (HM.out).fr.cells.2 B3)
                  | (refine step_append_bs (by rfl) (.tmp 52) (.tmp 54) (by rfl) wc.heap.size (.slice (some ⟨wc.heap.size, 0, none⟩) 0 0) [] (by rfl) OA (.slice (some ⟨b, o, none⟩) 5 cp) (L.take 5) (by rfl) (T5 _ DA).out h05 5 hp5 (by decide) DA.size ?_; intro a4 q4 w4' o4 g4; rw [List.nil_append] at o4; have B4 := DA.grown g4 DA.size (fun j e => (OA.lt j e).1); have c4 := cellP (HM.out).fr.cells.2 B4)
                  | (refine step_append_bs (by rfl) (.tmp 52) (.tmp 54) (by rfl) wc.heap.size (.slice (some ⟨wc.heap.size, 0, none⟩) 0 0) [] (by rfl) O3 (.slice (some ⟨b, o, none⟩) 5 cp) (L.take 5) (by rfl) (T5 _ B3).out h05 5 hp5 (by decide) B3.size ?_; intro a4 q4 w4' o4 g4; rw [List.nil_append] at o4; have B4 := B3.grown g4 B3.size (fun j e => (O3.lt j e).1); have c4 := cellP (HM.out).fr.cells.2 B4)
                  | (refine step_append_bs (by rfl) (.tmp 52) (.tmp 54) (by rfl) wc.heap.size (.slice (some ⟨w3.heap.size, 0, none⟩) 0 0) [] (by rfl) (made_now w3 wc.heap.size B3.size) (.slice (some ⟨b, o, none⟩) 5 cp) (L.take 5) (by rfl) (T5 _ (bel_past B3 (alloc_below w3 (.cells #[] 5)))).out h05 5 hp5 (by decide) (bel_past B3 (alloc_below w3 (.cells #[] 5))).size ?_; intro a4 q4 w4' o4 g4; rw [List.nil_append] at o4; have B4 := (bel_past B3 (alloc_below w3 (.cells #[] 5))).grown g4 (bel_past B3 (alloc_below w3 (.cells #[] 5))).size (fun j e => by have e2 : w3.heap.size = j := Option.some.inj e; have := B3.size; omega); have c4 := cellP (HM.out).fr.cells.2 B4)
                  | (refine step_append_any (by rfl) (.tmp 55) (.tmp 57) (by rfl) wc.heap.size (.slice a4 5 q4) (L.take 5) (by rfl) o4 (.slice a2 s c2) (dataOf L) (by rfl) (D2 _ B4).out hl5d.out B4.size ?_; intro v5 w5 o5 g5; have B5 := B4.grown g5 B4.size (fun j e => (o4.lt j e).1); have c5 := cellP (HM.out).fr.cells.2 B5)
                  | (refine step_append_any (by rfl) (.tmp 55) (.tmp 57) (by rfl) wc.heap.size (.slice a4 5 q4) (L.take 5) (by rfl) O3 (.slice a2 s c2) (dataOf L) (by rfl) (D2 _ B3).out hl5d.out B3.size ?_; intro v5 w5 o5 g5; have B5 := B3.grown g5 B3.size (fun j e => (O3.lt j e).1); have c5 := cellP (HM.out).fr.cells.2 B5)
                  | (go_at_call 18; refine ((SU _ _ (by first | (with_reducible exact o5.bs) | (with_reducible exact O3.bs))).out).mono ?_; rintro e w6 ⟨rfl, rfl⟩))
                all_goals
                  have R : Hid (MkF w1 _ E x (.slice a2 s c2) (dataOf L)) := Lib.hid ((HM.out).past B5)
                  clear B3 B4 B5 o4 o5 g4 g5 c3 c4 c5
                  go_wp2_with fail
                  go_meet
                  exact ⟨rfl, R⟩
              case rest =>
                obtain ⟨rfl, HM2⟩ := hcut
                clear c0 D0 DA cA OA T5 N2 SU D2 hz5 h9c h5c h9n h5n h05 hp5
                have hfz : fitsB L = decide (z1 = z2) := by rw [← HZ1.out, ← HZ2.out]; rfl
                by_cases hzz : z1 = z2
                · have HFZ := Lib.hid (show wholeB L = true by unfold wholeB; rw [HCP.out, hfz, decide_eq_true hzz]; rfl)
                  have hb : (z1 != z2) = false := by simp [hzz]
                  clear hfz hzz
                  obtain ⟨e0, e1⟩ := (HM2.out).fr.cells
                  have HX2 := Lib.hid (bel_past RP.out (HM2.out).bel)
                  have OW := Lib.hid (((HR.out).own.past HX2.out).past (alloc_below wc (.cells #[.int .i64 x, .slice a2 s c2] 46)))
                  obtain ⟨n0, n1⟩ := (FrBox.new 46 wc x (.slice a2 s c2)).cells
                  have N0 := Lib.hid n0
                  have N1 := Lib.hid n1
                  have hcnt := Lib.hid (show fs.length ≤ 1000000 by have := (HR.out).cnt; have := (HR.out).le; have := hN.out; have := HL.out; omega)
                  have hbs := Lib.hid ((bel_past (HR.out).bel (bel_past HX2.out (alloc_below wc (.cells #[.int .i64 x, .slice a2 s c2] 46)))).size)
                  have hkk : (k : Int) ≤ 1000000 := by have := HL.out; omega
                  have hss : (s : Int) ≤ 262144 := by omega
                  have HMA := Lib.hid ((HM2.out).past (alloc_below wc (.cells #[.int .i64 x, .slice a2 s c2] 46)))
                  have HXA := Lib.hid (bel_past HX2.out (alloc_below wc (.cells #[.int .i64 x, .slice a2 s c2] 46)))
                  have hmm2 := HMM.out
                  have hkm : k + 9 + s ≤ n := by omega
                  clear n0 n1 hmm2
                  go_wp2_with (at_builtin; refine wpList_append_f _ 46 32 Tryd.underlying32 (Or.inr rfl) rfl _ _ rfl w.heap.size _ vs fs rfl OW.out wc.heap.size (x, dataOf L) (.slice a2 s c2) rfl rfl N0.out N1.out hcnt.out hbs.out ?_)
                  intro v' w' hn hg
                  have R2 := Lib.hid ((HR.out).push RP.out HMA.out HXA.out hg hn (by rw [HLL.out]; exact HFZ.out) (by rw [HLL.out]; exact HSY.out) (by rw [HLL.out]; unfold theFr; rw [HX.out]))
                  obtain ⟨va, vc, hvs⟩ := hn.shape
                  obtain ⟨pn, hpn⟩ : ∃ pn, (fs ++ [(x, dataOf L)]).length = pn := ⟨_, rfl⟩
                  rw [hpn] at hvs
                  clear hn hg hpn
                  subst hvs
                  go_wp2_with fail
                  go_roundw
                  case rel => exact ⟨k + 9 + s, va, pn, vc, _, _, hkm, by go_num, rfl, R2⟩
                  case measure => simp [intOf]; omega
                · have HFZ := Lib.hid (show wholeB L = false by unfold wholeB; rw [HCP.out, hfz, decide_eq_false hzz]; rfl)
                  have HSZ := Lib.hid (show spoiltB L = true by unfold spoiltB; rw [HCP.out, hfz, decide_eq_false hzz]; simp)
                  have hb : (z1 != z2) = true := by simp [hzz]
                  have HPP := Lib.hid (bel_past RP.out (HM2.out).bel)
                  clear hfz hzz
                  go_wp2
                  refine bodyPost_ret (v := .tuple #[.slice a p c, .int .i64 k, .bool true]) (by simp [results, Tryd.results31, go_sem]) rfl ?_
                  exact (HR.out).answer HPP.out (by rw [HLL.out]; exact HFZ.out) (by rw [HLL.out]; exact HSZ.out)
    · have hd : decide (k < n) = false := by simpa using hlt
      have hk' : k = n := by omega
      subst hk'
      have HE := Lib.hid (show l.drop k = [] from List.drop_of_length_le (by have := hN.out; omega))
      go_wp2
      refine bodyPost_ret (v := .tuple #[.slice a p c, .int .i64 k, .bool false]) (by simp [results, Tryd.results31, go_sem]) rfl ?_
      exact (HR.out).answer (Below.refl _ _) (by rw [HE.out]; exact wholeB_nil) (by rw [HE.out]; exact spoiltB_nil)
end Go.Proofs.YtkiagnlpnphghaaDoor
