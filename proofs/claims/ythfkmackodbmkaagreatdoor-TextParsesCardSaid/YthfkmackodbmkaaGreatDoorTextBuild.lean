/- A builder of the call's own: what is written into it. -/
import Derived.Test.YthfkmackodbmkaaGreatDoorTextLineOf
import Derived.Shelf.Strings.Builder1
namespace Go.Proofs.YthfkmackodbmkaaGreatDoor
open Go.RowKit
set_option linter.unusedVariables false
set_option linter.unusedSimpArgs false
set_option maxRecDepth 100000
set_option maxHeartbeats 2000000

theorem sizeBuilder : ∃ j, Tryz.prog.info? 93 = some j ∧ j.size = 2 := ⟨_, rfl, rfl⟩
theorem copy_used (b : Nat) (w : World) (h0 : w.cell? ⟨b, 0, none⟩ = some (.pointer (some ⟨b, 0, none⟩))) :
    Calls Tryz.prog 95 #[.pointer (some ⟨b, 0, none⟩)] w fun e w' => e = .returned (.tuple #[]) ∧ w' = w := by
  obtain ⟨j, hj, _⟩ := sizeBuilder
  go_enter Tryz.func95, Tryz.ntmps95
  go_wp2
  rw [Lib.run_neq_ptr_same w _ Tryz.underlying91 hj]
  go_wp2
  go_end0
  exact ⟨rfl, rfl⟩
theorem copy_fresh (b : Nat) (w : World) (h0 : w.cell? ⟨b, 0, none⟩ = some (.pointer none)) (hsh : w.shape? b = some (93, 2)) (hfz : w.frozen? ⟨b, 0, none⟩ = false) :
    Calls Tryz.prog 95 #[.pointer (some ⟨b, 0, none⟩)] w fun e w' => e = .returned (.tuple #[]) ∧ w' = w.setCell ⟨b, 0, none⟩ (.pointer (some ⟨b, 0, none⟩)) := by
  obtain ⟨j, hj, hjs⟩ := sizeBuilder
  go_enter Tryz.func95, Tryz.ntmps95
  go_wp2
  rw [Lib.run_to_unsafe w ⟨b, 0, none⟩ Tryz.underlying91 Tryz.underlying274 hj (by rw [hjs]; decide) hsh (Nat.zero_lt_succ 1)]
  simp only [Result.andThen]
  rw [Oper.upon_value]
  go_wp2
  rw [run_callFunc_extern Tryz.func168 (by kernel_rfl) (by kernel_rfl) (by kernel_rfl) (e := Extern.AbiNoEscape.same) (by kernel_rfl)]
  rw [Lib.run_noEscape]
  simp only [Result.andThen]
  rw [Oper.upon_value]
  go_wp2
  rw [Lib.run_from_unsafe w ⟨b, 0, none⟩ Tryz.underlying274 Tryz.underlying91 hj hsh (by kernel_rfl)]
  simp only [Result.andThen]
  rw [Oper.upon_value]
  go_wp2
  go_end0
  exact ⟨rfl, rfl⟩
theorem copyP (B b : Nat) (bs : List Value) (w : World) (h : Lib.IsBuilder 93 5 B b bs w) :
    Calls Tryz.prog 95 #[.pointer (some ⟨b, 0, none⟩)] w fun e w' => e = .returned (.tuple #[]) ∧ (Lib.BuilderAt 93 5 B b (.pointer (some ⟨b, 0, none⟩)) bs w' ∧ Below B w w') := by
  rcases h with h | h
  · refine (copy_fresh b w h.cell0 h.shape h.frozen0).mono ?_
    rintro e w' ⟨rfl, rfl⟩
    exact ⟨rfl, h.used _, (Below.refl B w).setCell (p := ⟨b, 0, none⟩) h.1 _⟩
  · refine (copy_used b w h.cell0).mono ?_
    rintro e w' ⟨rfl, rfl⟩
    exact ⟨rfl, h, Below.refl B _⟩
theorem writeP (B b : Nat) (bs : List Value) (x : Str) (w : World) (h : Lib.IsBuilder 93 5 B b bs w) (hlen : bs.length + x.length ≤ 140737488355328) (hBw : B ≤ w.heap.size) :
    Calls Tryz.prog 34 #[.pointer (some ⟨b, 0, none⟩), str x] w fun e w' => e = .returned (.tuple #[.int .i64 x.length, .nilIface]) ∧ (Lib.BuilderAt 93 5 B b (.pointer (some ⟨b, 0, none⟩)) (bs ++ Lib.strCells ⟨x.toArray⟩) w' ∧ Below B w w') := by
  obtain ⟨i0, hi, hz0, hz1, hz2⟩ := u8info
  have CP := copyP B b bs w h
  have hx : (⟨x.toArray⟩ : ByteArray).size = x.length := by simp [ByteArray.size]
  clear h
  go_enter Tryz.func34, Tryz.ntmps34
  go_wp2_with fail
  refine CP.mono ?_
  rintro e w1 ⟨rfl, h1, hb1⟩
  obtain ⟨hB, v, hbk, hown, hne⟩ := h1
  have c0 : w1.cell? ⟨b, 0, none⟩ = some (.pointer (some ⟨b, 0, none⟩)) := by rw [Lib.cell_of_heap hbk]; rfl
  have c1 : w1.cell? ⟨b, 1, none⟩ = some v := by rw [Lib.cell_of_heap hbk]; rfl
  go_wp2_with (at_builtin; refine Lib.wpList_append_own_string _ rfl _ _ 42 9 rfl B 5 i0 Tryz.underlying42 Tryz.underlying9 hi hz0 hz1 hz2 _ _ _ rfl hown ⟨x.toArray⟩ rfl ?c3 ?c4 ?c5 ?_)
  case c3 => unfold maxLen; omega
  case c4 => omega
  case c5 => have := hb1.size; omega
  intro v' w2 hown' hgrow _
  have hlt : b < w1.heap.size := (Array.getElem?_eq_some_iff.1 hbk).1
  have hb2 : w2.heap[b]? = some (.cells #[.pointer (some ⟨b, 0, none⟩), v] 93 (0, 0)) := by
    rw [hgrow.block b hlt (fun e => hne e.symm)]
    exact hbk
  have d0 : w2.cell? ⟨b, 0, none⟩ = some (.pointer (some ⟨b, 0, none⟩)) := by rw [Lib.cell_of_heap hb2]; rfl
  have d1 : w2.cell? ⟨b, 1, none⟩ = some v := by rw [Lib.cell_of_heap hb2]; rfl
  have f1 : w2.frozen? ⟨b, 1, none⟩ = false := Lib.frozen_of_heap hb2 1
  obtain ⟨ao, n', cap, rfl⟩ : ∃ ao n' cap, v' = .slice ao n' cap := by
    rcases hown'.2 with ⟨hv, _⟩ | ⟨g, cap, cur, hv, _⟩
    · exact ⟨_, _, _, hv⟩
    · exact ⟨_, _, _, hv⟩
  clear CP
  go_wp2
  go_ret2
  refine ⟨rfl, ?_, ?_⟩
  · exact Lib.BuilderAt.put (T := 93) (e := 5) hB hb2 (bs' := bs ++ Lib.strCells ⟨x.toArray⟩) (by rw [List.length_append, Lib.strCells_length, hx]; exact hown') (by decide)
  · exact (hb1.grown hgrow (by have := hb1.size; omega) (fun k hk => (hown.lt k hk).1)).setCell (p := ⟨b, 1, none⟩) hB _
theorem oneS_len (i : Ins) (h : right i = true) : (oneS i).length ≤ 400 := by
  have sm := small h
  have h1 := nameOf_len i sm
  obtain ⟨hpl, hp3⟩ := partsS_len i sm
  have h2 := joinS_len (partsS i) 50 hpl
  have h3 : (partsS i).length * 52 ≤ 3 * 52 := Nat.mul_le_mul_right _ hp3
  unfold oneS bareS
  split
  · simp; omega
  · simp; omega
theorem textS_len : ∀ l : List Ins, l.all right = true → (textS l).length ≤ l.length * 400
  | [], _ => by simp [textS]
  | i :: l, h => by
    simp only [List.all_cons, Bool.and_eq_true] at h
    have h1 := oneS_len i h.1
    have h2 := textS_len l h.2
    simp only [textS, List.map_cons, List.flatten_cons, List.length_append, List.length_cons] at h2 ⊢
    rw [Nat.succ_mul]
    omega
theorem showP (v : Value) (l : List Ins) (w : World) (h : Inss w v l) (wf : ∀ k, k < l.length → InsWf (ith l k)) (L : Lay w) :
    Calls Tryz.prog 13 #[v] w fun e w' => e = .returned (.tuple #[str (showL l).1, .int .i64 (showL l).2]) ∧ Below w.heap.size w w' := by
  have hlen := h.len
  obtain ⟨ao, cap, rfl⟩ := h.shape
  obtain ⟨R0, hR0⟩ : ∃ R0, R0 = showL l := ⟨_, rfl⟩
  rw [← hR0]
  by_cases hbig : 4096 < l.length
  · have hd : decide ((4096 : Int) < l.length) = true := by simp; omega
    have e : R0 = ([], 3) := by rw [hR0]; unfold showL; rw [if_pos hbig]
    subst e
    clear h wf L hR0
    go_enter Tryz.func13, Tryz.ntmps13
    go_wp2_with fail
    go_ret2
    exact ⟨rfl, Below.refl _ _⟩
  · have hd : decide ((4096 : Int) < l.length) = false := by simp; omega
    have hn := Lib.hid hbig
    have HH := Lib.hid h
    have HWF := Lib.hid wf
    have HL := Lib.hid L
    have e1 : R0 = if l.all right then (textS l, 0) else ([], 4) := by rw [hR0]; unfold showL; rw [if_neg hbig]
    have HR := Lib.hid e1
    have bB := alloc_below w (.cells #[.pointer none, .slice none 0 0] 93)
    have hb := heap_alloc_new w (.cells #[.pointer none, .slice none 0 0] 93)
    have IB : Lib.IsBuilder 93 5 w.heap.size w.heap.size (Lib.byteCells (textS (l.take 0))) (w.alloc (.cells #[.pointer none, .slice none 0 0] 93)) :=
      .inl ⟨Nat.le_refl _, _, hb, World.ownsRow_nil _ _ _ _, by simp [Value.ownBlock]⟩
    have HIB := Lib.hid IB
    have HBB := Lib.hid bB
    clear h wf L hR0 e1 bB hb IB hbig
    go_enter Tryz.func13, Tryz.ntmps13
    go_wp2_with fail
    generalize w.alloc (.cells #[.pointer none, .slice none 0 0] 93) = W0 at *
    go_loopw [12] (fun i wr => ∃ k : Nat, k ≤ l.length ∧ i = .int .i64 k ∧ Hid ((l.take k).all right = true) ∧ Hid (Lib.IsBuilder 93 5 w.heap.size w.heap.size (Lib.byteCells (textS (l.take k))) wr) ∧ Hid (Below w.heap.size w wr)) (fun i _ => l.length - (intOf i).toNat)
    case atStart => exact ⟨0, Nat.zero_le _, rfl, Lib.hid rfl, HIB, HBB⟩
    case round =>
      obtain ⟨k, hk, rfl, HA, HI, HB⟩ := hrel
      by_cases hlt : k < l.length
      · have hd2 : decide (k < l.length) = true := by simpa using hlt
        have k0 : 0 ≤ (k : Int) := by omega
        have k1 : (k : Int) < (l.length : Int) := by omega
        obtain ⟨b, off, c, hsh, -, -, -, cells⟩ := (HH.out).at (by omega)
        have hao : ao = some ⟨b, off, none⟩ := by cases hsh; rfl
        subst hao
        have A8 := (cells k hlt).past HB.out
        have wf := HWF.out k hlt
        have RI := Lib.hid (rightP (ith l k) wf.op0 wf.op1)
        have LO := Lib.hid (fun (h : right (ith l k) = true) W LW => lineOfP (ith l k) h W LW)
        have HTK := Lib.hid (take_ith (l := l) (k := k) hlt)
        have HRF := Lib.hid (fun (h : right (ith l k) = false) => show l.all right = false from by
          cases hq : l.all right with
          | false => rfl
          | true =>
            rw [List.all_eq_true] at hq
            have hm : ith l k ∈ l := by unfold ith; rw [List.getD_eq_getElem?_getD, List.getElem?_eq_getElem hlt]; exact List.getElem_mem hlt
            rw [hq _ hm] at h; cases h)
        clear cells hsh wf
        generalize ith l k = x at A8 RI LO HTK HRF
        obtain ⟨xo, xn, xd, xs, xu, xf, xm, xz⟩ := x
        obtain ⟨x0, x1, x2, x3, x4, x5, x6, x7⟩ := A8
        unfold agg at RI LO
        simp only at x0 x1 x2 x3 x4 x5 x6 x7 RI LO
        have O1 := Lib.hid (oc_new wr 47 (.int .u8 xo) (.bool xn) (.int .i64 xd) (.int .i64 xs) (.bool xu) (.int .i64 xf) (.int .i64 xm) (.int .i64 xz))
        have bX := alloc_below wr (.cells #[.int .u8 xo, .bool xn, .int .i64 xd, .int .i64 xs, .bool xu, .int .i64 xf, .int .i64 xm, .int .i64 xz] 47)
        have B1 := Lib.hid ((HB.out).trans (bX.mono (HB.out).size))
        have HBX := Lib.hid bX
        clear bX
        go_wp2_with fail
        refine ((RI.out) _).mono ?_; rintro e w2 ⟨rfl, b2⟩
        have O2 := Lib.hid ((O1.out).past b2)
        have B2 := Lib.hid ((B1.out).trans (b2.mono (B1.out).size))
        have HB2 := Lib.hid b2
        clear b2 x0 x1 x2 x3 x4 x5 x6 x7
        obtain ⟨r0, r1, r2, r3, r4, r5, r6, r7⟩ := (O2.out).cells
        cases hr : right ⟨xo, xn, xd, xs, xu, xf, xm, xz⟩ with
        | false =>
          have HE := Lib.hid (show R0 = ([], 4) by rw [HR.out, HRF.out hr]; rfl)
          go_wp2_with fail
          go_ret2
          exact ⟨by rw [HE.out]; rfl, B2.out⟩
        | true =>
          have LI := Lib.hid (LO.out hr w2 ((HL.out).past (show Below w.heap.size w w2 from B2.out)))
          have HA2 := Lib.hid (show (l.take (k + 1)).all right = true by rw [HTK.out, List.all_append, HA.out]; simp [hr])
          have HT2 := Lib.hid (show textS (l.take (k + 1)) = textS (l.take k) ++ oneS ⟨xo, xn, xd, xs, xu, xf, xm, xz⟩ by rw [HTK.out]; simp [textS])
          have HLN := Lib.hid (show (textS (l.take k)).length + (oneS ⟨xo, xn, xd, xs, xu, xf, xm, xz⟩).length ≤ 10000000 by
            have h1 := textS_len _ HA.out
            have h2 := oneS_len _ hr
            have h3 : (l.take k).length ≤ 4096 := by rw [List.length_take]; have := hn.out; omega
            have h4 : (l.take k).length * 400 ≤ 4096 * 400 := Nat.mul_le_mul_right _ h3
            omega)
          generalize oneS ⟨xo, xn, xd, xs, xu, xf, xm, xz⟩ = os at LI HT2 HLN
          clear LO HRF RI
          go_wp2_with fail
          refine (LI.out).mono ?_; rintro e w3 ⟨rfl, b3⟩
          have B3 := Lib.hid ((B2.out).trans (b3.mono (B2.out).size))
          have I3 : Lib.IsBuilder 93 5 w.heap.size w.heap.size (Lib.byteCells (textS (l.take k))) w3 := by
            have bb : Below wr.heap.size wr w3 := (HBX.out).trans (((HB2.out).mono (HBX.out).size).trans (b3.mono (Nat.le_trans (HBX.out).size (HB2.out).size)))
            have tr : ∀ p, Lib.BuilderAt 93 5 w.heap.size w.heap.size p (Lib.byteCells (textS (l.take k))) wr → Lib.BuilderAt 93 5 w.heap.size w.heap.size p (Lib.byteCells (textS (l.take k))) w3 := by
              rintro p ⟨h1, v, h2, h3, h4⟩
              exact ⟨h1, v, (bb.block _ (Array.getElem?_eq_some_iff.1 h2).1).trans h2, World.ownsRow.kept h3 (row := none) ⟨bb.os, bb.tape, bb.output, bb.size, fun k hk _ => bb.block k hk⟩ (by cases v.ownBlock <;> simp), h4⟩
            rcases HI.out with h | h
            · exact .inl (tr _ h)
            · exact .inr (tr _ h)
          have WS := Lib.hid (writeP w.heap.size w.heap.size _ os w3 I3 (by have := HLN.out; simp [Lib.byteCells]; omega) (B3.out).size)
          clear b3 I3 r0 r1 r2 r3 r4 r5 r6 r7
          go_wp2_with fail
          refine (WS.out).mono ?_; rintro e w4 ⟨rfl, hbd, b4⟩
          have B4 := Lib.hid ((B3.out).trans b4)
          have I4 := Lib.hid (show Lib.IsBuilder 93 5 w.heap.size w.heap.size (Lib.byteCells (textS (l.take (k + 1)))) w4 from .inr (by rw [HT2.out]; simpa [Lib.byteCells, Lib.strCells] using hbd))
          clear b4 hbd
          have n1 : (k : Int) + 1 ≤ 9223372036854775807 := by omega
          go_wp2_with fail
          go_roundw
          case rel => exact ⟨k + 1, by omega, by go_num, HA2, I4, B4⟩
          case measure =>
            simp only [intOf]
            omega
      · have hd2 : decide (k < l.length) = false := by simpa using hlt
        have hkn : k = l.length := by omega
        have hA := HA.out
        have hI := HI.out
        rw [hkn, List.take_length] at hA hI
        have HE := Lib.hid (show R0 = (textS l, 0) by rw [HR.out, if_pos hA])
        have ST := Lib.hid (Tryz.Builder_String_any w.heap.size w.heap.size (textS l) wr hI (HB.out).size)
        clear hA hI
        go_wp2_with fail
        refine (ST.out).mono ?_; rintro e w4 ⟨rfl, b4⟩
        have B4 := Lib.hid ((HB.out).trans b4)
        clear b4
        go_wp2_with fail
        go_ret2
        exact ⟨by rw [HE.out]; rfl, B4.out⟩
end Go.Proofs.YthfkmackodbmkaaGreatDoor
