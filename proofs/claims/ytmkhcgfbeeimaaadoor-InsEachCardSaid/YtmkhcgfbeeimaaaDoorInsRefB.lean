/- The document's side: an instruction's eight bytes. -/
import Derived.Test.YtmkhcgfbeeimaaaDoorInsRef
import Derived.Test.YtmkhcgfbeeimaaaDoorInsPut
import Derived.BigQuiet
import Derived.Deep.DeepCutAuto
namespace Go.Proofs.YtmkhcgfbeeimaaaDoor
open Go.RowKit
set_option linter.unusedVariables false
set_option linter.unusedSimpArgs false
set_option maxRecDepth 100000

/-- e returns eight bytes in a block of their own. -/
def Eight (l : List Int) (w : World) (e : Ending) (w' : World) : Prop := ∃ g, e = .returned (.slice (some ⟨g, 0, none⟩) 8 8) ∧ Own w' w.heap.size (.slice (some ⟨g, 0, none⟩) 8 8) l ∧ Below w.heap.size w w'
theorem own_lit8 (w : World) (l : List Int) (h8 : l.length = 8) : Own (w.alloc (Obj.cells #[.int .u8 (nth l 0), .int .u8 (nth l 1), .int .u8 (nth l 2), .int .u8 (nth l 3), .int .u8 (nth l 4), .int .u8 (nth l 5), .int .u8 (nth l 6), .int .u8 (nth l 7)] 5)) w.heap.size (.slice (some ⟨w.heap.size, 0, none⟩) 8 8) l := by
  have e : bv l = [.int .u8 (nth l 0), .int .u8 (nth l 1), .int .u8 (nth l 2), .int .u8 (nth l 3), .int .u8 (nth l 4), .int .u8 (nth l 5), .int .u8 (nth l 6), .int .u8 (nth l 7)] := by
    match l, h8 with
    | [b0, b1, b2, b3, b4, b5, b6, b7], _ => rfl
  unfold Own
  rw [h8, e]
  exact ⟨rfl, .inr ⟨_, 8, _, rfl, Nat.le_refl _, heap_alloc_new w _, Nat.le_refl _, by unfold maxLen; decide, rfl, rfl⟩⟩

set_option maxHeartbeats 8000000 in
theorem refBytes (i : Ins) (h : right i = true) (w : World) : Calls Tryd.prog 39 #[agg i] w (Eight (enc i) w) := by
  have t := tame h
  have fb := first_bounds t
  obtain ⟨e0, e1, e2, e3, e4, e5, e6, e7⟩ := enc_nth i
  have L := fun W => own_lit8 W (enc i) (enc_length i)
  rw [e0, e1, e2, e3, e4, e5, e6, e7] at L
  have HL := Lib.hid L
  have HFB := Lib.hid fb
  clear e0 e1 e2 e3 e4 e5 e6 e7 L h fb
  generalize enc i = eb at *
  have hfi : first i = i.op + (if i.ui = true then 32 else 0) + (if i.nw = true then 64 else 0) + szb i.sz := rfl
  generalize hf : first i = f at *
  obtain ⟨op, nw, dst, src, ui, off, im, sz⟩ := i
  simp only at *
  have HFI := Lib.hid hfi
  have HT := Lib.hid t
  have hop : 1 ≤ op ∧ op ≤ 28 := ⟨t.op0, t.op1⟩
  have hsz := t.sz
  simp only at hsz
  have HSZ := Lib.hid hsz
  have HOP := Lib.hid hop
  clear hfi t hf hsz hop
  obtain ⟨a, ha⟩ : ∃ a : Int, a = op + (if ui = true then 32 else 0) := ⟨_, rfl⟩
  obtain ⟨c, hc⟩ : ∃ c : Int, c = a + (if nw = true then 64 else 0) := ⟨_, rfl⟩
  obtain ⟨y, hy⟩ : ∃ y, y = wrap off 65536 := ⟨_, rfl⟩
  obtain ⟨z, hz⟩ : ∃ z, z = wrap im 4294967296 := ⟨_, rfl⟩
  rw [← hy, ← hz] at HL
  have HA := Lib.hid ha
  have HC := Lib.hid hc
  have HY := Lib.hid hy
  have HZ := Lib.hid hz
  clear ha hc hy hz
  have B0 := Lib.hid (alloc_below w (Obj.cells #[.int .u8 op, .bool nw, .int .i64 dst, .int .i64 src, .bool ui, .int .i64 off, .int .i64 im, .int .i64 sz] 27))
  unfold agg
  simp only
  go_enter Tryd.func39, Tryd.ntmps39
  go_upto_if 10 with fail
  go_cut [3] (fun v0 wx => v0 = .int .i64 a ∧ wx = w.alloc (Obj.cells #[.int .u8 op, .bool nw, .int .i64 dst, .int .i64 src, .bool ui, .int .i64 off, .int .i64 im, .int .i64 sz] 27))
  case first =>
    cases ui with
    | false =>
      have e := HA.out
      simp only [Bool.false_eq_true, if_false, Int.add_zero] at e
      go_wp2_with fail
      go_meet
      refine ⟨?_, rfl⟩
      congr 1
      unfold wrap64; have := HOP.out; omega
    | true =>
      have e := HA.out
      simp only [if_true] at e
      go_wp2_with fail
      go_meet
      refine ⟨?_, rfl⟩
      congr 1
      unfold wrap64; have := HOP.out; omega
  case rest =>
  obtain ⟨rfl, rfl⟩ := hcut
  have HAB := Lib.hid (show 1 ≤ a ∧ a ≤ 60 by have h1 := HA.out; have h2 := HOP.out; cases ui <;> simp at h1 <;> omega)
  go_upto_if 14 with fail
  go_cut [3] (fun v0 wx => v0 = .int .i64 c ∧ wx = w.alloc (Obj.cells #[.int .u8 op, .bool nw, .int .i64 dst, .int .i64 src, .bool ui, .int .i64 off, .int .i64 im, .int .i64 sz] 27))
  case first =>
    cases nw with
    | false =>
      have e := HC.out
      simp only [Bool.false_eq_true, if_false, Int.add_zero] at e
      go_wp2_with fail
      go_meet
      refine ⟨?_, rfl⟩
      congr 1
      first | omega | (unfold wrap64; have := HAB.out; omega)
    | true =>
      have e := HC.out
      simp only [if_true] at e
      have hab := HAB.out
      go_wp2_with fail
      go_meet
      refine ⟨?_, rfl⟩
      congr 1
      first | omega | (unfold wrap64; omega)
  case rest =>
  obtain ⟨rfl, rfl⟩ := hcut
  have HCB := Lib.hid (show 1 ≤ c ∧ c ≤ 124 by have h1 := HC.out; have h2 := HAB.out; cases nw <;> simp at h1 <;> omega)
  have HF := Lib.hid (show f = c + szb sz by rw [HFI.out, HC.out, HA.out])
  have HYB := Lib.hid (show 0 ≤ y ∧ y < 65536 by rw [HY.out]; exact wrap_off (HT.out).off0 (HT.out).off1)
  have HZB := Lib.hid (show 0 ≤ z ∧ z < 4294967296 by rw [HZ.out]; exact wrap_im (HT.out).im0 (HT.out).im1)
  have HDS := Lib.hid (show 0 ≤ dst ∧ dst ≤ 10 ∧ 0 ≤ src ∧ src ≤ 10 from ⟨(HT.out).dst0, (HT.out).dst1, (HT.out).src0, (HT.out).src1⟩)
  have hcb := HCB.out
  have hsz5 : sz = 0 ∨ sz = 1 ∨ sz = 2 ∨ sz = 4 ∨ sz = 8 := by have := HSZ.out; omega
  rcases hsz5 with rfl | rfl | rfl | rfl | rfl
  · have hfv : f = c + 0 := by rw [HF.out]; rfl
    go_wp2_with fail
    go_quiet (fail)
    go_upto_if 36 with fail
    go_cut [4] (fun v0 wx => v0 = .int .i64 y ∧ wx = (w.alloc (Obj.cells #[.int .u8 op, .bool nw, .int .i64 dst, .int .i64 src, .bool ui, .int .i64 off, .int .i64 im, .int .i64 0] 27)).drewN nq)
    case first =>
      by_cases co : off < 0
      · have d : decide (off < 0) = true := by simpa using co
        have e := HY.out
        unfold wrap at e
        rw [if_pos co] at e
        have b1 := HT.out.off0
        have b2 := HT.out.off1
        simp only at b1 b2
        go_wp2_with fail
        go_meet
        refine ⟨?_, rfl⟩
        congr 1
        first | omega | (unfold wrap64; omega)
      · have d : decide (off < 0) = false := by simpa using co
        have e := HY.out
        unfold wrap at e
        rw [if_neg co] at e
        go_wp2_with fail
        go_meet
        exact ⟨by rw [e], rfl⟩
    case rest =>
    obtain ⟨rfl, rfl⟩ := hcut
    go_upto_if 40 with fail
    go_cut [5] (fun v0 wx => v0 = .int .i64 z ∧ wx = (w.alloc (Obj.cells #[.int .u8 op, .bool nw, .int .i64 dst, .int .i64 src, .bool ui, .int .i64 off, .int .i64 im, .int .i64 0] 27)).drewN nq)
    case first =>
      by_cases co : im < 0
      · have d : decide (im < 0) = true := by simpa using co
        have e := HZ.out
        unfold wrap at e
        rw [if_pos co] at e
        have b1 := HT.out.im0
        have b2 := HT.out.im1
        simp only at b1 b2
        go_wp2_with fail
        go_meet
        refine ⟨?_, rfl⟩
        congr 1
        first | omega | (unfold wrap64; omega)
      · have d : decide (im < 0) = false := by simpa using co
        have e := HZ.out
        unfold wrap at e
        rw [if_neg co] at e
        go_wp2_with fail
        go_meet
        exact ⟨by rw [e], rfl⟩
    case rest =>
    obtain ⟨rfl, rfl⟩ := hcut
    have y0 := (HYB.out).1
    have y1 := (HYB.out).2
    have z0 := (HZB.out).1
    have z1 := (HZB.out).2
    have t1 := (HDS.out).1
    have t2 := (HDS.out).2.1
    have t3 := (HDS.out).2.2.1
    have t4 := (HDS.out).2.2.2
    go_wp2_with fail
    have hWs : ((w.alloc (Obj.cells #[.int .u8 op, .bool nw, .int .i64 dst, .int .i64 src, .bool ui, .int .i64 off, .int .i64 im, .int .i64 0] 27)).drewN nq).heap.size = w.heap.size + 1 := by simp
    have L := HL.out ((w.alloc (Obj.cells #[.int .u8 op, .bool nw, .int .i64 dst, .int .i64 src, .bool ui, .int .i64 off, .int .i64 im, .int .i64 0] 27)).drewN nq)
    rw [hWs, show f = c from by omega] at L
    have B1 : Below w.heap.size w ((w.alloc (Obj.cells #[.int .u8 op, .bool nw, .int .i64 dst, .int .i64 src, .bool ui, .int .i64 off, .int .i64 im, .int .i64 0] 27)).drewN nq) := (alloc_below w _).trans (((Still.refl _).drewN nq).below _)
    go_ret
    exact ⟨w.heap.size + 1, rfl, L.mono (by omega), B1.alloc B1.size _⟩
  · have hfv : f = c + 0 := by rw [HF.out]; rfl
    go_wp2_with fail
    go_quiet (fail)
    go_upto_if 36 with fail
    go_cut [4] (fun v0 wx => v0 = .int .i64 y ∧ wx = (w.alloc (Obj.cells #[.int .u8 op, .bool nw, .int .i64 dst, .int .i64 src, .bool ui, .int .i64 off, .int .i64 im, .int .i64 1] 27)).drewN nq)
    case first =>
      by_cases co : off < 0
      · have d : decide (off < 0) = true := by simpa using co
        have e := HY.out
        unfold wrap at e
        rw [if_pos co] at e
        have b1 := HT.out.off0
        have b2 := HT.out.off1
        simp only at b1 b2
        go_wp2_with fail
        go_meet
        refine ⟨?_, rfl⟩
        congr 1
        first | omega | (unfold wrap64; omega)
      · have d : decide (off < 0) = false := by simpa using co
        have e := HY.out
        unfold wrap at e
        rw [if_neg co] at e
        go_wp2_with fail
        go_meet
        exact ⟨by rw [e], rfl⟩
    case rest =>
    obtain ⟨rfl, rfl⟩ := hcut
    go_upto_if 40 with fail
    go_cut [5] (fun v0 wx => v0 = .int .i64 z ∧ wx = (w.alloc (Obj.cells #[.int .u8 op, .bool nw, .int .i64 dst, .int .i64 src, .bool ui, .int .i64 off, .int .i64 im, .int .i64 1] 27)).drewN nq)
    case first =>
      by_cases co : im < 0
      · have d : decide (im < 0) = true := by simpa using co
        have e := HZ.out
        unfold wrap at e
        rw [if_pos co] at e
        have b1 := HT.out.im0
        have b2 := HT.out.im1
        simp only at b1 b2
        go_wp2_with fail
        go_meet
        refine ⟨?_, rfl⟩
        congr 1
        first | omega | (unfold wrap64; omega)
      · have d : decide (im < 0) = false := by simpa using co
        have e := HZ.out
        unfold wrap at e
        rw [if_neg co] at e
        go_wp2_with fail
        go_meet
        exact ⟨by rw [e], rfl⟩
    case rest =>
    obtain ⟨rfl, rfl⟩ := hcut
    have y0 := (HYB.out).1
    have y1 := (HYB.out).2
    have z0 := (HZB.out).1
    have z1 := (HZB.out).2
    have t1 := (HDS.out).1
    have t2 := (HDS.out).2.1
    have t3 := (HDS.out).2.2.1
    have t4 := (HDS.out).2.2.2
    go_wp2_with fail
    have hWs : ((w.alloc (Obj.cells #[.int .u8 op, .bool nw, .int .i64 dst, .int .i64 src, .bool ui, .int .i64 off, .int .i64 im, .int .i64 1] 27)).drewN nq).heap.size = w.heap.size + 1 := by simp
    have L := HL.out ((w.alloc (Obj.cells #[.int .u8 op, .bool nw, .int .i64 dst, .int .i64 src, .bool ui, .int .i64 off, .int .i64 im, .int .i64 1] 27)).drewN nq)
    rw [hWs, show f = c from by omega] at L
    have B1 : Below w.heap.size w ((w.alloc (Obj.cells #[.int .u8 op, .bool nw, .int .i64 dst, .int .i64 src, .bool ui, .int .i64 off, .int .i64 im, .int .i64 1] 27)).drewN nq) := (alloc_below w _).trans (((Still.refl _).drewN nq).below _)
    go_ret
    exact ⟨w.heap.size + 1, rfl, L.mono (by omega), B1.alloc B1.size _⟩
  · have hfv : f = c + 64 := by rw [HF.out]; rfl
    go_wp2_with fail
    go_quiet (fail)
    go_upto_if 36 with fail
    go_cut [4] (fun v0 wx => v0 = .int .i64 y ∧ wx = (w.alloc (Obj.cells #[.int .u8 op, .bool nw, .int .i64 dst, .int .i64 src, .bool ui, .int .i64 off, .int .i64 im, .int .i64 2] 27)).drewN nq)
    case first =>
      by_cases co : off < 0
      · have d : decide (off < 0) = true := by simpa using co
        have e := HY.out
        unfold wrap at e
        rw [if_pos co] at e
        have b1 := HT.out.off0
        have b2 := HT.out.off1
        simp only at b1 b2
        go_wp2_with fail
        go_meet
        refine ⟨?_, rfl⟩
        congr 1
        first | omega | (unfold wrap64; omega)
      · have d : decide (off < 0) = false := by simpa using co
        have e := HY.out
        unfold wrap at e
        rw [if_neg co] at e
        go_wp2_with fail
        go_meet
        exact ⟨by rw [e], rfl⟩
    case rest =>
    obtain ⟨rfl, rfl⟩ := hcut
    go_upto_if 40 with fail
    go_cut [5] (fun v0 wx => v0 = .int .i64 z ∧ wx = (w.alloc (Obj.cells #[.int .u8 op, .bool nw, .int .i64 dst, .int .i64 src, .bool ui, .int .i64 off, .int .i64 im, .int .i64 2] 27)).drewN nq)
    case first =>
      by_cases co : im < 0
      · have d : decide (im < 0) = true := by simpa using co
        have e := HZ.out
        unfold wrap at e
        rw [if_pos co] at e
        have b1 := HT.out.im0
        have b2 := HT.out.im1
        simp only at b1 b2
        go_wp2_with fail
        go_meet
        refine ⟨?_, rfl⟩
        congr 1
        first | omega | (unfold wrap64; omega)
      · have d : decide (im < 0) = false := by simpa using co
        have e := HZ.out
        unfold wrap at e
        rw [if_neg co] at e
        go_wp2_with fail
        go_meet
        exact ⟨by rw [e], rfl⟩
    case rest =>
    obtain ⟨rfl, rfl⟩ := hcut
    have y0 := (HYB.out).1
    have y1 := (HYB.out).2
    have z0 := (HZB.out).1
    have z1 := (HZB.out).2
    have t1 := (HDS.out).1
    have t2 := (HDS.out).2.1
    have t3 := (HDS.out).2.2.1
    have t4 := (HDS.out).2.2.2
    go_wp2_with fail
    have hWs : ((w.alloc (Obj.cells #[.int .u8 op, .bool nw, .int .i64 dst, .int .i64 src, .bool ui, .int .i64 off, .int .i64 im, .int .i64 2] 27)).drewN nq).heap.size = w.heap.size + 1 := by simp
    have L := HL.out ((w.alloc (Obj.cells #[.int .u8 op, .bool nw, .int .i64 dst, .int .i64 src, .bool ui, .int .i64 off, .int .i64 im, .int .i64 2] 27)).drewN nq)
    rw [hWs, show f = c + 64 from by omega] at L
    have B1 : Below w.heap.size w ((w.alloc (Obj.cells #[.int .u8 op, .bool nw, .int .i64 dst, .int .i64 src, .bool ui, .int .i64 off, .int .i64 im, .int .i64 2] 27)).drewN nq) := (alloc_below w _).trans (((Still.refl _).drewN nq).below _)
    go_ret
    exact ⟨w.heap.size + 1, rfl, L.mono (by omega), B1.alloc B1.size _⟩
  · have hfv : f = c + 128 := by rw [HF.out]; rfl
    go_wp2_with fail
    go_quiet (fail)
    go_upto_if 36 with fail
    go_cut [4] (fun v0 wx => v0 = .int .i64 y ∧ wx = (w.alloc (Obj.cells #[.int .u8 op, .bool nw, .int .i64 dst, .int .i64 src, .bool ui, .int .i64 off, .int .i64 im, .int .i64 4] 27)).drewN nq)
    case first =>
      by_cases co : off < 0
      · have d : decide (off < 0) = true := by simpa using co
        have e := HY.out
        unfold wrap at e
        rw [if_pos co] at e
        have b1 := HT.out.off0
        have b2 := HT.out.off1
        simp only at b1 b2
        go_wp2_with fail
        go_meet
        refine ⟨?_, rfl⟩
        congr 1
        first | omega | (unfold wrap64; omega)
      · have d : decide (off < 0) = false := by simpa using co
        have e := HY.out
        unfold wrap at e
        rw [if_neg co] at e
        go_wp2_with fail
        go_meet
        exact ⟨by rw [e], rfl⟩
    case rest =>
    obtain ⟨rfl, rfl⟩ := hcut
    go_upto_if 40 with fail
    go_cut [5] (fun v0 wx => v0 = .int .i64 z ∧ wx = (w.alloc (Obj.cells #[.int .u8 op, .bool nw, .int .i64 dst, .int .i64 src, .bool ui, .int .i64 off, .int .i64 im, .int .i64 4] 27)).drewN nq)
    case first =>
      by_cases co : im < 0
      · have d : decide (im < 0) = true := by simpa using co
        have e := HZ.out
        unfold wrap at e
        rw [if_pos co] at e
        have b1 := HT.out.im0
        have b2 := HT.out.im1
        simp only at b1 b2
        go_wp2_with fail
        go_meet
        refine ⟨?_, rfl⟩
        congr 1
        first | omega | (unfold wrap64; omega)
      · have d : decide (im < 0) = false := by simpa using co
        have e := HZ.out
        unfold wrap at e
        rw [if_neg co] at e
        go_wp2_with fail
        go_meet
        exact ⟨by rw [e], rfl⟩
    case rest =>
    obtain ⟨rfl, rfl⟩ := hcut
    have y0 := (HYB.out).1
    have y1 := (HYB.out).2
    have z0 := (HZB.out).1
    have z1 := (HZB.out).2
    have t1 := (HDS.out).1
    have t2 := (HDS.out).2.1
    have t3 := (HDS.out).2.2.1
    have t4 := (HDS.out).2.2.2
    go_wp2_with fail
    have hWs : ((w.alloc (Obj.cells #[.int .u8 op, .bool nw, .int .i64 dst, .int .i64 src, .bool ui, .int .i64 off, .int .i64 im, .int .i64 4] 27)).drewN nq).heap.size = w.heap.size + 1 := by simp
    have L := HL.out ((w.alloc (Obj.cells #[.int .u8 op, .bool nw, .int .i64 dst, .int .i64 src, .bool ui, .int .i64 off, .int .i64 im, .int .i64 4] 27)).drewN nq)
    rw [hWs, show f = c + 128 from by omega] at L
    have B1 : Below w.heap.size w ((w.alloc (Obj.cells #[.int .u8 op, .bool nw, .int .i64 dst, .int .i64 src, .bool ui, .int .i64 off, .int .i64 im, .int .i64 4] 27)).drewN nq) := (alloc_below w _).trans (((Still.refl _).drewN nq).below _)
    go_ret
    exact ⟨w.heap.size + 1, rfl, L.mono (by omega), B1.alloc B1.size _⟩
  · have hfv : f = c + 192 := by rw [HF.out]; rfl
    have hc63 : c ≤ 63 := by have := HFB.out; omega
    go_wp2_with fail
    go_quiet (fail)
    go_upto_if 36 with fail
    go_cut [4] (fun v0 wx => v0 = .int .i64 y ∧ wx = (w.alloc (Obj.cells #[.int .u8 op, .bool nw, .int .i64 dst, .int .i64 src, .bool ui, .int .i64 off, .int .i64 im, .int .i64 8] 27)).drewN nq)
    case first =>
      by_cases co : off < 0
      · have d : decide (off < 0) = true := by simpa using co
        have e := HY.out
        unfold wrap at e
        rw [if_pos co] at e
        have b1 := HT.out.off0
        have b2 := HT.out.off1
        simp only at b1 b2
        go_wp2_with fail
        go_meet
        refine ⟨?_, rfl⟩
        congr 1
        first | omega | (unfold wrap64; omega)
      · have d : decide (off < 0) = false := by simpa using co
        have e := HY.out
        unfold wrap at e
        rw [if_neg co] at e
        go_wp2_with fail
        go_meet
        exact ⟨by rw [e], rfl⟩
    case rest =>
    obtain ⟨rfl, rfl⟩ := hcut
    go_upto_if 40 with fail
    go_cut [5] (fun v0 wx => v0 = .int .i64 z ∧ wx = (w.alloc (Obj.cells #[.int .u8 op, .bool nw, .int .i64 dst, .int .i64 src, .bool ui, .int .i64 off, .int .i64 im, .int .i64 8] 27)).drewN nq)
    case first =>
      by_cases co : im < 0
      · have d : decide (im < 0) = true := by simpa using co
        have e := HZ.out
        unfold wrap at e
        rw [if_pos co] at e
        have b1 := HT.out.im0
        have b2 := HT.out.im1
        simp only at b1 b2
        go_wp2_with fail
        go_meet
        refine ⟨?_, rfl⟩
        congr 1
        first | omega | (unfold wrap64; omega)
      · have d : decide (im < 0) = false := by simpa using co
        have e := HZ.out
        unfold wrap at e
        rw [if_neg co] at e
        go_wp2_with fail
        go_meet
        exact ⟨by rw [e], rfl⟩
    case rest =>
    obtain ⟨rfl, rfl⟩ := hcut
    have y0 := (HYB.out).1
    have y1 := (HYB.out).2
    have z0 := (HZB.out).1
    have z1 := (HZB.out).2
    have t1 := (HDS.out).1
    have t2 := (HDS.out).2.1
    have t3 := (HDS.out).2.2.1
    have t4 := (HDS.out).2.2.2
    go_wp2_with fail
    have hWs : ((w.alloc (Obj.cells #[.int .u8 op, .bool nw, .int .i64 dst, .int .i64 src, .bool ui, .int .i64 off, .int .i64 im, .int .i64 8] 27)).drewN nq).heap.size = w.heap.size + 1 := by simp
    have L := HL.out ((w.alloc (Obj.cells #[.int .u8 op, .bool nw, .int .i64 dst, .int .i64 src, .bool ui, .int .i64 off, .int .i64 im, .int .i64 8] 27)).drewN nq)
    rw [hWs, show f = c + 192 from by omega] at L
    have B1 : Below w.heap.size w ((w.alloc (Obj.cells #[.int .u8 op, .bool nw, .int .i64 dst, .int .i64 src, .bool ui, .int .i64 off, .int .i64 im, .int .i64 8] 27)).drewN nq) := (alloc_below w _).trans (((Still.refl _).drewN nq).below _)
    go_ret
    exact ⟨w.heap.size + 1, rfl, L.mono (by omega), B1.alloc B1.size _⟩
end Go.Proofs.YtmkhcgfbeeimaaaDoor
