/- The document's side: what is right. -/
import Derived.Test.YthfkmackodbmkaaGreatDoorInsRight
namespace Go.Proofs.YthfkmackodbmkaaGreatDoor
open Go.RowKit
set_option linter.unusedVariables false
set_option linter.unusedSimpArgs false
set_option maxRecDepth 100000
attribute [local go_sem high] eql_cells

set_option maxHeartbeats 2000000 in
theorem refTarget (n : Int) (w : World) : Calls Tryz.prog 97 #[.int .i64 n] w fun e w' => e = .returned (.bool (isT n)) ∧ w' = w := by
  unfold isT
  go_enter Tryz.func97, Tryz.ntmps97
  by_cases c : 0 ≤ n
  · have d : decide (0 ≤ n) = true := by simpa using c
    rw [d]
    go_wp2_with fail
    go_ret
    exact ⟨rfl, rfl⟩
  · have d : decide (0 ≤ n) = false := by simpa using c
    rw [d]
    go_wp2_with fail
    go_ret
    exact ⟨rfl, rfl⟩
set_option maxHeartbeats 2000000 in
theorem refRegister (n : Int) (w : World) : Calls Tryz.prog 99 #[.int .i64 n] w fun e w' => e = .returned (.bool (isR n)) ∧ w' = w := by
  unfold isR
  go_enter Tryz.func99, Tryz.ntmps99
  by_cases c : 0 ≤ n
  · have d : decide (0 ≤ n) = true := by simpa using c
    rw [d]
    go_wp2_with fail
    go_ret
    exact ⟨rfl, rfl⟩
  · have d : decide (0 ≤ n) = false := by simpa using c
    rw [d]
    go_wp2_with fail
    go_ret
    exact ⟨rfl, rfl⟩

set_option maxHeartbeats 4000000 in
theorem refFar (i : Ins) (w : World) : Calls Tryz.prog 100 #[agg i] w (Says (farI i) w) := by
  obtain ⟨op, nw, dst, src, ui, off, im, sz⟩ := i
  have B0 := Lib.hid (alloc_below w (Obj.cells #[.int .u8 op, .bool nw, .int .i64 dst, .int .i64 src, .bool ui, .int .i64 off, .int .i64 im, .int .i64 sz] 47))
  obtain ⟨F, hF⟩ : ∃ F, F = farI ⟨op, nw, dst, src, ui, off, im, sz⟩ := ⟨_, rfl⟩
  rw [← hF]
  have HF := Lib.hid hF
  clear hF
  unfold agg
  go_enter Tryz.func100, Tryz.ntmps100
  by_cases c : -32768 ≤ off
  · have d : decide (-32768 ≤ off) = true := by simpa using c
    go_wp2_with fail
    go_ret
    exact ⟨ret_bool (by rw [HF.out]; first | (simp [farI, c]; done) | (simp [farI, c]; first | omega | rfl)), B0.out⟩
  · have d : decide (-32768 ≤ off) = false := by simpa using c
    go_wp2_with fail
    go_ret
    exact ⟨ret_bool (by rw [HF.out]; first | (simp [farI, d]; done) | (simp [farI, d]; first | omega | rfl)), B0.out⟩

set_option maxHeartbeats 4000000 in
theorem refCond (i : Ins) (w : World) : Calls Tryz.prog 102 #[agg i] w (Says (condI i) w) := by
  obtain ⟨op, nw, dst, src, ui, off, im, sz⟩ := i
  have B0 := Lib.hid (alloc_below w (Obj.cells #[.int .u8 op, .bool nw, .int .i64 dst, .int .i64 src, .bool ui, .int .i64 off, .int .i64 im, .int .i64 sz] 47))
  obtain ⟨F, hF⟩ : ∃ F, F = condI ⟨op, nw, dst, src, ui, off, im, sz⟩ := ⟨_, rfl⟩
  rw [← hF]
  have HF := Lib.hid hF
  clear hF
  unfold agg
  go_enter Tryz.func102, Tryz.ntmps102
  by_cases c : 17 ≤ op
  · have d : decide (17 ≤ op) = true := by simpa using c
    go_wp2_with fail
    go_ret
    exact ⟨ret_bool (by rw [HF.out]; first | (simp [condI, c]; done) | (simp [condI, c]; first | omega | rfl)), B0.out⟩
  · have d : decide (17 ≤ op) = false := by simpa using c
    go_wp2_with fail
    go_ret
    exact ⟨ret_bool (by rw [HF.out]; first | (simp [condI, d]; done) | (simp [condI, d]; first | omega | rfl)), B0.out⟩

set_option maxHeartbeats 4000000 in
theorem refSized (i : Ins) (w : World) : Calls Tryz.prog 101 #[agg i] w (Says (okSize i.sz) w) := by
  obtain ⟨op, nw, dst, src, ui, off, im, sz⟩ := i
  have B0 := Lib.hid (alloc_below w (Obj.cells #[.int .u8 op, .bool nw, .int .i64 dst, .int .i64 src, .bool ui, .int .i64 off, .int .i64 im, .int .i64 sz] 47))
  obtain ⟨F, hF⟩ : ∃ F, F = okSize sz := ⟨_, rfl⟩
  rw [← hF]
  have HF := Lib.hid hF
  clear hF
  unfold agg
  go_enter Tryz.func101, Tryz.ntmps101
  by_cases c0 : sz = 1
  · subst c0
    go_wp2_with fail
    go_ret
    exact ⟨ret_bool (by rw [HF.out]; rfl), B0.out⟩
  by_cases c1 : sz = 2
  · subst c1
    go_wp2_with fail
    go_ret
    exact ⟨ret_bool (by rw [HF.out]; rfl), B0.out⟩
  by_cases c2 : sz = 4
  · subst c2
    go_wp2_with fail
    go_ret
    exact ⟨ret_bool (by rw [HF.out]; rfl), B0.out⟩
  by_cases c3 : sz = 8
  · subst c3
    go_wp2_with fail
    go_ret
    exact ⟨ret_bool (by rw [HF.out]; rfl), B0.out⟩
  have e0 : decide (sz = 1) = false := by simpa using c0
  have e1 : decide (sz = 2) = false := by simpa using c1
  have e2 : decide (sz = 4) = false := by simpa using c2
  have e3 : decide (sz = 8) = false := by simpa using c3
  go_wp2_with fail
  go_ret
  exact ⟨ret_bool (by rw [HF.out]; first | (simp [okSize, c0, c1, c2, c3]; done) | (simp [okSize, c0, c1, c2, c3]; first | omega | rfl)), B0.out⟩

set_option maxHeartbeats 4000000 in
theorem refSecond (i : Ins) (w : World) : Calls Tryz.prog 98 #[agg i] w (Says (second i) w) := by
  obtain ⟨op, nw, dst, src, ui, off, im, sz⟩ := i
  have B0 := Lib.hid (alloc_below w (Obj.cells #[.int .u8 op, .bool nw, .int .i64 dst, .int .i64 src, .bool ui, .int .i64 off, .int .i64 im, .int .i64 sz] 47))
  obtain ⟨F, hF⟩ : ∃ F, F = second ⟨op, nw, dst, src, ui, off, im, sz⟩ := ⟨_, rfl⟩
  rw [← hF]
  have HF := Lib.hid hF
  clear hF
  unfold agg
  go_enter Tryz.func98, Tryz.ntmps98
  cases ui with
  | true =>
    by_cases c1 : src = 0
    case neg =>
      have d1 : decide (src = 0) = false := by simpa using c1
      go_wp2_with fail
      go_ret
      exact ⟨ret_bool (by rw [HF.out]; first | (simp [second, c1]; done) | (simp [second, c1]; first | omega | rfl)), B0.out⟩
    subst c1
    by_cases c2 : -2147483648 ≤ im
    case neg =>
      have d2 : decide (-2147483648 ≤ im) = false := by simpa using c2
      go_wp2_with fail
      go_ret
      exact ⟨ret_bool (by rw [HF.out]; first | (simp [second, c2]; done) | (simp [second, c2]; first | omega | rfl)), B0.out⟩
    have d2 : decide (-2147483648 ≤ im) = true := by simpa using c2
    go_wp2_with fail
    go_ret
    exact ⟨ret_bool (by rw [HF.out]; first | (simp [second, d2]; done) | (simp [second, d2]; first | omega | rfl)), B0.out⟩
  | false =>
    have O0 := Lib.hid (oc_new w 47 (.int .u8 op) (.bool nw) (.int .i64 dst) (.int .i64 src) (.bool false) (.int .i64 off) (.int .i64 im) (.int .i64 sz))
    go_wp2_with fail
    refine (refRegister src _).mono ?_; rintro e w1 ⟨rfl, rfl⟩
    cases hr : isR src with
    | true =>
      go_wp2_with fail
      go_ret
      exact ⟨ret_bool (by rw [HF.out]; first | (simp [second, hr]; done) | (simp [second, hr]; first | omega | rfl)), B0.out⟩
    | false =>
      go_wp2_with fail
      go_ret
      exact ⟨ret_bool (by rw [HF.out]; first | (simp [second, hr]; done) | (simp [second, hr]; first | omega | rfl)), B0.out⟩

/-- What the walk of Right keeps. -/
structure Kept8 (w W : World) (i : Ins) : Prop where
  oc : Oc W 47 w.heap.size (.int .u8 i.op) (.bool i.nw) (.int .i64 i.dst) (.int .i64 i.src) (.bool i.ui) (.int .i64 i.off) (.int .i64 i.im) (.int .i64 i.sz)
  bel : Below w.heap.size w W
theorem Kept8.past {w W W' : World} {i : Ins} (h : Kept8 w W i) (hb : Below W.heap.size W W') : Kept8 w W' i := ⟨h.oc.past hb, h.bel.trans (hb.mono h.bel.size)⟩
theorem kept8_new (w : World) (i : Ins) : Kept8 w (w.alloc (Obj.cells #[.int .u8 i.op, .bool i.nw, .int .i64 i.dst, .int .i64 i.src, .bool i.ui, .int .i64 i.off, .int .i64 i.im, .int .i64 i.sz] 47)) i := ⟨oc_new w _ _ _ _ _ _ _ _ _, alloc_below w _⟩
set_option maxHeartbeats 8000000 in
theorem right_A (op : Int) (nw : Bool) (dst src : Int) (ui : Bool) (off im sz : Int) (h1 : 1 ≤ op) (h2 : op ≤ 12) (w : World) : Calls Tryz.prog 37 #[agg ⟨op, nw, dst, src, ui, off, im, sz⟩] w (Says (right ⟨op, nw, dst, src, ui, off, im, sz⟩) w) := by
  have K0 := Lib.hid (kept8_new w ⟨op, nw, dst, src, ui, off, im, sz⟩)
  have SE := Lib.hid (fun W => refSecond ⟨op, nw, dst, src, ui, off, im, sz⟩ W)
  have FA := Lib.hid (fun W => refFar ⟨op, nw, dst, src, ui, off, im, sz⟩ W)
  have SI := Lib.hid (fun W => refSized ⟨op, nw, dst, src, ui, off, im, sz⟩ W)
  have CO := Lib.hid (fun W => refCond ⟨op, nw, dst, src, ui, off, im, sz⟩ W)
  have TG := Lib.hid (fun W => refTarget dst W)
  have RD := Lib.hid (fun W => refRegister dst W)
  have RS := Lib.hid (fun W => refRegister src W)
  have hF : right ⟨op, nw, dst, src, ui, off, im, sz⟩ = (isT dst && (second ⟨op, nw, dst, src, ui, off, im, sz⟩ && (decide (off = 0) && decide (sz = 0)))) := by unfold right; rw [if_pos ⟨h1, h2⟩]
  rw [hF]
  clear hF
  unfold agg at SE FA SI CO ⊢
  simp only at SE FA SI CO K0
  generalize second ⟨op, nw, dst, src, ui, off, im, sz⟩ = vse at SE ⊢
  generalize farI ⟨op, nw, dst, src, ui, off, im, sz⟩ = vfa at FA ⊢
  generalize isR src = vrs at RS ⊢
  generalize okSize sz = vsi at SI ⊢
  generalize isT dst = vtg at TG ⊢
  generalize isR dst = vrd at RD ⊢
  have d1 : decide (1 ≤ op) = true := by simp; omega
  have d2 : decide (op ≤ 12) = true := by simp; omega
  go_enter Tryz.func37, Tryz.ntmps37
  go_wp2_with fail
  refine ((TG.out) _).mono ?_; rintro e_ w_ ⟨rfl, rfl⟩
  cases vtg with
  | false =>
    go_wp2_with fail
    go_ret
    exact ⟨ret_bool (by simp), (K0.out).bel⟩
  | true =>
    go_wp2_with fail
    refine ((SE.out) _).mono ?_; rintro e_ w1 ⟨rfl, b1⟩
    have K1 := Lib.hid ((K0.out).past b1)
    clear b1
    obtain ⟨r0, r1, r2, r3, r4, r5, r6, r7⟩ := (K1.out).oc.cells
    cases vse with
    | false =>
      go_wp2_with fail
      go_ret
      exact ⟨ret_bool (by simp), (K1.out).bel⟩
    | true =>
      by_cases c : off = 0
      · subst c
        go_wp2_with fail
        go_ret
        exact ⟨ret_bool (by first | rfl | simp), (K1.out).bel⟩
      · have d : decide (off = 0) = false := by simpa using c
        have d' : (off == 0) = false := by simpa using c
        go_wp2_with fail
        go_ret
        exact ⟨ret_bool (by simp [c]), (K1.out).bel⟩

set_option maxHeartbeats 8000000 in
theorem right_13 (nw : Bool) (dst src : Int) (ui : Bool) (off im sz : Int) (w : World) : Calls Tryz.prog 37 #[agg ⟨13, nw, dst, src, ui, off, im, sz⟩] w (Says (right ⟨13, nw, dst, src, ui, off, im, sz⟩) w) := by
  have K0 := Lib.hid (kept8_new w ⟨13, nw, dst, src, ui, off, im, sz⟩)
  have SE := Lib.hid (fun W => refSecond ⟨13, nw, dst, src, ui, off, im, sz⟩ W)
  have FA := Lib.hid (fun W => refFar ⟨13, nw, dst, src, ui, off, im, sz⟩ W)
  have SI := Lib.hid (fun W => refSized ⟨13, nw, dst, src, ui, off, im, sz⟩ W)
  have CO := Lib.hid (fun W => refCond ⟨13, nw, dst, src, ui, off, im, sz⟩ W)
  have TG := Lib.hid (fun W => refTarget dst W)
  have RD := Lib.hid (fun W => refRegister dst W)
  have RS := Lib.hid (fun W => refRegister src W)
  have hF : right ⟨13, nw, dst, src, ui, off, im, sz⟩ = (isT dst && decide ((⟨13, nw, dst, src, ui, off, im, sz⟩ : Ins) = ⟨13, nw, dst, 0, false, 0, 0, 0⟩)) := by unfold right; rw [if_neg (by simp), if_pos rfl]
  rw [hF]
  clear hF
  unfold agg at SE FA SI CO ⊢
  simp only at SE FA SI CO K0
  generalize second ⟨13, nw, dst, src, ui, off, im, sz⟩ = vse at SE ⊢
  generalize farI ⟨13, nw, dst, src, ui, off, im, sz⟩ = vfa at FA ⊢
  generalize isR src = vrs at RS ⊢
  generalize okSize sz = vsi at SI ⊢
  generalize isT dst = vtg at TG ⊢
  generalize isR dst = vrd at RD ⊢
  go_enter Tryz.func37, Tryz.ntmps37
  go_wp2_with fail
  refine ((TG.out) _).mono ?_; rintro e_ w_ ⟨rfl, rfl⟩
  cases vtg with
  | false =>
    go_wp2_with fail
    go_ret
    exact ⟨ret_bool (by simp), (K0.out).bel⟩
  | true =>
    go_wp2_with fail
    go_ret
    exact ⟨ret_bool (by first | rfl | simp | (simp [same8]; done)), (K0.out).bel⟩

set_option maxHeartbeats 8000000 in
theorem right_14 (nw : Bool) (dst src : Int) (ui : Bool) (off im sz : Int) (w : World) : Calls Tryz.prog 37 #[agg ⟨14, nw, dst, src, ui, off, im, sz⟩] w (Says (right ⟨14, nw, dst, src, ui, off, im, sz⟩) w) := by
  have K0 := Lib.hid (kept8_new w ⟨14, nw, dst, src, ui, off, im, sz⟩)
  have SE := Lib.hid (fun W => refSecond ⟨14, nw, dst, src, ui, off, im, sz⟩ W)
  have FA := Lib.hid (fun W => refFar ⟨14, nw, dst, src, ui, off, im, sz⟩ W)
  have SI := Lib.hid (fun W => refSized ⟨14, nw, dst, src, ui, off, im, sz⟩ W)
  have CO := Lib.hid (fun W => refCond ⟨14, nw, dst, src, ui, off, im, sz⟩ W)
  have TG := Lib.hid (fun W => refTarget dst W)
  have RD := Lib.hid (fun W => refRegister dst W)
  have RS := Lib.hid (fun W => refRegister src W)
  have hF : right ⟨14, nw, dst, src, ui, off, im, sz⟩ = (isT dst && (isR src && (farI ⟨14, nw, dst, src, ui, off, im, sz⟩ && (okSize sz && decide ((⟨14, nw, dst, src, ui, off, im, sz⟩ : Ins) = ⟨14, false, dst, src, false, off, 0, sz⟩))))) := by unfold right; rw [if_neg (by simp), if_neg (by simp), if_pos rfl]
  rw [hF]
  clear hF
  unfold agg at SE FA SI CO ⊢
  simp only at SE FA SI CO K0
  generalize second ⟨14, nw, dst, src, ui, off, im, sz⟩ = vse at SE ⊢
  generalize farI ⟨14, nw, dst, src, ui, off, im, sz⟩ = vfa at FA ⊢
  generalize isR src = vrs at RS ⊢
  generalize okSize sz = vsi at SI ⊢
  generalize isT dst = vtg at TG ⊢
  generalize isR dst = vrd at RD ⊢
  go_enter Tryz.func37, Tryz.ntmps37
  go_wp2_with fail
  refine ((TG.out) _).mono ?_; rintro e_ w_ ⟨rfl, rfl⟩
  cases vtg with
  | false =>
    go_wp2_with fail
    go_ret
    exact ⟨ret_bool (by simp), (K0.out).bel⟩
  | true =>
    go_wp2_with fail
    refine ((RS.out) _).mono ?_; rintro e_ w_ ⟨rfl, rfl⟩
    cases vrs with
    | false =>
      go_wp2_with fail
      go_ret
      exact ⟨ret_bool (by simp), (K0.out).bel⟩
    | true =>
      go_wp2_with fail
      refine ((FA.out) _).mono ?_; rintro e_ w1 ⟨rfl, b1⟩
      have K1 := Lib.hid ((K0.out).past b1)
      clear b1
      obtain ⟨r0, r1, r2, r3, r4, r5, r6, r7⟩ := (K1.out).oc.cells
      cases vfa with
      | false =>
        go_wp2_with fail
        go_ret
        exact ⟨ret_bool (by simp), (K1.out).bel⟩
      | true =>
        go_wp2_with fail
        refine ((SI.out) _).mono ?_; rintro e_ w2 ⟨rfl, b2⟩
        have K2 := Lib.hid ((K1.out).past b2)
        clear b2
        obtain ⟨r0, r1, r2, r3, r4, r5, r6, r7⟩ := (K2.out).oc.cells
        cases vsi with
        | false =>
          go_wp2_with fail
          go_ret
          exact ⟨ret_bool (by simp), (K2.out).bel⟩
        | true =>
          go_wp2_with fail
          go_ret
          exact ⟨ret_bool (by first | rfl | simp | (simp [same8]; done)), (K2.out).bel⟩

set_option maxHeartbeats 8000000 in
theorem right_15 (nw : Bool) (dst src : Int) (ui : Bool) (off im sz : Int) (w : World) : Calls Tryz.prog 37 #[agg ⟨15, nw, dst, src, ui, off, im, sz⟩] w (Says (right ⟨15, nw, dst, src, ui, off, im, sz⟩) w) := by
  have K0 := Lib.hid (kept8_new w ⟨15, nw, dst, src, ui, off, im, sz⟩)
  have SE := Lib.hid (fun W => refSecond ⟨15, nw, dst, src, ui, off, im, sz⟩ W)
  have FA := Lib.hid (fun W => refFar ⟨15, nw, dst, src, ui, off, im, sz⟩ W)
  have SI := Lib.hid (fun W => refSized ⟨15, nw, dst, src, ui, off, im, sz⟩ W)
  have CO := Lib.hid (fun W => refCond ⟨15, nw, dst, src, ui, off, im, sz⟩ W)
  have TG := Lib.hid (fun W => refTarget dst W)
  have RD := Lib.hid (fun W => refRegister dst W)
  have RS := Lib.hid (fun W => refRegister src W)
  have hF : right ⟨15, nw, dst, src, ui, off, im, sz⟩ = (isR dst && (farI ⟨15, nw, dst, src, ui, off, im, sz⟩ && (okSize sz && (second ⟨15, nw, dst, src, ui, off, im, sz⟩ && !nw)))) := by unfold right; rw [if_neg (by simp), if_neg (by simp), if_neg (by simp), if_pos rfl]
  rw [hF]
  clear hF
  unfold agg at SE FA SI CO ⊢
  simp only at SE FA SI CO K0
  generalize second ⟨15, nw, dst, src, ui, off, im, sz⟩ = vse at SE ⊢
  generalize farI ⟨15, nw, dst, src, ui, off, im, sz⟩ = vfa at FA ⊢
  generalize isR src = vrs at RS ⊢
  generalize okSize sz = vsi at SI ⊢
  generalize isT dst = vtg at TG ⊢
  generalize isR dst = vrd at RD ⊢
  go_enter Tryz.func37, Tryz.ntmps37
  go_wp2_with fail
  refine ((RD.out) _).mono ?_; rintro e_ w_ ⟨rfl, rfl⟩
  cases vrd with
  | false =>
    go_wp2_with fail
    go_ret
    exact ⟨ret_bool (by simp), (K0.out).bel⟩
  | true =>
    go_wp2_with fail
    refine ((FA.out) _).mono ?_; rintro e_ w1 ⟨rfl, b1⟩
    have K1 := Lib.hid ((K0.out).past b1)
    clear b1
    obtain ⟨r0, r1, r2, r3, r4, r5, r6, r7⟩ := (K1.out).oc.cells
    cases vfa with
    | false =>
      go_wp2_with fail
      go_ret
      exact ⟨ret_bool (by simp), (K1.out).bel⟩
    | true =>
      go_wp2_with fail
      refine ((SI.out) _).mono ?_; rintro e_ w2 ⟨rfl, b2⟩
      have K2 := Lib.hid ((K1.out).past b2)
      clear b2
      obtain ⟨r0, r1, r2, r3, r4, r5, r6, r7⟩ := (K2.out).oc.cells
      cases vsi with
      | false =>
        go_wp2_with fail
        go_ret
        exact ⟨ret_bool (by simp), (K2.out).bel⟩
      | true =>
        go_wp2_with fail
        refine ((SE.out) _).mono ?_; rintro e_ w3 ⟨rfl, b3⟩
        have K3 := Lib.hid ((K2.out).past b3)
        clear b3
        obtain ⟨r0, r1, r2, r3, r4, r5, r6, r7⟩ := (K3.out).oc.cells
        cases vse with
        | false =>
          go_wp2_with fail
          go_ret
          exact ⟨ret_bool (by simp), (K3.out).bel⟩
        | true =>
          go_wp2_with fail
          go_ret
          exact ⟨ret_bool (by first | rfl | simp | (simp [same8]; done)), (K3.out).bel⟩

set_option maxHeartbeats 8000000 in
theorem right_16 (nw : Bool) (dst src : Int) (ui : Bool) (off im sz : Int) (w : World) : Calls Tryz.prog 37 #[agg ⟨16, nw, dst, src, ui, off, im, sz⟩] w (Says (right ⟨16, nw, dst, src, ui, off, im, sz⟩) w) := by
  have K0 := Lib.hid (kept8_new w ⟨16, nw, dst, src, ui, off, im, sz⟩)
  have SE := Lib.hid (fun W => refSecond ⟨16, nw, dst, src, ui, off, im, sz⟩ W)
  have FA := Lib.hid (fun W => refFar ⟨16, nw, dst, src, ui, off, im, sz⟩ W)
  have SI := Lib.hid (fun W => refSized ⟨16, nw, dst, src, ui, off, im, sz⟩ W)
  have CO := Lib.hid (fun W => refCond ⟨16, nw, dst, src, ui, off, im, sz⟩ W)
  have TG := Lib.hid (fun W => refTarget dst W)
  have RD := Lib.hid (fun W => refRegister dst W)
  have RS := Lib.hid (fun W => refRegister src W)
  have hF : right ⟨16, nw, dst, src, ui, off, im, sz⟩ = (farI ⟨16, nw, dst, src, ui, off, im, sz⟩ && decide ((⟨16, nw, dst, src, ui, off, im, sz⟩ : Ins) = ⟨16, false, 0, 0, false, off, 0, 0⟩)) := by unfold right; rw [if_neg (by simp), if_neg (by simp), if_neg (by simp), if_neg (by simp), if_pos rfl]
  rw [hF]
  clear hF
  unfold agg at SE FA SI CO ⊢
  simp only at SE FA SI CO K0
  generalize second ⟨16, nw, dst, src, ui, off, im, sz⟩ = vse at SE ⊢
  generalize farI ⟨16, nw, dst, src, ui, off, im, sz⟩ = vfa at FA ⊢
  generalize isR src = vrs at RS ⊢
  generalize okSize sz = vsi at SI ⊢
  generalize isT dst = vtg at TG ⊢
  generalize isR dst = vrd at RD ⊢
  go_enter Tryz.func37, Tryz.ntmps37
  go_wp2_with fail
  refine ((FA.out) _).mono ?_; rintro e_ w1 ⟨rfl, b1⟩
  have K1 := Lib.hid ((K0.out).past b1)
  clear b1
  obtain ⟨r0, r1, r2, r3, r4, r5, r6, r7⟩ := (K1.out).oc.cells
  cases vfa with
  | false =>
    go_wp2_with fail
    go_ret
    exact ⟨ret_bool (by simp), (K1.out).bel⟩
  | true =>
    go_wp2_with fail
    go_ret
    exact ⟨ret_bool (by first | rfl | simp | (simp [same8]; done)), (K1.out).bel⟩

set_option maxHeartbeats 8000000 in
theorem right_C (op : Int) (nw : Bool) (dst src : Int) (ui : Bool) (off im sz : Int) (h1 : 17 ≤ op) (h2 : op ≤ 27) (w : World) : Calls Tryz.prog 37 #[agg ⟨op, nw, dst, src, ui, off, im, sz⟩] w (Says (right ⟨op, nw, dst, src, ui, off, im, sz⟩) w) := by
  have K0 := Lib.hid (kept8_new w ⟨op, nw, dst, src, ui, off, im, sz⟩)
  have SE := Lib.hid (fun W => refSecond ⟨op, nw, dst, src, ui, off, im, sz⟩ W)
  have FA := Lib.hid (fun W => refFar ⟨op, nw, dst, src, ui, off, im, sz⟩ W)
  have SI := Lib.hid (fun W => refSized ⟨op, nw, dst, src, ui, off, im, sz⟩ W)
  have CO := Lib.hid (fun W => refCond ⟨op, nw, dst, src, ui, off, im, sz⟩ W)
  have TG := Lib.hid (fun W => refTarget dst W)
  have RD := Lib.hid (fun W => refRegister dst W)
  have RS := Lib.hid (fun W => refRegister src W)
  have hF : right ⟨op, nw, dst, src, ui, off, im, sz⟩ = (isR dst && (farI ⟨op, nw, dst, src, ui, off, im, sz⟩ && (second ⟨op, nw, dst, src, ui, off, im, sz⟩ && decide (sz = 0)))) := by unfold right; rw [if_neg (by show ¬ (1 ≤ op ∧ op ≤ 12); omega), if_neg (by show ¬ op = 13; omega), if_neg (by show ¬ op = 14; omega), if_neg (by show ¬ op = 15; omega), if_neg (by show ¬ op = 16; omega), if_pos ⟨h1, h2⟩]
  rw [hF]
  clear hF
  unfold agg at SE FA SI CO ⊢
  simp only at SE FA SI CO K0
  generalize second ⟨op, nw, dst, src, ui, off, im, sz⟩ = vse at SE ⊢
  generalize farI ⟨op, nw, dst, src, ui, off, im, sz⟩ = vfa at FA ⊢
  generalize isR src = vrs at RS ⊢
  generalize okSize sz = vsi at SI ⊢
  generalize isT dst = vtg at TG ⊢
  generalize isR dst = vrd at RD ⊢
  have d0 : condI ⟨op, nw, dst, src, ui, off, im, sz⟩ = true := by simp [condI]; omega
  rw [d0] at CO
  have d1 : decide (1 ≤ op) = true := by simp; omega
  have d2 : decide (op ≤ 12) = false := by simp; omega
  have e3 : (op == 13) = false := by simp; omega
  have e4 : (op == 14) = false := by simp; omega
  have e5 : (op == 15) = false := by simp; omega
  have e6 : (op == 16) = false := by simp; omega
  clear h1 h2 d0
  go_enter Tryz.func37, Tryz.ntmps37
  go_wp2_with fail
  refine ((CO.out) _).mono ?_; rintro e_ w1 ⟨rfl, b1⟩
  have K1 := Lib.hid ((K0.out).past b1)
  clear b1
  obtain ⟨r0, r1, r2, r3, r4, r5, r6, r7⟩ := (K1.out).oc.cells
  go_wp2_with fail
  refine ((RD.out) _).mono ?_; rintro e_ w_ ⟨rfl, rfl⟩
  cases vrd with
  | false =>
    go_wp2_with fail
    go_ret
    exact ⟨ret_bool (by simp), (K1.out).bel⟩
  | true =>
    go_wp2_with fail
    refine ((FA.out) _).mono ?_; rintro e_ w2 ⟨rfl, b2⟩
    have K2 := Lib.hid ((K1.out).past b2)
    clear b2
    obtain ⟨r0, r1, r2, r3, r4, r5, r6, r7⟩ := (K2.out).oc.cells
    cases vfa with
    | false =>
      go_wp2_with fail
      go_ret
      exact ⟨ret_bool (by simp), (K2.out).bel⟩
    | true =>
      go_wp2_with fail
      refine ((SE.out) _).mono ?_; rintro e_ w3 ⟨rfl, b3⟩
      have K3 := Lib.hid ((K2.out).past b3)
      clear b3
      obtain ⟨r0, r1, r2, r3, r4, r5, r6, r7⟩ := (K3.out).oc.cells
      cases vse with
      | false =>
        go_wp2_with fail
        go_ret
        exact ⟨ret_bool (by simp), (K3.out).bel⟩
      | true =>
        go_wp2_with fail
        go_ret
        exact ⟨ret_bool (by first | rfl | simp | (simp [same8]; done)), (K3.out).bel⟩

set_option maxHeartbeats 8000000 in
theorem right_R (op : Int) (nw : Bool) (dst src : Int) (ui : Bool) (off im sz : Int) (h1 : 28 ≤ op) (w : World) : Calls Tryz.prog 37 #[agg ⟨op, nw, dst, src, ui, off, im, sz⟩] w (Says (right ⟨op, nw, dst, src, ui, off, im, sz⟩) w) := by
  have K0 := Lib.hid (kept8_new w ⟨op, nw, dst, src, ui, off, im, sz⟩)
  have SE := Lib.hid (fun W => refSecond ⟨op, nw, dst, src, ui, off, im, sz⟩ W)
  have FA := Lib.hid (fun W => refFar ⟨op, nw, dst, src, ui, off, im, sz⟩ W)
  have SI := Lib.hid (fun W => refSized ⟨op, nw, dst, src, ui, off, im, sz⟩ W)
  have CO := Lib.hid (fun W => refCond ⟨op, nw, dst, src, ui, off, im, sz⟩ W)
  have TG := Lib.hid (fun W => refTarget dst W)
  have RD := Lib.hid (fun W => refRegister dst W)
  have RS := Lib.hid (fun W => refRegister src W)
  have hF : right ⟨op, nw, dst, src, ui, off, im, sz⟩ = decide ((⟨op, nw, dst, src, ui, off, im, sz⟩ : Ins) = ⟨28, false, 0, 0, false, 0, 0, 0⟩) := by unfold right; rw [if_neg (by show ¬ (1 ≤ op ∧ op ≤ 12); omega), if_neg (by show ¬ op = 13; omega), if_neg (by show ¬ op = 14; omega), if_neg (by show ¬ op = 15; omega), if_neg (by show ¬ op = 16; omega), if_neg (by show ¬ (17 ≤ op ∧ op ≤ 27); omega)]
  rw [hF]
  clear hF
  unfold agg at SE FA SI CO ⊢
  simp only at SE FA SI CO K0
  generalize second ⟨op, nw, dst, src, ui, off, im, sz⟩ = vse at SE ⊢
  generalize farI ⟨op, nw, dst, src, ui, off, im, sz⟩ = vfa at FA ⊢
  generalize isR src = vrs at RS ⊢
  generalize okSize sz = vsi at SI ⊢
  generalize isT dst = vtg at TG ⊢
  generalize isR dst = vrd at RD ⊢
  have d0 : condI ⟨op, nw, dst, src, ui, off, im, sz⟩ = false := by simp [condI]; omega
  rw [d0] at CO
  have d1 : decide (1 ≤ op) = true := by simp; omega
  have d2 : decide (op ≤ 12) = false := by simp; omega
  have e3 : (op == 13) = false := by simp; omega
  have e4 : (op == 14) = false := by simp; omega
  have e5 : (op == 15) = false := by simp; omega
  have e6 : (op == 16) = false := by simp; omega
  clear h1 d0
  go_enter Tryz.func37, Tryz.ntmps37
  go_wp2_with fail
  refine ((CO.out) _).mono ?_; rintro e_ w1 ⟨rfl, b1⟩
  have K1 := Lib.hid ((K0.out).past b1)
  clear b1
  obtain ⟨r0, r1, r2, r3, r4, r5, r6, r7⟩ := (K1.out).oc.cells
  go_wp2_with fail
  go_ret
  exact ⟨ret_bool (by first | rfl | simp | (simp [same8]; done)), (K1.out).bel⟩

set_option maxHeartbeats 8000000 in
theorem right_0 (op : Int) (nw : Bool) (dst src : Int) (ui : Bool) (off im sz : Int) (h1 : op ≤ 0) (w : World) : Calls Tryz.prog 37 #[agg ⟨op, nw, dst, src, ui, off, im, sz⟩] w (Says (right ⟨op, nw, dst, src, ui, off, im, sz⟩) w) := by
  have K0 := Lib.hid (kept8_new w ⟨op, nw, dst, src, ui, off, im, sz⟩)
  have SE := Lib.hid (fun W => refSecond ⟨op, nw, dst, src, ui, off, im, sz⟩ W)
  have FA := Lib.hid (fun W => refFar ⟨op, nw, dst, src, ui, off, im, sz⟩ W)
  have SI := Lib.hid (fun W => refSized ⟨op, nw, dst, src, ui, off, im, sz⟩ W)
  have CO := Lib.hid (fun W => refCond ⟨op, nw, dst, src, ui, off, im, sz⟩ W)
  have TG := Lib.hid (fun W => refTarget dst W)
  have RD := Lib.hid (fun W => refRegister dst W)
  have RS := Lib.hid (fun W => refRegister src W)
  have hF : right ⟨op, nw, dst, src, ui, off, im, sz⟩ = decide ((⟨op, nw, dst, src, ui, off, im, sz⟩ : Ins) = ⟨28, false, 0, 0, false, 0, 0, 0⟩) := by unfold right; rw [if_neg (by show ¬ (1 ≤ op ∧ op ≤ 12); omega), if_neg (by show ¬ op = 13; omega), if_neg (by show ¬ op = 14; omega), if_neg (by show ¬ op = 15; omega), if_neg (by show ¬ op = 16; omega), if_neg (by show ¬ (17 ≤ op ∧ op ≤ 27); omega)]
  rw [hF]
  clear hF
  unfold agg at SE FA SI CO ⊢
  simp only at SE FA SI CO K0
  generalize second ⟨op, nw, dst, src, ui, off, im, sz⟩ = vse at SE ⊢
  generalize farI ⟨op, nw, dst, src, ui, off, im, sz⟩ = vfa at FA ⊢
  generalize isR src = vrs at RS ⊢
  generalize okSize sz = vsi at SI ⊢
  generalize isT dst = vtg at TG ⊢
  generalize isR dst = vrd at RD ⊢
  have d0 : condI ⟨op, nw, dst, src, ui, off, im, sz⟩ = false := by simp [condI]; omega
  rw [d0] at CO
  have d1 : decide (1 ≤ op) = false := by simp; omega
  have d2 : decide (op ≤ 12) = true := by simp; omega
  have e3 : (op == 13) = false := by simp; omega
  have e4 : (op == 14) = false := by simp; omega
  have e5 : (op == 15) = false := by simp; omega
  have e6 : (op == 16) = false := by simp; omega
  clear h1 d0
  go_enter Tryz.func37, Tryz.ntmps37
  go_wp2_with fail
  refine ((CO.out) _).mono ?_; rintro e_ w1 ⟨rfl, b1⟩
  have K1 := Lib.hid ((K0.out).past b1)
  clear b1
  obtain ⟨r0, r1, r2, r3, r4, r5, r6, r7⟩ := (K1.out).oc.cells
  go_wp2_with fail
  go_ret
  exact ⟨ret_bool (by first | rfl | simp | (simp [same8]; done)), (K1.out).bel⟩

theorem refRight (i : Ins) (w : World) : Calls Tryz.prog 37 #[agg i] w (Says (right i) w) := by
  obtain ⟨op, nw, dst, src, ui, off, im, sz⟩ := i
  by_cases c0 : op ≤ 0
  · exact right_0 op nw dst src ui off im sz c0 w
  by_cases c1 : op ≤ 12
  · exact right_A op nw dst src ui off im sz (by omega) c1 w
  by_cases c2 : op = 13
  · subst c2; exact right_13 nw dst src ui off im sz w
  by_cases c3 : op = 14
  · subst c3; exact right_14 nw dst src ui off im sz w
  by_cases c4 : op = 15
  · subst c4; exact right_15 nw dst src ui off im sz w
  by_cases c5 : op = 16
  · subst c5; exact right_16 nw dst src ui off im sz w
  by_cases c6 : op ≤ 27
  · exact right_C op nw dst src ui off im sz (by omega) c6 w
  · exact right_R op nw dst src ui off im sz (by omega) w
end Go.Proofs.YthfkmackodbmkaaGreatDoor
