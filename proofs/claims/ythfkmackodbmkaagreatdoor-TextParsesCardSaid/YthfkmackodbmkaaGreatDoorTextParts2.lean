/- What an instruction is shown as: its parts, one by one. -/
import Derived.Test.YthfkmackodbmkaaGreatDoorTextParts
namespace Go.Proofs.YthfkmackodbmkaaGreatDoor
open Go.RowKit
set_option linter.unusedVariables false
set_option linter.unusedSimpArgs false
set_option maxRecDepth 100000
set_option maxHeartbeats 2000000

theorem parts_plain (op : Int) (nw : Bool) (d : Nat) (hd : d ≤ 10) (src : Int) (ui : Bool) (off im sz : Int) (hsr : ui = true ∨ (0 ≤ src ∧ src ≤ 10)) (m0 : -9223372036854775808 ≤ im) (m1 : im ≤ 9223372036854775807) (c28 : (op == 28) = false) (c13 : (op == 13) = false) (c14 : (op == 14) = false) (c15 : (op == 15) = false) (c16 : (op == 16) = false) (cj : jumpsI ⟨op, nw, d, src, ui, off, im, sz⟩ = false) (w : World) (L : Lay w) :
    Calls Tryz.prog 96 #[agg ⟨op, nw, d, src, ui, off, im, sz⟩] w (Parts [regs.getD d [], secondS ⟨op, nw, d, src, ui, off, im, sz⟩] w) := by
  have B := alloc_below w (.cells #[.int .u8 op, .bool nw, .int .i64 d, .int .i64 src, .bool ui, .int .i64 off, .int .i64 im, .int .i64 sz] 47)
  have hb := heap_alloc_new w (.cells #[.int .u8 op, .bool nw, .int .i64 d, .int .i64 src, .bool ui, .int .i64 off, .int .i64 im, .int .i64 sz] 47)
  have HL := Lib.hid (L.past B)
  have HB := Lib.hid B
  have HD := Lib.hid hd
  obtain ⟨rs, hrs⟩ : ∃ rs, rs = regs.getD d [] := ⟨_, rfl⟩
  have HRS := Lib.hid hrs
  rw [← hrs]
  have SE := Lib.hid (fun W (LW : Lay W) => secondP' ⟨op, nw, d, src, ui, off, im, sz⟩ hsr m0 m1 W LW)
  generalize secondS ⟨op, nw, d, src, ui, off, im, sz⟩ = ss at SE ⊢
  unfold agg at SE
  simp only at SE
  have JU := Lib.hid (fun W => jumpsP ⟨op, nw, d, src, ui, off, im, sz⟩ W)
  rw [cj] at JU
  unfold agg at JU
  simp only at JU
  unfold agg
  simp only
  clear B hrs hd L
  go_enter Tryz.func96, Tryz.ntmps96
  go_wp2_with fail
  generalize w.alloc (.cells #[.int .u8 op, .bool nw, .int .i64 d, .int .i64 src, .bool ui, .int .i64 off, .int .i64 im, .int .i64 sz] 47) = w1 at *
  have hk0 : w.heap.size < w1.heap.size := (Array.getElem?_eq_some_iff.1 hb).1
  have z2 : w1.cell? ⟨w.heap.size, 2, none⟩ = some (.int .i64 d) := by simp only [World.cell?, hb]; rfl
  refine wp_region_held_drew (S := fun w' => w'.cell? ⟨w.heap.size, 2, none⟩ = some (.int .i64 d)) (by kernel_rfl) z2 (fun S0 => ?_)
  refine wpAnyH_take (i := 1) (v := ?v1t13) rfl (by kernel_rfl) (by kernel_rfl) (by kernel_rfl) (fun _ _ _ h => h) (Or.inl ⟨by rfl, ?y1t13⟩) S0 ?z1t13
  case y1t13 => intro w_ hSw; go_simp; with_reducible rfl
  try simp only [List.getElem_toArray, List.getElem_cons_zero, List.getElem_cons_succ, Act.put, List.setIfInBounds_toArray, List.set_cons_zero, List.set_cons_succ]
  refine wpAnyH_take (i := 2) (v := ?v2t14) rfl (by kernel_rfl) (by kernel_rfl) (by kernel_rfl) (fun _ _ _ h => h) (Or.inl ⟨by rfl, ?y2t14⟩) S0 ?z2t14
  case y2t14 => intro w_ hSw; (try dsimp only at hSw); go_simp; with_reducible rfl
  try simp only [List.getElem_toArray, List.getElem_cons_zero, List.getElem_cons_succ, Act.put, List.setIfInBounds_toArray, List.set_cons_zero, List.set_cons_succ]
  refine wpAnyH_ready (rs := [0]) (by kernel_rfl) (by simp) ?_
  refine AllReadyH.cons rfl (fun K hK => ?_) AllReadyH.nil
  go_simp
  refine (registersP w1.drew).mono ?_; rintro e w2 ⟨v, rfl, hv, hbl⟩
  have S2 := (hbl.cell (p := ⟨w.heap.size, 2, none⟩) (by exact hk0)).trans S0
  have b12 : Below w1.heap.size w1 w2 := ⟨hbl.os, hbl.tape, hbl.output, hbl.size, fun k h => hbl.block k h⟩
  have HB2 := Lib.hid ((HB.out).trans (b12.mono (HB.out).size))
  have HL2 := Lib.hid ((HL.out).past b12)
  have hb2 := (b12.block _ hk0).trans hb
  obtain ⟨ao, cap, hsh⟩ := hv.shape
  have e11 : regs.length = 11 := rfl
  rw [e11] at hsh
  subst hsh
  obtain ⟨g, o, rfl, y0, y1, y2, y3, y4⟩ := hv.at (by decide)
  have y5 := y4 d (by have : regs.length = 11 := rfl; have := HD.out; omega)
  rw [← HRS.out] at y5
  have p2 : (d : Int) < 11 := by have := HD.out; omega
  clear hbl hv y4 S0 y0 y1 y2 y3 e11 b12 z2
  try go_wp2_with fail
  refine hK.out _ _ S2 (fun _ => ?_)
  clear hK K
  try simp only [List.getElem_toArray, List.getElem_cons_zero, List.getElem_cons_succ, Act.put, List.setIfInBounds_toArray, List.set_cons_zero, List.set_cons_succ]
  refine wpAnyH_ready (rs := [3]) (by kernel_rfl) (by simp) ?_
  refine AllReadyH.cons rfl (fun K hK => ?_) AllReadyH.nil
  go_simp
  refine hK.out _ _ S2 (fun _ => ?_)
  clear hK K
  try simp only [List.getElem_toArray, List.getElem_cons_zero, List.getElem_cons_succ, Act.put, List.setIfInBounds_toArray, List.set_cons_zero, List.set_cons_succ]
  refine wpAnyH_ready (rs := [4]) (by kernel_rfl) (by simp) ?_
  refine AllReadyH.cons rfl (fun K hK => ?_) AllReadyH.nil
  go_simp
  refine hK.out _ _ S2 (fun _ => ?_)
  clear hK K
  try simp only [List.getElem_toArray, List.getElem_cons_zero, List.getElem_cons_succ, Act.put, List.setIfInBounds_toArray, List.set_cons_zero, List.set_cons_succ]
  refine wpAnyH_take (i := 5) (v := ?v5t15) rfl (by kernel_rfl) (by kernel_rfl) (by kernel_rfl) (fun _ _ _ h => h) (Or.inl ⟨by rfl, ?y5t15⟩) S2 ?z5t15
  case y5t15 => intro w_ hSw; go_simp; with_reducible rfl
  try simp only [List.getElem_toArray, List.getElem_cons_zero, List.getElem_cons_succ, Act.put, List.setIfInBounds_toArray, List.set_cons_zero, List.set_cons_succ]
  refine wpAnyH_done (by kernel_rfl) ?_ _
  clear p2 y5 S2
  have q0 : w2.cell? ⟨w.heap.size, 0, none⟩ = some (.int .u8 op) := by simp only [World.cell?, hb2]; rfl
  have q1 : w2.cell? ⟨w.heap.size, 1, none⟩ = some (.bool nw) := by simp only [World.cell?, hb2]; rfl
  have q2 : w2.cell? ⟨w.heap.size, 2, none⟩ = some (.int .i64 d) := by simp only [World.cell?, hb2]; rfl
  have q3 : w2.cell? ⟨w.heap.size, 3, none⟩ = some (.int .i64 src) := by simp only [World.cell?, hb2]; rfl
  have q4 : w2.cell? ⟨w.heap.size, 4, none⟩ = some (.bool ui) := by simp only [World.cell?, hb2]; rfl
  have q5 : w2.cell? ⟨w.heap.size, 5, none⟩ = some (.int .i64 off) := by simp only [World.cell?, hb2]; rfl
  have q6 : w2.cell? ⟨w.heap.size, 6, none⟩ = some (.int .i64 im) := by simp only [World.cell?, hb2]; rfl
  have q7 : w2.cell? ⟨w.heap.size, 7, none⟩ = some (.int .i64 sz) := by simp only [World.cell?, hb2]; rfl
  have hk2 : w.heap.size < w2.heap.size := (Array.getElem?_eq_some_iff.1 hb2).1
  clear hb
  go_wp2_with fail
  refine ((JU.out) _).mono ?_; rintro e w3 ⟨rfl, b3⟩
  have HB3 := Lib.hid ((HB2.out).trans (b3.mono (HB2.out).size))
  have HL3 := Lib.hid ((HL2.out).past b3)
  have hb3 := (b3.block _ hk2).trans hb2
  have r0 : w3.cell? ⟨w.heap.size, 0, none⟩ = some (.int .u8 op) := by simp only [World.cell?, hb3]; rfl
  have r1 : w3.cell? ⟨w.heap.size, 1, none⟩ = some (.bool nw) := by simp only [World.cell?, hb3]; rfl
  have r2 : w3.cell? ⟨w.heap.size, 2, none⟩ = some (.int .i64 d) := by simp only [World.cell?, hb3]; rfl
  have r3 : w3.cell? ⟨w.heap.size, 3, none⟩ = some (.int .i64 src) := by simp only [World.cell?, hb3]; rfl
  have r4 : w3.cell? ⟨w.heap.size, 4, none⟩ = some (.bool ui) := by simp only [World.cell?, hb3]; rfl
  have r5 : w3.cell? ⟨w.heap.size, 5, none⟩ = some (.int .i64 off) := by simp only [World.cell?, hb3]; rfl
  have r6 : w3.cell? ⟨w.heap.size, 6, none⟩ = some (.int .i64 im) := by simp only [World.cell?, hb3]; rfl
  have r7 : w3.cell? ⟨w.heap.size, 7, none⟩ = some (.int .i64 sz) := by simp only [World.cell?, hb3]; rfl
  clear b3 hb2 hb3 q0 q1 q2 q3 q4 q5 q6 q7
  go_wp2_with fail
  refine ((SE.out) _ HL3.out).mono ?_; rintro e w4 ⟨rfl, b4⟩
  have HB4 := Lib.hid ((HB3.out).trans (b4.mono (HB3.out).size))
  have SN := Lib.hid (ss_lit w4 [rs, ss] (by simp))
  have BN := Lib.hid ((HB4.out).trans ((alloc_below w4 (.cells #[str rs, str ss] 9)).mono (HB4.out).size))
  clear b4
  go_wp2_with fail
  go_ret
  exact ⟨_, rfl, SN.out, BN.out⟩
theorem parts_ask (op : Int) (nw : Bool) (d : Nat) (hd : d ≤ 10) (src : Int) (ui : Bool) (off im sz : Int) (hsr : ui = true ∨ (0 ≤ src ∧ src ≤ 10)) (m0 : -9223372036854775808 ≤ im) (m1 : im ≤ 9223372036854775807) (h0 : -32768 ≤ off) (h1 : off < 32768) (c28 : (op == 28) = false) (c13 : (op == 13) = false) (c14 : (op == 14) = false) (c15 : (op == 15) = false) (c16 : (op == 16) = false) (cj : jumpsI ⟨op, nw, d, src, ui, off, im, sz⟩ = true) (w : World) (L : Lay w) :
    Calls Tryz.prog 96 #[agg ⟨op, nw, d, src, ui, off, im, sz⟩] w (Parts [regs.getD d [], secondS ⟨op, nw, d, src, ui, off, im, sz⟩, farS off []] w) := by
  have B := alloc_below w (.cells #[.int .u8 op, .bool nw, .int .i64 d, .int .i64 src, .bool ui, .int .i64 off, .int .i64 im, .int .i64 sz] 47)
  have hb := heap_alloc_new w (.cells #[.int .u8 op, .bool nw, .int .i64 d, .int .i64 src, .bool ui, .int .i64 off, .int .i64 im, .int .i64 sz] 47)
  have HL := Lib.hid (L.past B)
  have HB := Lib.hid B
  have HD := Lib.hid hd
  obtain ⟨rs, hrs⟩ : ∃ rs, rs = regs.getD d [] := ⟨_, rfl⟩
  have HRS := Lib.hid hrs
  rw [← hrs]
  have SE := Lib.hid (fun W (LW : Lay W) => secondP' ⟨op, nw, d, src, ui, off, im, sz⟩ hsr m0 m1 W LW)
  generalize secondS ⟨op, nw, d, src, ui, off, im, sz⟩ = ss at SE ⊢
  unfold agg at SE
  simp only at SE
  have FA := Lib.hid (fun W (LW : Lay W) => farP off [] h0 h1 (by decide) W LW)
  generalize farS off [] = fs at FA ⊢
  have JU := Lib.hid (fun W => jumpsP ⟨op, nw, d, src, ui, off, im, sz⟩ W)
  rw [cj] at JU
  unfold agg at JU
  simp only at JU
  unfold agg
  simp only
  clear B hrs hd L
  go_enter Tryz.func96, Tryz.ntmps96
  go_wp2_with fail
  generalize w.alloc (.cells #[.int .u8 op, .bool nw, .int .i64 d, .int .i64 src, .bool ui, .int .i64 off, .int .i64 im, .int .i64 sz] 47) = w1 at *
  have hk0 : w.heap.size < w1.heap.size := (Array.getElem?_eq_some_iff.1 hb).1
  have z2 : w1.cell? ⟨w.heap.size, 2, none⟩ = some (.int .i64 d) := by simp only [World.cell?, hb]; rfl
  refine wp_region_held_drew (S := fun w' => w'.cell? ⟨w.heap.size, 2, none⟩ = some (.int .i64 d)) (by kernel_rfl) z2 (fun S0 => ?_)
  refine wpAnyH_take (i := 1) (v := ?v1t16) rfl (by kernel_rfl) (by kernel_rfl) (by kernel_rfl) (fun _ _ _ h => h) (Or.inl ⟨by rfl, ?y1t16⟩) S0 ?z1t16
  case y1t16 => intro w_ hSw; go_simp; with_reducible rfl
  try simp only [List.getElem_toArray, List.getElem_cons_zero, List.getElem_cons_succ, Act.put, List.setIfInBounds_toArray, List.set_cons_zero, List.set_cons_succ]
  refine wpAnyH_take (i := 2) (v := ?v2t17) rfl (by kernel_rfl) (by kernel_rfl) (by kernel_rfl) (fun _ _ _ h => h) (Or.inl ⟨by rfl, ?y2t17⟩) S0 ?z2t17
  case y2t17 => intro w_ hSw; (try dsimp only at hSw); go_simp; with_reducible rfl
  try simp only [List.getElem_toArray, List.getElem_cons_zero, List.getElem_cons_succ, Act.put, List.setIfInBounds_toArray, List.set_cons_zero, List.set_cons_succ]
  refine wpAnyH_ready (rs := [0]) (by kernel_rfl) (by simp) ?_
  refine AllReadyH.cons rfl (fun K hK => ?_) AllReadyH.nil
  go_simp
  refine (registersP w1.drew).mono ?_; rintro e w2 ⟨v, rfl, hv, hbl⟩
  have S2 := (hbl.cell (p := ⟨w.heap.size, 2, none⟩) (by exact hk0)).trans S0
  have b12 : Below w1.heap.size w1 w2 := ⟨hbl.os, hbl.tape, hbl.output, hbl.size, fun k h => hbl.block k h⟩
  have HB2 := Lib.hid ((HB.out).trans (b12.mono (HB.out).size))
  have HL2 := Lib.hid ((HL.out).past b12)
  have hb2 := (b12.block _ hk0).trans hb
  obtain ⟨ao, cap, hsh⟩ := hv.shape
  have e11 : regs.length = 11 := rfl
  rw [e11] at hsh
  subst hsh
  obtain ⟨g, o, rfl, y0, y1, y2, y3, y4⟩ := hv.at (by decide)
  have y5 := y4 d (by have : regs.length = 11 := rfl; have := HD.out; omega)
  rw [← HRS.out] at y5
  have p2 : (d : Int) < 11 := by have := HD.out; omega
  clear hbl hv y4 S0 y0 y1 y2 y3 e11 b12 z2
  try go_wp2_with fail
  refine hK.out _ _ S2 (fun _ => ?_)
  clear hK K
  try simp only [List.getElem_toArray, List.getElem_cons_zero, List.getElem_cons_succ, Act.put, List.setIfInBounds_toArray, List.set_cons_zero, List.set_cons_succ]
  refine wpAnyH_ready (rs := [3]) (by kernel_rfl) (by simp) ?_
  refine AllReadyH.cons rfl (fun K hK => ?_) AllReadyH.nil
  go_simp
  refine hK.out _ _ S2 (fun _ => ?_)
  clear hK K
  try simp only [List.getElem_toArray, List.getElem_cons_zero, List.getElem_cons_succ, Act.put, List.setIfInBounds_toArray, List.set_cons_zero, List.set_cons_succ]
  refine wpAnyH_ready (rs := [4]) (by kernel_rfl) (by simp) ?_
  refine AllReadyH.cons rfl (fun K hK => ?_) AllReadyH.nil
  go_simp
  refine hK.out _ _ S2 (fun _ => ?_)
  clear hK K
  try simp only [List.getElem_toArray, List.getElem_cons_zero, List.getElem_cons_succ, Act.put, List.setIfInBounds_toArray, List.set_cons_zero, List.set_cons_succ]
  refine wpAnyH_take (i := 5) (v := ?v5t18) rfl (by kernel_rfl) (by kernel_rfl) (by kernel_rfl) (fun _ _ _ h => h) (Or.inl ⟨by rfl, ?y5t18⟩) S2 ?z5t18
  case y5t18 => intro w_ hSw; go_simp; with_reducible rfl
  try simp only [List.getElem_toArray, List.getElem_cons_zero, List.getElem_cons_succ, Act.put, List.setIfInBounds_toArray, List.set_cons_zero, List.set_cons_succ]
  refine wpAnyH_done (by kernel_rfl) ?_ _
  clear p2 y5 S2
  have q0 : w2.cell? ⟨w.heap.size, 0, none⟩ = some (.int .u8 op) := by simp only [World.cell?, hb2]; rfl
  have q1 : w2.cell? ⟨w.heap.size, 1, none⟩ = some (.bool nw) := by simp only [World.cell?, hb2]; rfl
  have q2 : w2.cell? ⟨w.heap.size, 2, none⟩ = some (.int .i64 d) := by simp only [World.cell?, hb2]; rfl
  have q3 : w2.cell? ⟨w.heap.size, 3, none⟩ = some (.int .i64 src) := by simp only [World.cell?, hb2]; rfl
  have q4 : w2.cell? ⟨w.heap.size, 4, none⟩ = some (.bool ui) := by simp only [World.cell?, hb2]; rfl
  have q5 : w2.cell? ⟨w.heap.size, 5, none⟩ = some (.int .i64 off) := by simp only [World.cell?, hb2]; rfl
  have q6 : w2.cell? ⟨w.heap.size, 6, none⟩ = some (.int .i64 im) := by simp only [World.cell?, hb2]; rfl
  have q7 : w2.cell? ⟨w.heap.size, 7, none⟩ = some (.int .i64 sz) := by simp only [World.cell?, hb2]; rfl
  have hk2 : w.heap.size < w2.heap.size := (Array.getElem?_eq_some_iff.1 hb2).1
  clear hb
  go_wp2_with fail
  refine ((JU.out) _).mono ?_; rintro e w3 ⟨rfl, b3⟩
  have HB3 := Lib.hid ((HB2.out).trans (b3.mono (HB2.out).size))
  have HL3 := Lib.hid ((HL2.out).past b3)
  have hb3 := (b3.block _ hk2).trans hb2
  have hk3 : w.heap.size < w3.heap.size := (Array.getElem?_eq_some_iff.1 hb3).1
  have u : w3.cell? ⟨w.heap.size, 0, none⟩ = some (.int .u8 op) ∧ w3.cell? ⟨w.heap.size, 1, none⟩ = some (.bool nw) ∧ w3.cell? ⟨w.heap.size, 2, none⟩ = some (.int .i64 d) ∧ w3.cell? ⟨w.heap.size, 3, none⟩ = some (.int .i64 src) ∧ w3.cell? ⟨w.heap.size, 4, none⟩ = some (.bool ui) ∧ w3.cell? ⟨w.heap.size, 5, none⟩ = some (.int .i64 off) ∧ w3.cell? ⟨w.heap.size, 6, none⟩ = some (.int .i64 im) ∧ w3.cell? ⟨w.heap.size, 7, none⟩ = some (.int .i64 sz) := by
    refine ⟨?_, ?_, ?_, ?_, ?_, ?_, ?_, ?_⟩ <;> (simp only [World.cell?, hb3]; rfl)
  clear b3 hb2 hb3 q0 q1 q2 q3 q4 q5 q6 q7
  go_wp2_with fail
  refine wp_region_held_drew (S := fun w' => w'.cell? ⟨w.heap.size, 0, none⟩ = some (.int .u8 op) ∧ w'.cell? ⟨w.heap.size, 1, none⟩ = some (.bool nw) ∧ w'.cell? ⟨w.heap.size, 2, none⟩ = some (.int .i64 d) ∧ w'.cell? ⟨w.heap.size, 3, none⟩ = some (.int .i64 src) ∧ w'.cell? ⟨w.heap.size, 4, none⟩ = some (.bool ui) ∧ w'.cell? ⟨w.heap.size, 5, none⟩ = some (.int .i64 off) ∧ w'.cell? ⟨w.heap.size, 6, none⟩ = some (.int .i64 im) ∧ w'.cell? ⟨w.heap.size, 7, none⟩ = some (.int .i64 sz)) (by kernel_rfl) u (fun S0 => ?_)
  refine wpAnyH_take (i := 0) (v := ?v0t19) rfl (by kernel_rfl) (by kernel_rfl) (by kernel_rfl) (fun _ _ _ h => h) (Or.inl ⟨by rfl, ?y0t19⟩) S0 ?z0t19
  case y0t19 => intro w_ hSw; go_simp; with_reducible rfl
  try simp only [List.getElem_toArray, List.getElem_cons_zero, List.getElem_cons_succ, Act.put, List.setIfInBounds_toArray, List.set_cons_zero, List.set_cons_succ]
  refine wpAnyH_take (i := 1) (v := ?v1t20) rfl (by kernel_rfl) (by kernel_rfl) (by kernel_rfl) (fun _ _ _ h => h) (Or.inl ⟨by rfl, ?y1t20⟩) S0 ?z1t20
  case y1t20 => intro w_ hSw; (try dsimp only at hSw); go_simp; with_reducible rfl
  try simp only [List.getElem_toArray, List.getElem_cons_zero, List.getElem_cons_succ, Act.put, List.setIfInBounds_toArray, List.set_cons_zero, List.set_cons_succ]
  refine wpAnyH_take (i := 3) (v := ?v3t21) rfl (by kernel_rfl) (by kernel_rfl) (by kernel_rfl) (fun _ _ _ h => h) (Or.inl ⟨by rfl, ?y3t21⟩) S0 ?z3t21
  case y3t21 => intro w_ hSw; go_simp; with_reducible rfl
  try simp only [List.getElem_toArray, List.getElem_cons_zero, List.getElem_cons_succ, Act.put, List.setIfInBounds_toArray, List.set_cons_zero, List.set_cons_succ]
  refine wpAnyH_take (i := 4) (v := ?v4t22) rfl (by kernel_rfl) (by kernel_rfl) (by kernel_rfl) (fun _ _ _ h => h) (Or.inl ⟨by rfl, ?y4t22⟩) S0 ?z4t22
  case y4t22 => intro w_ hSw; (try dsimp only at hSw); go_simp; with_reducible rfl
  try simp only [List.getElem_toArray, List.getElem_cons_zero, List.getElem_cons_succ, Act.put, List.setIfInBounds_toArray, List.set_cons_zero, List.set_cons_succ]
  refine wpAnyH_ready (rs := [2]) (by kernel_rfl) (by simp) ?_
  refine AllReadyH.cons rfl (fun K hK => ?_) AllReadyH.nil
  go_simp
  refine ((SE.out) w3.drew ((HL3.out).past (show Below w3.heap.size w3 w3.drew from (Below.refl _ w3).drew))).mono ?_; rintro e w4 ⟨rfl, b4⟩
  have S1 : w4.cell? ⟨w.heap.size, 0, none⟩ = some (.int .u8 op) ∧ w4.cell? ⟨w.heap.size, 1, none⟩ = some (.bool nw) ∧ w4.cell? ⟨w.heap.size, 2, none⟩ = some (.int .i64 d) ∧ w4.cell? ⟨w.heap.size, 3, none⟩ = some (.int .i64 src) ∧ w4.cell? ⟨w.heap.size, 4, none⟩ = some (.bool ui) ∧ w4.cell? ⟨w.heap.size, 5, none⟩ = some (.int .i64 off) ∧ w4.cell? ⟨w.heap.size, 6, none⟩ = some (.int .i64 im) ∧ w4.cell? ⟨w.heap.size, 7, none⟩ = some (.int .i64 sz) := by
    obtain ⟨u0, u1, u2, u3, u4, u5, u6, u7⟩ := S0
    have hk := (show w.heap.size < w3.drew.heap.size from hk3)
    refine ⟨?_, ?_, ?_, ?_, ?_, ?_, ?_, ?_⟩ <;> (rw [b4.cell (by exact hk)]; assumption)
  have hk4 : w.heap.size < w4.heap.size := Nat.lt_of_lt_of_le hk3 b4.size
  have HB4 := Lib.hid ((HB3.out).trans ((show Below w3.heap.size w3 w4 from ⟨b4.os, b4.tape, b4.output, b4.size, fun k h => b4.block k h⟩).mono (HB3.out).size))
  have HL4 := Lib.hid ((HL3.out).past (show Below w3.heap.size w3 w4 from ⟨b4.os, b4.tape, b4.output, b4.size, fun k h => b4.block k h⟩))
  clear b4
  try go_wp2_with fail
  refine hK.out _ _ S1 (fun _ => ?_)
  clear hK K
  try simp only [List.getElem_toArray, List.getElem_cons_zero, List.getElem_cons_succ, Act.put, List.setIfInBounds_toArray, List.set_cons_zero, List.set_cons_succ]
  refine wpAnyH_ready (rs := [5]) (by kernel_rfl) (by simp) ?_
  refine AllReadyH.cons rfl (fun K hK => ?_) AllReadyH.nil
  go_simp
  refine ((FA.out) w4 HL4.out).mono ?_; rintro e w5 ⟨rfl, b5⟩
  have S2 : w5.cell? ⟨w.heap.size, 0, none⟩ = some (.int .u8 op) ∧ w5.cell? ⟨w.heap.size, 1, none⟩ = some (.bool nw) ∧ w5.cell? ⟨w.heap.size, 2, none⟩ = some (.int .i64 d) ∧ w5.cell? ⟨w.heap.size, 3, none⟩ = some (.int .i64 src) ∧ w5.cell? ⟨w.heap.size, 4, none⟩ = some (.bool ui) ∧ w5.cell? ⟨w.heap.size, 5, none⟩ = some (.int .i64 off) ∧ w5.cell? ⟨w.heap.size, 6, none⟩ = some (.int .i64 im) ∧ w5.cell? ⟨w.heap.size, 7, none⟩ = some (.int .i64 sz) := by
    obtain ⟨u0, u1, u2, u3, u4, u5, u6, u7⟩ := S1
    refine ⟨?_, ?_, ?_, ?_, ?_, ?_, ?_, ?_⟩ <;> (rw [b5.cell (by exact hk4)]; assumption)
  have hk5 : w.heap.size < w5.heap.size := Nat.lt_of_lt_of_le hk4 b5.size
  have HB5 := Lib.hid ((HB4.out).trans (b5.mono (HB4.out).size))
  clear b5
  try go_wp2_with fail
  refine hK.out _ _ S2 (fun _ => ?_)
  clear hK K
  try simp only [List.getElem_toArray, List.getElem_cons_zero, List.getElem_cons_succ, Act.put, List.setIfInBounds_toArray, List.set_cons_zero, List.set_cons_succ]
  have SN := Lib.hid (ss_lit w5 [rs, ss, fs] (by simp))
  have bn := alloc_below w5 (.cells #[str rs, str ss, str fs] 9)
  have BN := Lib.hid ((HB5.out).trans (bn.mono (HB5.out).size))
  have S3 : (w5.alloc (.cells #[str rs, str ss, str fs] 9)).cell? ⟨w.heap.size, 0, none⟩ = some (.int .u8 op) ∧ (w5.alloc (.cells #[str rs, str ss, str fs] 9)).cell? ⟨w.heap.size, 1, none⟩ = some (.bool nw) ∧ (w5.alloc (.cells #[str rs, str ss, str fs] 9)).cell? ⟨w.heap.size, 2, none⟩ = some (.int .i64 d) ∧ (w5.alloc (.cells #[str rs, str ss, str fs] 9)).cell? ⟨w.heap.size, 3, none⟩ = some (.int .i64 src) ∧ (w5.alloc (.cells #[str rs, str ss, str fs] 9)).cell? ⟨w.heap.size, 4, none⟩ = some (.bool ui) ∧ (w5.alloc (.cells #[str rs, str ss, str fs] 9)).cell? ⟨w.heap.size, 5, none⟩ = some (.int .i64 off) ∧ (w5.alloc (.cells #[str rs, str ss, str fs] 9)).cell? ⟨w.heap.size, 6, none⟩ = some (.int .i64 im) ∧ (w5.alloc (.cells #[str rs, str ss, str fs] 9)).cell? ⟨w.heap.size, 7, none⟩ = some (.int .i64 sz) := by
    obtain ⟨u0, u1, u2, u3, u4, u5, u6, u7⟩ := S2
    refine ⟨?_, ?_, ?_, ?_, ?_, ?_, ?_, ?_⟩ <;> (rw [bn.cell (by exact hk5)]; assumption)
  clear bn
  refine wpAnyH_ready (rs := [6]) (by kernel_rfl) (by simp) ?_
  refine AllReadyH.cons rfl (fun K hK => ?_) AllReadyH.nil
  go_simp
  refine hK.out _ _ S3 (fun _ => ?_)
  clear hK K
  try simp only [List.getElem_toArray, List.getElem_cons_zero, List.getElem_cons_succ, Act.put, List.setIfInBounds_toArray, List.set_cons_zero, List.set_cons_succ]
  refine wpAnyH_take (i := 7) (v := ?v7t23) rfl (by kernel_rfl) (by kernel_rfl) (by kernel_rfl) (fun _ _ _ h => h) (Or.inl ⟨by rfl, ?y7t23⟩) S3 ?z7t23
  case y7t23 => intro w_ hSw; go_simp; with_reducible rfl
  try simp only [List.getElem_toArray, List.getElem_cons_zero, List.getElem_cons_succ, Act.put, List.setIfInBounds_toArray, List.set_cons_zero, List.set_cons_succ]
  refine wpAnyH_done (by kernel_rfl) ?_ _
  go_wp2_with fail
  go_ret
  exact ⟨_, rfl, SN.out, BN.out⟩
theorem parts_put (op : Int) (nw : Bool) (d : Nat) (hd : d ≤ 10) (src : Int) (ui : Bool) (off im sz : Int) (hsr : ui = true ∨ (0 ≤ src ∧ src ≤ 10)) (m0 : -9223372036854775808 ≤ im) (m1 : im ≤ 9223372036854775807) (h0 : -32768 ≤ off) (h1 : off < 32768) (c28 : (op == 28) = false) (c13 : (op == 13) = false) (c14 : (op == 14) = false) (c15 : (op == 15) = true) (w : World) (L : Lay w) :
    Calls Tryz.prog 96 #[agg ⟨op, nw, d, src, ui, off, im, sz⟩] w (Parts [cellS d off, secondS ⟨op, nw, d, src, ui, off, im, sz⟩] w) := by
  have B := alloc_below w (.cells #[.int .u8 op, .bool nw, .int .i64 d, .int .i64 src, .bool ui, .int .i64 off, .int .i64 im, .int .i64 sz] 47)
  have hb := heap_alloc_new w (.cells #[.int .u8 op, .bool nw, .int .i64 d, .int .i64 src, .bool ui, .int .i64 off, .int .i64 im, .int .i64 sz] 47)
  have HL := Lib.hid (L.past B)
  have HB := Lib.hid B
  have HD := Lib.hid hd
  obtain ⟨rs, hrs⟩ : ∃ rs, rs = regs.getD d [] := ⟨_, rfl⟩
  have HRS := Lib.hid hrs
  have SE := Lib.hid (fun W (LW : Lay W) => secondP' ⟨op, nw, d, src, ui, off, im, sz⟩ hsr m0 m1 W LW)
  generalize secondS ⟨op, nw, d, src, ui, off, im, sz⟩ = ss at SE ⊢
  unfold agg at SE
  simp only at SE
  have CE := Lib.hid (fun W (LW : Lay W) => cellP' d off hd h0 h1 W LW)
  generalize cellS d off = cs at CE ⊢
  unfold agg
  simp only
  clear B hrs hd L
  go_enter Tryz.func96, Tryz.ntmps96
  go_wp2_with fail
  generalize w.alloc (.cells #[.int .u8 op, .bool nw, .int .i64 d, .int .i64 src, .bool ui, .int .i64 off, .int .i64 im, .int .i64 sz] 47) = w1 at *
  have hk0 : w.heap.size < w1.heap.size := (Array.getElem?_eq_some_iff.1 hb).1
  have z2 : w1.cell? ⟨w.heap.size, 2, none⟩ = some (.int .i64 d) := by simp only [World.cell?, hb]; rfl
  refine wp_region_held_drew (S := fun w' => w'.cell? ⟨w.heap.size, 2, none⟩ = some (.int .i64 d)) (by kernel_rfl) z2 (fun S0 => ?_)
  refine wpAnyH_take (i := 1) (v := ?v1t24) rfl (by kernel_rfl) (by kernel_rfl) (by kernel_rfl) (fun _ _ _ h => h) (Or.inl ⟨by rfl, ?y1t24⟩) S0 ?z1t24
  case y1t24 => intro w_ hSw; go_simp; with_reducible rfl
  try simp only [List.getElem_toArray, List.getElem_cons_zero, List.getElem_cons_succ, Act.put, List.setIfInBounds_toArray, List.set_cons_zero, List.set_cons_succ]
  refine wpAnyH_take (i := 2) (v := ?v2t25) rfl (by kernel_rfl) (by kernel_rfl) (by kernel_rfl) (fun _ _ _ h => h) (Or.inl ⟨by rfl, ?y2t25⟩) S0 ?z2t25
  case y2t25 => intro w_ hSw; (try dsimp only at hSw); go_simp; with_reducible rfl
  try simp only [List.getElem_toArray, List.getElem_cons_zero, List.getElem_cons_succ, Act.put, List.setIfInBounds_toArray, List.set_cons_zero, List.set_cons_succ]
  refine wpAnyH_ready (rs := [0]) (by kernel_rfl) (by simp) ?_
  refine AllReadyH.cons rfl (fun K hK => ?_) AllReadyH.nil
  go_simp
  refine (registersP w1.drew).mono ?_; rintro e w2 ⟨v, rfl, hv, hbl⟩
  have S2 := (hbl.cell (p := ⟨w.heap.size, 2, none⟩) (by exact hk0)).trans S0
  have b12 : Below w1.heap.size w1 w2 := ⟨hbl.os, hbl.tape, hbl.output, hbl.size, fun k h => hbl.block k h⟩
  have HB2 := Lib.hid ((HB.out).trans (b12.mono (HB.out).size))
  have HL2 := Lib.hid ((HL.out).past b12)
  have hb2 := (b12.block _ hk0).trans hb
  obtain ⟨ao, cap, hsh⟩ := hv.shape
  have e11 : regs.length = 11 := rfl
  rw [e11] at hsh
  subst hsh
  obtain ⟨g, o, rfl, y0, y1, y2, y3, y4⟩ := hv.at (by decide)
  have y5 := y4 d (by have : regs.length = 11 := rfl; have := HD.out; omega)
  rw [← HRS.out] at y5
  have p2 : (d : Int) < 11 := by have := HD.out; omega
  clear hbl hv y4 S0 y0 y1 y2 y3 e11 b12 z2
  try go_wp2_with fail
  refine hK.out _ _ S2 (fun _ => ?_)
  clear hK K
  try simp only [List.getElem_toArray, List.getElem_cons_zero, List.getElem_cons_succ, Act.put, List.setIfInBounds_toArray, List.set_cons_zero, List.set_cons_succ]
  refine wpAnyH_ready (rs := [3]) (by kernel_rfl) (by simp) ?_
  refine AllReadyH.cons rfl (fun K hK => ?_) AllReadyH.nil
  go_simp
  refine hK.out _ _ S2 (fun _ => ?_)
  clear hK K
  try simp only [List.getElem_toArray, List.getElem_cons_zero, List.getElem_cons_succ, Act.put, List.setIfInBounds_toArray, List.set_cons_zero, List.set_cons_succ]
  refine wpAnyH_ready (rs := [4]) (by kernel_rfl) (by simp) ?_
  refine AllReadyH.cons rfl (fun K hK => ?_) AllReadyH.nil
  go_simp
  refine hK.out _ _ S2 (fun _ => ?_)
  clear hK K
  try simp only [List.getElem_toArray, List.getElem_cons_zero, List.getElem_cons_succ, Act.put, List.setIfInBounds_toArray, List.set_cons_zero, List.set_cons_succ]
  refine wpAnyH_take (i := 5) (v := ?v5t26) rfl (by kernel_rfl) (by kernel_rfl) (by kernel_rfl) (fun _ _ _ h => h) (Or.inl ⟨by rfl, ?y5t26⟩) S2 ?z5t26
  case y5t26 => intro w_ hSw; go_simp; with_reducible rfl
  try simp only [List.getElem_toArray, List.getElem_cons_zero, List.getElem_cons_succ, Act.put, List.setIfInBounds_toArray, List.set_cons_zero, List.set_cons_succ]
  refine wpAnyH_done (by kernel_rfl) ?_ _
  clear p2 y5 S2
  have q0 : w2.cell? ⟨w.heap.size, 0, none⟩ = some (.int .u8 op) := by simp only [World.cell?, hb2]; rfl
  have q1 : w2.cell? ⟨w.heap.size, 1, none⟩ = some (.bool nw) := by simp only [World.cell?, hb2]; rfl
  have q2 : w2.cell? ⟨w.heap.size, 2, none⟩ = some (.int .i64 d) := by simp only [World.cell?, hb2]; rfl
  have q3 : w2.cell? ⟨w.heap.size, 3, none⟩ = some (.int .i64 src) := by simp only [World.cell?, hb2]; rfl
  have q4 : w2.cell? ⟨w.heap.size, 4, none⟩ = some (.bool ui) := by simp only [World.cell?, hb2]; rfl
  have q5 : w2.cell? ⟨w.heap.size, 5, none⟩ = some (.int .i64 off) := by simp only [World.cell?, hb2]; rfl
  have q6 : w2.cell? ⟨w.heap.size, 6, none⟩ = some (.int .i64 im) := by simp only [World.cell?, hb2]; rfl
  have q7 : w2.cell? ⟨w.heap.size, 7, none⟩ = some (.int .i64 sz) := by simp only [World.cell?, hb2]; rfl
  have hk3 : w.heap.size < w2.heap.size := (Array.getElem?_eq_some_iff.1 hb2).1
  have u : w2.cell? ⟨w.heap.size, 0, none⟩ = some (.int .u8 op) ∧ w2.cell? ⟨w.heap.size, 1, none⟩ = some (.bool nw) ∧ w2.cell? ⟨w.heap.size, 2, none⟩ = some (.int .i64 d) ∧ w2.cell? ⟨w.heap.size, 3, none⟩ = some (.int .i64 src) ∧ w2.cell? ⟨w.heap.size, 4, none⟩ = some (.bool ui) ∧ w2.cell? ⟨w.heap.size, 5, none⟩ = some (.int .i64 off) ∧ w2.cell? ⟨w.heap.size, 6, none⟩ = some (.int .i64 im) ∧ w2.cell? ⟨w.heap.size, 7, none⟩ = some (.int .i64 sz) := ⟨q0, q1, q2, q3, q4, q5, q6, q7⟩
  clear hb hb2 q1 q2 q3 q4 q5 q6 q7
  go_wp2_with fail
  refine wp_region_held_drew (S := fun w' => w'.cell? ⟨w.heap.size, 0, none⟩ = some (.int .u8 op) ∧ w'.cell? ⟨w.heap.size, 1, none⟩ = some (.bool nw) ∧ w'.cell? ⟨w.heap.size, 2, none⟩ = some (.int .i64 d) ∧ w'.cell? ⟨w.heap.size, 3, none⟩ = some (.int .i64 src) ∧ w'.cell? ⟨w.heap.size, 4, none⟩ = some (.bool ui) ∧ w'.cell? ⟨w.heap.size, 5, none⟩ = some (.int .i64 off) ∧ w'.cell? ⟨w.heap.size, 6, none⟩ = some (.int .i64 im) ∧ w'.cell? ⟨w.heap.size, 7, none⟩ = some (.int .i64 sz)) (by kernel_rfl) u (fun S0 => ?_)
  refine wpAnyH_take (i := 0) (v := ?v0t27) rfl (by kernel_rfl) (by kernel_rfl) (by kernel_rfl) (fun _ _ _ h => h) (Or.inl ⟨by rfl, ?y0t27⟩) S0 ?z0t27
  case y0t27 => intro w_ hSw; go_simp; with_reducible rfl
  try simp only [List.getElem_toArray, List.getElem_cons_zero, List.getElem_cons_succ, Act.put, List.setIfInBounds_toArray, List.set_cons_zero, List.set_cons_succ]
  refine wpAnyH_take (i := 1) (v := ?v1t28) rfl (by kernel_rfl) (by kernel_rfl) (by kernel_rfl) (fun _ _ _ h => h) (Or.inl ⟨by rfl, ?y1t28⟩) S0 ?z1t28
  case y1t28 => intro w_ hSw; (try dsimp only at hSw); go_simp; with_reducible rfl
  try simp only [List.getElem_toArray, List.getElem_cons_zero, List.getElem_cons_succ, Act.put, List.setIfInBounds_toArray, List.set_cons_zero, List.set_cons_succ]
  refine wpAnyH_take (i := 2) (v := ?v2t29) rfl (by kernel_rfl) (by kernel_rfl) (by kernel_rfl) (fun _ _ _ h => h) (Or.inl ⟨by rfl, ?y2t29⟩) S0 ?z2t29
  case y2t29 => intro w_ hSw; go_simp; with_reducible rfl
  try simp only [List.getElem_toArray, List.getElem_cons_zero, List.getElem_cons_succ, Act.put, List.setIfInBounds_toArray, List.set_cons_zero, List.set_cons_succ]
  refine wpAnyH_take (i := 3) (v := ?v3t30) rfl (by kernel_rfl) (by kernel_rfl) (by kernel_rfl) (fun _ _ _ h => h) (Or.inl ⟨by rfl, ?y3t30⟩) S0 ?z3t30
  case y3t30 => intro w_ hSw; (try dsimp only at hSw); go_simp; with_reducible rfl
  try simp only [List.getElem_toArray, List.getElem_cons_zero, List.getElem_cons_succ, Act.put, List.setIfInBounds_toArray, List.set_cons_zero, List.set_cons_succ]
  refine wpAnyH_take (i := 5) (v := ?v5t31) rfl (by kernel_rfl) (by kernel_rfl) (by kernel_rfl) (fun _ _ _ h => h) (Or.inl ⟨by rfl, ?y5t31⟩) S0 ?z5t31
  case y5t31 => intro w_ hSw; (try dsimp only at hSw); go_simp; with_reducible rfl
  try simp only [List.getElem_toArray, List.getElem_cons_zero, List.getElem_cons_succ, Act.put, List.setIfInBounds_toArray, List.set_cons_zero, List.set_cons_succ]
  refine wpAnyH_ready (rs := [4]) (by kernel_rfl) (by simp) ?_
  refine AllReadyH.cons rfl (fun K hK => ?_) AllReadyH.nil
  go_simp
  refine ((CE.out) w2.drew ((HL2.out).past (show Below w2.heap.size w2 w2.drew from (Below.refl _ w2).drew))).mono ?_; rintro e w4 ⟨rfl, b4⟩
  have S1 : w4.cell? ⟨w.heap.size, 0, none⟩ = some (.int .u8 op) ∧ w4.cell? ⟨w.heap.size, 1, none⟩ = some (.bool nw) ∧ w4.cell? ⟨w.heap.size, 2, none⟩ = some (.int .i64 d) ∧ w4.cell? ⟨w.heap.size, 3, none⟩ = some (.int .i64 src) ∧ w4.cell? ⟨w.heap.size, 4, none⟩ = some (.bool ui) ∧ w4.cell? ⟨w.heap.size, 5, none⟩ = some (.int .i64 off) ∧ w4.cell? ⟨w.heap.size, 6, none⟩ = some (.int .i64 im) ∧ w4.cell? ⟨w.heap.size, 7, none⟩ = some (.int .i64 sz) := by
    obtain ⟨u0, u1, u2, u3, u4, u5, u6, u7⟩ := S0
    have hk := (show w.heap.size < w2.drew.heap.size from hk3)
    refine ⟨?_, ?_, ?_, ?_, ?_, ?_, ?_, ?_⟩ <;> (rw [b4.cell (by exact hk)]; assumption)
  have hk4 : w.heap.size < w4.heap.size := Nat.lt_of_lt_of_le hk3 b4.size
  have HB4 := Lib.hid ((HB2.out).trans ((show Below w2.heap.size w2 w4 from ⟨b4.os, b4.tape, b4.output, b4.size, fun k h => b4.block k h⟩).mono (HB2.out).size))
  have HL4 := Lib.hid ((HL2.out).past (show Below w2.heap.size w2 w4 from ⟨b4.os, b4.tape, b4.output, b4.size, fun k h => b4.block k h⟩))
  clear b4
  try go_wp2_with fail
  refine hK.out _ _ S1 (fun _ => ?_)
  clear hK K
  try simp only [List.getElem_toArray, List.getElem_cons_zero, List.getElem_cons_succ, Act.put, List.setIfInBounds_toArray, List.set_cons_zero, List.set_cons_succ]
  refine wpAnyH_ready (rs := [6]) (by kernel_rfl) (by simp) ?_
  refine AllReadyH.cons rfl (fun K hK => ?_) AllReadyH.nil
  go_simp
  refine ((SE.out) w4 HL4.out).mono ?_; rintro e w5 ⟨rfl, b5⟩
  have S2 : w5.cell? ⟨w.heap.size, 0, none⟩ = some (.int .u8 op) ∧ w5.cell? ⟨w.heap.size, 1, none⟩ = some (.bool nw) ∧ w5.cell? ⟨w.heap.size, 2, none⟩ = some (.int .i64 d) ∧ w5.cell? ⟨w.heap.size, 3, none⟩ = some (.int .i64 src) ∧ w5.cell? ⟨w.heap.size, 4, none⟩ = some (.bool ui) ∧ w5.cell? ⟨w.heap.size, 5, none⟩ = some (.int .i64 off) ∧ w5.cell? ⟨w.heap.size, 6, none⟩ = some (.int .i64 im) ∧ w5.cell? ⟨w.heap.size, 7, none⟩ = some (.int .i64 sz) := by
    obtain ⟨u0, u1, u2, u3, u4, u5, u6, u7⟩ := S1
    refine ⟨?_, ?_, ?_, ?_, ?_, ?_, ?_, ?_⟩ <;> (rw [b5.cell (by exact hk4)]; assumption)
  have hk5 : w.heap.size < w5.heap.size := Nat.lt_of_lt_of_le hk4 b5.size
  have HB5 := Lib.hid ((HB4.out).trans (b5.mono (HB4.out).size))
  clear b5
  try go_wp2_with fail
  refine hK.out _ _ S2 (fun _ => ?_)
  clear hK K
  try simp only [List.getElem_toArray, List.getElem_cons_zero, List.getElem_cons_succ, Act.put, List.setIfInBounds_toArray, List.set_cons_zero, List.set_cons_succ]
  have SN := Lib.hid (ss_lit w5 [cs, ss] (by simp))
  have bn := alloc_below w5 (.cells #[str cs, str ss] 9)
  have BN := Lib.hid ((HB5.out).trans (bn.mono (HB5.out).size))
  have S3 : (w5.alloc (.cells #[str cs, str ss] 9)).cell? ⟨w.heap.size, 0, none⟩ = some (.int .u8 op) ∧ (w5.alloc (.cells #[str cs, str ss] 9)).cell? ⟨w.heap.size, 1, none⟩ = some (.bool nw) ∧ (w5.alloc (.cells #[str cs, str ss] 9)).cell? ⟨w.heap.size, 2, none⟩ = some (.int .i64 d) ∧ (w5.alloc (.cells #[str cs, str ss] 9)).cell? ⟨w.heap.size, 3, none⟩ = some (.int .i64 src) ∧ (w5.alloc (.cells #[str cs, str ss] 9)).cell? ⟨w.heap.size, 4, none⟩ = some (.bool ui) ∧ (w5.alloc (.cells #[str cs, str ss] 9)).cell? ⟨w.heap.size, 5, none⟩ = some (.int .i64 off) ∧ (w5.alloc (.cells #[str cs, str ss] 9)).cell? ⟨w.heap.size, 6, none⟩ = some (.int .i64 im) ∧ (w5.alloc (.cells #[str cs, str ss] 9)).cell? ⟨w.heap.size, 7, none⟩ = some (.int .i64 sz) := by
    obtain ⟨u0, u1, u2, u3, u4, u5, u6, u7⟩ := S2
    refine ⟨?_, ?_, ?_, ?_, ?_, ?_, ?_, ?_⟩ <;> (rw [bn.cell (by exact hk5)]; assumption)
  clear bn
  refine wpAnyH_ready (rs := [7]) (by kernel_rfl) (by simp) ?_
  refine AllReadyH.cons rfl (fun K hK => ?_) AllReadyH.nil
  go_simp
  refine hK.out _ _ S3 (fun _ => ?_)
  clear hK K
  try simp only [List.getElem_toArray, List.getElem_cons_zero, List.getElem_cons_succ, Act.put, List.setIfInBounds_toArray, List.set_cons_zero, List.set_cons_succ]
  refine wpAnyH_take (i := 8) (v := ?v8t32) rfl (by kernel_rfl) (by kernel_rfl) (by kernel_rfl) (fun _ _ _ h => h) (Or.inl ⟨by rfl, ?y8t32⟩) S3 ?z8t32
  case y8t32 => intro w_ hSw; go_simp; with_reducible rfl
  try simp only [List.getElem_toArray, List.getElem_cons_zero, List.getElem_cons_succ, Act.put, List.setIfInBounds_toArray, List.set_cons_zero, List.set_cons_succ]
  refine wpAnyH_done (by kernel_rfl) ?_ _
  go_wp2_with fail
  go_ret
  exact ⟨_, rfl, SN.out, BN.out⟩
end Go.Proofs.YthfkmackodbmkaaGreatDoor
