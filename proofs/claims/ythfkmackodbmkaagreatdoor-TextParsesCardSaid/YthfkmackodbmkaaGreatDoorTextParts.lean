/- What an instruction is shown as: its parts, one by one. -/
import Derived.Test.YthfkmackodbmkaaGreatDoorTextShow
namespace Go.Proofs.YthfkmackodbmkaaGreatDoor
open Go.RowKit
set_option linter.unusedVariables false
set_option linter.unusedSimpArgs false
set_option maxRecDepth 100000
set_option maxHeartbeats 2000000

/-- What is right has small numbers. -/
structure Small (i : Ins) : Prop where
  op0 : 1 ≤ i.op
  op1 : i.op ≤ 28
  d0 : 0 ≤ i.dst
  d1 : i.dst ≤ 10
  s0 : 0 ≤ i.src
  s1 : i.src ≤ 10
  o0 : -32768 ≤ i.off
  o1 : i.off < 32768
  m0 : -2147483648 ≤ i.im
  m1 : i.im < 2147483648
  z : i.sz = 0 ∨ i.sz = 1 ∨ i.sz = 2 ∨ i.sz = 4 ∨ i.sz = 8
theorem small {i : Ins} (h : right i = true) : Small i := by
  obtain ⟨op, nw, dst, src, ui, off, im, sz⟩ := i
  unfold right at h
  simp only at h
  split at h
  · cases ui <;> simp [isT, isR, second, farI, okSize] at h <;> constructor <;> simp only <;> omega
  · split at h
    · simp [isT] at h; constructor <;> simp only <;> omega
    · split at h
      · simp [isT, isR, farI, okSize] at h; constructor <;> simp only <;> omega
      · split at h
        · cases ui <;> simp [isT, isR, second, farI, okSize] at h <;> constructor <;> simp only <;> omega
        · split at h
          · simp [farI] at h; constructor <;> simp only <;> omega
          · split at h
            · cases ui <;> simp [isT, isR, second, farI, okSize] at h <;> constructor <;> simp only <;> omega
            · simp at h; constructor <;> simp only <;> omega
theorem regS_nat (n : Nat) (hn : n ≤ 10) : regS (n : Int) = regs.getD n [] := by
  have := regs_get (n : Int) (by omega) (by omega); rw [Int.toNat_natCast] at this; exact this.symm
/-- A literal of strings is made: it reads as they are. -/
theorem ss_lit (w : World) (l : List Str) (hl : l.length ≤ 10) : Ss (w.alloc (.cells (l.map str).toArray 9)) (.slice (some ⟨w.heap.size, 0, none⟩) l.length l.length) l := ss_new w l (by omega)
def Parts (l : List Str) (w : World) (e : Ending) (w' : World) : Prop := ∃ v, e = .returned v ∧ Ss w' v l ∧ Below w.heap.size w w'
theorem parts_none (op : Int) (nw : Bool) (d : Nat) (hd : d ≤ 10) (src : Int) (ui : Bool) (off im sz : Int) (c28 : (op == 28) = true) (w : World) (L : Lay w) :
    Calls Tryz.prog 96 #[agg ⟨op, nw, d, src, ui, off, im, sz⟩] w (Parts [] w) := by
  have B := alloc_below w (.cells #[.int .u8 op, .bool nw, .int .i64 d, .int .i64 src, .bool ui, .int .i64 off, .int .i64 im, .int .i64 sz] 47)
  have hb := heap_alloc_new w (.cells #[.int .u8 op, .bool nw, .int .i64 d, .int .i64 src, .bool ui, .int .i64 off, .int .i64 im, .int .i64 sz] 47)
  have HL := Lib.hid (L.past B)
  have HB := Lib.hid B
  have HD := Lib.hid hd
  obtain ⟨rs, hrs⟩ : ∃ rs, rs = regs.getD d [] := ⟨_, rfl⟩
  have HRS := Lib.hid hrs
  unfold agg
  simp only
  clear B hrs hd L
  go_enter Tryz.func96, Tryz.ntmps96
  go_wp2_with fail
  generalize w.alloc (.cells #[.int .u8 op, .bool nw, .int .i64 d, .int .i64 src, .bool ui, .int .i64 off, .int .i64 im, .int .i64 sz] 47) = w1 at *
  have hk0 : w.heap.size < w1.heap.size := (Array.getElem?_eq_some_iff.1 hb).1
  have z2 : w1.cell? ⟨w.heap.size, 2, none⟩ = some (.int .i64 d) := by simp only [World.cell?, hb]; rfl
  refine wp_region_held_drew (S := fun w' => w'.cell? ⟨w.heap.size, 2, none⟩ = some (.int .i64 d)) (by kernel_rfl) z2 (fun S0 => ?_)
  refine wpAnyH_take (i := 1) (v := ?v1t1) rfl (by kernel_rfl) (by kernel_rfl) (by kernel_rfl) (fun _ _ _ h => h) (Or.inl ⟨by rfl, ?y1t1⟩) S0 ?z1t1
  case y1t1 => intro w_ hSw; go_simp; with_reducible rfl
  try simp only [List.getElem_toArray, List.getElem_cons_zero, List.getElem_cons_succ, Act.put, List.setIfInBounds_toArray, List.set_cons_zero, List.set_cons_succ]
  refine wpAnyH_take (i := 2) (v := ?v2t2) rfl (by kernel_rfl) (by kernel_rfl) (by kernel_rfl) (fun _ _ _ h => h) (Or.inl ⟨by rfl, ?y2t2⟩) S0 ?z2t2
  case y2t2 => intro w_ hSw; (try dsimp only at hSw); go_simp; with_reducible rfl
  try simp only [List.getElem_toArray, List.getElem_cons_zero, List.getElem_cons_succ, Act.put, List.setIfInBounds_toArray, List.set_cons_zero, List.set_cons_succ]
  refine wpAnyH_ready (rs := [0]) (by kernel_rfl) (by simp) ?_
  refine AllReadyH.cons rfl (fun K hK => ?_) AllReadyH.nil
  go_simp
  refine (registersP w1.drew).mono ?_; rintro e w2 ⟨v, rfl, hv, hbl⟩
  have S2 := (hbl.cell (p := ⟨w.heap.size, 2, none⟩) (by exact hk0)).trans S0
  have b12 : Below w1.heap.size w1 w2 := ⟨hbl.os, hbl.tape, hbl.output, hbl.size, fun k h => hbl.block k h⟩
  have HB2 := Lib.hid ((HB.out).trans (b12.mono (HB.out).size))
  have HL2 := Lib.hid ((HL.out).past b12)
  have hb2 := (b12.block _ hk0).trans hb
  obtain ⟨ao, cap, hsh⟩ := hv.shape
  have e11 : regs.length = 11 := rfl
  rw [e11] at hsh
  subst hsh
  obtain ⟨g, o, rfl, y0, y1, y2, y3, y4⟩ := hv.at (by decide)
  have y5 := y4 d (by have : regs.length = 11 := rfl; have := HD.out; omega)
  rw [← HRS.out] at y5
  have p2 : (d : Int) < 11 := by have := HD.out; omega
  clear hbl hv y4 S0 y0 y1 y2 y3 e11 b12 z2
  try go_wp2_with fail
  refine hK.out _ _ S2 (fun _ => ?_)
  clear hK K
  try simp only [List.getElem_toArray, List.getElem_cons_zero, List.getElem_cons_succ, Act.put, List.setIfInBounds_toArray, List.set_cons_zero, List.set_cons_succ]
  refine wpAnyH_ready (rs := [3]) (by kernel_rfl) (by simp) ?_
  refine AllReadyH.cons rfl (fun K hK => ?_) AllReadyH.nil
  go_simp
  refine hK.out _ _ S2 (fun _ => ?_)
  clear hK K
  try simp only [List.getElem_toArray, List.getElem_cons_zero, List.getElem_cons_succ, Act.put, List.setIfInBounds_toArray, List.set_cons_zero, List.set_cons_succ]
  refine wpAnyH_ready (rs := [4]) (by kernel_rfl) (by simp) ?_
  refine AllReadyH.cons rfl (fun K hK => ?_) AllReadyH.nil
  go_simp
  refine hK.out _ _ S2 (fun _ => ?_)
  clear hK K
  try simp only [List.getElem_toArray, List.getElem_cons_zero, List.getElem_cons_succ, Act.put, List.setIfInBounds_toArray, List.set_cons_zero, List.set_cons_succ]
  refine wpAnyH_take (i := 5) (v := ?v5t3) rfl (by kernel_rfl) (by kernel_rfl) (by kernel_rfl) (fun _ _ _ h => h) (Or.inl ⟨by rfl, ?y5t3⟩) S2 ?z5t3
  case y5t3 => intro w_ hSw; go_simp; with_reducible rfl
  try simp only [List.getElem_toArray, List.getElem_cons_zero, List.getElem_cons_succ, Act.put, List.setIfInBounds_toArray, List.set_cons_zero, List.set_cons_succ]
  refine wpAnyH_done (by kernel_rfl) ?_ _
  clear p2 y5 S2
  have q0 : w2.cell? ⟨w.heap.size, 0, none⟩ = some (.int .u8 op) := by simp only [World.cell?, hb2]; rfl
  have q1 : w2.cell? ⟨w.heap.size, 1, none⟩ = some (.bool nw) := by simp only [World.cell?, hb2]; rfl
  have q2 : w2.cell? ⟨w.heap.size, 2, none⟩ = some (.int .i64 d) := by simp only [World.cell?, hb2]; rfl
  have q3 : w2.cell? ⟨w.heap.size, 3, none⟩ = some (.int .i64 src) := by simp only [World.cell?, hb2]; rfl
  have q4 : w2.cell? ⟨w.heap.size, 4, none⟩ = some (.bool ui) := by simp only [World.cell?, hb2]; rfl
  have q5 : w2.cell? ⟨w.heap.size, 5, none⟩ = some (.int .i64 off) := by simp only [World.cell?, hb2]; rfl
  have q6 : w2.cell? ⟨w.heap.size, 6, none⟩ = some (.int .i64 im) := by simp only [World.cell?, hb2]; rfl
  have q7 : w2.cell? ⟨w.heap.size, 7, none⟩ = some (.int .i64 sz) := by simp only [World.cell?, hb2]; rfl
  clear hb hb2
  go_wp2_with fail
  go_ret
  exact ⟨_, rfl, Ss.nil _, HB2.out⟩
theorem parts_neg (op : Int) (nw : Bool) (d : Nat) (hd : d ≤ 10) (src : Int) (ui : Bool) (off im sz : Int) (c28 : (op == 28) = false) (c13 : (op == 13) = true) (w : World) (L : Lay w) :
    Calls Tryz.prog 96 #[agg ⟨op, nw, d, src, ui, off, im, sz⟩] w (Parts [regs.getD d []] w) := by
  have B := alloc_below w (.cells #[.int .u8 op, .bool nw, .int .i64 d, .int .i64 src, .bool ui, .int .i64 off, .int .i64 im, .int .i64 sz] 47)
  have hb := heap_alloc_new w (.cells #[.int .u8 op, .bool nw, .int .i64 d, .int .i64 src, .bool ui, .int .i64 off, .int .i64 im, .int .i64 sz] 47)
  have HL := Lib.hid (L.past B)
  have HB := Lib.hid B
  have HD := Lib.hid hd
  obtain ⟨rs, hrs⟩ : ∃ rs, rs = regs.getD d [] := ⟨_, rfl⟩
  have HRS := Lib.hid hrs
  rw [← hrs]
  unfold agg
  simp only
  clear B hrs hd L
  go_enter Tryz.func96, Tryz.ntmps96
  go_wp2_with fail
  generalize w.alloc (.cells #[.int .u8 op, .bool nw, .int .i64 d, .int .i64 src, .bool ui, .int .i64 off, .int .i64 im, .int .i64 sz] 47) = w1 at *
  have hk0 : w.heap.size < w1.heap.size := (Array.getElem?_eq_some_iff.1 hb).1
  have z2 : w1.cell? ⟨w.heap.size, 2, none⟩ = some (.int .i64 d) := by simp only [World.cell?, hb]; rfl
  refine wp_region_held_drew (S := fun w' => w'.cell? ⟨w.heap.size, 2, none⟩ = some (.int .i64 d)) (by kernel_rfl) z2 (fun S0 => ?_)
  refine wpAnyH_take (i := 1) (v := ?v1t4) rfl (by kernel_rfl) (by kernel_rfl) (by kernel_rfl) (fun _ _ _ h => h) (Or.inl ⟨by rfl, ?y1t4⟩) S0 ?z1t4
  case y1t4 => intro w_ hSw; go_simp; with_reducible rfl
  try simp only [List.getElem_toArray, List.getElem_cons_zero, List.getElem_cons_succ, Act.put, List.setIfInBounds_toArray, List.set_cons_zero, List.set_cons_succ]
  refine wpAnyH_take (i := 2) (v := ?v2t5) rfl (by kernel_rfl) (by kernel_rfl) (by kernel_rfl) (fun _ _ _ h => h) (Or.inl ⟨by rfl, ?y2t5⟩) S0 ?z2t5
  case y2t5 => intro w_ hSw; (try dsimp only at hSw); go_simp; with_reducible rfl
  try simp only [List.getElem_toArray, List.getElem_cons_zero, List.getElem_cons_succ, Act.put, List.setIfInBounds_toArray, List.set_cons_zero, List.set_cons_succ]
  refine wpAnyH_ready (rs := [0]) (by kernel_rfl) (by simp) ?_
  refine AllReadyH.cons rfl (fun K hK => ?_) AllReadyH.nil
  go_simp
  refine (registersP w1.drew).mono ?_; rintro e w2 ⟨v, rfl, hv, hbl⟩
  have S2 := (hbl.cell (p := ⟨w.heap.size, 2, none⟩) (by exact hk0)).trans S0
  have b12 : Below w1.heap.size w1 w2 := ⟨hbl.os, hbl.tape, hbl.output, hbl.size, fun k h => hbl.block k h⟩
  have HB2 := Lib.hid ((HB.out).trans (b12.mono (HB.out).size))
  have HL2 := Lib.hid ((HL.out).past b12)
  have hb2 := (b12.block _ hk0).trans hb
  obtain ⟨ao, cap, hsh⟩ := hv.shape
  have e11 : regs.length = 11 := rfl
  rw [e11] at hsh
  subst hsh
  obtain ⟨g, o, rfl, y0, y1, y2, y3, y4⟩ := hv.at (by decide)
  have y5 := y4 d (by have : regs.length = 11 := rfl; have := HD.out; omega)
  rw [← HRS.out] at y5
  have p2 : (d : Int) < 11 := by have := HD.out; omega
  clear hbl hv y4 S0 y0 y1 y2 y3 e11 b12 z2
  try go_wp2_with fail
  refine hK.out _ _ S2 (fun _ => ?_)
  clear hK K
  try simp only [List.getElem_toArray, List.getElem_cons_zero, List.getElem_cons_succ, Act.put, List.setIfInBounds_toArray, List.set_cons_zero, List.set_cons_succ]
  refine wpAnyH_ready (rs := [3]) (by kernel_rfl) (by simp) ?_
  refine AllReadyH.cons rfl (fun K hK => ?_) AllReadyH.nil
  go_simp
  refine hK.out _ _ S2 (fun _ => ?_)
  clear hK K
  try simp only [List.getElem_toArray, List.getElem_cons_zero, List.getElem_cons_succ, Act.put, List.setIfInBounds_toArray, List.set_cons_zero, List.set_cons_succ]
  refine wpAnyH_ready (rs := [4]) (by kernel_rfl) (by simp) ?_
  refine AllReadyH.cons rfl (fun K hK => ?_) AllReadyH.nil
  go_simp
  refine hK.out _ _ S2 (fun _ => ?_)
  clear hK K
  try simp only [List.getElem_toArray, List.getElem_cons_zero, List.getElem_cons_succ, Act.put, List.setIfInBounds_toArray, List.set_cons_zero, List.set_cons_succ]
  refine wpAnyH_take (i := 5) (v := ?v5t6) rfl (by kernel_rfl) (by kernel_rfl) (by kernel_rfl) (fun _ _ _ h => h) (Or.inl ⟨by rfl, ?y5t6⟩) S2 ?z5t6
  case y5t6 => intro w_ hSw; go_simp; with_reducible rfl
  try simp only [List.getElem_toArray, List.getElem_cons_zero, List.getElem_cons_succ, Act.put, List.setIfInBounds_toArray, List.set_cons_zero, List.set_cons_succ]
  refine wpAnyH_done (by kernel_rfl) ?_ _
  clear p2 y5 S2
  have q0 : w2.cell? ⟨w.heap.size, 0, none⟩ = some (.int .u8 op) := by simp only [World.cell?, hb2]; rfl
  have q1 : w2.cell? ⟨w.heap.size, 1, none⟩ = some (.bool nw) := by simp only [World.cell?, hb2]; rfl
  have q2 : w2.cell? ⟨w.heap.size, 2, none⟩ = some (.int .i64 d) := by simp only [World.cell?, hb2]; rfl
  have q3 : w2.cell? ⟨w.heap.size, 3, none⟩ = some (.int .i64 src) := by simp only [World.cell?, hb2]; rfl
  have q4 : w2.cell? ⟨w.heap.size, 4, none⟩ = some (.bool ui) := by simp only [World.cell?, hb2]; rfl
  have q5 : w2.cell? ⟨w.heap.size, 5, none⟩ = some (.int .i64 off) := by simp only [World.cell?, hb2]; rfl
  have q6 : w2.cell? ⟨w.heap.size, 6, none⟩ = some (.int .i64 im) := by simp only [World.cell?, hb2]; rfl
  have q7 : w2.cell? ⟨w.heap.size, 7, none⟩ = some (.int .i64 sz) := by simp only [World.cell?, hb2]; rfl
  clear hb hb2
  have SN := Lib.hid (ss_lit w2 [rs] (by simp))
  have BN := Lib.hid ((HB2.out).trans ((alloc_below w2 (.cells #[str rs] 9)).mono (HB2.out).size))
  go_wp2_with fail
  go_ret
  exact ⟨_, rfl, SN.out, BN.out⟩
theorem parts_load (op : Int) (nw : Bool) (d : Nat) (hd : d ≤ 10) (src : Nat) (hs : src ≤ 10) (ui : Bool) (off im sz : Int) (h0 : -32768 ≤ off) (h1 : off < 32768) (c28 : (op == 28) = false) (c13 : (op == 13) = false) (c14 : (op == 14) = true) (w : World) (L : Lay w) :
    Calls Tryz.prog 96 #[agg ⟨op, nw, d, src, ui, off, im, sz⟩] w (Parts [regs.getD d [], cellS src off] w) := by
  have B := alloc_below w (.cells #[.int .u8 op, .bool nw, .int .i64 d, .int .i64 src, .bool ui, .int .i64 off, .int .i64 im, .int .i64 sz] 47)
  have hb := heap_alloc_new w (.cells #[.int .u8 op, .bool nw, .int .i64 d, .int .i64 src, .bool ui, .int .i64 off, .int .i64 im, .int .i64 sz] 47)
  have HL := Lib.hid (L.past B)
  have HB := Lib.hid B
  have HD := Lib.hid hd
  obtain ⟨rs, hrs⟩ : ∃ rs, rs = regs.getD d [] := ⟨_, rfl⟩
  have HRS := Lib.hid hrs
  rw [← hrs]
  have CE := Lib.hid (fun W (LW : Lay W) => cellP' src off hs h0 h1 W LW)
  generalize cellS src off = cs at CE ⊢
  unfold agg
  simp only
  clear B hrs hd L
  go_enter Tryz.func96, Tryz.ntmps96
  go_wp2_with fail
  generalize w.alloc (.cells #[.int .u8 op, .bool nw, .int .i64 d, .int .i64 src, .bool ui, .int .i64 off, .int .i64 im, .int .i64 sz] 47) = w1 at *
  have hk0 : w.heap.size < w1.heap.size := (Array.getElem?_eq_some_iff.1 hb).1
  have z2 : w1.cell? ⟨w.heap.size, 2, none⟩ = some (.int .i64 d) := by simp only [World.cell?, hb]; rfl
  refine wp_region_held_drew (S := fun w' => w'.cell? ⟨w.heap.size, 2, none⟩ = some (.int .i64 d)) (by kernel_rfl) z2 (fun S0 => ?_)
  refine wpAnyH_take (i := 1) (v := ?v1t7) rfl (by kernel_rfl) (by kernel_rfl) (by kernel_rfl) (fun _ _ _ h => h) (Or.inl ⟨by rfl, ?y1t7⟩) S0 ?z1t7
  case y1t7 => intro w_ hSw; go_simp; with_reducible rfl
  try simp only [List.getElem_toArray, List.getElem_cons_zero, List.getElem_cons_succ, Act.put, List.setIfInBounds_toArray, List.set_cons_zero, List.set_cons_succ]
  refine wpAnyH_take (i := 2) (v := ?v2t8) rfl (by kernel_rfl) (by kernel_rfl) (by kernel_rfl) (fun _ _ _ h => h) (Or.inl ⟨by rfl, ?y2t8⟩) S0 ?z2t8
  case y2t8 => intro w_ hSw; (try dsimp only at hSw); go_simp; with_reducible rfl
  try simp only [List.getElem_toArray, List.getElem_cons_zero, List.getElem_cons_succ, Act.put, List.setIfInBounds_toArray, List.set_cons_zero, List.set_cons_succ]
  refine wpAnyH_ready (rs := [0]) (by kernel_rfl) (by simp) ?_
  refine AllReadyH.cons rfl (fun K hK => ?_) AllReadyH.nil
  go_simp
  refine (registersP w1.drew).mono ?_; rintro e w2 ⟨v, rfl, hv, hbl⟩
  have S2 := (hbl.cell (p := ⟨w.heap.size, 2, none⟩) (by exact hk0)).trans S0
  have b12 : Below w1.heap.size w1 w2 := ⟨hbl.os, hbl.tape, hbl.output, hbl.size, fun k h => hbl.block k h⟩
  have HB2 := Lib.hid ((HB.out).trans (b12.mono (HB.out).size))
  have HL2 := Lib.hid ((HL.out).past b12)
  have hb2 := (b12.block _ hk0).trans hb
  obtain ⟨ao, cap, hsh⟩ := hv.shape
  have e11 : regs.length = 11 := rfl
  rw [e11] at hsh
  subst hsh
  obtain ⟨g, o, rfl, y0, y1, y2, y3, y4⟩ := hv.at (by decide)
  have y5 := y4 d (by have : regs.length = 11 := rfl; have := HD.out; omega)
  rw [← HRS.out] at y5
  have p2 : (d : Int) < 11 := by have := HD.out; omega
  clear hbl hv y4 S0 y0 y1 y2 y3 e11 b12 z2
  try go_wp2_with fail
  refine hK.out _ _ S2 (fun _ => ?_)
  clear hK K
  try simp only [List.getElem_toArray, List.getElem_cons_zero, List.getElem_cons_succ, Act.put, List.setIfInBounds_toArray, List.set_cons_zero, List.set_cons_succ]
  refine wpAnyH_ready (rs := [3]) (by kernel_rfl) (by simp) ?_
  refine AllReadyH.cons rfl (fun K hK => ?_) AllReadyH.nil
  go_simp
  refine hK.out _ _ S2 (fun _ => ?_)
  clear hK K
  try simp only [List.getElem_toArray, List.getElem_cons_zero, List.getElem_cons_succ, Act.put, List.setIfInBounds_toArray, List.set_cons_zero, List.set_cons_succ]
  refine wpAnyH_ready (rs := [4]) (by kernel_rfl) (by simp) ?_
  refine AllReadyH.cons rfl (fun K hK => ?_) AllReadyH.nil
  go_simp
  refine hK.out _ _ S2 (fun _ => ?_)
  clear hK K
  try simp only [List.getElem_toArray, List.getElem_cons_zero, List.getElem_cons_succ, Act.put, List.setIfInBounds_toArray, List.set_cons_zero, List.set_cons_succ]
  refine wpAnyH_take (i := 5) (v := ?v5t9) rfl (by kernel_rfl) (by kernel_rfl) (by kernel_rfl) (fun _ _ _ h => h) (Or.inl ⟨by rfl, ?y5t9⟩) S2 ?z5t9
  case y5t9 => intro w_ hSw; go_simp; with_reducible rfl
  try simp only [List.getElem_toArray, List.getElem_cons_zero, List.getElem_cons_succ, Act.put, List.setIfInBounds_toArray, List.set_cons_zero, List.set_cons_succ]
  refine wpAnyH_done (by kernel_rfl) ?_ _
  clear p2 y5 S2
  have q0 : w2.cell? ⟨w.heap.size, 0, none⟩ = some (.int .u8 op) := by simp only [World.cell?, hb2]; rfl
  have q1 : w2.cell? ⟨w.heap.size, 1, none⟩ = some (.bool nw) := by simp only [World.cell?, hb2]; rfl
  have q2 : w2.cell? ⟨w.heap.size, 2, none⟩ = some (.int .i64 d) := by simp only [World.cell?, hb2]; rfl
  have q3 : w2.cell? ⟨w.heap.size, 3, none⟩ = some (.int .i64 src) := by simp only [World.cell?, hb2]; rfl
  have q4 : w2.cell? ⟨w.heap.size, 4, none⟩ = some (.bool ui) := by simp only [World.cell?, hb2]; rfl
  have q5 : w2.cell? ⟨w.heap.size, 5, none⟩ = some (.int .i64 off) := by simp only [World.cell?, hb2]; rfl
  have q6 : w2.cell? ⟨w.heap.size, 6, none⟩ = some (.int .i64 im) := by simp only [World.cell?, hb2]; rfl
  have q7 : w2.cell? ⟨w.heap.size, 7, none⟩ = some (.int .i64 sz) := by simp only [World.cell?, hb2]; rfl
  clear hb hb2
  go_wp2_with fail
  refine ((CE.out) _ HL2.out).mono ?_; rintro e w3 ⟨rfl, b3⟩
  have HB3 := Lib.hid ((HB2.out).trans (b3.mono (HB2.out).size))
  have SN := Lib.hid (ss_lit w3 [rs, cs] (by simp))
  have BN := Lib.hid ((HB3.out).trans ((alloc_below w3 (.cells #[str rs, str cs] 9)).mono (HB3.out).size))
  clear b3
  go_wp2_with fail
  go_ret
  exact ⟨_, rfl, SN.out, BN.out⟩
theorem parts_jump (op : Int) (nw : Bool) (d : Nat) (hd : d ≤ 10) (src : Int) (ui : Bool) (off im sz : Int) (h0 : -32768 ≤ off) (h1 : off < 32768) (c28 : (op == 28) = false) (c13 : (op == 13) = false) (c14 : (op == 14) = false) (c15 : (op == 15) = false) (c16 : (op == 16) = true) (w : World) (L : Lay w) :
    Calls Tryz.prog 96 #[agg ⟨op, nw, d, src, ui, off, im, sz⟩] w (Parts [farS off []] w) := by
  have B := alloc_below w (.cells #[.int .u8 op, .bool nw, .int .i64 d, .int .i64 src, .bool ui, .int .i64 off, .int .i64 im, .int .i64 sz] 47)
  have hb := heap_alloc_new w (.cells #[.int .u8 op, .bool nw, .int .i64 d, .int .i64 src, .bool ui, .int .i64 off, .int .i64 im, .int .i64 sz] 47)
  have HL := Lib.hid (L.past B)
  have HB := Lib.hid B
  have HD := Lib.hid hd
  obtain ⟨rs, hrs⟩ : ∃ rs, rs = regs.getD d [] := ⟨_, rfl⟩
  have HRS := Lib.hid hrs
  have FA := Lib.hid (fun W (LW : Lay W) => farP off [] h0 h1 (by decide) W LW)
  generalize farS off [] = fs at FA ⊢
  unfold agg
  simp only
  clear B hrs hd L
  go_enter Tryz.func96, Tryz.ntmps96
  go_wp2_with fail
  generalize w.alloc (.cells #[.int .u8 op, .bool nw, .int .i64 d, .int .i64 src, .bool ui, .int .i64 off, .int .i64 im, .int .i64 sz] 47) = w1 at *
  have hk0 : w.heap.size < w1.heap.size := (Array.getElem?_eq_some_iff.1 hb).1
  have z2 : w1.cell? ⟨w.heap.size, 2, none⟩ = some (.int .i64 d) := by simp only [World.cell?, hb]; rfl
  refine wp_region_held_drew (S := fun w' => w'.cell? ⟨w.heap.size, 2, none⟩ = some (.int .i64 d)) (by kernel_rfl) z2 (fun S0 => ?_)
  refine wpAnyH_take (i := 1) (v := ?v1t10) rfl (by kernel_rfl) (by kernel_rfl) (by kernel_rfl) (fun _ _ _ h => h) (Or.inl ⟨by rfl, ?y1t10⟩) S0 ?z1t10
  case y1t10 => intro w_ hSw; go_simp; with_reducible rfl
  try simp only [List.getElem_toArray, List.getElem_cons_zero, List.getElem_cons_succ, Act.put, List.setIfInBounds_toArray, List.set_cons_zero, List.set_cons_succ]
  refine wpAnyH_take (i := 2) (v := ?v2t11) rfl (by kernel_rfl) (by kernel_rfl) (by kernel_rfl) (fun _ _ _ h => h) (Or.inl ⟨by rfl, ?y2t11⟩) S0 ?z2t11
  case y2t11 => intro w_ hSw; (try dsimp only at hSw); go_simp; with_reducible rfl
  try simp only [List.getElem_toArray, List.getElem_cons_zero, List.getElem_cons_succ, Act.put, List.setIfInBounds_toArray, List.set_cons_zero, List.set_cons_succ]
  refine wpAnyH_ready (rs := [0]) (by kernel_rfl) (by simp) ?_
  refine AllReadyH.cons rfl (fun K hK => ?_) AllReadyH.nil
  go_simp
  refine (registersP w1.drew).mono ?_; rintro e w2 ⟨v, rfl, hv, hbl⟩
  have S2 := (hbl.cell (p := ⟨w.heap.size, 2, none⟩) (by exact hk0)).trans S0
  have b12 : Below w1.heap.size w1 w2 := ⟨hbl.os, hbl.tape, hbl.output, hbl.size, fun k h => hbl.block k h⟩
  have HB2 := Lib.hid ((HB.out).trans (b12.mono (HB.out).size))
  have HL2 := Lib.hid ((HL.out).past b12)
  have hb2 := (b12.block _ hk0).trans hb
  obtain ⟨ao, cap, hsh⟩ := hv.shape
  have e11 : regs.length = 11 := rfl
  rw [e11] at hsh
  subst hsh
  obtain ⟨g, o, rfl, y0, y1, y2, y3, y4⟩ := hv.at (by decide)
  have y5 := y4 d (by have : regs.length = 11 := rfl; have := HD.out; omega)
  rw [← HRS.out] at y5
  have p2 : (d : Int) < 11 := by have := HD.out; omega
  clear hbl hv y4 S0 y0 y1 y2 y3 e11 b12 z2
  try go_wp2_with fail
  refine hK.out _ _ S2 (fun _ => ?_)
  clear hK K
  try simp only [List.getElem_toArray, List.getElem_cons_zero, List.getElem_cons_succ, Act.put, List.setIfInBounds_toArray, List.set_cons_zero, List.set_cons_succ]
  refine wpAnyH_ready (rs := [3]) (by kernel_rfl) (by simp) ?_
  refine AllReadyH.cons rfl (fun K hK => ?_) AllReadyH.nil
  go_simp
  refine hK.out _ _ S2 (fun _ => ?_)
  clear hK K
  try simp only [List.getElem_toArray, List.getElem_cons_zero, List.getElem_cons_succ, Act.put, List.setIfInBounds_toArray, List.set_cons_zero, List.set_cons_succ]
  refine wpAnyH_ready (rs := [4]) (by kernel_rfl) (by simp) ?_
  refine AllReadyH.cons rfl (fun K hK => ?_) AllReadyH.nil
  go_simp
  refine hK.out _ _ S2 (fun _ => ?_)
  clear hK K
  try simp only [List.getElem_toArray, List.getElem_cons_zero, List.getElem_cons_succ, Act.put, List.setIfInBounds_toArray, List.set_cons_zero, List.set_cons_succ]
  refine wpAnyH_take (i := 5) (v := ?v5t12) rfl (by kernel_rfl) (by kernel_rfl) (by kernel_rfl) (fun _ _ _ h => h) (Or.inl ⟨by rfl, ?y5t12⟩) S2 ?z5t12
  case y5t12 => intro w_ hSw; go_simp; with_reducible rfl
  try simp only [List.getElem_toArray, List.getElem_cons_zero, List.getElem_cons_succ, Act.put, List.setIfInBounds_toArray, List.set_cons_zero, List.set_cons_succ]
  refine wpAnyH_done (by kernel_rfl) ?_ _
  clear p2 y5 S2
  have q0 : w2.cell? ⟨w.heap.size, 0, none⟩ = some (.int .u8 op) := by simp only [World.cell?, hb2]; rfl
  have q1 : w2.cell? ⟨w.heap.size, 1, none⟩ = some (.bool nw) := by simp only [World.cell?, hb2]; rfl
  have q2 : w2.cell? ⟨w.heap.size, 2, none⟩ = some (.int .i64 d) := by simp only [World.cell?, hb2]; rfl
  have q3 : w2.cell? ⟨w.heap.size, 3, none⟩ = some (.int .i64 src) := by simp only [World.cell?, hb2]; rfl
  have q4 : w2.cell? ⟨w.heap.size, 4, none⟩ = some (.bool ui) := by simp only [World.cell?, hb2]; rfl
  have q5 : w2.cell? ⟨w.heap.size, 5, none⟩ = some (.int .i64 off) := by simp only [World.cell?, hb2]; rfl
  have q6 : w2.cell? ⟨w.heap.size, 6, none⟩ = some (.int .i64 im) := by simp only [World.cell?, hb2]; rfl
  have q7 : w2.cell? ⟨w.heap.size, 7, none⟩ = some (.int .i64 sz) := by simp only [World.cell?, hb2]; rfl
  clear hb hb2
  go_wp2_with fail
  refine ((FA.out) _ HL2.out).mono ?_; rintro e w3 ⟨rfl, b3⟩
  have HB3 := Lib.hid ((HB2.out).trans (b3.mono (HB2.out).size))
  have SN := Lib.hid (ss_lit w3 [fs] (by simp))
  have BN := Lib.hid ((HB3.out).trans ((alloc_below w3 (.cells #[str fs] 9)).mono (HB3.out).size))
  clear b3
  go_wp2_with fail
  go_ret
  exact ⟨_, rfl, SN.out, BN.out⟩
end Go.Proofs.YthfkmackodbmkaaGreatDoor
