/- An instruction's line. -/
import Derived.Test.YthfkmackodbmkaaGreatDoorTextParts2
namespace Go.Proofs.YthfkmackodbmkaaGreatDoor
open Go.RowKit
set_option linter.unusedVariables false
set_option linter.unusedSimpArgs false
set_option maxRecDepth 100000
set_option maxHeartbeats 2000000

theorem partsP (i : Ins) (h : right i = true) (w : World) (L : Lay w) : Calls Tryz.prog 96 #[agg i] w (Parts (partsS i) w) := by
  have sm := small h
  obtain ⟨op, nw, dst, src, ui, off, im, sz⟩ := i
  obtain ⟨o0, o1, d0, d1, s0, s1, f0, f1, m0, m1, hz⟩ := sm
  simp only at o0 o1 d0 d1 s0 s1 f0 f1 m0 m1 hz
  obtain ⟨d, rfl⟩ := Int.eq_ofNat_of_zero_le d0
  obtain ⟨s, rfl⟩ := Int.eq_ofNat_of_zero_le s0
  have hd : d ≤ 10 := by omega
  have hs : s ≤ 10 := by omega
  have rd : regS (d : Int) = regs.getD d [] := regS_nat d hd
  have hsr : ui = true ∨ ((0 : Int) ≤ s ∧ (s : Int) ≤ 10) := .inr ⟨by omega, by omega⟩
  have c : ∀ k : Int, op ≠ k → (op == k) = false := fun k hk => by simpa using hk
  by_cases e28 : op = 28
  · subst e28
    exact parts_none 28 nw d hd s ui off im sz rfl w L
  by_cases e13 : op = 13
  · subst e13
    have : partsS ⟨13, nw, d, s, ui, off, im, sz⟩ = [regs.getD d []] := by simp [partsS, rd]
    rw [this]
    exact parts_neg 13 nw d hd s ui off im sz rfl rfl w L
  by_cases e14 : op = 14
  · subst e14
    have : partsS ⟨14, nw, d, s, ui, off, im, sz⟩ = [regs.getD d [], cellS s off] := by simp [partsS, rd]
    rw [this]
    exact parts_load 14 nw d hd s hs ui off im sz f0 f1 rfl rfl rfl w L
  by_cases e15 : op = 15
  · subst e15
    have : partsS ⟨15, nw, d, s, ui, off, im, sz⟩ = [cellS d off, secondS ⟨15, nw, d, s, ui, off, im, sz⟩] := by simp [partsS]
    rw [this]
    exact parts_put 15 nw d hd s ui off im sz hsr (by omega) (by omega) f0 f1 rfl rfl rfl rfl w L
  by_cases e16 : op = 16
  · subst e16
    have : partsS ⟨16, nw, d, s, ui, off, im, sz⟩ = [farS off []] := by simp [partsS]
    rw [this]
    exact parts_jump 16 nw d hd s ui off im sz f0 f1 rfl rfl rfl rfl rfl w L
  cases hj : jumpsI ⟨op, nw, d, s, ui, off, im, sz⟩ with
  | true =>
    have : partsS ⟨op, nw, d, s, ui, off, im, sz⟩ = [regs.getD d [], secondS ⟨op, nw, d, s, ui, off, im, sz⟩, farS off []] := by simp [partsS, e28, e13, e14, e15, e16, hj, rd]
    rw [this]
    exact parts_ask op nw d hd s ui off im sz hsr (by omega) (by omega) f0 f1 (c _ e28) (c _ e13) (c _ e14) (c _ e15) (c _ e16) hj w L
  | false =>
    have : partsS ⟨op, nw, d, s, ui, off, im, sz⟩ = [regs.getD d [], secondS ⟨op, nw, d, s, ui, off, im, sz⟩] := by simp [partsS, e28, e13, e14, e15, e16, hj, rd]
    rw [this]
    exact parts_plain op nw d hd s ui off im sz hsr (by omega) (by omega) (c _ e28) (c _ e13) (c _ e14) (c _ e15) (c _ e16) hj w L

theorem join_eq : ∀ l : List Str, Lib.join l [44, 32] = joinS l
  | [] => rfl
  | [x] => by simp [Lib.join, List.intercalate, joinS]
  | x :: y :: r => by
    have := join_eq (y :: r)
    rw [joinS, ← this]
    simp [Lib.join, List.intercalate]
theorem joinS_len : ∀ (l : List Str) (b : Nat), (∀ x ∈ l, x.length ≤ b) → (joinS l).length ≤ l.length * (b + 2)
  | [], b, _ => by simp [joinS]
  | [x], b, h => by have := h x (by simp); simp [joinS]; omega
  | x :: y :: r, b, h => by
    have h1 := h x (by simp)
    have h2 := joinS_len (y :: r) b (fun z hz => h z (by simp [hz]))
    rw [joinS]
    have e : (x :: y :: r).length * (b + 2) = (y :: r).length * (b + 2) + (b + 2) := by rw [List.length_cons, Nat.succ_mul]
    rw [e]
    simp only [List.length_append, List.length_cons, List.length_nil] at h2 ⊢
    omega
theorem secondS_len (i : Ins) (h : Small i) : (secondS i).length ≤ 30 := by
  unfold secondS
  split
  · have := itoa_short i.im (by have := h.m0; omega) (by have := h.m1; omega); omega
  · have := regS_len i.src; omega
theorem farS_len (off : Int) (gap : Str) (h0 : -32768 ≤ off) (h1 : off < 32768) (hg : gap.length ≤ 1) : (farS off gap).length ≤ 30 := by
  unfold farS
  split
  · have := itoa_short (-off) (by omega) (by omega); simp; omega
  · have := itoa_short off (by omega) (by omega); simp; omega
theorem partsS_len (i : Ins) (h : Small i) : (∀ x ∈ partsS i, x.length ≤ 50) ∧ (partsS i).length ≤ 3 := by
  have r1 := regS_len i.dst
  have r2 := secondS_len i h
  have r3 := farS_len i.off [] h.o0 h.o1 (by decide)
  have c1 : ∀ n, (cellS n i.off).length ≤ 50 := by
    intro n
    have := regS_len n
    have := farS_len i.off [32] h.o0 h.o1 (by decide)
    simp [cellS]; omega
  have c2 := c1 i.src
  have c3 := c1 i.dst
  unfold partsS
  repeat' split
  all_goals refine ⟨?_, by simp⟩
  all_goals intro x hx
  all_goals simp only [List.mem_cons, List.not_mem_nil, or_false] at hx
  all_goals first | (rcases hx with rfl | rfl | rfl <;> omega) | (rcases hx with rfl | rfl <;> omega) | (subst hx; omega) | (cases hx)
theorem joinP {w : World} {v : Value} {l : List Str} (h : Ss w v l) (hl : 0 < l.length) (hb : (joinS l).length ≤ 1000000000) (h3 : l.length ≤ 1000000) :
    Calls Tryz.prog 17 #[v, .string ⟨#[44, 32]⟩] w fun e w' => e = .returned (str (joinS l)) ∧ Below w.heap.size w w' := by
  obtain ⟨ao, cap, rfl⟩ := h.shape
  obtain ⟨g, o, rfl, _, hc, _, hg, hcell⟩ := h.at hl
  have hm : ((l.map fun t => (⟨t.toArray⟩ : ByteArray)).map (·.data.toList)) = l := by rw [List.map_map]; simp [Function.comp_def]
  have J := Tryz.strings_Join g o cap (l.map fun t => (⟨t.toArray⟩ : ByteArray)) ⟨#[44, 32]⟩ w (fun j x hx => ?_) hg (by simp; omega) (by simpa using hc) (by rw [hm]; have := join_eq l; show (Lib.join l [44, 32]).length ≤ _; rw [this]; omega)
  · rw [List.length_map] at J
    refine J.mono ?_
    rintro e w' ⟨rfl, hb'⟩
    refine ⟨?_, hb'⟩
    rw [hm]
    show Ending.returned (.string ⟨(Lib.join l [44, 32]).toArray⟩) = _
    rw [join_eq]
  · rw [List.getElem?_map] at hx
    obtain ⟨t, ht, rfl⟩ := Option.map_eq_some_iff.1 hx
    have hj : j < l.length := (List.getElem?_eq_some_iff.1 ht).1
    rw [hcell j hj]
    simp [List.getD, ht]
theorem nameOf_len (i : Ins) (h : Small i) : (nameOf i).length ≤ 30 := by
  have h1 := names_len i.op.toNat
  have h2 := itoa_short i.sz (by have := h.z; omega) (by have := h.z; omega)
  unfold nameOf
  simp only [List.length_append]
  have a : (if i.nw then [51, 50] else ([] : Str)).length ≤ 2 := by split <;> simp
  have b : (if i.sz ≠ 0 then Lib.itoa i.sz else ([] : Str)).length ≤ 20 := by
    split
    · omega
    · simp
  omega
theorem lineOfP (i : Ins) (h : right i = true) (w : World) (L : Lay w) :
    Calls Tryz.prog 35 #[agg i] w fun e w' => e = .returned (str (oneS i)) ∧ Below w.heap.size w w' := by
  have sm := small h
  have hnl := nameOf_len i sm
  obtain ⟨hpl, hp3⟩ := partsS_len i sm
  have hjl : (joinS (partsS i)).length ≤ 300 := by
    have := joinS_len (partsS i) 50 hpl
    have : (partsS i).length * 52 ≤ 3 * 52 := Nat.mul_le_mul_right _ hp3
    omega
  have WO := Lib.hid (fun W (LW : Lay W) => wordOfP i (by have := sm.op0; omega) sm.op1 (by have := sm.z; omega) (by have := sm.z; omega) W LW)
  have PO := Lib.hid (fun W (LW : Lay W) => partsP i h W LW)
  obtain ⟨res, hres⟩ : ∃ res, res = oneS i := ⟨_, rfl⟩
  rw [← hres]
  have e0 : oneS i = if partsS i = [] then nameOf i ++ [10] else (nameOf i ++ ([32] ++ joinS (partsS i))) ++ [10] := by
    unfold oneS bareS; split <;> rfl
  have HRES := Lib.hid (hres.trans e0)
  clear hres e0 hpl sm h
  generalize nameOf i = nm at *
  generalize partsS i = ps at *
  generalize hjs : joinS ps = js at *
  have HJS := Lib.hid hjs
  have HJL := Lib.hid (And.intro hjl hp3)
  have C1 := run_cat (P := Tryz.prog) [32] js (by simp; omega)
  have C2 := run_cat (P := Tryz.prog) nm (32 :: js) (by simp; omega)
  have C3 := run_cat (P := Tryz.prog) (nm ++ 32 :: js) [10] (by simp; omega)
  have C4 := run_cat (P := Tryz.prog) nm [10] (by simp; omega)
  simp only [List.cons_append, List.append_assoc, List.nil_append] at C1 C2 C3 C4
  clear hjs hjl hp3 hnl
  obtain ⟨op, nw, dst, src, ui, off, im, sz⟩ := i
  have O := oc_new w 47 (.int .u8 op) (.bool nw) (.int .i64 dst) (.int .i64 src) (.bool ui) (.int .i64 off) (.int .i64 im) (.int .i64 sz)
  have B := alloc_below w (.cells #[.int .u8 op, .bool nw, .int .i64 dst, .int .i64 src, .bool ui, .int .i64 off, .int .i64 im, .int .i64 sz] 47)
  have HL := Lib.hid (L.past B)
  have HB := Lib.hid B
  obtain ⟨z0, z1, z2, z3, z4, z5, z6, z7⟩ := O.cells
  have HO := Lib.hid O
  unfold agg at WO PO ⊢
  simp only at WO PO ⊢
  clear O B L
  go_enter Tryz.func35, Tryz.ntmps35
  go_wp2_with fail
  refine ((WO.out) _ HL.out).mono ?_; rintro e w2 ⟨rfl, b2⟩
  have HB2 := Lib.hid ((HB.out).trans (b2.mono (HB.out).size))
  have HL2 := Lib.hid ((HL.out).past b2)
  obtain ⟨y0, y1, y2, y3, y4, y5, y6, y7⟩ := ((HO.out).past b2).cells
  clear b2 z0 z1 z2 z3 z4 z5 z6 z7
  go_wp2_with fail
  refine ((PO.out) _ HL2.out).mono ?_; rintro e w3 ⟨v, rfl, hv, b3⟩
  have HB3 := Lib.hid ((HB2.out).trans (b3.mono (HB2.out).size))
  have HV := Lib.hid hv
  obtain ⟨ao, cap, rfl⟩ := hv.shape
  clear b3 hv y0 y1 y2 y3 y4 y5 y6 y7
  cases ps with
  | nil =>
    have HR2 := Lib.hid (show res = nm ++ [10] by rw [HRES.out, if_pos rfl])
    go_wp2_with fail
    go_ret
    exact ⟨by rw [HR2.out]; rfl, HB3.out⟩
  | cons p ps =>
    have HR2 := Lib.hid (show res = nm ++ 32 :: (js ++ [10]) by rw [HRES.out, if_neg (by simp)]; simp)
    have J := Lib.hid (joinP HV.out (by simp) (by rw [HJS.out]; have := (HJL.out).1; omega) (by have := (HJL.out).2; omega))
    rw [HJS.out] at J
    have hlp : decide ((0 : Int) < (ps.length : Int) + 1) = true := by rw [decide_eq_true_iff]; omega
    go_wp2_with fail
    refine (J.out).mono ?_; rintro e w4 ⟨rfl, b4⟩
    have HB4 := Lib.hid ((HB3.out).trans (b4.mono (HB3.out).size))
    clear b4
    go_wp2_with fail
    go_ret
    exact ⟨by rw [HR2.out]; rfl, HB4.out⟩
end Go.Proofs.YthfkmackodbmkaaGreatDoor
