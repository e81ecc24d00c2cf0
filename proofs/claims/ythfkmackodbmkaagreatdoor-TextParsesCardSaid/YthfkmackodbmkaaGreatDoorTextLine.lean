/- What a line tells: its instruction, or its label. -/
import Derived.Test.YthfkmackodbmkaaGreatDoorTextKnown
import Derived.Test.YthfkmackodbmkaaGreatDoorTextToks
namespace Go.Proofs.YthfkmackodbmkaaGreatDoor
open Go.RowKit
set_option linter.unusedVariables false
set_option linter.unusedSimpArgs false
set_option maxRecDepth 100000
set_option maxHeartbeats 1000000

theorem str_eqs (a b : Str) : ((⟨a.toArray⟩ : ByteArray).toList == (⟨b.toArray⟩ : ByteArray).toList) = decide (a = b) := by
  rw [ByteArray.toList_eq, ByteArray.toList_eq, Bool.eq_iff_iff]
  simp
theorem find_tab (key : Str) : ∀ l : List (Str × Ins × Kind), sFind (l.map fun e => (e.1, wordV e.2.1 (kf e.2.2))) key = ((l.find? fun e => e.1 == key).map (·.2)).map fun e => wordV e.1 (kf e.2)
  | [] => rfl
  | x :: l => by
    have := find_tab key l
    unfold sFind at this ⊢
    rw [List.map_cons, List.find?_cons, List.find?_cons]
    by_cases h : (x.1 == key) = true
    · simp [h]
    · simp only [h]
      exact this
theorem sFind_tab (key : Str) : sFind tabV key = (entry key).map fun e => wordV e.1 (kf e.2) := find_tab key table
def wordZ : Value := .agg #[.int .u8 0, .bool false, .int .i64 0, .int .i64 0, .bool false, .int .i64 0, .int .i64 0, .int .i64 0, .nilFunc]
theorem word_zero (w : World) : (zeroValue 118).run Tryz.prog w = .ok wordZ w := by
  have h : ∃ i, Tryz.prog.info? 118 = some i ∧ i.zero = some wordZ := ⟨_, rfl, rfl⟩
  obtain ⟨i, hi, hz⟩ := h
  simp [zeroValue, typeInfo, hi, hz]
theorem look_word {w : World} {mb : Nat} (M : SMap w mb tabV) (key : Str) :
    (Instr.lookup 51 (.map (some mb)) (str key) true).run Tryz.prog w = .ok (match entry key with | some e => .tuple #[wordV e.1 (kf e.2), .bool true] | none => .tuple #[wordZ, .bool false]) w := by
  have := M.look (P := Tryz.prog) (t := 51) (k := 9) (e := 118) map_type string_type (word_zero w) key true
  rw [this, sFind_tab]
  cases entry key <;> rfl
/-- An instruction is written into a reader. -/
def wroteR (w : World) (R : Nat) (i : Ins) : World := ((((((((w.setCell ⟨R, 2, none⟩ (.int .u8 i.op)).setCell ⟨R, 3, none⟩ (.bool i.nw)).setCell ⟨R, 4, none⟩ (.int .i64 i.dst)).setCell ⟨R, 5, none⟩ (.int .i64 i.src)).setCell ⟨R, 6, none⟩ (.bool i.ui)).setCell ⟨R, 7, none⟩ (.int .i64 i.off)).setCell ⟨R, 8, none⟩ (.int .i64 i.im)).setCell ⟨R, 9, none⟩ (.int .i64 i.sz))
theorem Rdr.wrote {w : World} {R : Nat} {ts : List Str} {lab : Str} {i : Ins} {tl : Str} (h : Rdr w R ts lab i tl) (j : Ins) : Rdr (wroteR w R j) R ts lab j tl ∧ w.grownBy (wroteR w R j) (some R) := by
  obtain ⟨h0, hl, v, h1, h2⟩ := h
  have e : w.grownBy (wroteR w R j) (some R) := by
    unfold wroteR
    exact grown_trans (grown_trans (grown_trans (grown_trans (grown_trans (grown_trans (grown_trans (setCell_grown _ _ _ _) (setCell_grown _ _ _ _)) (setCell_grown _ _ _ _)) (setCell_grown _ _ _ _)) (setCell_grown _ _ _ _)) (setCell_grown _ _ _ _)) (setCell_grown _ _ _ _)) (setCell_grown _ _ _ _)
  refine ⟨⟨h0, hl, v, ?_, h2.grown e (fun k e => by cases e; exact h1.noStrs)⟩, e⟩
  have a := heap_set (heap_set (heap_set (heap_set (heap_set (heap_set (heap_set (heap_set h1 2 (.int .u8 j.op)) 3 (.bool j.nw)) 4 (.int .i64 j.dst)) 5 (.int .i64 j.src)) 6 (.bool j.ui)) 7 (.int .i64 j.off)) 8 (.int .i64 j.im)) 9 (.int .i64 j.sz)
  unfold Rd wroteR
  simpa using a
theorem kindP (kd : Kind) {w : World} {R : Nat} {ts : List Str} {lab : Str} {i : Ins} (h : Rdr w R ts lab i []) (L : Lay w) :
    Calls Tryz.prog (kf kd) #[.pointer (some ⟨R, 0, none⟩)] w (Reads w R (rdKind kd i ts) (fun _ => .tuple #[]) (fun x w' => Rdr w' R x.2 lab x.1.1 x.1.2)) := by
  have conv : ∀ {res : Option (Ins × List Str)} {e : Ending} {w' : World}, Reads w R res (fun _ => .tuple #[]) (fun x w' => Rdr w' R x.2 lab x.1 []) e w' →
      Reads w R (res.map fun x => ((x.1, ([] : Str)), x.2)) (fun _ => .tuple #[]) (fun x w' => Rdr w' R x.2 lab x.1.1 x.1.2) e w' := by
    intro res e w' h
    cases res with
    | none => exact h
    | some x => exact h
  cases kd
  · exact (reckonP h L).mono fun e w' h => conv h
  · exact (targetP h).mono fun e w' h => conv h
  · exact askP h L
  · exact (loadP h L).mono fun e w' h => conv h
  · exact (putP h L).mono fun e w' h => conv h
  · exact jumpP h L
  · refine (exitP R w).mono ?_; rintro e w' ⟨rfl, rfl⟩
    exact ⟨rfl, h, grown_refl _ _⟩
theorem entry_op : ∀ e ∈ table, 0 ≤ e.2.1.op ∧ e.2.1.op ≤ 255 := by decide +kernel
theorem rdIns_cons (t : Str) (ts : List Str) : rdIns (t :: ts) = (entry t).bind fun e => (rdKind e.2 e.1 ts).bind fun x => if right x.1.1 then some x else none := rfl
/-- What reading keeps: the operator. -/
theorem target_op {i : Ins} {ts : List Str} {x : Ins × List Str} (h : rdTarget i ts = some x) : x.1.op = i.op := by
  unfold rdTarget at h; obtain ⟨y, _, rfl⟩ := Option.map_eq_some_iff.1 h; rfl
theorem second_op {i : Ins} {ts : List Str} {x : Ins × List Str} (h : rdSecond i ts = some x) : x.1.op = i.op := by
  unfold rdSecond at h
  split at h
  · cases h; rfl
  · obtain ⟨y, _, rfl⟩ := Option.map_eq_some_iff.1 h; rfl
theorem reckon_op {i : Ins} {ts : List Str} {x : Ins × List Str} (h : rdReckon i ts = some x) : x.1.op = i.op := by
  unfold rdReckon at h
  obtain ⟨a, ha, h⟩ := Option.bind_eq_some_iff.1 h
  obtain ⟨b, _, h⟩ := Option.bind_eq_some_iff.1 h
  rw [second_op h, target_op ha]
theorem jump_op {i : Ins} {ts : List Str} {x : (Ins × Str) × List Str} (h : rdJump i ts = some x) : x.1.1.op = i.op := by
  unfold rdJump at h
  split at h
  · obtain ⟨y, _, rfl⟩ := Option.map_eq_some_iff.1 h; rfl
  · obtain ⟨y, _, rfl⟩ := Option.map_eq_some_iff.1 h; rfl
theorem kind_op {kd : Kind} {i : Ins} {ts : List Str} {x : (Ins × Str) × List Str} (h : rdKind kd i ts = some x) : x.1.1.op = i.op := by
  cases kd
  · obtain ⟨y, hy, rfl⟩ := Option.map_eq_some_iff.1 h; exact reckon_op hy
  · obtain ⟨y, hy, rfl⟩ := Option.map_eq_some_iff.1 h; exact target_op hy
  · unfold rdKind rdAsk at h
    obtain ⟨a, ha, h⟩ := Option.bind_eq_some_iff.1 h
    obtain ⟨b, _, h⟩ := Option.bind_eq_some_iff.1 h
    rw [jump_op h, reckon_op ha]
  · obtain ⟨y, hy, rfl⟩ := Option.map_eq_some_iff.1 h
    unfold rdLoad at hy
    obtain ⟨a, ha, hy⟩ := Option.bind_eq_some_iff.1 hy
    obtain ⟨b, _, hy⟩ := Option.bind_eq_some_iff.1 hy
    obtain ⟨c, _, rfl⟩ := Option.map_eq_some_iff.1 hy
    exact target_op ha
  · obtain ⟨y, hy, rfl⟩ := Option.map_eq_some_iff.1 h
    unfold rdPut at hy
    obtain ⟨a, _, hy⟩ := Option.bind_eq_some_iff.1 hy
    obtain ⟨b, _, hy⟩ := Option.bind_eq_some_iff.1 hy
    rw [second_op hy]
  · exact jump_op h
  · unfold rdKind at h; cases h; rfl
theorem instructionP {w : World} {R : Nat} {ts : List Str} {mb : Nat} (h : Rdr w R ts [] noIns []) (M : SMap w mb tabV) (L : Lay w) :
    Calls Tryz.prog 134 #[.pointer (some ⟨R, 0, none⟩), .map (some mb)] w (Reads w R (rdIns ts) (fun _ => .tuple #[]) (fun x w' => Rdr w' R x.2 [] x.1.1 x.1.2)) := by
  cases ts with
  | nil =>
    have N := next_none h
    clear h M L
    go_enter Tryz.func134, Tryz.ntmps134
    go_wp2_with fail
    refine N.mono ?_; rintro e w' ⟨rfl, rfl⟩
    go_wp2_with fail
    exact ⟨rfl, reads_none rfl rfl (grown_refl _ _)⟩
  | cons t ts =>
    have N := next_some h
    have hmb : R ≠ mb := by
      intro e
      subst e
      obtain ⟨_, _, v, h1, _⟩ := h
      obtain ⟨es, c, hb, _⟩ := M
      rw [show w.heap[_]? = _ from h1] at hb
      cases hb
    have HM := Lib.hid (fun (W : World) (hg : w.grownBy W (some R)) => M.kept hg (fun e => hmb (Option.some.inj e).symm))
    have HL := Lib.hid (fun (W : World) (hg : w.grownBy W (some R)) => h.lay L hg)
    clear h M L hmb
    go_enter Tryz.func134, Tryz.ntmps134
    go_wp2_with fail
    refine N.mono ?_; rintro e w1 ⟨rfl, hr, hg⟩
    have LK := look_word (HM.out _ hg) t
    have HR := Lib.hid hr
    have HG := Lib.hid hg
    clear hr hg N
    cases he : entry t with
    | none =>
      rw [he] at LK
      have HE := Lib.hid (show rdIns (t :: ts) = none by simp [rdIns, he])
      clear he
      unfold wordZ at LK
      simp only at LK
      go_wp2_with fail
      refine (must_no _).mono ?_; rintro e w2 ⟨rfl, rfl⟩
      go_wp2_with fail
      exact ⟨rfl, reads_none HE.out rfl (grown_past HG.out (alloc_below _ _))⟩
    | some x =>
      rw [he] at LK
      obtain ⟨i, kd⟩ := x
      have HE := Lib.hid he
      obtain ⟨op, nw, dst, src, ui, off, im, sz⟩ := i
      unfold wordV at LK
      simp only at LK
      have hKn : R ≠ w1.heap.size := by have := (HR.out).lt; omega
      have b2 := alloc_below w1 (.cells #[.int .u8 op, .bool nw, .int .i64 dst, .int .i64 src, .bool ui, .int .i64 off, .int .i64 im, .int .i64 sz, .func (.func (kf kd)) #[] #[]] 118)
      have hk := heap_alloc_new w1 (.cells #[.int .u8 op, .bool nw, .int .i64 dst, .int .i64 src, .bool ui, .int .i64 off, .int .i64 im, .int .i64 sz, .func (.func (kf kd)) #[] #[]] 118)
      have HR2 := Lib.hid ((HR.out).past b2)
      have HG2 := Lib.hid (grown_past HG.out b2)
      go_upto_region 1 with fail
      generalize w1.alloc (.cells #[.int .u8 op, .bool nw, .int .i64 dst, .int .i64 src, .bool ui, .int .i64 off, .int .i64 im, .int .i64 sz, .func (.func (kf kd)) #[] #[]] 118) = w2 at *
      generalize w1.heap.size = K0 at *
      have k8 : ∀ W : World, w2.grownBy W (some R) → W.heap[K0]? = some (.cells #[.int .u8 op, .bool nw, .int .i64 dst, .int .i64 src, .bool ui, .int .i64 off, .int .i64 im, .int .i64 sz, .func (.func (kf kd)) #[] #[]] 118 (0, 0)) := fun W hg => (hg.block _ (Array.getElem?_eq_some_iff.1 hk).1 (fun e => hKn (Option.some.inj e).symm)).trans hk
      have HK := Lib.hid k8
      have W3 := (HR2.out).wrote ⟨op, nw, dst, src, ui, off, im, sz⟩
      have HW3 := Lib.hid W3
      obtain ⟨_, _, c2, c3, c4, c5, c6, c7, c8, c9, _, fr⟩ := (HR2.out).at
      have f2 := fr 2
      have f3 := fr 3
      have f4 := fr 4
      have f5 := fr 5
      have f6 := fr 6
      have f7 := fr 7
      have f8 := fr 8
      have f9 := fr 9
      have q0 : w2.cell? ⟨K0, 0, none⟩ = some (.int .u8 op) := by simp [World.cell?, hk]
      have q1 : w2.cell? ⟨K0, 1, none⟩ = some (.bool nw) := by simp [World.cell?, hk]
      have q2 : w2.cell? ⟨K0, 2, none⟩ = some (.int .i64 dst) := by simp [World.cell?, hk]
      have q3 : w2.cell? ⟨K0, 3, none⟩ = some (.int .i64 src) := by simp [World.cell?, hk]
      have q4 : w2.cell? ⟨K0, 4, none⟩ = some (.bool ui) := by simp [World.cell?, hk]
      have q5 : w2.cell? ⟨K0, 5, none⟩ = some (.int .i64 off) := by simp [World.cell?, hk]
      have q6 : w2.cell? ⟨K0, 6, none⟩ = some (.int .i64 im) := by simp [World.cell?, hk]
      have q7 : w2.cell? ⟨K0, 7, none⟩ = some (.int .i64 sz) := by simp [World.cell?, hk]
      clear fr W3 hk k8 hKn b2 LK
      go_wp2_with fail
      refine (must_ok w2).mono ?_; rintro e w' ⟨rfl, rfl⟩
      go_upto_region 3 with fail
      change Code.wp _ _ _ _ (wroteR w2 R ⟨op, nw, dst, src, ui, off, im, sz⟩)
      clear c2 c3 c4 c5 c6 c7 c8 c9 f2 f3 f4 f5 f6 f7 f8 f9 q0 q1 q2 q3 q4 q5 q6 q7
      obtain ⟨R3, G3⟩ := HW3.out
      have hk3 := HK.out _ G3
      generalize wroteR w2 R ⟨op, nw, dst, src, ui, off, im, sz⟩ = w3 at R3 G3 hk3 ⊢
      have hkf : w3.cell? ⟨K0, 8, none⟩ = some (.func (.func (kf kd)) #[] #[]) := by simp [World.cell?, hk3]
      have G30 := grown_trans HG2.out G3
      have KP := kindP kd R3 (HL.out _ G30)
      have HG3 := Lib.hid G30
      have HTB := entry_op (t, ⟨op, nw, dst, src, ui, off, im, sz⟩, kd) (by
        have := HE.out
        unfold entry at this
        obtain ⟨e, he, h2⟩ := Option.map_eq_some_iff.1 this
        have hm := List.mem_of_find?_eq_some he
        have hp := List.find?_some he
        simp only [beq_iff_eq] at hp
        rw [← hp, ← h2]
        exact hm)
      have HTB2 := Lib.hid HTB
      clear HTB hk3 R3 G3 G30 HW3 HK
      cases kd
      all_goals
        simp only [kf] at hkf KP
        go_wp2_with fail
        refine KP.mono ?_; intro e w4 h4
        rcases h4.out with ⟨hx, rfl, hg4⟩ | ⟨x, hx, rfl, hr4, hg4⟩
        · have HX := Lib.hid (show rdIns (t :: ts) = none by rw [rdIns_cons, HE.out]; simp only [Option.bind_some]; rw [hx]; rfl)
          clear hx
          go_wp2_with fail
          exact ⟨rfl, reads_none HX.out rfl (grown_trans HG3.out hg4)⟩
        · have hop := kind_op hx
          simp only at hop
          have HX := Lib.hid hx
          have R4 := Lib.hid hr4
          have G4 := Lib.hid (grown_trans HG3.out hg4)
          have RP := rightP x.1.1 (by rw [hop]; exact (HTB2.out).1) (by rw [hop]; exact (HTB2.out).2) w4
          obtain ⟨_, _, c2, c3, c4, c5, c6, c7, c8, c9, _, _⟩ := hr4.at
          clear hx hr4 hg4 h4 hop KP
          obtain ⟨⟨⟨iop, inw, idst, isrc, iui, ioff, iim, isz⟩, to'⟩, rest⟩ := x
          unfold agg at RP
          simp only at RP c2 c3 c4 c5 c6 c7 c8 c9
          cases hrt : right ⟨iop, inw, idst, isrc, iui, ioff, iim, isz⟩ with
          | false =>
            rw [hrt] at RP
            have HX2 := Lib.hid (show rdIns (t :: ts) = none by rw [rdIns_cons, HE.out]; simp only [Option.bind_some]; rw [HX.out]; simp [hrt])
            go_wp2_with fail
            refine RP.mono ?_; rintro e w5 ⟨rfl, b5⟩
            go_wp2_with fail
            refine (must_no w5).mono ?_; rintro e w6 ⟨rfl, rfl⟩
            go_wp2_with fail
            exact ⟨rfl, reads_none HX2.out rfl (grown_past G4.out b5)⟩
          | true =>
            rw [hrt] at RP
            have HX2 := Lib.hid (show rdIns (t :: ts) = some ((⟨iop, inw, idst, isrc, iui, ioff, iim, isz⟩, to'), rest) by rw [rdIns_cons, HE.out]; simp only [Option.bind_some]; rw [HX.out]; simp [hrt])
            go_wp2_with fail
            refine RP.mono ?_; rintro e w5 ⟨rfl, b5⟩
            go_wp2_with fail
            refine (must_ok w5).mono ?_; rintro e w6 ⟨rfl, rfl⟩
            go_wp2_with fail
            go_end0
            exact reads_some ((⟨iop, inw, idst, isrc, iui, ioff, iim, isz⟩, to'), rest) HX2.out rfl ((R4.out).past b5) (grown_past G4.out b5)
end Go.Proofs.YthfkmackodbmkaaGreatDoor
