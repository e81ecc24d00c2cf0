/- Instructions have a text just if they are right; what was parsed is shown, and parsed as the same (TextBack). -/
import Derived.Test.YthfkmackodbmkaaGreatDoorTextLawR
import Derived.Test.YthfkmackodbmkaaGreatDoorTextBackMath
import Derived.BigQuiet
import Derived.Deep.QuietTactic
namespace Go.Proofs.YthfkmackodbmkaaGreatDoor
open Go.RowKit
set_option linter.unusedVariables false
set_option linter.unusedSimpArgs false
set_option maxRecDepth 100000
set_option maxHeartbeats 8000000

theorem rights_wf {l : List Ins} (h : l.all right = true) : ∀ k, k < l.length → InsWf (ith l k) := fun k hk => by
  rw [List.all_eq_true] at h
  have hm : ith l k ∈ l := by unfold ith; rw [List.getD_eq_getElem?_getD, List.getElem?_eq_getElem hk]; exact List.getElem_mem hk
  exact (tame (h _ hm)).wf
theorem textBackOf (v : Value) (l : List Ins) (s : Str) (w : World) (L : Lay w) (h : Inss w v l) (wf : ∀ k, k < l.length → InsWf (ith l k)) (hs : s.length ≤ 140737488351232) :
    Calls Tryz.prog 6 #[v, str s] w (Says true w) := by
  obtain ⟨ao, cap, hsh⟩ := h.shape
  have H := Lib.hid h
  have hlen := h.len
  subst hsh
  have HL := Lib.hid L
  have HW := Lib.hid wf
  clear h L wf
  generalize hn : l.length = n at *
  have hN := Lib.hid hn
  clear hn
  have AW := awake w HL.out
  have hcs : (⟨s.toArray⟩ : ByteArray).size = s.length := by simp [ByteArray.size]
  go_enter Tryz.func6, Tryz.ntmps6
  go_wp2_with fail
  refine AW.mono ?_; rintro e w1 ⟨rfl, b1⟩
  have B1 := Lib.hid b1
  clear AW b1
  by_cases hbig : 5000 < n
  · have d0 : decide (5000 < n) = true := by simpa using hbig
    have d1 : decide ((5000 : Int) < n) = true := by simp; omega
    go_wp2_with fail
    go_ret
    exact ⟨rfl, B1.out⟩
  have d0 : decide (5000 < n) = false := by simpa using hbig
  have d1 : decide ((5000 : Int) < n) = false := by simp; omega
  by_cases hsb : 20000 < s.length
  · have d2 : decide (20000 < s.length) = true := by simpa using hsb
    have d3 : decide ((20000 : Int) < s.length) = true := by simp; omega
    go_wp2_with fail
    go_ret
    exact ⟨rfl, B1.out⟩
  have d2 : decide (20000 < s.length) = false := by simpa using hsb
  have d3 : decide ((20000 : Int) < s.length) = false := by simp; omega
  have HSB := Lib.hid hsb
  have HL5 := Lib.hid (show n ≤ 5000 by omega)
  have HWL := Lib.hid (show ∀ j, j < l.length → InsWf (ith l j) by have := hN.out; rw [this]; exact HW.out)
  clear hsb hbig
  obtain ⟨q, hq⟩ : ∃ q, q = decide (n ≤ 4096) := ⟨_, rfl⟩
  have dq : decide ((n : Int) ≤ 4096) = q := by rw [hq]; congr 1; simp; omega
  have HQ := Lib.hid hq
  have hqs := hq.symm
  clear hq
  go_wp2_with fail
  clear d0 d1 d2 d3 dq hqs
  go_loopw [5, 6] (fun r i wr => ∃ k : Nat, k ≤ n ∧ (∃ z, r = .bool z ∧ Hid (z = (q && (l.take k).all right))) ∧ i = .int .i64 k ∧ Hid (Below w.heap.size w wr)) (fun _ i _ => n - (intOf i).toNat)
  case atStart => exact ⟨0, Nat.zero_le _, ⟨q, by first | rfl | simp [*], Lib.hid (by simp)⟩, rfl, B1⟩
  case round =>
    obtain ⟨k, hk, ⟨z, rfl, HZ⟩, rfl, B0⟩ := hrel
    by_cases hlt : k < n
    · have hd : decide (k < n) = true := by simpa using hlt
      have k0 : 0 ≤ (k : Int) := by omega
      have k1 : (k : Int) < (n : Int) := by omega
      have n1 : (k : Int) + 1 ≤ 9223372036854775807 := by omega
      have HTK := Lib.hid (take_ith (l := l) (k := k) (by have := hN.out; omega))
      cases z with
      | false =>
        have HA2 := Lib.hid (show false = (q && (l.take (k + 1)).all right) by
          rw [HTK.out, List.all_append, ← Bool.and_assoc, ← HZ.out]; rfl)
        go_wp2_with fail
        go_roundw
        case rel => exact ⟨k + 1, by omega, ⟨_, rfl, HA2⟩, by go_num, B0⟩
        case measure =>
          simp only [intOf]
          omega
      | true =>
        obtain ⟨b, off, c, hsh, -, -, -, cells⟩ := (H.out).at (by have := hN.out; omega)
        rw [hN.out] at hsh
        obtain ⟨rfl, rfl⟩ : ao = some ⟨b, off, none⟩ ∧ cap = c := by cases hsh; exact ⟨rfl, rfl⟩
        have A8 := (cells k (by have := hN.out; omega)).past B0.out
        have wf := HW.out k hlt
        have RI := Lib.hid (rightP (ith l k) wf.op0 wf.op1)
        have HA2 := Lib.hid (show right (ith l k) = (q && (l.take (k + 1)).all right) by
          rw [HTK.out, List.all_append, ← Bool.and_assoc, ← HZ.out]; simp)
        clear cells hsh wf
        generalize right (ith l k) = rb at RI HA2
        generalize ith l k = x at A8 RI HTK
        obtain ⟨xo, xn, xd, xs, xu, xf, xm, xz⟩ := x
        obtain ⟨x0, x1, x2, x3, x4, x5, x6, x7⟩ := A8
        unfold agg at RI
        simp only at x0 x1 x2 x3 x4 x5 x6 x7 RI
        go_wp2_with fail
        refine ((RI.out) _).mono ?_; rintro e w2 ⟨rfl, b2⟩
        have B2 := Lib.hid ((B0.out).trans (b2.mono (B0.out).size))
        clear b2 x0 x1 x2 x3 x4 x5 x6 x7
        go_wp2_with fail
        go_roundw
        case rel => exact ⟨k + 1, by omega, ⟨_, rfl, HA2⟩, by go_num, B2⟩
        case measure =>
          simp only [intOf]
          omega
    · have hd : decide (k < n) = false := by simpa using hlt
      have hkn : k = n := by omega
      have HZ' := HZ.out
      rw [hkn, show l.take n = l by rw [← hN.out, List.take_length]] at HZ'
      have HS := showP (.slice ao n cap) l wr ((H.out).past B0.out) HWL.out ((HL.out).past B0.out)
      cases z with
      | false =>
        have HE : ∃ er, showL l = ([], er) ∧ (er = 3 ∨ er = 4) := by
          unfold showL
          split
          · exact ⟨3, rfl, .inl rfl⟩
          · rw [if_neg]
            · exact ⟨4, rfl, .inr rfl⟩
            · intro hall
              rw [hall, Bool.and_true, HQ.out] at HZ'
              have := HZ'.symm
              simp at this
              have := hN.out
              omega
        obtain ⟨er, he, her⟩ := HE
        rw [he] at HS
        simp only at HS
        have e1 : (er == 0) = false := by rcases her with rfl | rfl <;> rfl
        have e2 : (er != 0) = true := by rcases her with rfl | rfl <;> rfl
        clear he her HZ'
        go_wp2_with fail
        refine HS.mono ?_; rintro e w2 ⟨rfl, b2⟩
        have BW := Lib.hid ((B0.out).trans (b2.mono (B0.out).size))
        clear b2
        have PS := parseC s w2 ((HL.out).past BW.out) (by have := HSB.out; omega)
        have HTD := Lib.hid (parse_told s)
        obtain ⟨R, hR⟩ : ∃ R, R = parseL s := ⟨_, rfl⟩
        rw [← hR] at PS HTD
        obtain ⟨xs, fe, fa⟩ := R
        simp only at PS HTD
        clear hR
        go_wp2_with fail
        refine PS.mono ?_; rintro e w6 ⟨a6, c6, rfl, o6, b6⟩
        have A6 := alloc_below w6 (.cells #[.int .i64 fe, .int .i64 fa] 26)
        have F6 := (show Fb (w6.alloc (.cells #[.int .i64 fe, .int .i64 fa] 26)) w6.heap.size fe fa from heap_alloc_new w6 _)
        have HF6 := Lib.hid F6
        obtain ⟨g0, g1⟩ := F6.cells
        have I6 := Lib.hid ((o6.inss).past A6)
        have b6' := (BW.out).trans (b6.mono (BW.out).size)
        have B6 := Lib.hid (b6'.trans (A6.mono b6'.size))
        clear o6 b6 A6 F6 b6' PS
        by_cases hfe : fe = 0
        · subst hfe
          obtain ⟨rfl, hr, hm⟩ := (HTD.out).1 rfl
          have hr := Lib.hid hr
          have hm := Lib.hid hm
          go_wp2_with fail
          have HS2 := showP _ xs _ I6.out (rights_wf hr.out) ((HL.out).past B6.out)
          have he2 : showL xs = (textS xs, 0) := by
            unfold showL
            rw [if_neg (by have := hm.out; omega), if_pos hr.out]
          rw [he2] at HS2
          simp only at HS2
          have hb2 := text_back hr.out hm.out
          have hl2 := text_len xs hr.out
          generalize textS xs = ux at HS2 hb2 hl2
          refine HS2.mono ?_; rintro e w7 ⟨rfl, b7⟩
          have B7 := Lib.hid ((B6.out).trans (b7.mono (B6.out).size))
          have I7 := Lib.hid ((I6.out).past b7)
          have PU := parseC ux w7 ((HL.out).past B7.out) (by have := hm.out; omega)
          rw [hb2] at PU
          simp only at PU
          clear b7 hb2 hl2 he2 g0 g1
          go_wp2_with fail
          refine PU.mono ?_; rintro e w8 ⟨a8, c8, rfl, o8, b8⟩
          have A8 := alloc_below w8 (.cells #[.int .i64 0, .int .i64 0] 26)
          have F8 := (show Fb (w8.alloc (.cells #[.int .i64 0, .int .i64 0] 26)) w8.heap.size 0 0 from heap_alloc_new w8 _)
          obtain ⟨h0, h1⟩ := F8.cells
          have I8 := Lib.hid ((o8.inss).past A8)
          have b8' := (B7.out).trans (b8.mono (B7.out).size)
          have B8 := Lib.hid (b8'.trans (A8.mono b8'.size))
          have J8 := Lib.hid (((I7.out).past b8).past A8)
          have SJ := sameIns _ _ xs _ J8.out I8.out
          clear o8 b8 A8 F8 b8' PU
          go_wp2_with fail
          with_reducible refine SJ.mono ?_
          rintro e w9 ⟨rfl, st⟩
          have B9 := Lib.hid ((B8.out).trans (st.below w.heap.size))
          clear st SJ
          go_wp2_with fail
          go_ret
          exact ⟨rfl, B9.out⟩
        · obtain ⟨rfl, t0, t1⟩ := (HTD.out).2 hfe
          have q1 : (fe != 0) = true := by simpa using hfe
          have CM := fun W => Tryz.strings_Count_one ⟨s.toArray⟩ 10 W
          have hcm : Lib.countByte s 10 = s.count 10 := rfl
          have hcl : s.count 10 ≤ s.length := List.count_le_length
          simp only [hcm] at CM
          generalize s.count 10 = cm at CM t1 hcl
          have u1 : (1 : Int) + cm ≤ 9223372036854775807 := by have := HSB.out; omega
          have u2 : IntKind.i64.wrap (1 + (cm : Int)) = 1 + cm := IntWalk.i64_in _ (by omega)
          have u3 : wrap64 (1 + (cm : Int)) = 1 + cm := IntWalk.wrap64_in _ (by omega)
          have u4 : decide (fa ≤ 1 + (cm : Int)) = true := by simpa using t1
          have HCM := Lib.hid CM
          clear hfe hcm hcl CM HTD
          go_wp2_with fail
          go_quiet ((go_at_call 23; exact Calls.quiet_of_same ((HCM.out) _)))
          go_wp2_with fail
          go_ret
          exact ⟨rfl, below_drewN B6.out _⟩
      | true =>
        have hall : l.all right = true ∧ n ≤ 4096 := by
          rw [HQ.out] at HZ'
          have := HZ'.symm
          simp at this
          exact ⟨by simpa using this.2, this.1⟩
        have he : showL l = (textS l, 0) := by
          unfold showL
          rw [if_neg (by have := hN.out; omega), if_pos hall.1]
        rw [he] at HS
        simp only at HS
        have hb := text_back hall.1 (by have := hN.out; omega)
        have ht := text_tens l hall.1
        have hl := text_len l hall.1
        rw [hN.out] at ht hl
        have HALL := Lib.hid hall
        generalize textS l = tx at HS hb ht hl
        clear he HZ' hall
        go_wp2_with fail
        refine HS.mono ?_; rintro e w2 ⟨rfl, b2⟩
        have B2 := Lib.hid ((B0.out).trans (b2.mono (B0.out).size))
        have PT := parseC tx w2 ((HL.out).past B2.out) (by have := HL5.out; omega)
        rw [hb] at PT
        simp only at PT
        rw [hN.out] at PT
        have HT2 := Lib.hid ht
        clear b2 hb ht hl
        go_wp2_with fail
        refine PT.mono ?_; rintro e w3 ⟨a1, c1, rfl, o1, b3⟩
        have A3 := alloc_below w3 (.cells #[.int .i64 0, .int .i64 0] 26)
        have F3 := (show Fb (w3.alloc (.cells #[.int .i64 0, .int .i64 0] 26)) w3.heap.size 0 0 from heap_alloc_new w3 _)
        obtain ⟨f0, f1⟩ := F3.cells
        have I3 := Lib.hid ((o1.inss).past A3)
        have b3' := (B2.out).trans (b3.mono (B2.out).size)
        have B3 := Lib.hid (b3'.trans (A3.mono b3'.size))
        have H3 := Lib.hid ((H.out).past B3.out)
        have SI := sameIns _ _ l _ H3.out I3.out
        have CN := fun W => Tryz.strings_Count_one ⟨tx.toArray⟩ 10 W
        have hc : ((Lib.countByte tx 10 : Nat) : Int) = n := by unfold Lib.countByte; rw [HT2.out]
        simp only [hc] at CN
        have HCN := Lib.hid CN
        clear o1 b3 A3 F3 b3' PT hc CN
        go_wp2_with fail
        with_reducible refine SI.mono ?_
        rintro e w4 ⟨rfl, st⟩
        have B4 := Lib.hid ((B3.out).trans (st.below w.heap.size))
        clear st SI
        go_wp2_with fail
        refine ((HCN.out) _).mono ?_; rintro e w5 ⟨rfl, rfl⟩
        have BW := B4
        have PS := parseC s w5 ((HL.out).past BW.out) (by have := HSB.out; omega)
        have HTD := Lib.hid (parse_told s)
        obtain ⟨R, hR⟩ : ∃ R, R = parseL s := ⟨_, rfl⟩
        rw [← hR] at PS HTD
        obtain ⟨xs, fe, fa⟩ := R
        simp only at PS HTD
        clear hR
        go_wp2_with fail
        refine PS.mono ?_; rintro e w6 ⟨a6, c6, rfl, o6, b6⟩
        have A6 := alloc_below w6 (.cells #[.int .i64 fe, .int .i64 fa] 26)
        have F6 := (show Fb (w6.alloc (.cells #[.int .i64 fe, .int .i64 fa] 26)) w6.heap.size fe fa from heap_alloc_new w6 _)
        have HF6 := Lib.hid F6
        obtain ⟨g0, g1⟩ := F6.cells
        have I6 := Lib.hid ((o6.inss).past A6)
        have b6' := (BW.out).trans (b6.mono (BW.out).size)
        have B6 := Lib.hid (b6'.trans (A6.mono b6'.size))
        clear o6 b6 A6 F6 b6' PS
        by_cases hfe : fe = 0
        · subst hfe
          obtain ⟨rfl, hr, hm⟩ := (HTD.out).1 rfl
          have hr := Lib.hid hr
          have hm := Lib.hid hm
          go_wp2_with fail
          have HS2 := showP _ xs _ I6.out (rights_wf hr.out) ((HL.out).past B6.out)
          have he2 : showL xs = (textS xs, 0) := by
            unfold showL
            rw [if_neg (by have := hm.out; omega), if_pos hr.out]
          rw [he2] at HS2
          simp only at HS2
          have hb2 := text_back hr.out hm.out
          have hl2 := text_len xs hr.out
          generalize textS xs = ux at HS2 hb2 hl2
          refine HS2.mono ?_; rintro e w7 ⟨rfl, b7⟩
          have B7 := Lib.hid ((B6.out).trans (b7.mono (B6.out).size))
          have I7 := Lib.hid ((I6.out).past b7)
          have PU := parseC ux w7 ((HL.out).past B7.out) (by have := hm.out; omega)
          rw [hb2] at PU
          simp only at PU
          clear b7 hb2 hl2 he2 g0 g1
          go_wp2_with fail
          refine PU.mono ?_; rintro e w8 ⟨a8, c8, rfl, o8, b8⟩
          have A8 := alloc_below w8 (.cells #[.int .i64 0, .int .i64 0] 26)
          have F8 := (show Fb (w8.alloc (.cells #[.int .i64 0, .int .i64 0] 26)) w8.heap.size 0 0 from heap_alloc_new w8 _)
          obtain ⟨h0, h1⟩ := F8.cells
          have I8 := Lib.hid ((o8.inss).past A8)
          have b8' := (B7.out).trans (b8.mono (B7.out).size)
          have B8 := Lib.hid (b8'.trans (A8.mono b8'.size))
          have J8 := Lib.hid (((I7.out).past b8).past A8)
          have SJ := sameIns _ _ xs _ J8.out I8.out
          clear o8 b8 A8 F8 b8' PU
          go_wp2_with fail
          with_reducible refine SJ.mono ?_
          rintro e w9 ⟨rfl, st⟩
          have B9 := Lib.hid ((B8.out).trans (st.below w.heap.size))
          clear st SJ
          go_wp2_with fail
          go_ret
          exact ⟨rfl, B9.out⟩
        · obtain ⟨rfl, t0, t1⟩ := (HTD.out).2 hfe
          have q1 : (fe != 0) = true := by simpa using hfe
          have CM := fun W => Tryz.strings_Count_one ⟨s.toArray⟩ 10 W
          have hcm : Lib.countByte s 10 = s.count 10 := rfl
          have hcl : s.count 10 ≤ s.length := List.count_le_length
          simp only [hcm] at CM
          generalize s.count 10 = cm at CM t1 hcl
          have u1 : (1 : Int) + cm ≤ 9223372036854775807 := by have := HSB.out; omega
          have u2 : IntKind.i64.wrap (1 + (cm : Int)) = 1 + cm := IntWalk.i64_in _ (by omega)
          have u3 : wrap64 (1 + (cm : Int)) = 1 + cm := IntWalk.wrap64_in _ (by omega)
          have u4 : decide (fa ≤ 1 + (cm : Int)) = true := by simpa using t1
          have HCM := Lib.hid CM
          clear hfe hcm hcl CM HTD
          go_wp2_with fail
          go_quiet ((go_at_call 23; exact Calls.quiet_of_same ((HCM.out) _)))
          go_wp2_with fail
          go_ret
          exact ⟨rfl, below_drewN B6.out _⟩
end Go.Proofs.YthfkmackodbmkaaGreatDoor
