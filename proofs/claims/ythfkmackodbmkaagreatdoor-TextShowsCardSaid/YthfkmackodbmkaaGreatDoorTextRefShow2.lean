/- The document's own text of instructions. -/
import Derived.Test.YthfkmackodbmkaaGreatDoorTextRefShow
import Derived.Lib.BufferRead
namespace Go.Proofs.YthfkmackodbmkaaGreatDoor
open Go.RowKit
set_option linter.unusedVariables false
set_option linter.unusedSimpArgs false
set_option maxRecDepth 100000
set_option maxHeartbeats 2000000

theorem words_names : ∀ k : Fin 27, k.val = 13 ∨ k.val = 14 ∨ k.val = 15 ∨ wordsL.getD k.val [] = opNames[k.val + 1]?.getD [] := by decide +kernel
theorem words_len : ∀ k : Fin 27, (wordsL.getD k.val []).length ≤ 4 := by decide +kernel
theorem oneDP (i : Ins) (h : right i = true) (w : World) (L : Lay w) :
    Calls Tryz.prog 38 #[agg i] w fun e w' => e = .returned (str (bareS i)) ∧ Below w.heap.size w w' := by
  have sm := small h
  have tm := tame h
  have hJ : jumpsI i = (decide (16 ≤ i.op) && decide (i.op ≤ 27)) := rfl
  obtain ⟨op, nw, dst, src, ui, off, im, sz⟩ := i
  obtain ⟨o0, o1, d0, d1, s0, s1, f0, f1, m0, m1, hz⟩ := sm
  have tz := tm.sz
  simp only at o0 o1 d0 d1 s0 s1 f0 f1 m0 m1 hz tz hJ
  obtain ⟨d, rfl⟩ := Int.eq_ofNat_of_zero_le d0
  obtain ⟨s, rfl⟩ := Int.eq_ofNat_of_zero_le s0
  have hd : d ≤ 10 := by omega
  have hs : s ≤ 10 := by omega
  have rd : regS (d : Int) = regs.getD d [] := regS_nat d hd
  have c : ∀ k : Int, op ≠ k → (op == k) = false := fun k hk => by simpa using hk
  have M0 : -9223372036854775808 ≤ im := by omega
  have M1 : im ≤ 9223372036854775807 := by omega
  have Z0 : 0 ≤ sz := by omega
  have Z1 : sz ≤ 8 := by omega
  by_cases e28 : op = 28
  · subst e28
    have hnw : nw = false := by simp [right] at h; exact h.1
    have e : bareS ⟨28, nw, d, s, ui, off, im, sz⟩ = [101, 120, 105, 116] := by
      have : sz = 0 := by omega
      subst hnw this
      simp [bareS, partsS, nameOf, opNames]
    rw [e]
    exact oneD_exit 28 nw d hd s hs ui off im sz f0 f1 M0 M1 Z0 Z1 rfl rfl hnw w L
  obtain ⟨k, hk⟩ : ∃ k : Nat, op = (k : Int) + 1 := ⟨(op - 1).toNat, by omega⟩
  have hk27 : k < 27 := by omega
  have hlo : decide (op ≤ 27) = true := by simp; omega
  have hsub : IntKind.u8.wrap (op - 1) = (k : Int) := by rw [Go.IntKind.wrap_u8']; omega
  have wl := words_len ⟨k, hk27⟩
  have wn := words_names ⟨k, hk27⟩
  simp only at wl wn
  have hop : op.toNat = k + 1 := by omega
  by_cases e16 : op = 16
  · have hnw : nw = false := by subst e16; simp [right] at h; exact h.2.1
    have e : bareS ⟨op, nw, d, s, ui, off, im, sz⟩ = (106 :: 117 :: 109 :: 112 :: 32 :: farS off []) := by
      have : sz = 0 := by omega
      subst hnw this e16
      simp [bareS, partsS, nameOf, opNames, joinS]
    rw [e]
    exact oneD_jump op nw d hd s hs ui off im sz f0 f1 M0 M1 Z0 Z1 k hk27 _ rfl wl hlo hsub (c _ (by omega)) (by simpa using e16) hnw w L
  by_cases e14 : op = 14
  · have hnw : nw = false := by rcases tz with ⟨_, _, hn⟩ | ⟨h1, h2, _⟩; exact hn; omega
    have hsz : sz ≠ 0 := by omega
    have e : bareS ⟨op, nw, d, s, ui, off, im, sz⟩ = (108 :: 111 :: 97 :: 100 :: (Lib.itoa sz ++ 32 :: (regs.getD d [] ++ 44 :: 32 :: cellS s off))) := by
      subst hnw e14
      simp [bareS, partsS, nameOf, opNames, joinS, hsz, rd]
    rw [e]
    exact oneD_load op nw d hd s hs ui off im sz f0 f1 M0 M1 Z0 Z1 k hk27 _ rfl wl hlo hsub (c _ (by omega)) (c _ (by omega)) (by simpa using e14) hnw w L
  by_cases e15 : op = 15
  · have hnw : nw = false := by rcases tz with ⟨_, _, hn⟩ | ⟨h1, h2, _⟩; exact hn; omega
    have hsz : sz ≠ 0 := by omega
    have e : bareS ⟨op, nw, d, s, ui, off, im, sz⟩ = (112 :: 117 :: 116 :: (Lib.itoa sz ++ 32 :: (cellS d off ++ 44 :: 32 :: secondS ⟨op, nw, d, s, ui, off, im, sz⟩))) := by
      subst hnw e15
      simp [bareS, partsS, nameOf, opNames, joinS, hsz, rd]
    rw [e]
    exact oneD_put op nw d hd s hs ui off im sz f0 f1 M0 M1 Z0 Z1 k hk27 _ rfl wl hlo hsub (c _ (by omega)) (c _ (by omega)) (c _ (by omega)) (by simpa using e15) hnw w L
  have hsz : sz = 0 := by omega
  have hnm : nameOf ⟨op, nw, d, s, ui, off, im, sz⟩ = if nw then wordsL.getD k [] ++ [51, 50] else wordsL.getD k [] := by
    have wn' : wordsL.getD k [] = opNames[k + 1]?.getD [] := by
      rcases wn with w1 | w1 | w1 | w1
      · omega
      · omega
      · omega
      · exact w1
    rw [wn']
    unfold nameOf
    simp only [hop, hsz, ne_eq, not_true_eq_false, if_false, List.append_nil]
    cases nw <;> simp
  by_cases e13 : op = 13
  · have e : bareS ⟨op, nw, d, s, ui, off, im, sz⟩ = nameOf ⟨op, nw, d, s, ui, off, im, sz⟩ ++ 32 :: regs.getD d [] := by
      have hp : partsS ⟨op, nw, d, s, ui, off, im, sz⟩ = [regs.getD d []] := by simp [partsS, e28, e13, rd]
      simp [bareS, hp, joinS]
    rw [e]
    exact oneD_neg op nw d hd s hs ui off im sz f0 f1 M0 M1 Z0 Z1 k hk27 _ rfl wl hlo hsub (c _ (by omega)) (c _ (by omega)) (c _ (by omega)) (c _ (by omega)) (by simpa using e13) _ hnm w L
  by_cases e17 : 17 ≤ op
  · have e : bareS ⟨op, nw, d, s, ui, off, im, sz⟩ = nameOf ⟨op, nw, d, s, ui, off, im, sz⟩ ++ 32 :: (regs.getD d [] ++ 44 :: 32 :: (secondS ⟨op, nw, d, s, ui, off, im, sz⟩ ++ 44 :: 32 :: farS off [])) := by
      have hp : partsS ⟨op, nw, d, s, ui, off, im, sz⟩ = [regs.getD d [], secondS ⟨op, nw, d, s, ui, off, im, sz⟩, farS off []] := by
        have : jumpsI ⟨op, nw, d, s, ui, off, im, sz⟩ = true := by rw [hJ]; simp; omega
        simp [partsS, e28, e13, e14, e15, e16, this, rd]
      simp [bareS, hp, joinS]
    rw [e]
    exact oneD_ask op nw d hd s hs ui off im sz f0 f1 M0 M1 Z0 Z1 k hk27 _ rfl wl hlo hsub (c _ (by omega)) (c _ (by omega)) (c _ (by omega)) (c _ (by omega)) (c _ (by omega)) (by simpa using e17) _ hnm w L
  · have e : bareS ⟨op, nw, d, s, ui, off, im, sz⟩ = nameOf ⟨op, nw, d, s, ui, off, im, sz⟩ ++ 32 :: (regs.getD d [] ++ 44 :: 32 :: secondS ⟨op, nw, d, s, ui, off, im, sz⟩) := by
      have hp : partsS ⟨op, nw, d, s, ui, off, im, sz⟩ = [regs.getD d [], secondS ⟨op, nw, d, s, ui, off, im, sz⟩] := by
        have : jumpsI ⟨op, nw, d, s, ui, off, im, sz⟩ = false := by rw [hJ]; simp; omega
        simp [partsS, e28, e13, e14, e15, e16, this, rd]
      simp [bareS, hp, joinS]
    rw [e]
    exact oneD_plain op nw d hd s hs ui off im sz f0 f1 M0 M1 Z0 Z1 k hk27 _ rfl wl hlo hsub (c _ (by omega)) (c _ (by omega)) (c _ (by omega)) (c _ (by omega)) (c _ (by omega)) (by simpa using e17) _ hnm w L
theorem u8cells_len (l : Str) : (Lib.byteCells l).length = l.length := by simp [Lib.byteCells]
/-- The bytes of a row of the call's own are a string. -/
theorem run_own_string {w : World} {B : Nat} {v : Value} {l : Str} (h : w.ownsRow B 5 1 v l.length (Lib.byteCells l)) : (convert 42 9 v).run Tryz.prog w = .ok (str l) w := by
  rcases h.2 with ⟨rfl, h0⟩ | ⟨g, cap, cur, rfl, _, hg, h1, h2, h3, h4⟩
  · have : l = [] := List.eq_nil_of_length_eq_zero h0
    subst this
    exact Lib.run_convert_nil_bytes w _ _ 5 0 Tryz.underlying42 (by kernel_rfl) (by kernel_rfl)
  · exact run_convert_bytes_back w _ _ 5 _ cap l Tryz.underlying42 (by kernel_rfl) (by kernel_rfl) (Lib.bytes_of_row hg (by simpa using h4))
theorem showDP (v : Value) (l : List Ins) (w : World) (h : Inss w v l) (wf : ∀ k, k < l.length → InsWf (ith l k)) (L : Lay w) :
    Calls Tryz.prog 14 #[v] w fun e w' => e = .returned (.tuple #[str (showL l).1, .int .i64 (showL l).2]) ∧ Below w.heap.size w w' := by
  have hlen := h.len
  obtain ⟨ao, cap, rfl⟩ := h.shape
  obtain ⟨R0, hR0⟩ : ∃ R0, R0 = showL l := ⟨_, rfl⟩
  rw [← hR0]
  by_cases hbig : 4096 < l.length
  · have hd : decide ((4096 : Int) < l.length) = true := by simp; omega
    have e : R0 = ([], 3) := by rw [hR0]; unfold showL; rw [if_pos hbig]
    subst e
    clear h wf L hR0
    go_enter Tryz.func14, Tryz.ntmps14
    go_wp2_with fail
    go_ret2
    exact ⟨rfl, Below.refl _ _⟩
  · have hd : decide ((4096 : Int) < l.length) = false := by simp; omega
    have hn := Lib.hid hbig
    have HH := Lib.hid h
    have HWF := Lib.hid wf
    have HL := Lib.hid L
    have e1 : R0 = if l.all right then (textS l, 0) else ([], 4) := by rw [hR0]; unfold showL; rw [if_neg hbig]
    have HR := Lib.hid e1
    clear h wf L hR0 e1 hbig
    go_enter Tryz.func14, Tryz.ntmps14
    go_wp2_with fail
    go_loopw [4] (fun i wr => ∃ k : Nat, k ≤ l.length ∧ i = .int .i64 k ∧ Hid ((l.take k).all right = true) ∧ Hid (Below w.heap.size w wr)) (fun i _ => l.length - (intOf i).toNat)
    case atStart => exact ⟨0, Nat.zero_le _, rfl, Lib.hid rfl, Lib.hid (Below.refl _ _)⟩
    case round =>
      obtain ⟨k, hk, rfl, HA, HB⟩ := hrel
      by_cases hlt : k < l.length
      · have hd2 : decide (k < l.length) = true := by simpa using hlt
        have k0 : 0 ≤ (k : Int) := by omega
        have k1 : (k : Int) < (l.length : Int) := by omega
        obtain ⟨b, off, c, hsh, -, -, -, cells⟩ := (HH.out).at (by omega)
        have hao : ao = some ⟨b, off, none⟩ := by cases hsh; rfl
        subst hao
        have A8 := (cells k hlt).past HB.out
        have wf := HWF.out k hlt
        have RI := Lib.hid (fun W => refRight (ith l k) W)
        have HTK := Lib.hid (take_ith (l := l) (k := k) hlt)
        have HRF := Lib.hid (fun (h : right (ith l k) = false) => show l.all right = false from by
          cases hq : l.all right with
          | false => rfl
          | true =>
            rw [List.all_eq_true] at hq
            have hm : ith l k ∈ l := by unfold ith; rw [List.getD_eq_getElem?_getD, List.getElem?_eq_getElem hlt]; exact List.getElem_mem hlt
            rw [hq _ hm] at h; cases h)
        clear cells hsh wf
        generalize ith l k = x at A8 RI HTK HRF
        obtain ⟨xo, xn, xd, xs, xu, xf, xm, xz⟩ := x
        obtain ⟨x0, x1, x2, x3, x4, x5, x6, x7⟩ := A8
        unfold agg at RI
        simp only at x0 x1 x2 x3 x4 x5 x6 x7 RI
        go_wp2_with fail
        refine ((RI.out) _).mono ?_; rintro e w2 ⟨rfl, b2⟩
        have B2 := Lib.hid ((HB.out).trans (b2.mono (HB.out).size))
        clear b2 x0 x1 x2 x3 x4 x5 x6 x7 RI
        cases hr : right ⟨xo, xn, xd, xs, xu, xf, xm, xz⟩ with
        | false =>
          have HE := Lib.hid (show R0 = ([], 4) by rw [HR.out, HRF.out hr]; rfl)
          go_wp2_with fail
          go_ret2
          exact ⟨by rw [HE.out]; rfl, B2.out⟩
        | true =>
          have HA2 := Lib.hid (show (l.take (k + 1)).all right = true by rw [HTK.out, List.all_append, HA.out]; simp [hr])
          have n1 : (k : Int) + 1 ≤ 9223372036854775807 := by omega
          clear HRF
          go_wp2_with fail
          go_roundw
          case rel => exact ⟨k + 1, by omega, by go_num, HA2, B2⟩
          case measure =>
            simp only [intOf]
            omega
      · have hd2 : decide (k < l.length) = false := by simpa using hlt
        have hkn : k = l.length := by omega
        have hA := HA.out
        rw [hkn, List.take_length] at hA
        have HE := Lib.hid (show R0 = (textS l, 0) by rw [HR.out, if_pos hA])
        have HAL := Lib.hid hA
        have HBB := HB
        have OW := Lib.hid (World.ownsRow_nil wr w.heap.size 5 1)
        clear hA HA HR HB
        go_wp2_with fail
        clear hd2 hkn hlt hk
        go_loopw [5, 6] (fun sv i ws => ∃ j : Nat, j ≤ l.length ∧ i = .int .i64 j ∧ Hid (ws.ownsRow w.heap.size 5 1 sv (textS (l.take j)).length (Lib.byteCells (textS (l.take j)))) ∧ Hid (Below w.heap.size w ws)) (fun _ i _ => l.length - (intOf i).toNat)
        case atStart => exact ⟨0, Nat.zero_le _, rfl, OW, HBB⟩
        case round =>
          obtain ⟨j, hj, rfl, HO, HB⟩ := hrel
          by_cases hlt : j < l.length
          · have hd2 : decide (j < l.length) = true := by simpa using hlt
            have k0 : 0 ≤ (j : Int) := by omega
            have k1 : (j : Int) < (l.length : Int) := by omega
            obtain ⟨b, off, c, hsh, -, -, -, cells⟩ := (HH.out).at (by omega)
            have hao : ao = some ⟨b, off, none⟩ := by cases hsh; rfl
            subst hao
            have A8 := (cells j hlt).past HB.out
            have hm : ith l j ∈ l := by unfold ith; rw [List.getD_eq_getElem?_getD, List.getElem?_eq_getElem hlt]; exact List.getElem_mem hlt
            have hr : right (ith l j) = true := by have := HAL.out; rw [List.all_eq_true] at this; exact this _ hm
            have LI := Lib.hid (oneDP (ith l j) hr _ ((HL.out).past HB.out))
            have HTK := take_ith (l := l) (k := j) hlt
            have HT2 := Lib.hid (show textS (l.take (j + 1)) = textS (l.take j) ++ (bareS (ith l j) ++ [10]) by rw [HTK]; simp [textS, oneS])
            have hol := oneS_len _ hr
            have HLN := Lib.hid (show (textS (l.take j)).length + (oneS (ith l j)).length ≤ 10000000 by
              have h1 := textS_len (l.take j) (by rw [List.all_eq_true]; intro x hx; have := HAL.out; rw [List.all_eq_true] at this; exact this x (List.mem_of_mem_take hx))
              have h3 : (l.take j).length ≤ 4096 := by rw [List.length_take]; have := hn.out; omega
              have h4 : (l.take j).length * 400 ≤ 4096 * 400 := Nat.mul_le_mul_right _ h3
              omega)
            unfold oneS at hol HLN
            clear cells hsh hr hm HTK
            generalize bareS (ith l j) = bs at LI HT2 HLN hol
            generalize ith l j = x at A8 LI
            obtain ⟨xo, xn, xd, xs, xu, xf, xm, xz⟩ := x
            obtain ⟨x0, x1, x2, x3, x4, x5, x6, x7⟩ := A8
            unfold agg at LI
            simp only at x0 x1 x2 x3 x4 x5 x6 x7 LI
            have CC := run_cat (P := Tryz.prog) bs [10] (by simp at hol ⊢; omega)
            clear hol
            go_wp2_with fail
            refine (LI.out).mono ?_; rintro e w2 ⟨rfl, b2⟩
            have own2 := World.ownsRow.kept HO.out (row := none) ⟨b2.os, b2.tape, b2.output, b2.size, fun k hk _ => b2.block k hk⟩ (by generalize Value.ownBlock _ = q; cases q <;> simp)
            have B2 := (HB.out).trans (b2.mono (HB.out).size)
            obtain ⟨i0, hi, hz0, hz1, hz2⟩ := u8info
            have hx : (⟨(bs ++ [10]).toArray⟩ : ByteArray).size = (bs ++ [10]).length := by simp [ByteArray.size]
            have hln := HLN.out
            have n1 : (j : Int) + 1 ≤ 9223372036854775807 := by omega
            clear b2 LI x0 x1 x2 x3 x4 x5 x6 x7
            go_wp2_with (at_builtin; refine Lib.wpList_append_own_string _ rfl _ _ 42 9 rfl w.heap.size 5 i0 Tryz.underlying42 Tryz.underlying9 hi hz0 hz1 hz2 _ _ _ rfl own2 ⟨(bs ++ [10]).toArray⟩ rfl ?c3 ?c4 ?c5 ?_)
            case c3 => unfold maxLen; rw [hx]; omega
            case c4 => rw [hx]; omega
            case c5 => have := B2.size; omega
            intro v' w3 hown' hgrow _
            have HB3 := Lib.hid (B2.grown hgrow (by have := B2.size; omega) (fun k hk => (own2.lt k hk).1))
            have HO3 := Lib.hid (show w3.ownsRow w.heap.size 5 1 v' (textS (l.take (j + 1))).length (Lib.byteCells (textS (l.take (j + 1)))) by
              rw [HT2.out]
              simpa [Lib.byteCells, Lib.strCells] using hown')
            clear own2 B2 hi hz0 hz1 hz2 hx hln hown' hgrow CC
            go_wp2_with fail
            go_roundw
            case rel => exact ⟨j + 1, by omega, by go_num, HO3, HB3⟩
            case measure =>
              simp only [intOf]
              omega
          · have hd2 : decide (j < l.length) = false := by simpa using hlt
            have hkn : j = l.length := by omega
            have hO := HO.out
            rw [hkn, List.take_length] at hO
            have RC := run_own_string hO
            clear hO
            go_wp2_with fail
            go_ret2
            exact ⟨by rw [HE.out]; rfl, HB.out⟩
end Go.Proofs.YthfkmackodbmkaaGreatDoor
