/- The document's own text of instructions. -/
import Derived.Test.YthfkmackodbmkaaGreatDoorTextRefShow
import Derived.Lib.BufferRead
import Derived.Test.YthfkmackodbmkaaGreatDoorTextToks
import Derived.Laws.DeepStrings4
import Derived.Test.YthfkmackodbmkaaGreatDoorTextDraft
namespace Go.Proofs.YthfkmackodbmkaaGreatDoor
open Go.RowKit
set_option linter.unusedVariables false
set_option linter.unusedSimpArgs false
set_option maxRecDepth 100000
set_option maxHeartbeats 2000000

theorem words_names : ∀ k : Fin 27, k.val = 13 ∨ k.val = 14 ∨ k.val = 15 ∨ wordsL.getD k.val [] = opNames[k.val + 1]?.getD [] := by decide +kernel
theorem words_len : ∀ k : Fin 27, (wordsL.getD k.val []).length ≤ 4 := by decide +kernel
theorem oneDP (i : Ins) (h : right i = true) (w : World) (L : Lay w) :
    Calls Tryz.prog 38 #[agg i] w fun e w' => e = .returned (str (bareS i)) ∧ Below w.heap.size w w' := by
  have sm := small h
  have tm := tame h
  have hJ : jumpsI i = (decide (16 ≤ i.op) && decide (i.op ≤ 27)) := rfl
  obtain ⟨op, nw, dst, src, ui, off, im, sz⟩ := i
  obtain ⟨o0, o1, d0, d1, s0, s1, f0, f1, m0, m1, hz⟩ := sm
  have tz := tm.sz
  simp only at o0 o1 d0 d1 s0 s1 f0 f1 m0 m1 hz tz hJ
  obtain ⟨d, rfl⟩ := Int.eq_ofNat_of_zero_le d0
  obtain ⟨s, rfl⟩ := Int.eq_ofNat_of_zero_le s0
  have hd : d ≤ 10 := by omega
  have hs : s ≤ 10 := by omega
  have rd : regS (d : Int) = regs.getD d [] := regS_nat d hd
  have c : ∀ k : Int, op ≠ k → (op == k) = false := fun k hk => by simpa using hk
  have M0 : -9223372036854775808 ≤ im := by omega
  have M1 : im ≤ 9223372036854775807 := by omega
  have Z0 : 0 ≤ sz := by omega
  have Z1 : sz ≤ 8 := by omega
  by_cases e28 : op = 28
  · subst e28
    have hnw : nw = false := by simp [right] at h; exact h.1
    have e : bareS ⟨28, nw, d, s, ui, off, im, sz⟩ = [101, 120, 105, 116] := by
      have : sz = 0 := by omega
      subst hnw this
      simp [bareS, partsS, nameOf, opNames]
    rw [e]
    exact oneD_exit 28 nw d hd s hs ui off im sz f0 f1 M0 M1 Z0 Z1 rfl rfl hnw w L
  obtain ⟨k, hk⟩ : ∃ k : Nat, op = (k : Int) + 1 := ⟨(op - 1).toNat, by omega⟩
  have hk27 : k < 27 := by omega
  have hlo : decide (op ≤ 27) = true := by simp; omega
  have hsub : IntKind.u8.wrap (op - 1) = (k : Int) := by rw [Go.IntKind.wrap_u8']; omega
  have wl := words_len ⟨k, hk27⟩
  have wn := words_names ⟨k, hk27⟩
  simp only at wl wn
  have hop : op.toNat = k + 1 := by omega
  by_cases e16 : op = 16
  · have hnw : nw = false := by subst e16; simp [right] at h; exact h.2.1
    have e : bareS ⟨op, nw, d, s, ui, off, im, sz⟩ = (106 :: 117 :: 109 :: 112 :: 32 :: farS off []) := by
      have : sz = 0 := by omega
      subst hnw this e16
      simp [bareS, partsS, nameOf, opNames, joinS]
    rw [e]
    exact oneD_jump op nw d hd s hs ui off im sz f0 f1 M0 M1 Z0 Z1 k hk27 _ rfl wl hlo hsub (c _ (by omega)) (by simpa using e16) hnw w L
  by_cases e14 : op = 14
  · have hnw : nw = false := by rcases tz with ⟨_, _, hn⟩ | ⟨h1, h2, _⟩; exact hn; omega
    have hsz : sz ≠ 0 := by omega
    have e : bareS ⟨op, nw, d, s, ui, off, im, sz⟩ = (108 :: 111 :: 97 :: 100 :: (Lib.itoa sz ++ 32 :: (regs.getD d [] ++ 44 :: 32 :: cellS s off))) := by
      subst hnw e14
      simp [bareS, partsS, nameOf, opNames, joinS, hsz, rd]
    rw [e]
    exact oneD_load op nw d hd s hs ui off im sz f0 f1 M0 M1 Z0 Z1 k hk27 _ rfl wl hlo hsub (c _ (by omega)) (c _ (by omega)) (by simpa using e14) hnw w L
  by_cases e15 : op = 15
  · have hnw : nw = false := by rcases tz with ⟨_, _, hn⟩ | ⟨h1, h2, _⟩; exact hn; omega
    have hsz : sz ≠ 0 := by omega
    have e : bareS ⟨op, nw, d, s, ui, off, im, sz⟩ = (112 :: 117 :: 116 :: (Lib.itoa sz ++ 32 :: (cellS d off ++ 44 :: 32 :: secondS ⟨op, nw, d, s, ui, off, im, sz⟩))) := by
      subst hnw e15
      simp [bareS, partsS, nameOf, opNames, joinS, hsz, rd]
    rw [e]
    exact oneD_put op nw d hd s hs ui off im sz f0 f1 M0 M1 Z0 Z1 k hk27 _ rfl wl hlo hsub (c _ (by omega)) (c _ (by omega)) (c _ (by omega)) (by simpa using e15) hnw w L
  have hsz : sz = 0 := by omega
  have hnm : nameOf ⟨op, nw, d, s, ui, off, im, sz⟩ = if nw then wordsL.getD k [] ++ [51, 50] else wordsL.getD k [] := by
    have wn' : wordsL.getD k [] = opNames[k + 1]?.getD [] := by
      rcases wn with w1 | w1 | w1 | w1
      · omega
      · omega
      · omega
      · exact w1
    rw [wn']
    unfold nameOf
    simp only [hop, hsz, ne_eq, not_true_eq_false, if_false, List.append_nil]
    cases nw <;> simp
  by_cases e13 : op = 13
  · have e : bareS ⟨op, nw, d, s, ui, off, im, sz⟩ = nameOf ⟨op, nw, d, s, ui, off, im, sz⟩ ++ 32 :: regs.getD d [] := by
      have hp : partsS ⟨op, nw, d, s, ui, off, im, sz⟩ = [regs.getD d []] := by simp [partsS, e28, e13, rd]
      simp [bareS, hp, joinS]
    rw [e]
    exact oneD_neg op nw d hd s hs ui off im sz f0 f1 M0 M1 Z0 Z1 k hk27 _ rfl wl hlo hsub (c _ (by omega)) (c _ (by omega)) (c _ (by omega)) (c _ (by omega)) (by simpa using e13) _ hnm w L
  by_cases e17 : 17 ≤ op
  · have e : bareS ⟨op, nw, d, s, ui, off, im, sz⟩ = nameOf ⟨op, nw, d, s, ui, off, im, sz⟩ ++ 32 :: (regs.getD d [] ++ 44 :: 32 :: (secondS ⟨op, nw, d, s, ui, off, im, sz⟩ ++ 44 :: 32 :: farS off [])) := by
      have hp : partsS ⟨op, nw, d, s, ui, off, im, sz⟩ = [regs.getD d [], secondS ⟨op, nw, d, s, ui, off, im, sz⟩, farS off []] := by
        have : jumpsI ⟨op, nw, d, s, ui, off, im, sz⟩ = true := by rw [hJ]; simp; omega
        simp [partsS, e28, e13, e14, e15, e16, this, rd]
      simp [bareS, hp, joinS]
    rw [e]
    exact oneD_ask op nw d hd s hs ui off im sz f0 f1 M0 M1 Z0 Z1 k hk27 _ rfl wl hlo hsub (c _ (by omega)) (c _ (by omega)) (c _ (by omega)) (c _ (by omega)) (c _ (by omega)) (by simpa using e17) _ hnm w L
  · have e : bareS ⟨op, nw, d, s, ui, off, im, sz⟩ = nameOf ⟨op, nw, d, s, ui, off, im, sz⟩ ++ 32 :: (regs.getD d [] ++ 44 :: 32 :: secondS ⟨op, nw, d, s, ui, off, im, sz⟩) := by
      have hp : partsS ⟨op, nw, d, s, ui, off, im, sz⟩ = [regs.getD d [], secondS ⟨op, nw, d, s, ui, off, im, sz⟩] := by
        have : jumpsI ⟨op, nw, d, s, ui, off, im, sz⟩ = false := by rw [hJ]; simp; omega
        simp [partsS, e28, e13, e14, e15, e16, this, rd]
      simp [bareS, hp, joinS]
    rw [e]
    exact oneD_plain op nw d hd s hs ui off im sz f0 f1 M0 M1 Z0 Z1 k hk27 _ rfl wl hlo hsub (c _ (by omega)) (c _ (by omega)) (c _ (by omega)) (c _ (by omega)) (c _ (by omega)) (by simpa using e17) _ hnm w L
theorem u8cells_len (l : Str) : (Lib.byteCells l).length = l.length := by simp [Lib.byteCells]
/-- The bytes of a row of the call's own are a string. -/
theorem run_own_string {w : World} {B : Nat} {v : Value} {l : Str} (h : w.ownsRow B 5 1 v l.length (Lib.byteCells l)) : (convert 42 9 v).run Tryz.prog w = .ok (str l) w := by
  rcases h.2 with ⟨rfl, h0⟩ | ⟨g, cap, cur, rfl, _, hg, h1, h2, h3, h4⟩
  · have : l = [] := List.eq_nil_of_length_eq_zero h0
    subst this
    exact Lib.run_convert_nil_bytes w _ _ 5 0 Tryz.underlying42 (by kernel_rfl) (by kernel_rfl)
  · exact run_convert_bytes_back w _ _ 5 _ cap l Tryz.underlying42 (by kernel_rfl) (by kernel_rfl) (Lib.bytes_of_row hg (by simpa using h4))
theorem showDP (v : Value) (l : List Ins) (w : World) (h : Inss w v l) (wf : ∀ k, k < l.length → InsWf (ith l k)) (L : Lay w) :
    Calls Tryz.prog 14 #[v] w fun e w' => e = .returned (.tuple #[str (showL l).1, .int .i64 (showL l).2]) ∧ Below w.heap.size w w' := by
  have hlen := h.len
  obtain ⟨ao, cap, rfl⟩ := h.shape
  obtain ⟨R0, hR0⟩ : ∃ R0, R0 = showL l := ⟨_, rfl⟩
  rw [← hR0]
  by_cases hbig : 4096 < l.length
  · have hd : decide ((4096 : Int) < l.length) = true := by simp; omega
    have e : R0 = ([], 3) := by rw [hR0]; unfold showL; rw [if_pos hbig]
    subst e
    clear h wf L hR0
    go_enter Tryz.func14, Tryz.ntmps14
    go_wp2_with fail
    go_ret2
    exact ⟨rfl, Below.refl _ _⟩
  · have hd : decide ((4096 : Int) < l.length) = false := by simp; omega
    have hn := Lib.hid hbig
    have HH := Lib.hid h
    have HWF := Lib.hid wf
    have HL := Lib.hid L
    have e1 : R0 = if l.all right then (textS l, 0) else ([], 4) := by rw [hR0]; unfold showL; rw [if_neg hbig]
    have HR := Lib.hid e1
    clear h wf L hR0 e1 hbig
    go_enter Tryz.func14, Tryz.ntmps14
    go_wp2_with fail
    go_loopw [4] (fun i wr => ∃ k : Nat, k ≤ l.length ∧ i = .int .i64 k ∧ Hid ((l.take k).all right = true) ∧ Hid (Below w.heap.size w wr)) (fun i _ => l.length - (intOf i).toNat)
    case atStart => exact ⟨0, Nat.zero_le _, rfl, Lib.hid rfl, Lib.hid (Below.refl _ _)⟩
    case round =>
      obtain ⟨k, hk, rfl, HA, HB⟩ := hrel
      by_cases hlt : k < l.length
      · have hd2 : decide (k < l.length) = true := by simpa using hlt
        have k0 : 0 ≤ (k : Int) := by omega
        have k1 : (k : Int) < (l.length : Int) := by omega
        obtain ⟨b, off, c, hsh, -, -, -, cells⟩ := (HH.out).at (by omega)
        have hao : ao = some ⟨b, off, none⟩ := by cases hsh; rfl
        subst hao
        have A8 := (cells k hlt).past HB.out
        have wf := HWF.out k hlt
        have RI := Lib.hid (fun W => refRight (ith l k) W)
        have HTK := Lib.hid (take_ith (l := l) (k := k) hlt)
        have HRF := Lib.hid (fun (h : right (ith l k) = false) => show l.all right = false from by
          cases hq : l.all right with
          | false => rfl
          | true =>
            rw [List.all_eq_true] at hq
            have hm : ith l k ∈ l := by unfold ith; rw [List.getD_eq_getElem?_getD, List.getElem?_eq_getElem hlt]; exact List.getElem_mem hlt
            rw [hq _ hm] at h; cases h)
        clear cells hsh wf
        generalize ith l k = x at A8 RI HTK HRF
        obtain ⟨xo, xn, xd, xs, xu, xf, xm, xz⟩ := x
        obtain ⟨x0, x1, x2, x3, x4, x5, x6, x7⟩ := A8
        unfold agg at RI
        simp only at x0 x1 x2 x3 x4 x5 x6 x7 RI
        go_wp2_with fail
        refine ((RI.out) _).mono ?_; rintro e w2 ⟨rfl, b2⟩
        have B2 := Lib.hid ((HB.out).trans (b2.mono (HB.out).size))
        clear b2 x0 x1 x2 x3 x4 x5 x6 x7 RI
        cases hr : right ⟨xo, xn, xd, xs, xu, xf, xm, xz⟩ with
        | false =>
          have HE := Lib.hid (show R0 = ([], 4) by rw [HR.out, HRF.out hr]; rfl)
          go_wp2_with fail
          go_ret2
          exact ⟨by rw [HE.out]; rfl, B2.out⟩
        | true =>
          have HA2 := Lib.hid (show (l.take (k + 1)).all right = true by rw [HTK.out, List.all_append, HA.out]; simp [hr])
          have n1 : (k : Int) + 1 ≤ 9223372036854775807 := by omega
          clear HRF
          go_wp2_with fail
          go_roundw
          case rel => exact ⟨k + 1, by omega, by go_num, HA2, B2⟩
          case measure =>
            simp only [intOf]
            omega
      · have hd2 : decide (k < l.length) = false := by simpa using hlt
        have hkn : k = l.length := by omega
        have hA := HA.out
        rw [hkn, List.take_length] at hA
        have HE := Lib.hid (show R0 = (textS l, 0) by rw [HR.out, if_pos hA])
        have HAL := Lib.hid hA
        have HBB := HB
        have OW := Lib.hid (World.ownsRow_nil wr w.heap.size 5 1)
        clear hA HA HR HB
        go_wp2_with fail
        clear hd2 hkn hlt hk
        go_loopw [5, 6] (fun sv i ws => ∃ j : Nat, j ≤ l.length ∧ i = .int .i64 j ∧ Hid (ws.ownsRow w.heap.size 5 1 sv (textS (l.take j)).length (Lib.byteCells (textS (l.take j)))) ∧ Hid (Below w.heap.size w ws)) (fun _ i _ => l.length - (intOf i).toNat)
        case atStart => exact ⟨0, Nat.zero_le _, rfl, OW, HBB⟩
        case round =>
          obtain ⟨j, hj, rfl, HO, HB⟩ := hrel
          by_cases hlt : j < l.length
          · have hd2 : decide (j < l.length) = true := by simpa using hlt
            have k0 : 0 ≤ (j : Int) := by omega
            have k1 : (j : Int) < (l.length : Int) := by omega
            obtain ⟨b, off, c, hsh, -, -, -, cells⟩ := (HH.out).at (by omega)
            have hao : ao = some ⟨b, off, none⟩ := by cases hsh; rfl
            subst hao
            have A8 := (cells j hlt).past HB.out
            have hm : ith l j ∈ l := by unfold ith; rw [List.getD_eq_getElem?_getD, List.getElem?_eq_getElem hlt]; exact List.getElem_mem hlt
            have hr : right (ith l j) = true := by have := HAL.out; rw [List.all_eq_true] at this; exact this _ hm
            have LI := Lib.hid (oneDP (ith l j) hr _ ((HL.out).past HB.out))
            have HTK := take_ith (l := l) (k := j) hlt
            have HT2 := Lib.hid (show textS (l.take (j + 1)) = textS (l.take j) ++ (bareS (ith l j) ++ [10]) by rw [HTK]; simp [textS, oneS])
            have hol := oneS_len _ hr
            have HLN := Lib.hid (show (textS (l.take j)).length + (oneS (ith l j)).length ≤ 10000000 by
              have h1 := textS_len (l.take j) (by rw [List.all_eq_true]; intro x hx; have := HAL.out; rw [List.all_eq_true] at this; exact this x (List.mem_of_mem_take hx))
              have h3 : (l.take j).length ≤ 4096 := by rw [List.length_take]; have := hn.out; omega
              have h4 : (l.take j).length * 400 ≤ 4096 * 400 := Nat.mul_le_mul_right _ h3
              omega)
            unfold oneS at hol HLN
            clear cells hsh hr hm HTK
            generalize bareS (ith l j) = bs at LI HT2 HLN hol
            generalize ith l j = x at A8 LI
            obtain ⟨xo, xn, xd, xs, xu, xf, xm, xz⟩ := x
            obtain ⟨x0, x1, x2, x3, x4, x5, x6, x7⟩ := A8
            unfold agg at LI
            simp only at x0 x1 x2 x3 x4 x5 x6 x7 LI
            have CC := run_cat (P := Tryz.prog) bs [10] (by simp at hol ⊢; omega)
            clear hol
            go_wp2_with fail
            refine (LI.out).mono ?_; rintro e w2 ⟨rfl, b2⟩
            have own2 := World.ownsRow.kept HO.out (row := none) ⟨b2.os, b2.tape, b2.output, b2.size, fun k hk _ => b2.block k hk⟩ (by generalize Value.ownBlock _ = q; cases q <;> simp)
            have B2 := (HB.out).trans (b2.mono (HB.out).size)
            obtain ⟨i0, hi, hz0, hz1, hz2⟩ := u8info
            have hx : (⟨(bs ++ [10]).toArray⟩ : ByteArray).size = (bs ++ [10]).length := by simp [ByteArray.size]
            have hln := HLN.out
            have n1 : (j : Int) + 1 ≤ 9223372036854775807 := by omega
            clear b2 LI x0 x1 x2 x3 x4 x5 x6 x7
            go_wp2_with (at_builtin; refine Lib.wpList_append_own_string _ rfl _ _ 42 9 rfl w.heap.size 5 i0 Tryz.underlying42 Tryz.underlying9 hi hz0 hz1 hz2 _ _ _ rfl own2 ⟨(bs ++ [10]).toArray⟩ rfl ?c3 ?c4 ?c5 ?_)
            case c3 => unfold maxLen; rw [hx]; omega
            case c4 => rw [hx]; omega
            case c5 => have := B2.size; omega
            intro v' w3 hown' hgrow _
            have HB3 := Lib.hid (B2.grown hgrow (by have := B2.size; omega) (fun k hk => (own2.lt k hk).1))
            have HO3 := Lib.hid (show w3.ownsRow w.heap.size 5 1 v' (textS (l.take (j + 1))).length (Lib.byteCells (textS (l.take (j + 1)))) by
              rw [HT2.out]
              simpa [Lib.byteCells, Lib.strCells] using hown')
            clear own2 B2 hi hz0 hz1 hz2 hx hln hown' hgrow CC
            go_wp2_with fail
            go_roundw
            case rel => exact ⟨j + 1, by omega, by go_num, HO3, HB3⟩
            case measure =>
              simp only [intOf]
              omega
          · have hd2 : decide (j < l.length) = false := by simpa using hlt
            have hkn : j = l.length := by omega
            have hO := HO.out
            rw [hkn, List.take_length] at hO
            have RC := run_own_string hO
            clear hO
            go_wp2_with fail
            go_ret2
            exact ⟨by rw [HE.out]; rfl, HB.out⟩
end Go.Proofs.YthfkmackodbmkaaGreatDoor
/- The document's way over a line's tokens, as plain lists: it reads what the language has, or tells that it is bad. -/
namespace Go.Proofs.YthfkmackodbmkaaGreatDoor
set_option linter.unusedVariables false
set_option linter.unusedSimpArgs false
set_option maxRecDepth 10000

/-- The token at a place; none: the empty one. -/
def nx (ts : List Str) (at' : Nat) : Str := ts.getD at' []
/-- A reading that went on: what is bad stays so; else just what the language has was read. -/
def Good {α : Type} (o : Option (α × List Str)) (ts : List Str) (bad : Bool) (res : α) (at' : Nat) (bad' : Bool) : Prop :=
  (bad = true → bad' = true) ∧ (bad = false → match o with | some x => bad' = false ∧ res = x.1 ∧ x.2 = ts.drop at' ∧ at' ≤ ts.length | none => bad' = true)
theorem Good.sticky {α : Type} {o : Option (α × List Str)} {ts : List Str} {bad : Bool} {res : α} {at' : Nat} {bad' : Bool} (h : Good o ts bad res at' bad') (hb : bad = true) : bad' = true := h.1 hb
theorem Good.within {α : Type} {o : Option (α × List Str)} {ts : List Str} {bad : Bool} {res : α} {at' : Nat} {bad' : Bool} (h : Good o ts bad res at' bad') (hb : bad' = false) : at' ≤ ts.length := by
  cases bad with
  | true => rw [h.1 rfl] at hb; cases hb
  | false =>
    have := h.2 rfl
    cases o with
    | none => rw [this] at hb; cases hb
    | some x => exact this.2.2.2
theorem Good.bind {α β : Type} {o : Option (α × List Str)} {f : α × List Str → Option (β × List Str)} {ts : List Str} {bad bad1 bad2 : Bool} {r1 : α} {r2 : β} {at1 at2 : Nat}
    (h1 : Good o ts bad r1 at1 bad1) (h2 : Good (f (r1, ts.drop at1)) ts bad1 r2 at2 bad2) : Good (o.bind f) ts bad r2 at2 bad2 := by
  refine ⟨fun hb => h2.1 (h1.1 hb), fun hb => ?_⟩
  have a := h1.2 hb
  cases o with
  | none => rw [Option.bind_none]; exact h2.1 a
  | some x =>
    obtain ⟨a1, a2, a3, a4⟩ := a
    rw [Option.bind_some]
    have e : x = (r1, ts.drop at1) := by rw [a2, ← a3]
    rw [e]
    exact h2.2 a1
theorem Good.map {α β : Type} {o : Option (α × List Str)} {f : α × List Str → β × List Str} {ts : List Str} {bad bad1 : Bool} {r1 : α} {at1 : Nat} {r2 : β}
    (h1 : Good o ts bad r1 at1 bad1) (h2 : f (r1, ts.drop at1) = (r2, ts.drop at1)) : Good (o.map f) ts bad r2 at1 bad1 := by
  refine ⟨h1.1, fun hb => ?_⟩
  have a := h1.2 hb
  cases o with
  | none => exact a
  | some x =>
    obtain ⟨a1, a2, a3, a4⟩ := a
    have e : x = (r1, ts.drop at1) := by rw [a2, ← a3]
    rw [Option.map_some]
    simp only
    rw [e, h2]
    exact ⟨a1, rfl, rfl, a4⟩
theorem drop_nx {ts : List Str} {at' : Nat} (h : at' < ts.length) : ts.drop at' = nx ts at' :: ts.drop (at' + 1) := by
  rw [List.drop_eq_getElem_cons h, nx, List.getD_eq_getElem?_getD, List.getElem?_eq_getElem h]; rfl
theorem nx_end {ts : List Str} {at' : Nat} (h : ts.length ≤ at') : nx ts at' = [] := by
  rw [nx, List.getD_eq_getElem?_getD, List.getElem?_eq_none h]; rfl
theorem nx_tok {ts : List Str} (ht : ∀ t ∈ ts, Tok t) {at' : Nat} (h : at' < ts.length) : Tok (nx ts at') := by
  rw [nx, List.getD_eq_getElem?_getD, List.getElem?_eq_getElem h]
  exact ht _ (List.getElem_mem h)
/-- One token is read. -/
theorem good_one {α : Type} {rd : List Str → Option (α × List Str)} {ok : Str → Option α} (hn : rd [] = none) (hc : ∀ t r, rd (t :: r) = (ok t).map fun x => (x, r)) (h0 : ok [] = none)
    {ts : List Str} {at' : Nat} {bad : Bool} {res : α} (hres : ∀ x, ok (nx ts at') = some x → res = x) :
    Good (rd (ts.drop at')) ts bad res (at' + 1) (bad || !(ok (nx ts at')).isSome) := by
  refine ⟨fun hb => by rw [hb]; rfl, fun hb => ?_⟩
  rw [hb]
  by_cases h : at' < ts.length
  · rw [drop_nx h, hc]
    cases ho : ok (nx ts at') with
    | none => rfl
    | some x =>
      rw [Option.map_some]
      exact ⟨rfl, hres x ho, rfl, h⟩
  · rw [List.drop_eq_nil_of_le (by omega), hn, nx_end (by omega), h0]
    rfl
def okOf (may : List Str) (t : Str) : Option Int := (ixOf may t).map fun k : Nat => (k : Int)
theorem okOf_cons (may : List Str) (t : Str) (r : List Str) : rdOf may (t :: r) = (okOf may t).map fun x => (x, r) := by
  show (ixOf may t).map _ = _
  unfold okOf; cases ixOf may t <;> rfl
theorem good_sign {c : Str} (hc : c ≠ []) (ts : List Str) (at' : Nat) (bad : Bool) : Good (rdOf [c] (ts.drop at')) ts bad 0 (at' + 1) (bad || decide (nx ts at' ≠ c)) := by
  have e : ∀ t : Str, okOf [c] t = if c = t then some 0 else none := fun t => by unfold okOf ixOf; split <;> rfl
  have := good_one (rd := rdOf [c]) (ok := okOf [c]) rfl (okOf_cons [c]) (by rw [e, if_neg hc]) (ts := ts) (at' := at') (bad := bad) (res := 0) (fun x hx => by
    rw [e] at hx; split at hx
    · cases hx; rfl
    · cases hx)
  rw [e] at this
  by_cases h : c = nx ts at'
  · simpa [h] using this
  · have h' : ¬ nx ts at' = c := fun e => h e.symm
    simpa [h, h'] using this
theorem good_reg (ts : List Str) (at' : Nat) (bad : Bool) : Good (rdReg (ts.drop at')) ts bad (regR (nx ts at')).1 (at' + 1) (bad || !(regR (nx ts at')).2) := by
  have := good_one (rd := rdReg) (ok := okOf regs) rfl (okOf_cons regs) rfl (ts := ts) (at' := at') (bad := bad) (res := (regR (nx ts at')).1) (fun x hx => by
    unfold okOf at hx
    unfold regR
    cases h : ixOf regs (nx ts at') with
    | none => rw [h] at hx; cases hx
    | some k => rw [h] at hx; cases hx; rfl)
  have e : (okOf regs (nx ts at')).isSome = (regR (nx ts at')).2 := by
    unfold okOf regR
    cases ixOf regs (nx ts at') <;> rfl
  rwa [e] at this
theorem num_nil : numOf [] = none := rfl
theorem good_num (below : Bool) (ts : List Str) (at' : Nat) (bad : Bool) (n : Int) (hn : ∀ m, numOf (nx ts at') = some m → n = if below then -m else m) :
    Good (rdNum below (ts.drop at')) ts bad n (at' + 1) (bad || !(numOf (nx ts at')).isSome) := by
  have := good_one (rd := rdNum below) (ok := fun t => (numOf t).map fun m => if below then -m else m) rfl (fun t r => by show (numOf t).map _ = _; cases numOf t <;> rfl) rfl (ts := ts) (at' := at') (bad := bad) (res := n) (fun x hx => by
    cases h : numOf (nx ts at') with
    | none => rw [h] at hx; cases hx
    | some m => rw [h] at hx; cases hx; exact hn m h)
  simpa using this
def noSign (t : Str) : Bool := decide (t ≠ [43]) && decide (t ≠ [45])
theorem good_signs (ts : List Str) (at' : Nat) (bad : Bool) : Good (rdOf [[43], [45]] (ts.drop at')) ts bad (if nx ts at' = [45] then 1 else 0) (at' + 1) (bad || noSign (nx ts at')) := by
  have e : ∀ t : Str, okOf [[43], [45]] t = if [43] = t then some 0 else if [45] = t then some 1 else none := fun t => by
    unfold okOf ixOf ixOf
    split
    · rfl
    · split <;> rfl
  have := good_one (rd := rdOf [[43], [45]]) (ok := okOf [[43], [45]]) rfl (okOf_cons _) rfl (ts := ts) (at' := at') (bad := bad) (res := if nx ts at' = [45] then 1 else 0) (fun x hx => by
    rw [e] at hx
    split at hx
    · rename_i h; cases hx; rw [← h]; rfl
    · split at hx
      · rename_i h; cases hx; rw [← h]; rfl
      · cases hx)
  have e2 : (okOf [[43], [45]] (nx ts at')).isSome = !noSign (nx ts at') := by
    rw [e]
    unfold noSign
    by_cases h1 : nx ts at' = [43]
    · rw [h1]; rfl
    · by_cases h2 : nx ts at' = [45]
      · rw [h2]; rfl
      · have h1' : ¬ [43] = nx ts at' := fun e => h1 e.symm
        have h2' : ¬ [45] = nx ts at' := fun e => h2 e.symm
        simp [h1, h2, h1', h2']
  rw [e2] at this
  simpa using this
theorem good_signed {ts : List Str} {at' : Nat} {bad bad2 : Bool} {n : Int} {at2 : Nat} (h : Good (rdNum (decide (nx ts at' = [45])) (ts.drop (at' + 1))) ts (bad || noSign (nx ts at')) n at2 bad2) : Good (rdSigned (ts.drop at')) ts bad n at2 bad2 := by
  unfold rdSigned
  refine (good_signs ts at' bad).bind ?_
  simp only
  have : decide ((if nx ts at' = [45] then (1 : Int) else 0) = 1) = decide (nx ts at' = [45]) := by
    by_cases h : nx ts at' = [45] <;> simp [h]
  rw [this]
  exact h
/-- A register, or a number. -/
theorem good_second_reg {ts : List Str} {at' : Nat} {bad : Bool} {i : Ins} (h : (regR (nx ts at')).2 = true) (hb : bad = false → at' ≤ ts.length) : Good (rdSecond i (ts.drop at')) ts bad { i with src := (regR (nx ts at')).1 } (at' + 1) bad := by
  refine ⟨fun hb => hb, fun hb => ?_⟩
  have hg := (good_reg ts at' bad).2 hb
  rw [hb, h] at hg
  unfold rdSecond
  cases hr : rdReg (ts.drop at') with
  | none => rw [hr] at hg; cases hg
  | some x =>
    rw [hr] at hg
    obtain ⟨-, h2, h3, h4⟩ := hg
    simp only
    exact ⟨hb, by rw [h2], h3, h4⟩
theorem reg_none {ts : List Str} {at' : Nat} (h : (regR (nx ts at')).2 = false) : rdReg (ts.drop at') = none := by
  have hg := (good_reg ts at' false).2 rfl
  rw [h] at hg
  cases hr : rdReg (ts.drop at') with
  | none => rfl
  | some x => rw [hr] at hg; exact absurd hg.1 (by decide)
theorem take_minus (ts : List Str) (at' : Nat) (h : at' ≤ ts.length) : takeOf [[45]] (ts.drop at') = if nx ts at' = [45] then (0, ts.drop (at' + 1)) else (-1, ts.drop at') := by
  by_cases hl : at' < ts.length
  · unfold takeOf
    rw [drop_nx hl, okOf_cons]
    unfold okOf ixOf
    by_cases e : nx ts at' = [45]
    · rw [if_pos e.symm, if_pos e]; rfl
    · have e' : ¬ [45] = nx ts at' := fun x => e x.symm
      rw [if_neg e', if_neg e]; rfl
  · rw [List.drop_eq_nil_of_le (by omega), nx_end (by omega), if_neg (by decide)]
    rfl
theorem good_second_num {ts : List Str} {at' : Nat} {bad bad2 : Bool} {i : Ins} {n : Int} {at2 : Nat} (h : (regR (nx ts at')).2 = false) (hb : bad = false → at' ≤ ts.length)
    (hn : Good (rdNum (decide (nx ts at' = [45])) (ts.drop (if nx ts at' = [45] then at' + 1 else at'))) ts bad n at2 bad2) : Good (rdSecond i (ts.drop at')) ts bad { i with ui := true, im := n } at2 bad2 := by
  refine ⟨hn.1, fun hb' => ?_⟩
  have ht := take_minus ts at' (hb hb')
  have hg := hn.2 hb'
  unfold rdSecond
  rw [reg_none h, ht]
  simp only
  have e1 : decide ((if nx ts at' = [45] then (0, ts.drop (at' + 1)) else ((-1 : Int), ts.drop at')).1 = 0) = decide (nx ts at' = [45]) := by
    by_cases e : nx ts at' = [45] <;> simp [e]
  have e2 : (if nx ts at' = [45] then ((0 : Int), ts.drop (at' + 1)) else ((-1 : Int), ts.drop at')).2 = ts.drop (if nx ts at' = [45] then at' + 1 else at') := by
    by_cases e : nx ts at' = [45] <;> simp [e]
  rw [e1, e2]
  cases hq : rdNum (decide (nx ts at' = [45])) (ts.drop (if nx ts at' = [45] then at' + 1 else at')) with
  | none => rw [hq] at hg; exact hg
  | some x =>
    rw [hq] at hg
    obtain ⟨h1, h2, h3, h4⟩ := hg
    simp only [Option.map_some]
    exact ⟨h1, by rw [h2], h3, h4⟩
theorem label_no_sign {t : Str} (h : labelOk t = true) : noSign t = true := by
  unfold noSign
  by_cases h1 : t = [43]
  · subst h1; exact absurd h (by decide)
  · by_cases h2 : t = [45]
    · subst h2; exact absurd h (by decide)
    · simp [h1, h2]
theorem label_nil : labelOk [] = false := rfl
theorem signs_none {ts : List Str} {at' : Nat} (h : noSign (nx ts at') = true) : rdOf [[43], [45]] (ts.drop at') = none := by
  have hg := (good_signs ts at' false).2 rfl
  rw [h] at hg
  cases hr : rdOf [[43], [45]] (ts.drop at') with
  | none => rfl
  | some x => rw [hr] at hg; exact absurd hg.1 (by decide)
theorem good_to_label {ts : List Str} {at' : Nat} {bad : Bool} {i : Ins} (h : labelOk (nx ts at') = true) : Good (rdJump i (ts.drop at')) ts bad (i, nx ts at') (at' + 1) bad := by
  refine ⟨fun hb => hb, fun hb => ?_⟩
  have hl : at' < ts.length := by
    rcases Nat.lt_or_ge at' ts.length with h' | h'
    · exact h'
    · rw [nx_end h'] at h; cases h
  unfold rdJump
  rw [signs_none (label_no_sign h)]
  simp only
  rw [drop_nx hl, show rdLabel (nx ts at' :: ts.drop (at' + 1)) = some (nx ts at', ts.drop (at' + 1)) from if_pos h, Option.map_some]
  exact ⟨hb, rfl, rfl, hl⟩
theorem good_to_off {ts : List Str} {at' : Nat} {bad bad2 : Bool} {i : Ins} {n : Int} {at2 : Nat} (h : labelOk (nx ts at') = false) (hn : Good (rdSigned (ts.drop at')) ts bad n at2 bad2) : Good (rdJump i (ts.drop at')) ts bad ({ i with off := n }, ([] : Str)) at2 bad2 := by
  refine ⟨hn.1, fun hb => ?_⟩
  have hg := hn.2 hb
  unfold rdSigned at hg
  unfold rdJump
  cases hr : rdOf [[43], [45]] (ts.drop at') with
  | none =>
    rw [hr, Option.bind_none] at hg
    simp only at hg ⊢
    have hl : rdLabel (ts.drop at') = none := by
      by_cases hl : at' < ts.length
      · rw [drop_nx hl]; exact if_neg (by rw [h]; decide)
      · rw [List.drop_eq_nil_of_le (by omega)]; rfl
    rw [hl]
    exact hg
  | some x =>
    rw [hr, Option.bind_some] at hg
    simp only
    cases hq : rdNum (decide (x.1 = 1)) x.2 with
    | none => rw [hq] at hg; exact hg
    | some y =>
      rw [hq] at hg
      obtain ⟨h1, h2, h3, h4⟩ := hg
      rw [Option.map_some]
      exact ⟨h1, by rw [h2], h3, h4⟩

/-- The operator of a word, and whether it is narrow; 0: it is none. -/
def opIn : List Str → Int → Str → Int × Bool
  | [], _, _ => (0, false)
  | x :: l, n, s => if x ≠ [] ∧ s = x then (n, false) else if x ≠ [] ∧ s = x ++ [51, 50] then (n, true) else opIn l (n + 1) s
def opOf (s : Str) : Int × Bool := opIn wordsL 1 s
def sizedIn : List Int → Str → Str → Int
  | [], _, _ => 0
  | k :: l, s, p => if s = p ++ Lib.itoa k then k else sizedIn l s p
def sizedOf (s p : Str) : Int := sizedIn [1, 2, 4, 8] s p
def loadW : Str := [108, 111, 97, 100]
def putW : Str := [112, 117, 116]
def jumpW : Str := [106, 117, 109, 112]
def exitW : Str := [101, 120, 105, 116]
def disp (w : Str) : Option (Ins × Kind) :=
  if (opOf w).1 = 13 then some (⟨13, (opOf w).2, 0, 0, false, 0, 0, 0⟩, .target)
  else if 17 ≤ (opOf w).1 then some (⟨(opOf w).1, (opOf w).2, 0, 0, false, 0, 0, 0⟩, .ask)
  else if 0 < (opOf w).1 then some (⟨(opOf w).1, (opOf w).2, 0, 0, false, 0, 0, 0⟩, .reckon)
  else if 0 < sizedOf w loadW then some (⟨14, false, 0, 0, false, 0, 0, sizedOf w loadW⟩, .load)
  else if 0 < sizedOf w putW then some (⟨15, false, 0, 0, false, 0, 0, sizedOf w putW⟩, .put)
  else if w = jumpW then some (⟨16, false, 0, 0, false, 0, 0, 0⟩, .jump)
  else if w = exitW then some (⟨28, false, 0, 0, false, 0, 0, 0⟩, .exit)
  else none
theorem opIn_none {s : Str} : ∀ (l : List Str) (n : Int), (∀ x ∈ l, x ≠ [] → s ≠ x ∧ s ≠ x ++ [51, 50]) → opIn l n s = (0, false)
  | [], _, _ => rfl
  | x :: l, n, h => by
    have hx := h x (by simp)
    unfold opIn
    rw [if_neg (fun e => (hx e.1).1 e.2), if_neg (fun e => (hx e.1).2 e.2)]
    exact opIn_none l _ (fun y hy => h y (by simp [hy]))
theorem opOf_small (s : Str) : 0 ≤ (opOf s).1 ∧ (opOf s).1 ≤ 27 := by
  have : ∀ (l : List Str) (n : Int), 0 ≤ n → n + l.length ≤ 28 → 0 ≤ (opIn l n s).1 ∧ (opIn l n s).1 ≤ 27 := by
    intro l
    induction l with
    | nil => intro n _ _; simp [opIn]
    | cons x l ih =>
      intro n h0 h1
      simp only [List.length_cons] at h1
      unfold opIn
      split
      · exact ⟨h0, by simp only; omega⟩
      · split
        · exact ⟨h0, by simp only; omega⟩
        · exact ih (n + 1) (by omega) (by omega)
  exact this wordsL 1 (by decide) (by decide)
def tableNames : List Str := table.map (·.1)
theorem names_in : (∀ x ∈ wordsL, x ≠ [] → x ∈ tableNames ∧ x ++ [51, 50] ∈ tableNames) ∧ (∀ k ∈ [(1 : Int), 2, 4, 8], loadW ++ Lib.itoa k ∈ tableNames ∧ putW ++ Lib.itoa k ∈ tableNames) ∧ jumpW ∈ tableNames ∧ exitW ∈ tableNames := by decide +kernel
theorem disp_table : ∀ e ∈ table, disp e.1 = entry e.1 := by decide +kernel
theorem disp_entry (w : Str) : disp w = entry w := by
  by_cases h : w ∈ tableNames
  · obtain ⟨e, he, rfl⟩ := List.mem_map.1 h
    exact disp_table e he
  · obtain ⟨h1, h2, h3, h4⟩ := names_in
    have no : ∀ {x : Str}, x ∈ tableNames → w ≠ x := fun hx e => h (e ▸ hx)
    have ho : opOf w = (0, false) := opIn_none wordsL 1 (fun x hx h0 => ⟨no (h1 x hx h0).1, no (h1 x hx h0).2⟩)
    have hs : ∀ p, (∀ k ∈ [(1 : Int), 2, 4, 8], p ++ Lib.itoa k ∈ tableNames) → sizedOf w p = 0 := fun p hp => by
      unfold sizedOf sizedIn sizedIn sizedIn sizedIn sizedIn
      rw [if_neg (no (hp 1 (by simp))), if_neg (no (hp 2 (by simp))), if_neg (no (hp 4 (by simp))), if_neg (no (hp 8 (by simp)))]
    have hl := hs loadW (fun k hk => (h2 k hk).1)
    have hp := hs putW (fun k hk => (h2 k hk).2)
    have he : entry w = none := by
      unfold entry
      rw [List.find?_eq_none.2 (fun e he hq => h (by
        have : e.1 = w := by simpa using hq
        rw [← this]; exact List.mem_map_of_mem he))]
      rfl
    rw [he]
    unfold disp
    rw [ho, hl, hp]
    simp [no h3, no h4]
theorem entry_nil : entry [] = none := by decide
/-- A line of two tokens, the second a colon, the first no label, is none. -/
theorem colon_none {w : Str} {x : (Ins × Str) × List Str} (h : rdIns [w, [58]] = some x) : x.2 ≠ [] := by
  change (Option.bind (entry w) _) = _ at h
  cases he : entry w with
  | none => rw [he] at h; cases h
  | some e =>
    rw [he, Option.bind_some] at h
    obtain ⟨i, k⟩ := e
    have c1 : rdReg [[58]] = none := by decide
    have c2 : rdOf [[91]] [[58]] = none := by decide
    have c3 : rdOf [[43], [45]] [[58]] = none := by decide
    have c4 : rdLabel [[58]] = none := by decide
    cases k with
    | exit =>
      simp only [rdKind, Option.bind_some] at h
      split at h
      · cases h; simp
      · cases h
    | reckon => simp [rdKind, rdReckon, rdTarget, c1] at h
    | target => simp [rdKind, rdTarget, c1] at h
    | ask => simp [rdKind, rdAsk, rdReckon, rdTarget, c1] at h
    | load => simp [rdKind, rdLoad, rdTarget, c1] at h
    | put => simp [rdKind, rdPut, rdCell, c2] at h
    | jump => simp [rdKind, rdJump, c3, c4] at h
end Go.Proofs.YthfkmackodbmkaaGreatDoor
/- The document's own tokens and lines. -/
namespace Go.Proofs.YthfkmackodbmkaaGreatDoor
open Go.RowKit
set_option linter.unusedVariables false
set_option linter.unusedSimpArgs false
set_option maxRecDepth 100000
set_option maxHeartbeats 2000000

/-- append of one string to a row of the call's own. -/
theorem wpList_append_str (w : World) {ops : Array Oper} {rest : List Oper} {o : Oper} {a : Act} {Q : Exit → Act → World → Prop} (hgd : o.guard = none) (s x : Operand)
    (ho : o.op = .call { callee := .builtin .append, args := #[s, x], argTypes := #[37, 37] })
    (base : Nat) (v : Value) (xs : List Str) (hs : a.eval s = v) (hown : OwnS w base v xs) (b : Nat) (y : Str) (hx : a.eval x = .slice (some ⟨b, 0, none⟩) 1 1) (hy : w.cell? ⟨b, 0, none⟩ = some (str y))
    (hlen : xs.length ≤ 1000000000) (hbase : base ≤ w.heap.size)
    (h : ∀ v' w', OwnS w' base v' (xs ++ [y]) → w.grownBy w' v.ownBlock → wpList Tryz.prog ops Q rest (a.put o.dst v') w') : wpList Tryz.prog ops Q (o :: rest) a w := by
  obtain ⟨i, hi, hz, hs1, hb1⟩ := strInfo
  refine wpList_append_own w hgd s x 37 ho base 9 i (str []) 1 16 Tryz.underlying37 hi hz hs1 hb1 rfl (by decide) v _ _ hs hown ⟨b, 0, none⟩ 1 1 [str y] hx rfl
    (fun j u hj => by match j, hj with | 0, hj => simp at hj; subst hj; simpa [Addr.add] using hy) (fun u hu => by simp at hu; subst hu; rfl) (by unfold maxLen; omega) (by omega) hbase (fun v' w' ho' hg _ => h v' w' ?_ hg)
  unfold OwnS
  rw [List.length_append, List.map_append]
  exact ho'
theorem ext_part {n m : Nat} {l : Str} : (⟨l.toArray⟩ : ByteArray).extract n m = ⟨((l.drop n).take (m - n)).toArray⟩ := by
  apply ByteArray.ext
  simp [List.extract]
theorem str_part {n m : Nat} {l : Str} (h : n ≤ m) (hm : m ≤ l.length) (W : World) : (Instr.slice 9 (str l) (some (.int .i64 (n : Int))) (some (.int .i64 (m : Int))) none).run Tryz.prog W = .ok (str ((l.drop n).take (m - n))) W := by
  rw [run_slice_string_if W 9 ⟨l.toArray⟩ .i64 .i64 n m (by kernel_rfl), if_pos ⟨by omega, by simp [ByteArray.size]; omega⟩, if_pos ⟨by omega, by omega⟩]
  simp only [Int.toNat_natCast]
  rw [ext_part]
theorem drop_cons {s : Str} {k : Nat} {c : UInt8} (h : s[k]? = some c) : s.drop k = c :: s.drop (k + 1) := by
  obtain ⟨hk, e⟩ := List.getElem?_eq_some_iff.1 h
  rw [List.drop_eq_getElem_cons hk, e]
theorem at_get {s : Str} {k : Nat} {c : UInt8} (h : s[k]? = some c) : ∀ h' : k < (⟨s.toArray⟩ : ByteArray).size, (⟨s.toArray⟩ : ByteArray)[k]'h' = c := fun _ => (List.getElem?_eq_some_iff.1 h).2
theorem cut_cons {c : UInt8} (r : Str) (h : c ≠ 35) : cutHash (c :: r) = c :: cutHash r := by
  unfold cutHash; rw [List.takeWhile_cons_of_pos (by simpa using h)]
theorem cut_head (r : Str) : ∀ c, (cutHash r).head? = some c → r.head? = some c := by
  intro c h
  cases r with
  | nil => cases h
  | cons b r =>
    by_cases hb : b = 35
    · subst hb; simp [cutHash] at h
    · rw [cut_cons r hb] at h; simpa using h
theorem cut_word : ∀ (u r : Str), u.all wordC = true → cutHash (u ++ r) = u ++ cutHash r
  | [], _, _ => rfl
  | c :: u, r, h => by
    simp only [List.all_cons, Bool.and_eq_true] at h
    have hc : c ≠ 35 := by rintro rfl; exact absurd h.1 (by decide)
    rw [List.cons_append, cut_cons _ hc, cut_word u r h.2, List.cons_append]
/-- What is told so far, and what is left from k on. -/
def TI (s : Str) (k : Nat) (acc : List Str) : Prop := tokL s = (toks [] (cutHash (s.drop k))).map (acc ++ ·) ∧ acc.length ≤ k
theorem TI.start (s : Str) : TI s 0 [] := ⟨by unfold tokL; rw [List.drop_zero]; cases toks [] (cutHash s) <;> rfl, Nat.le_refl _⟩
theorem TI.done {s : Str} {k : Nat} {acc : List Str} (h : TI s k acc) (hk : s.length ≤ k ∨ s[k]? = some 35) : tokL s = some acc := by
  rw [h.1]
  have : cutHash (s.drop k) = [] := by
    rcases hk with hk | hk
    · rw [List.drop_eq_nil_of_le hk]; rfl
    · rw [drop_cons hk]; simp [cutHash]
  rw [this]
  simp [toks, flush]
theorem TI.blank {s : Str} {k : Nat} {acc : List Str} {c : UInt8} (h : TI s k acc) (hc : s[k]? = some c) (h35 : c ≠ 35) (hb : blankC c = true) : TI s (k + 1) acc :=
  ⟨by rw [h.1, drop_cons hc, cut_cons _ h35, toks_blank _ hb], Nat.le_succ_of_le h.2⟩
theorem TI.sign {s : Str} {k : Nat} {acc : List Str} {c : UInt8} (h : TI s k acc) (hc : s[k]? = some c) (h35 : c ≠ 35) (hb : signC c = true) : TI s (k + 1) (acc ++ [[c]]) :=
  ⟨by rw [h.1, drop_cons hc, cut_cons _ h35, toks_sign _ hb]; cases toks [] (cutHash (s.drop (k + 1))) <;> simp, by have := h.2; simp; omega⟩
theorem TI.none {s : Str} {k : Nat} {acc : List Str} {c : UInt8} (h : TI s k acc) (hc : s[k]? = some c) (h35 : c ≠ 35) (h1 : wordC c = false) (h2 : blankC c = false) (h3 : signC c = false) : tokL s = none := by
  rw [h.1, drop_cons hc, cut_cons _ h35, toks_none _ h1 h2 h3]; rfl
theorem TI.word {s : Str} {k m : Nat} {acc : List Str} (h : TI s k acc) (hkm : k < m) (hm : m ≤ s.length) (hw : ((s.drop k).take (m - k)).all wordC = true) (hs : ∀ c, s[m]? = some c → wordC c = false) : TI s m (acc ++ [(s.drop k).take (m - k)]) := by
  have e : s.drop k = (s.drop k).take (m - k) ++ s.drop m := by
    have := List.take_append_drop (m - k) (s.drop k)
    rw [List.drop_drop, show k + (m - k) = m from by omega] at this
    exact this.symm
  have hne : (s.drop k).take (m - k) ≠ [] := by
    intro e0
    have := congrArg List.length e0
    simp at this
    omega
  refine ⟨?_, by have := h.2; simp; omega⟩
  have hst : ∀ c, (cutHash (s.drop m)).head? = some c → wordC c = false := fun c hc => hs c (by
    have := cut_head _ c hc
    rwa [List.head?_drop] at this)
  rw [h.1, e, cut_word _ _ hw, toks_word hw hne hst, ← e]
  cases toks [] (cutHash (s.drop m)) <;> simp
theorem word_step {s : Str} {k m : Nat} {c : UInt8} (hkm : k ≤ m) (hw : ((s.drop k).take (m - k)).all wordC = true) (hc : s[m]? = some c) (hx : wordC c = true) : ((s.drop k).take (m + 1 - k)).all wordC = true := by
  have e : m + 1 - k = (m - k) + 1 := by omega
  rw [e, List.take_add_one, List.getElem?_drop, show k + (m - k) = m from by omega, hc, List.all_append, hw]
  simp [hx]
def Tokens (res : Option (List Str)) (w : World) (e : Ending) (w' : World) : Prop :=
  (match res with | some ts => ∃ v, e = .returned (.tuple #[v, .bool true]) ∧ Ss w' v ts ∧ ts.length ≤ 1000000000 | none => e = .returned (.tuple #[.slice none 0 0, .bool false])) ∧ Below w.heap.size w w'
theorem tokens_some {res : Option (List Str)} {w w' : World} {e : Ending} {ts : List Str} (h : res = some ts) {v : Value} (he : e = .returned (.tuple #[v, .bool true])) (hs : Ss w' v ts) (hl : ts.length ≤ 1000000000) (hb : Below w.heap.size w w') : Tokens res w e w' := by
  subst h; exact ⟨⟨v, he, hs, hl⟩, hb⟩
theorem tokens_none {res : Option (List Str)} {w w' : World} {e : Ending} (h : res = none) (he : e = .returned (.tuple #[.slice none 0 0, .bool false])) (hb : Below w.heap.size w w') : Tokens res w e w' := by
  subst h; exact ⟨he, hb⟩
theorem blank_is (c : UInt8) : blankC c = (((c.toNat : Int) == 9) || (((c.toNat : Int) == 13) || ((c.toNat : Int) == 32))) := by
  have key : ∀ c : UInt8, (blankC c == (((c.toNat : Int) == 9) || (((c.toNat : Int) == 13) || ((c.toNat : Int) == 32)))) = true := fun c => all8 (p := fun c => blankC c == (((c.toNat : Int) == 9) || (((c.toNat : Int) == 13) || ((c.toNat : Int) == 32)))) (by decide +kernel) c
  simpa using key c
/-- A row of one string that is made: what stands in it. -/
theorem lit_one (w : World) (u : Str) : (w.alloc (.cells #[str u] 9)).cell? ⟨w.heap.size, 0, none⟩ = some (str u) := by
  have := heap_alloc_new w (.cells #[str u] 9)
  simp only [World.cell?]
  rw [this]
  rfl
theorem own_row_below {w W W' : World} {v : Value} {l : List Str} (hb : Below w.heap.size w W) (ho : OwnS W w.heap.size v l) (hg : W.grownBy W' v.ownBlock) : Below w.heap.size w W' :=
  hb.grown hg hb.size (fun k hk => (ho.lt k hk).1)
theorem refTokens (s : Str) (hs : s.length ≤ 1000000000) (w : World) : Calls Tryz.prog 69 #[str s] w (Tokens (tokL s) w) := by
  have hc0 : (⟨s.toArray⟩ : ByteArray).size = s.length := by simp [ByteArray.size]
  have HS := Lib.hid hs
  clear hs
  go_enter Tryz.func69, Tryz.ntmps69
  go_wp2_with fail
  go_loopw [4, 5] (fun v i wr => ∃ (k : Nat) (acc : List Str), k ≤ s.length ∧ i = .int .i64 k ∧ Hid (TI s k acc) ∧ Hid (OwnS wr w.heap.size v acc) ∧ Hid (Below w.heap.size w wr)) (fun _ i _ => s.length - (intOf i).toNat)
  case atStart => exact ⟨0, [], Nat.zero_le _, rfl, Lib.hid (TI.start s), Lib.hid (OwnS.nil _ _), Lib.hid (Below.refl _ _)⟩
  case round =>
    obtain ⟨k, acc, hk, rfl, HT, HO, HB⟩ := hrel
    obtain ⟨ao, cap, hv⟩ := (HO.out).ss.shape
    subst hv
    by_cases hlt : k < s.length
    · have hd : decide ((k : Int) < s.length) = true := by simp; omega
      have hd2 : decide (k < s.length) = true := by simpa using hlt
      obtain ⟨c, hc⟩ : ∃ c, s[k]? = some c := ⟨s[k], by simp [hlt]⟩
      have hg := at_get hc
      have k0 : 0 ≤ (k : Int) := by omega
      have k1 : (k : Int) < (s.length : Int) := by omega
      have HC := Lib.hid hc
      clear hc
      by_cases h35 : (c.toNat : Int) = 35
      · have e35 : c = 35 := by apply UInt8.toNat_inj.1; show c.toNat = 35; omega
        have q35 : ((c.toNat : Int) != 35) = false := by simp [h35]
        have HE := Lib.hid ((HT.out).done (.inr (by rw [HC.out, e35])))
        have HL := Lib.hid (show acc.length ≤ 1000000000 by have := (HT.out).2; have := HS.out; omega)
        clear h35 e35
        go_wp2_with fail
        go_ret2
        exact tokens_some HE.out rfl (HO.out).ss HL.out HB.out
      · have n35 : c ≠ 35 := by rintro rfl; exact h35 rfl
        have q35 : ((c.toNat : Int) != 35) = true := by simpa using h35
        have W35 := Lib.hid n35
        have HW := Lib.hid (wordyP c)
        have HSG := Lib.hid (signP c)
        have HBL := Lib.hid (blank_is c)
        have hkw : wrap64 ((k : Int) + 1) = (k : Int) + 1 := IntWalk.wrap64_in _ ⟨by omega, by have := HS.out; omega⟩
        clear h35 n35
        cases hbl : blankC c with
        | true =>
          have HT2 := Lib.hid ((HT.out).blank HC.out W35.out hbl)
          have hb3 := HBL.out
          rw [hbl] at hb3
          clear hbl
          obtain ⟨b9, e9⟩ : ∃ b, ((c.toNat : Int) == 9) = b := ⟨_, rfl⟩
          obtain ⟨b13, e13⟩ : ∃ b, ((c.toNat : Int) == 13) = b := ⟨_, rfl⟩
          obtain ⟨b32, e32⟩ : ∃ b, ((c.toNat : Int) == 32) = b := ⟨_, rfl⟩
          rw [e9, e13, e32] at hb3
          cases b9 <;> cases b13 <;> cases b32
          all_goals try (exact absurd hb3 (by decide))
          all_goals
            clear hb3
            go_wp2_with fail
            go_roundw
            case rel => exact ⟨k + 1, acc, by omega, by rw [hkw]; rfl, HT2, HO, HB⟩
            case measure =>
              rw [hkw]
              simp only [intOf]
              omega
        | false =>
          have hb3 := HBL.out
          rw [hbl] at hb3
          have HBF := Lib.hid hbl
          clear hbl
          have e9 : ((c.toNat : Int) == 9) = false := by revert hb3; cases ((c.toNat : Int) == 9) <;> simp
          have e13 : ((c.toNat : Int) == 13) = false := by revert hb3; cases ((c.toNat : Int) == 13) <;> simp
          have e32 : ((c.toNat : Int) == 32) = false := by revert hb3; cases ((c.toNat : Int) == 32) <;> simp
          clear hb3
          cases hw : wordC c with
          | true =>
            have HW1 := HW.out
            rw [hw] at HW1
            have HWC := Lib.hid hw
            clear hw
            go_wp2_with fail
            refine (HW1 _).mono ?_; rintro e w1 ⟨rfl, rfl⟩
            clear HW1 e9 e13 e32 q35 hg hd hd2
            go_wp2_with fail
            go_loopw [7] (fun ev ws => ∃ m : Nat, k < m ∧ m ≤ s.length ∧ ev = .int .i64 m ∧ Hid (((s.drop k).take (m - k)).all wordC = true) ∧ ws = wr) (fun ev _ => s.length - (intOf ev).toNat)
            case atStart => exact ⟨k + 1, by omega, by omega, by go_num, Lib.hid (word_step (Nat.le_refl k) (by simp) HC.out HWC.out), rfl⟩
            case round =>
              obtain ⟨m, hkm, hm, rfl, HA, rfl⟩ := hrel
              by_cases hlm : m < s.length
              · have hdm : decide ((m : Int) < s.length) = true := by simp; omega
                have hdm2 : decide (m < s.length) = true := by simpa using hlm
                obtain ⟨c2, hc2⟩ : ∃ c2, s[m]? = some c2 := ⟨s[m], by simp [hlm]⟩
                have hg2 := at_get hc2
                have m0 : 0 ≤ (m : Int) := by omega
                have m1 : (m : Int) < (s.length : Int) := by omega
                have HC2 := Lib.hid hc2
                have HW2 := wordyP c2
                have hmw : wrap64 ((m : Int) + 1) = (m : Int) + 1 := IntWalk.wrap64_in _ ⟨by omega, by have := HS.out; omega⟩
                clear hc2
                cases hx : wordC c2 with
                | true =>
                  rw [hx] at HW2
                  have HA2 := Lib.hid (word_step (Nat.le_of_lt hkm) HA.out HC2.out hx)
                  clear hx
                  go_wp2_with fail
                  refine (HW2 _).mono ?_; rintro e w1 ⟨rfl, rfl⟩
                  go_wp2_with fail
                  go_roundw
                  case rel => exact ⟨m + 1, by omega, by omega, by rw [hmw]; rfl, HA2, by trivial⟩
                  case measure =>
                    rw [hmw]
                    simp only [intOf]
                    omega
                | false =>
                  rw [hx] at HW2
                  have HTI := Lib.hid ((HT.out).word hkm hm HA.out (fun c hc => by rw [HC2.out] at hc; cases hc; exact hx))
                  clear hx
                  go_wp2_with fail
                  refine (HW2 _).mono ?_; rintro e w1 ⟨rfl, rfl⟩
                  have SL := fun W => str_part (n := k) (m := m) (l := s) (by omega) hm W
                  generalize (s.drop k).take (m - k) = u at SL HTI HA
                  have HLA := Lib.hid (show acc.length ≤ 1000000000 by have := (HT.out).2; have := HS.out; omega)
                  have HL1 := Lib.hid (lit_one wr u)
                  have HO1 := Lib.hid ((HO.out).past (alloc_below wr (.cells #[str u] 9)))
                  have HB1 := Lib.hid ((HB.out).trans ((alloc_below wr (.cells #[str u] 9)).mono (HB.out).size))
                  go_wp2_with (at_builtin; refine wpList_append_str _ rfl _ _ rfl w.heap.size _ acc rfl HO1.out wr.heap.size u rfl HL1.out HLA.out (HB1.out).size ?_)
                  intro v' w' ho' hg'
                  have HB2 := Lib.hid (own_row_below HB1.out HO1.out hg')
                  have HO2 := Lib.hid ho'
                  obtain ⟨ao', cap', hv'⟩ := ho'.ss.shape
                  subst hv'
                  clear ho' hg'
                  go_wp2_with fail
                  go_roundw
                  case rel => exact ⟨m, _, by omega, rfl, HTI, HO2, HB2⟩
                  case measure =>
                    simp only [intOf]
                    omega
              · have hdm : decide ((m : Int) < s.length) = false := by simp; omega
                have hdm2 : decide (m < s.length) = false := by simpa using hlm
                have HTI := Lib.hid ((HT.out).word hkm hm HA.out (fun c hc => by rw [List.getElem?_eq_none (by omega)] at hc; cases hc))
                have SL := fun W => str_part (n := k) (m := m) (l := s) (by omega) hm W
                generalize (s.drop k).take (m - k) = u at SL HTI HA
                have HLA := Lib.hid (show acc.length ≤ 1000000000 by have := (HT.out).2; have := HS.out; omega)
                have HL1 := Lib.hid (lit_one wr u)
                have HO1 := Lib.hid ((HO.out).past (alloc_below wr (.cells #[str u] 9)))
                have HB1 := Lib.hid ((HB.out).trans ((alloc_below wr (.cells #[str u] 9)).mono (HB.out).size))
                go_wp2_with (at_builtin; refine wpList_append_str _ rfl _ _ rfl w.heap.size _ acc rfl HO1.out wr.heap.size u rfl HL1.out HLA.out (HB1.out).size ?_)
                intro v' w' ho' hg'
                have HB2 := Lib.hid (own_row_below HB1.out HO1.out hg')
                have HO2 := Lib.hid ho'
                obtain ⟨ao', cap', hv'⟩ := ho'.ss.shape
                subst hv'
                clear ho' hg'
                go_wp2_with fail
                go_roundw
                case rel => exact ⟨m, _, by omega, rfl, HTI, HO2, HB2⟩
                case measure =>
                  simp only [intOf]
                  omega
          | false =>
            have HW1 := HW.out
            rw [hw] at HW1
            have HWC := Lib.hid hw
            clear hw
            cases hs : signC c with
            | false =>
              have HS1 := HSG.out
              rw [hs] at HS1
              have HE := Lib.hid ((HT.out).none HC.out W35.out HWC.out HBF.out hs)
              clear hs
              go_wp2_with fail
              refine (HW1 _).mono ?_; rintro e w1 ⟨rfl, rfl⟩
              go_wp2_with fail
              refine (HS1 _).mono ?_; rintro e w1 ⟨rfl, rfl⟩
              go_wp2_with fail
              go_ret2
              exact tokens_none HE.out rfl HB.out
            | true =>
              have HS1 := HSG.out
              rw [hs] at HS1
              have HE := Lib.hid ((HT.out).sign HC.out W35.out hs)
              clear hs
              go_wp2_with fail
              refine (HW1 _).mono ?_; rintro e w1 ⟨rfl, rfl⟩
              go_wp2_with fail
              refine (HS1 _).mono ?_; rintro e w1 ⟨rfl, rfl⟩
              have SL := fun W => str_part (n := k) (m := k + 1) (l := s) (by omega) (by omega) W
              have eu : (s.drop k).take (k + 1 - k) = [c] := by rw [drop_cons HC.out, show k + 1 - k = 1 by omega]; rfl
              rw [eu, show ((k + 1 : Nat) : Int) = (k : Int) + 1 from by omega] at SL
              clear eu
              have HLA := Lib.hid (show acc.length ≤ 1000000000 by have := (HT.out).2; have := HS.out; omega)
              have HL1 := Lib.hid (lit_one wr [c])
              have HO1 := Lib.hid ((HO.out).past (alloc_below wr (.cells #[str [c]] 9)))
              have HB1 := Lib.hid ((HB.out).trans ((alloc_below wr (.cells #[str [c]] 9)).mono (HB.out).size))
              go_wp2_with (at_builtin; refine wpList_append_str _ rfl _ _ rfl w.heap.size _ acc rfl HO1.out wr.heap.size [c] rfl HL1.out HLA.out (HB1.out).size ?_)
              intro v' w' ho' hg'
              have HB2 := Lib.hid (own_row_below HB1.out HO1.out hg')
              have HO2 := Lib.hid ho'
              obtain ⟨ao', cap', hv'⟩ := ho'.ss.shape
              subst hv'
              clear ho' hg'
              go_wp2_with fail
              go_roundw
              case rel => exact ⟨k + 1, _, by omega, by go_num, HE, HO2, HB2⟩
              case measure =>
                simp only [intOf]
                omega
    · have hd : decide ((k : Int) < s.length) = false := by simp; omega
      have hd2 : decide (k < s.length) = false := by simpa using hlt
      have HE := Lib.hid ((HT.out).done (.inl (by omega)))
      have HL := Lib.hid (show acc.length ≤ 1000000000 by have := (HT.out).2; have := HS.out; omega)
      go_wp2_with fail
      go_ret2
      exact tokens_some HE.out rfl (HO.out).ss HL.out HB.out
/-- What is told of the lines so far: the line that is under way begins at f. -/
def LI (s : Str) (f k : Nat) (acc : List Str) : Prop := lines s = acc ++ lines (s.drop f) ∧ f ≤ k ∧ (10 : UInt8) ∉ (s.drop f).take (k - f) ∧ acc.length ≤ k
theorem LI.start (s : Str) : LI s 0 0 [] := ⟨by simp, Nat.le_refl _, by simp, Nat.le_refl _⟩
theorem lines_parts : ∀ (s r : Str), (10 : UInt8) ∉ s → lines (s ++ 10 :: r) = s :: lines r
  | [], r, _ => by simp [lines]
  | c :: s, r, h => by
    simp only [List.mem_cons, not_or] at h
    have hc : ¬ c = 10 := fun e => h.1 e.symm
    rw [List.cons_append, lines, if_neg hc, lines_parts s r h.2]
    rfl
theorem lines_one : ∀ {s : Str}, (10 : UInt8) ∉ s → lines s = [s]
  | [], _ => rfl
  | c :: s, h => by
    simp only [List.mem_cons, not_or] at h
    have hc : ¬ c = 10 := fun e => h.1 e.symm
    rw [lines, if_neg hc, lines_one h.2]
    rfl
theorem LI.ten {s : Str} {f k : Nat} {acc : List Str} (h : LI s f k acc) (hc : s[k]? = some 10) : LI s (k + 1) (k + 1) (acc ++ [(s.drop f).take (k - f)]) := by
  obtain ⟨h1, h2, h3, h4⟩ := h
  refine ⟨?_, Nat.le_refl _, by simp, by simp; omega⟩
  have e : s.drop f = (s.drop f).take (k - f) ++ 10 :: s.drop (k + 1) := by
    have := List.take_append_drop (k - f) (s.drop f)
    rw [List.drop_drop, show f + (k - f) = k from by omega, drop_cons hc] at this
    exact this.symm
  rw [h1, e, lines_parts _ _ h3, ← e]
  simp
theorem LI.on {s : Str} {f k : Nat} {acc : List Str} {c : UInt8} (h : LI s f k acc) (hc : s[k]? = some c) (h10 : c ≠ 10) : LI s f (k + 1) acc := by
  obtain ⟨h1, h2, h3, h4⟩ := h
  refine ⟨h1, by omega, ?_, by omega⟩
  rw [show k + 1 - f = (k - f) + 1 by omega, List.take_add_one, List.getElem?_drop, show f + (k - f) = k from by omega, hc]
  simp only [Option.toList_some, List.mem_append, List.mem_singleton, not_or]
  exact ⟨h3, fun e => h10 e.symm⟩
theorem LI.done {s : Str} {f : Nat} {acc : List Str} (h : LI s f s.length acc) : lines s = acc ++ [s.drop f] := by
  obtain ⟨h1, h2, h3, h4⟩ := h
  rw [List.take_of_length_le (by simp)] at h3
  rw [h1, lines_one h3]
theorem refLines (s : Str) (hs : s.length ≤ 1000000000) (w : World) : Calls Tryz.prog 68 #[str s] w fun e w' => ∃ v, e = .returned v ∧ Ss w' v (lines s) ∧ Below w.heap.size w w' := by
  have hc0 : (⟨s.toArray⟩ : ByteArray).size = s.length := by simp [ByteArray.size]
  have HS := Lib.hid hs
  obtain ⟨R, hR⟩ : ∃ R, R = lines s := ⟨_, rfl⟩
  rw [← hR]
  have HR := Lib.hid hR
  clear hs hR
  go_enter Tryz.func68, Tryz.ntmps68
  go_wp2_with fail
  go_loopw [3, 4, 5] (fun v ff i wr => ∃ (k f : Nat) (acc : List Str), k ≤ s.length ∧ ff = .int .i64 f ∧ i = .int .i64 k ∧ Hid (LI s f k acc) ∧ Hid (OwnS wr w.heap.size v acc) ∧ Hid (Below w.heap.size w wr)) (fun _ _ i _ => s.length - (intOf i).toNat)
  case atStart => exact ⟨0, 0, [], Nat.zero_le _, rfl, rfl, Lib.hid (LI.start s), Lib.hid (OwnS.nil _ _), Lib.hid (Below.refl _ _)⟩
  case round =>
    obtain ⟨k, f, acc, hk, rfl, rfl, HT, HO, HB⟩ := hrel
    obtain ⟨ao, cap, hv⟩ := (HO.out).ss.shape
    subst hv
    have hfk := (HT.out).2.1
    have HLA := Lib.hid (show acc.length ≤ 1000000000 by have := (HT.out).2.2.2; have := HS.out; omega)
    by_cases hlt : k < s.length
    · have hd : decide ((k : Int) < s.length) = true := by simp; omega
      have hd2 : decide (k < s.length) = true := by simpa using hlt
      obtain ⟨c, hc⟩ : ∃ c, s[k]? = some c := ⟨s[k], by simp [hlt]⟩
      have hg := at_get hc
      have k0 : 0 ≤ (k : Int) := by omega
      have k1 : (k : Int) < (s.length : Int) := by omega
      have hkw : wrap64 ((k : Int) + 1) = (k : Int) + 1 := IntWalk.wrap64_in _ ⟨by omega, by have := HS.out; omega⟩
      have HC := Lib.hid hc
      clear hc
      by_cases h10 : (c.toNat : Int) = 10
      · have e10 : c = 10 := by apply UInt8.toNat_inj.1; show c.toNat = 10; omega
        have q10 : ((c.toNat : Int) == 10) = true := by simp [h10]
        have HT2 := Lib.hid ((HT.out).ten (by rw [HC.out, e10]))
        have SL := fun W => str_part (n := f) (m := k) (l := s) hfk hk W
        clear h10 e10 hd hd2
        generalize (s.drop f).take (k - f) = u at SL HT2
        have HL1 := Lib.hid (lit_one wr u)
        have HO1 := Lib.hid ((HO.out).past (alloc_below wr (.cells #[str u] 9)))
        have HB1 := Lib.hid ((HB.out).trans ((alloc_below wr (.cells #[str u] 9)).mono (HB.out).size))
        go_wp2_with (at_builtin; refine wpList_append_str _ rfl _ _ rfl w.heap.size _ acc rfl HO1.out wr.heap.size u rfl HL1.out HLA.out (HB1.out).size ?_)
        intro v' w' ho' hg'
        have HB2 := Lib.hid (own_row_below HB1.out HO1.out hg')
        have HO2 := Lib.hid ho'
        obtain ⟨ao', cap', hv'⟩ := ho'.ss.shape
        subst hv'
        clear ho' hg'
        go_wp2_with fail
        go_roundw
        case rel => exact ⟨k + 1, k + 1, _, by omega, by rw [hkw]; rfl, by rw [hkw]; rfl, HT2, HO2, HB2⟩
        case measure =>
          rw [hkw]
          simp only [intOf]
          omega
      · have n10 : c ≠ 10 := by rintro rfl; exact h10 rfl
        have q10 : ((c.toNat : Int) == 10) = false := by simpa using h10
        have HT2 := Lib.hid ((HT.out).on HC.out n10)
        clear h10 n10 hd hd2
        go_wp2_with fail
        go_roundw
        case rel => exact ⟨k + 1, f, _, by omega, rfl, by rw [hkw]; rfl, HT2, HO, HB⟩
        case measure =>
          rw [hkw]
          simp only [intOf]
          omega
    · have hd : decide ((k : Int) < s.length) = false := by simp; omega
      have hd2 : decide (k < s.length) = false := by simpa using hlt
      have hkn : k = s.length := by omega
      have hT := HT.out
      rw [hkn] at hT
      have HE := Lib.hid (show R = acc ++ [s.drop f] by rw [HR.out]; exact hT.done)
      have SL := fun W => str_from (n := f) (l := s) (by omega) W
      clear hT hkn
      generalize s.drop f = u at SL HE
      have HL1 := Lib.hid (lit_one wr u)
      have HO1 := Lib.hid ((HO.out).past (alloc_below wr (.cells #[str u] 9)))
      have HB1 := Lib.hid ((HB.out).trans ((alloc_below wr (.cells #[str u] 9)).mono (HB.out).size))
      go_wp2_with (at_builtin; refine wpList_append_str _ rfl _ _ rfl w.heap.size _ acc rfl HO1.out wr.heap.size u rfl HL1.out HLA.out (HB1.out).size ?_)
      intro v' w' ho' hg'
      have HB2 := Lib.hid (own_row_below HB1.out HO1.out hg')
      have HO2 := Lib.hid ho'
      clear ho' hg'
      go_wp2_with fail
      go_ret
      exact ⟨_, rfl, by rw [HE.out]; exact (HO2.out).ss, HB2.out⟩
end Go.Proofs.YthfkmackodbmkaaGreatDoor
/- The document's own reader of a line's tokens. -/
namespace Go.Proofs.YthfkmackodbmkaaGreatDoor
open Go.RowKit
set_option linter.unusedVariables false
set_option linter.unusedSimpArgs false
set_option maxRecDepth 100000
set_option maxHeartbeats 2000000

/-- X is the document's line. -/
def LnB (w : World) (X : Nat) (v : Value) (at' : Nat) (bad : Bool) : Prop := w.heap[X]? = some (.cells #[v, .int .i64 at', .bool bad] 140 (0, 0))
/-- What stands there behind z, the world in which all began. -/
structure LnS (z w : World) (X : Nat) (ts : List Str) (at' : Nat) (bad : Bool) : Prop where
  block : ∃ v, LnB w X v at' bad ∧ Ss w v ts
  few : ts.length ≤ 1000000000
  short : ∀ t ∈ ts, t.length ≤ 1000000000
  below : Below z.heap.size z w
  lay : Lay z
  far : z.heap.size ≤ X
theorem LnB.lt {w : World} {X : Nat} {v : Value} {at' : Nat} {bad : Bool} (h : LnB w X v at' bad) : X < w.heap.size := (Array.getElem?_eq_some_iff.1 h).1
theorem LnB.cells {w : World} {X : Nat} {v : Value} {at' : Nat} {bad : Bool} (h : LnB w X v at' bad) : w.cell? ⟨X, 0, none⟩ = some v ∧ w.cell? ⟨X, 1, none⟩ = some (.int .i64 at') ∧ w.cell? ⟨X, 2, none⟩ = some (.bool bad) ∧ w.frozen? ⟨X, 1, none⟩ = false ∧ w.frozen? ⟨X, 2, none⟩ = false := by
  unfold LnB at h
  simp [World.cell?, World.frozen?, h]
theorem LnB.noStrs {w : World} {X : Nat} {v : Value} {at' : Nat} {bad : Bool} (h : LnB w X v at' bad) : NoStrs w X := by
  intro cur fr hb
  rw [show w.heap[X]? = _ from h] at hb
  simp at hb
theorem LnS.lt {z w : World} {X : Nat} {ts : List Str} {at' : Nat} {bad : Bool} (h : LnS z w X ts at' bad) : X < w.heap.size := by obtain ⟨v, h1, _⟩ := h.block; exact h1.lt
theorem LnS.past {z w w' : World} {X : Nat} {ts : List Str} {at' : Nat} {bad : Bool} (h : LnS z w X ts at' bad) (hb : Below w.heap.size w w') : LnS z w' X ts at' bad := by
  obtain ⟨v, h1, h2⟩ := h.block
  exact ⟨⟨v, (hb.block X h1.lt).trans h1, h2.past hb⟩, h.few, h.short, h.below.trans (hb.mono h.below.size), h.lay, h.far⟩
theorem LnS.layW {z w : World} {X : Nat} {ts : List Str} {at' : Nat} {bad : Bool} (h : LnS z w X ts at' bad) : Lay w := h.lay.past h.below
theorem LnS.shape {z w : World} {X : Nat} {ts : List Str} {at' : Nat} {bad : Bool} (h : LnS z w X ts at' bad) : ∃ ao cap, LnB w X (.slice ao ts.length cap) at' bad ∧ Ss w (.slice ao ts.length cap) ts := by
  obtain ⟨v, h1, h2⟩ := h.block
  obtain ⟨ao, cap, rfl⟩ := h2.shape
  exact ⟨ao, cap, h1, h2⟩
theorem turn_set (w : World) (X k : Nat) (u : Value) : Turn (· = X) w (w.setCell ⟨X, k, none⟩ u) := Turn.of_grown (setCell_grown w X k u) (fun j e => by cases e; rfl)
theorem LnS.turn {z w w' : World} {X : Nat} {ts : List Str} {at' at2 : Nat} {bad bad2 : Bool} {P : Nat → Prop} (h : LnS z w X ts at' bad) (hb : ∀ v, LnB w X v at' bad → Ss w v ts → LnB w' X v at2 bad2 ∧ Ss w' v ts) (ht : Turn P w w') (hP : ∀ k, P k → z.heap.size ≤ k) : LnS z w' X ts at2 bad2 := by
  obtain ⟨v, h1, h2⟩ := h.block
  exact ⟨⟨v, hb v h1 h2⟩, h.few, h.short, h.below.trans (ht.below h.below.size (fun k hk hp => by have := hP k hp; omega)), h.lay, h.far⟩
theorem LnS.bump {z w : World} {X : Nat} {ts : List Str} {at' : Nat} {bad : Bool} (h : LnS z w X ts at' bad) : LnS z (w.setCell ⟨X, 1, none⟩ (.int .i64 ((at' + 1 : Nat) : Int))) X ts (at' + 1) bad :=
  h.turn (fun v h1 h2 => ⟨by have := heap_set h1 1 (.int .i64 ((at' + 1 : Nat) : Int)); simpa [LnB] using this, h2.grown (setCell_grown w X 1 _) (fun k e => by cases e; exact h1.noStrs)⟩) (turn_set w X 1 _) (fun k e => by subst e; exact h.far)
theorem LnS.mark {z w : World} {X : Nat} {ts : List Str} {at' : Nat} {bad : Bool} (h : LnS z w X ts at' bad) (b : Bool) : LnS z (w.setCell ⟨X, 2, none⟩ (.bool b)) X ts at' b :=
  h.turn (fun v h1 h2 => ⟨by have := heap_set h1 2 (.bool b); simpa [LnB] using this, h2.grown (setCell_grown w X 2 _) (fun k e => by cases e; exact h1.noStrs)⟩) (turn_set w X 2 _) (fun k e => by subst e; exact h.far)
theorem nx_short {ts : List Str} (h : ∀ t ∈ ts, t.length ≤ 1000000000) (k : Nat) : (nx ts k).length ≤ 1000000000 := by
  by_cases hk : k < ts.length
  · rw [nx, List.getD_eq_getElem?_getD, List.getElem?_eq_getElem hk]
    exact h _ (List.getElem_mem hk)
  · rw [nx_end (by omega)]; simp
theorem turn_draws (w : World) (n : Nat) (P : Nat → Prop) : Turn P w (w.drewN n) := Turn.of_below (below_drewN (Below.refl _ _) n)

theorem lnNext {z w : World} {X : Nat} {ts : List Str} {at' : Nat} {bad : Bool} (h : LnS z w X ts at' bad) :
    Calls Tryz.prog 192 #[.pointer (some ⟨X, 0, none⟩)] w fun e w' => e = .returned (str (nx ts at')) ∧ Below w.heap.size w w' := by
  obtain ⟨ao, cap, h1, h2⟩ := h.shape
  obtain ⟨c0, c1, c2, -, -⟩ := h1.cells
  have hfew := h.few
  by_cases hlt : at' < ts.length
  · have hd : decide ((ts.length : Int) ≤ at') = false := by simp; omega
    have hd2 : decide (ts.length ≤ at') = false := by simpa using hlt
    obtain ⟨g, o, rfl, _, z1, z2, z3, z4⟩ := h2.at (by omega)
    have d0 := z4 at' hlt
    have k0 : 0 ≤ (at' : Int) := by omega
    have k1 : (at' : Int) < (ts.length : Int) := by omega
    have hE := Lib.hid (show ts.getD at' [] = nx ts at' from rfl)
    generalize nx ts at' = t at hE ⊢
    rw [hE.out] at d0
    clear h h1 h2 z4 hE hlt
    go_enter Tryz.func192, Tryz.ntmps192
    go_wp2_with fail
    go_quiet (fail)
    go_wp2_with fail
    go_quiet (fail)
    go_wp2_with fail
    go_ret
    exact ⟨rfl, by first | exact below_drewN (below_drewN (Below.refl _ _) _) _ | exact below_drewN (Below.refl _ _) _⟩
  · have hd : decide ((ts.length : Int) ≤ at') = true := by simp; omega
    have hd2 : decide (ts.length ≤ at') = true := by simpa using hlt
    have hE : nx ts at' = [] := nx_end (by omega)
    rw [hE]
    clear h h1 h2 hE hlt
    go_enter Tryz.func192, Tryz.ntmps192
    go_wp2_with fail
    go_quiet (fail)
    go_wp2_with fail
    go_ret
    exact ⟨rfl, below_drewN (Below.refl _ _) _⟩
/-- What a method leaves: the line goes on; nothing else is turned. -/
def LGo (z w : World) (X : Nat) (ts : List Str) (at2 : Nat) (bad2 : Bool) (w' : World) : Prop := LnS z w' X ts at2 bad2 ∧ Turn (· = X) w w'
theorem lnTake {z w : World} {X : Nat} {ts : List Str} {at' : Nat} {bad : Bool} (h : LnS z w X ts at' bad) (hf : at' ≤ 1000000) :
    Calls Tryz.prog 137 #[.pointer (some ⟨X, 0, none⟩)] w fun e w' => e = .returned (str (nx ts at')) ∧ LGo z w X ts (at' + 1) bad w' := by
  have N := lnNext h
  have HH := Lib.hid h
  clear h
  go_enter Tryz.func137, Tryz.ntmps137
  go_wp2_with fail
  refine N.mono ?_; rintro e w1 ⟨rfl, b1⟩
  have H1 := (HH.out).past b1
  have T1 := Lib.hid (Turn.of_below (P := (· = X)) b1)
  obtain ⟨ao, cap, h1, h2⟩ := H1.shape
  obtain ⟨c0, c1, c2, f1, f2⟩ := h1.cells
  have HB := Lib.hid H1.bump
  clear H1 h1 h2 b1 N
  go_wp2_with fail
  go_ret
  exact ⟨rfl, HB.out, (T1.out).trans (turn_set _ _ _ _)⟩
theorem lnMust {z w : World} {X : Nat} {ts : List Str} {at' : Nat} {bad : Bool} (h : LnS z w X ts at' bad) (hf : at' ≤ 1000000) (c : Str) :
    Calls Tryz.prog 140 #[.pointer (some ⟨X, 0, none⟩), str c] w fun e w' => e = .returned (.tuple #[]) ∧ LGo z w X ts (at' + 1) (bad || decide (nx ts at' ≠ c)) w' := by
  have N := lnTake h hf
  clear h
  generalize nx ts at' = t at N ⊢
  obtain ⟨B, hB⟩ : ∃ B, B = (bad || decide (t ≠ c)) := ⟨_, rfl⟩
  rw [← hB]
  go_enter Tryz.func140, Tryz.ntmps140
  go_wp2_with fail
  refine N.mono ?_; rintro e w1 ⟨rfl, H1, T1⟩
  have HH := Lib.hid H1
  have HT := Lib.hid T1
  obtain ⟨ao, cap, h1, h2⟩ := H1.shape
  obtain ⟨c0, c1, c2, f1, f2⟩ := h1.cells
  clear H1 T1 h1 h2 N
  by_cases e : t = c
  · have q : (t == c) = true := by simpa using e
    have q2 : (t != c) = false := by simpa using e
    have hb : B = bad := by rw [hB]; simp [e]
    clear e hB
    go_wp2_with fail
    go_end0
    exact ⟨rfl, by rw [hb]; exact HH.out, HT.out⟩
  · have q : (t == c) = false := by simpa using e
    have q2 : (t != c) = true := by simpa using e
    have hb : B = true := by rw [hB]; simp [e]
    have HM := Lib.hid ((HH.out).mark true)
    clear e hB
    go_wp2_with fail
    go_end0
    exact ⟨rfl, by rw [hb]; exact HM.out, (HT.out).trans (turn_set _ _ _ _)⟩
theorem lnReg {z w : World} {X : Nat} {ts : List Str} {at' : Nat} {bad : Bool} (h : LnS z w X ts at' bad) (hf : at' ≤ 1000000) :
    Calls Tryz.prog 139 #[.pointer (some ⟨X, 0, none⟩)] w fun e w' => e = .returned (.int .i64 (regR (nx ts at')).1) ∧ LGo z w X ts (at' + 1) (bad || !(regR (nx ts at')).2) w' := by
  have N := lnTake h hf
  clear h
  generalize nx ts at' = t at N ⊢
  have RR := fun w1 (L : Lay w1) => refReg t w1 L
  generalize regR t = r at RR ⊢
  obtain ⟨n, ok⟩ := r
  obtain ⟨B, hB⟩ : ∃ B, B = (bad || !ok) := ⟨_, rfl⟩
  simp only at RR ⊢
  rw [← hB]
  go_enter Tryz.func139, Tryz.ntmps139
  go_wp2_with fail
  refine N.mono ?_; rintro e w1 ⟨rfl, H1, T1⟩
  have R := RR w1 H1.layW
  have HH := Lib.hid H1
  have HT := Lib.hid T1
  clear H1 T1 N RR
  go_wp2_with fail
  refine R.mono ?_; rintro e w2 ⟨rfl, b2⟩
  have H2 := (HH.out).past b2
  have T2 := Lib.hid ((HT.out).trans (Turn.of_below b2))
  obtain ⟨ao, cap, h1, h2⟩ := H2.shape
  obtain ⟨c0, c1, c2, f1, f2⟩ := h1.cells
  have HM := Lib.hid H2.mark
  clear H2 h1 h2 b2 R
  have HBB := Lib.hid hB
  clear hB
  cases bad <;> cases ok
  all_goals
    go_wp2_with fail
    go_ret
    exact ⟨rfl, by rw [HBB.out]; exact HM.out _, (T2.out).trans (turn_set _ _ _ _)⟩
/-- A number's reading: what it told, if it is one. -/
def NumOf (below : Bool) (t : Str) (n : Int) : Prop := (∀ m, numOf t = some m → n = if below then -m else m) ∧ -9223372036854775808 ≤ n ∧ n ≤ 9223372036854775807
theorem numOf_small {t : Str} {m : Int} (h : numOf t = some m) : 0 ≤ m ∧ m < 10000000000 := by
  unfold numOf at h
  split at h
  · rename_i hc
    cases hd : Lib.decNat t with
    | none => rw [hd] at h; cases h
    | some u =>
      rw [hd, Option.map_some, Option.some.injEq] at h
      subst h
      have hd' : Lib.decFrom 0 t = some u := by
        unfold Lib.decNat at hd
        split at hd
        · cases hd
        · exact hd
      have := Lib.decFrom_lt t 0 u hd'
      have hp : 10 ^ t.length ≤ 10 ^ 10 := Nat.pow_le_pow_right (by omega) hc.1
      have h10 : (10 : Nat) ^ 10 = 10000000000 := by decide
      omega
  · cases h
theorem lnNumber {z w : World} {X : Nat} {ts : List Str} {at' : Nat} {bad : Bool} (h : LnS z w X ts at' bad) (hf : at' ≤ 1000000) (below : Bool) :
    Calls Tryz.prog 194 #[.pointer (some ⟨X, 0, none⟩), .bool below] w fun e w' => ∃ n, e = .returned (.int .i64 n) ∧ NumOf below (nx ts at') n ∧ LGo z w X ts (at' + 1) (bad || !(numOf (nx ts at')).isSome) w' := by
  have N := lnTake h hf
  have hs := nx_short h.short at'
  clear h
  generalize nx ts at' = t at N hs ⊢
  obtain ⟨B, hB⟩ : ∃ B, B = (bad || !(numOf t).isSome) := ⟨_, rfl⟩
  rw [← hB]
  have HBB := Lib.hid hB
  clear hB
  go_enter Tryz.func194, Tryz.ntmps194
  go_wp2_with fail
  refine N.mono ?_; rintro e w1 ⟨rfl, H1, T1⟩
  have R := refNumber t hs w1
  have HH := Lib.hid H1
  have HT := Lib.hid T1
  clear H1 T1 N hs
  unfold NumR at R
  go_wp2_with fail
  refine R.mono ?_; rintro e w2 ⟨n, rfl, hn, n0, n1, b2⟩
  have H2 := (HH.out).past b2
  have T2 := Lib.hid ((HT.out).trans (Turn.of_below b2))
  obtain ⟨ao, cap, h1, h2⟩ := H2.shape
  obtain ⟨c0, c1, c2, f1, f2⟩ := h1.cells
  have HM := Lib.hid H2.mark
  have HN := Lib.hid (show NumOf false t n from ⟨by simpa using hn, n0, n1⟩)
  have HNB := Lib.hid (show NumOf true t (wrap64 (-n)) from ⟨fun m hm => by
    have := numOf_small hm
    have e := hn m hm
    subst e
    rw [IntWalk.wrap64_in _ ⟨by omega, by omega⟩]; rfl, by unfold wrap64; omega, by unfold wrap64; omega⟩)
  clear H2 h1 h2 b2 R hn
  generalize (numOf t).isSome = ok at *
  cases below <;> cases bad <;> cases ok
  all_goals
    go_wp2_with fail
    go_ret
    first
    | exact ⟨n, rfl, HN.out, by rw [HBB.out]; exact HM.out _, (T2.out).trans (turn_set _ _ _ _)⟩
    | exact ⟨_, rfl, HNB.out, by rw [HBB.out]; exact HM.out _, (T2.out).trans (turn_set _ _ _ _)⟩
theorem lnSigned {z w : World} {X : Nat} {ts : List Str} {at' : Nat} {bad : Bool} (h : LnS z w X ts at' bad) (hf : at' ≤ 1000) :
    Calls Tryz.prog 195 #[.pointer (some ⟨X, 0, none⟩)] w fun e w' => ∃ n bad2, e = .returned (.int .i64 n) ∧ Good (rdSigned (ts.drop at')) ts bad n (at' + 2) bad2 ∧ -9223372036854775808 ≤ n ∧ n ≤ 9223372036854775807 ∧ LGo z w X ts (at' + 2) bad2 w' := by
  have N := lnTake h (by omega)
  have HG := Lib.hid (fun n at2 bad2 => @good_signed ts at' bad bad2 n at2)
  have HN := Lib.hid (fun b n hn => good_num b ts (at' + 1) (bad || noSign (nx ts at')) n hn)
  have HNU := Lib.hid (fun W b (H : LnS z W X ts (at' + 1) (bad || noSign (nx ts at'))) => lnNumber H (by omega) b)
  clear h
  generalize nx ts at' = t at N HG HN HNU
  obtain ⟨B, hB⟩ : ∃ B, B = (bad || noSign t) := ⟨_, rfl⟩
  rw [← hB] at HG HN HNU
  have HB := Lib.hid hB
  clear hB
  go_enter Tryz.func195, Tryz.ntmps195
  go_wp2_with fail
  refine N.mono ?_; rintro e w1 ⟨rfl, H1, T1⟩
  have HT := Lib.hid T1
  obtain ⟨ao, cap, h1, h2⟩ := H1.shape
  obtain ⟨c0, c1, c2, f1, f2⟩ := h1.cells
  have HM := Lib.hid H1.mark
  have HD := Lib.hid (show decide (t = [45]) = (t == [45]) by rw [Bool.eq_iff_iff]; simp)
  have hns : noSign t = (!(t == [43]) && !(t == [45])) := by
    unfold noSign
    by_cases e1 : t = [43] <;> by_cases e2 : t = [45] <;> simp [e1, e2]
  clear H1 T1 h1 h2 N
  cases a43 : (t == [43]) <;> cases a45 : (t == [45]) <;> cases bad
  all_goals try (exfalso; have e1 := eq_of_beq a43; have e2 := eq_of_beq a45; rw [e1] at e2; exact absurd e2 (by decide))
  all_goals
    rw [a43, a45] at hns
    have hB2 := HB.out
    rw [hns] at hB2
    have HB2 := Lib.hid hB2
    have HA := Lib.hid a45
    clear hns hB2
    go_wp2_with fail
    refine (HNU.out _ _ (by rw [HB2.out]; exact HM.out _)).mono ?_; rintro e w2 ⟨n, rfl, hn, H2, T2⟩
    have HE := Lib.hid (HG.out n (at' + 1 + 1) _ (by rw [HD.out, HA.out]; exact HN.out _ n hn.1))
    have HF := Lib.hid (And.intro hn.2 (And.intro H2 T2))
    clear hn H2 T2
    go_wp2_with fail
    go_ret
    exact ⟨n, _, rfl, HE.out, (HF.out).1.1, (HF.out).1.2, (HF.out).2.1, ((HT.out).trans (turn_set _ _ _ _)).trans (HF.out).2.2⟩
/-- Two blocks may be turned. -/
def Two (X I : Nat) (k : Nat) : Prop := k = X ∨ k = I
theorem turn_one {X I : Nat} {w w' : World} (h : Turn (· = X) w w') : Turn (Two X I) w w' := h.mono (fun k e => .inl e)
theorem turn_ins (w : World) (X I k : Nat) (u : Value) : Turn (Two X I) w (w.setCell ⟨I, k, none⟩ u) := Turn.of_grown (setCell_grown w I k u) (fun j e => by cases e; exact .inr rfl)
theorem OcI.turn {w w' : World} {X I : Nat} {i : Ins} (h : OcI w I i) (ht : Turn (· = X) w w') (hne : I ≠ X) : OcI w' I i := (ht.block I (Oc.lt h) hne).trans h
theorem OcI.past {w w' : World} {I : Nat} {i : Ins} (h : OcI w I i) (hb : Below w.heap.size w w') : OcI w' I i := Oc.past h hb
theorem LnS.other {z w : World} {X I k : Nat} {i : Ins} {ts : List Str} {at' : Nat} {bad : Bool} {u : Value} (h : LnS z w X ts at' bad) (hI : OcI w I i) (hne : I ≠ X) (hf : z.heap.size ≤ I) : LnS z (w.setCell ⟨I, k, none⟩ u) X ts at' bad :=
  h.turn (P := (· = I)) (fun v h1 h2 => ⟨((setCell_grown w I k u).block X h1.lt (fun e => hne (Option.some.inj e).symm)).trans h1, h2.grown (setCell_grown w I k u) (fun j e => by
    cases e
    intro cur fr hb
    rw [show w.heap[I]? = _ from hI] at hb
    simp at hb)⟩) (turn_set w I k u) (fun j e => by subst e; exact hf)
/-- What a method leaves that writes into an instruction, too. -/
def LIns (z w : World) (X I : Nat) (ts : List Str) (at2 : Nat) (bad2 : Bool) (i2 : Ins) (w' : World) : Prop := LnS z w' X ts at2 bad2 ∧ OcI w' I i2 ∧ Turn (Two X I) w w'
theorem lnSecond {z w : World} {X I : Nat} {ts : List Str} {at' : Nat} {bad : Bool} {i : Ins} (h : LnS z w X ts at' bad) (hI : OcI w I i) (hne : I ≠ X) (hIf : z.heap.size ≤ I) (hf : at' ≤ 1000) (hat : bad = false → at' ≤ ts.length) :
    Calls Tryz.prog 141 #[.pointer (some ⟨X, 0, none⟩), .pointer (some ⟨I, 0, none⟩)] w fun e w' => ∃ i2 at2 bad2, e = .returned (.tuple #[]) ∧ Good (rdSecond i (ts.drop at')) ts bad i2 at2 bad2 ∧ at2 ≤ at' + 2 ∧ LIns z w X I ts at2 bad2 i2 w' := by
  have N := lnNext h
  have HH := Lib.hid h
  have HI := Lib.hid hI
  have GR := Lib.hid (fun hr => good_second_reg (ts := ts) (at' := at') (bad := bad) (i := i) hr hat)
  have GN := Lib.hid (fun n at2 bad2 hr hn => @good_second_num ts at' bad bad2 i n at2 hr hat hn)
  have RR := Lib.hid (fun w1 (L : Lay w1) => refReg (nx ts at') w1 L)
  have HNU := Lib.hid (fun W k b (hk : k ≤ 1000000) (H : LnS z W X ts k bad) => lnNumber H hk b)
  have HGN := Lib.hid (fun k b n hn => good_num b ts k bad n hn)
  clear h hI hat
  generalize ht : nx ts at' = t at N GR GN RR
  have HTT := Lib.hid ht
  clear ht
  generalize hrr : regR t = r at GR GN RR
  obtain ⟨n0, ok⟩ := r
  go_enter Tryz.func141, Tryz.ntmps141
  go_wp2_with fail
  refine N.mono ?_; rintro e w1 ⟨rfl, b1⟩
  have H1 := Lib.hid ((HH.out).past b1)
  have I1 := Lib.hid ((HI.out).past b1)
  have T1 := Lib.hid (Turn.of_below (P := Two X I) b1)
  have R := RR.out w1 (H1.out).layW
  clear b1 N
  go_wp2_with fail
  refine R.mono ?_; rintro e w2 ⟨rfl, b2⟩
  have H2 := (H1.out).past b2
  have I2 := (I1.out).past b2
  have T2 := Lib.hid ((T1.out).trans (Turn.of_below b2))
  obtain ⟨ao, cap, h1, h2⟩ := H2.shape
  obtain ⟨c0, c1, c2, f1, f2⟩ := h1.cells
  obtain ⟨g0, g1, g2, g3, g4, g5, g6, g7⟩ := Oc.cells I2
  have fr := Oc.free I2
  clear b2 R h1 h2
  cases ok with
  | true =>
    have HB := H2.bump
    have IB : OcI (w2.setCell ⟨X, 1, none⟩ (.int .i64 ((at' + 1 : Nat) : Int))) I i := I2.turn (turn_set w2 X 1 (.int .i64 ((at' + 1 : Nat) : Int))) hne
    have j3 := fr 3
    have HE := Lib.hid (LnS.other (k := 3) (u := .int .i64 n0) HB IB hne hIf)
    have IE := Lib.hid (show OcI ((w2.setCell ⟨X, 1, none⟩ (.int .i64 ((at' + 1 : Nat) : Int))).setCell ⟨I, 3, none⟩ (.int .i64 n0)) I { i with src := n0 } from Oc.set3 IB _)
    have HG := Lib.hid (GR.out rfl)
    clear H2 I2 HB IB fr
    go_wp2_with fail
    refine bodyPost_ret (v := .tuple #[]) (by simp [results, Tryz.results141, go_sem]) rfl ?_
    exact ⟨_, _, _, rfl, HG.out, by omega, HE.out, IE.out, ((T2.out).trans (turn_one (turn_set _ _ _ _))).trans (turn_ins _ _ _ _ _)⟩
  | false =>
    have j4 := fr 4
    have H3 := LnS.other (k := 4) (u := .bool true) H2 I2 hne hIf
    have I3 : OcI (w2.setCell ⟨I, 4, none⟩ (.bool true)) I { i with ui := true } := Oc.set4 I2 _
    have T3 := Lib.hid ((T2.out).trans (turn_ins w2 X I 4 (.bool true)))
    have N3 := lnNext H3
    rw [HTT.out] at N3
    have HH3 := Lib.hid H3
    have HI3 := Lib.hid I3
    have GN2 := Lib.hid (fun n at2 bad2 hn => GN.out n at2 bad2 rfl hn)
    clear H2 I2 fr H3 I3 GN GR
    have HD := Lib.hid (show decide (t = [45]) = (t == [45]) by rw [Bool.eq_iff_iff]; simp)
    go_wp2_with fail
    refine N3.mono ?_; rintro e w3 ⟨rfl, b3⟩
    have H4 := (HH3.out).past b3
    have I4 := (HI3.out).past b3
    have T4 := Lib.hid ((T3.out).trans (Turn.of_below b3))
    obtain ⟨ao4, cap4, k1, k2⟩ := H4.shape
    obtain ⟨e0, e1, e2, x1, x2⟩ := k1.cells
    clear b3 N3 k1 k2 HH3 HI3 HH HI H1 I1 T1 T2 T3 c0 c1 c2 f1 f2 g0 g1 g2 g3 g4 g5 g6 g7 j4
    cases a45 : (t == [45]) with
    | true =>
      have HA := Lib.hid (show t = [45] from eq_of_beq a45)
      have H5 := Lib.hid H4.bump
      have I5 := Lib.hid (show OcI (w3.setCell ⟨X, 1, none⟩ (.int .i64 ((at' + 1 : Nat) : Int))) I { i with ui := true } from I4.turn (turn_set w3 X 1 (.int .i64 ((at' + 1 : Nat) : Int))) hne)
      clear H4 I4
      go_wp2_with fail
      refine (HNU.out _ (at' + 1) true (by omega) H5.out).mono ?_; rintro e w4 ⟨n, rfl, hn, H6, T6⟩
      have I6 := (I5.out).turn T6 hne
      have HG := Lib.hid (GN2.out n (at' + 2) _ (by
        rw [HA.out]
        simp only [if_true, decide_true]
        exact HGN.out (at' + 1) true n hn.1))
      have HN := Lib.hid hn
      have f6 := Oc.free I6 6
      have H7 := Lib.hid (LnS.other (k := 6) (u := .int .i64 n) H6 I6 hne hIf)
      have I7 := Lib.hid (show OcI (w4.setCell ⟨I, 6, none⟩ (.int .i64 n)) I { i with ui := true, im := n } from Oc.set6 I6 _)
      have T7 := Lib.hid ((((T4.out).trans (turn_one (turn_set _ _ _ _))).trans (turn_one T6)).trans (turn_ins w4 X I 6 (.int .i64 n)))
      obtain ⟨g0, g1, g2, g3, g4, g5, g6, g7⟩ := Oc.cells I6
      clear H6 I6 T6 hn
      go_wp2_with fail
      go_end0
      exact ⟨_, _, _, rfl, HG.out, by omega, H7.out, I7.out, T7.out⟩
    | false =>
      have HA := Lib.hid (show ¬ t = [45] from by simpa using a45)
      have H5 := Lib.hid H4
      have I5 := Lib.hid I4
      clear H4 I4
      go_wp2_with fail
      refine (HNU.out _ at' false (by omega) H5.out).mono ?_; rintro e w4 ⟨n, rfl, hn, H6, T6⟩
      have I6 := (I5.out).turn T6 hne
      have HG := Lib.hid (GN2.out n (at' + 1) _ (by
        have hA := HA.out
        simp only [hA, if_false, decide_false]
        exact HGN.out at' false n hn.1))
      have HN := Lib.hid hn
      have f6 := Oc.free I6 6
      have H7 := Lib.hid (LnS.other (k := 6) (u := .int .i64 n) H6 I6 hne hIf)
      have I7 := Lib.hid (show OcI (w4.setCell ⟨I, 6, none⟩ (.int .i64 n)) I { i with ui := true, im := n } from Oc.set6 I6 _)
      have T7 := Lib.hid (((T4.out).trans (turn_one T6)).trans (turn_ins w4 X I 6 (.int .i64 n)))
      obtain ⟨g0, g1, g2, g3, g4, g5, g6, g7⟩ := Oc.cells I6
      clear H6 I6 T6 hn
      go_wp2_with fail
      go_end0
      exact ⟨_, _, _, rfl, HG.out, by omega, H7.out, I7.out, T7.out⟩
theorem lnCell {z w : World} {X I : Nat} {ts : List Str} {at' : Nat} {bad : Bool} {i : Ins} (h : LnS z w X ts at' bad) (hI : OcI w I i) (hne : I ≠ X) (hIf : z.heap.size ≤ I) (hf : at' ≤ 500) :
    Calls Tryz.prog 144 #[.pointer (some ⟨X, 0, none⟩), .pointer (some ⟨I, 0, none⟩)] w fun e w' => ∃ n off bad2, e = .returned (.int .i64 n) ∧ Good (rdCell (ts.drop at')) ts bad (n, off) (at' + 5) bad2 ∧ LIns z w X I ts (at' + 5) bad2 { i with off := off } w' := by
  have M1 := lnMust h (by omega) [91]
  have HI := Lib.hid hI
  have G1 := Lib.hid (good_sign (c := [91]) (by decide) ts at' bad)
  clear h hI
  generalize (bad || decide (nx ts at' ≠ [91])) = b1 at M1 G1
  go_enter Tryz.func144, Tryz.ntmps144
  go_wp2_with fail
  refine M1.mono ?_; rintro e w1 ⟨rfl, H1, T1⟩
  have M2 := lnReg H1 (by omega)
  have G2 := Lib.hid (good_reg ts (at' + 1) b1)
  have S1 := Lib.hid T1
  clear H1 T1 M1
  generalize (b1 || !(regR (nx ts (at' + 1))).2) = b2 at M2 G2
  generalize (regR (nx ts (at' + 1))).1 = n at M2 G2
  go_wp2_with fail
  refine M2.mono ?_; rintro e w2 ⟨rfl, H2, T2⟩
  have M3 := lnSigned H2 (by omega)
  have S2 := Lib.hid ((S1.out).trans T2)
  clear H2 T2 M2 S1
  go_wp2_with fail
  refine M3.mono ?_; rintro e w3 ⟨off, b3, rfl, g3, off0, off1, H3, T3⟩
  have G3 := Lib.hid g3
  have S3 := Lib.hid ((S2.out).trans T3)
  have I3 := (HI.out).turn S3.out hne
  have f5 := Oc.free I3 5
  have H4 := LnS.other (k := 5) (u := .int .i64 off) H3 I3 hne hIf
  have I4 := Lib.hid (show OcI (w3.setCell ⟨I, 5, none⟩ (.int .i64 off)) I { i with off := off } from Oc.set5 I3 _)
  have S4 := Lib.hid ((turn_one (I := I) S3.out).trans (turn_ins w3 X I 5 (.int .i64 off)))
  have M4 := lnMust H4 (by omega) [93]
  have G4 := Lib.hid (good_sign (c := [93]) (by decide) ts (at' + 1 + 1 + 2) b3)
  obtain ⟨q0, q1, q2, q3, q4, q5, q6, q7⟩ := Oc.cells I3
  clear g3 H3 T3 I3 H4 M3
  generalize (b3 || decide (nx ts (at' + 1 + 1 + 2) ≠ [93])) = b4 at M4 G4
  go_wp2_with fail
  refine M4.mono ?_; rintro e w5 ⟨rfl, H5, T5⟩
  have HH5 := Lib.hid H5
  have I5 := Lib.hid ((I4.out).turn T5 hne)
  have S5 := Lib.hid ((S4.out).trans (turn_one T5))
  clear H5 T5 M4
  go_wp2_with fail
  go_ret
  refine ⟨n, off, b4, rfl, ?_, HH5.out, I5.out, S5.out⟩
  unfold rdCell
  exact (G1.out).bind ((G2.out).bind ((G3.out).bind ((G4.out).map rfl)))
theorem lnTo {z w : World} {X I : Nat} {ts : List Str} {at' : Nat} {bad : Bool} {i : Ins} (h : LnS z w X ts at' bad) (hI : OcI w I i) (hne : I ≠ X) (hIf : z.heap.size ≤ I) (hf : at' ≤ 500) :
    Calls Tryz.prog 142 #[.pointer (some ⟨X, 0, none⟩), .pointer (some ⟨I, 0, none⟩)] w fun e w' => ∃ g i2 at2 bad2, e = .returned (str g) ∧ Good (rdJump i (ts.drop at')) ts bad (i2, g) at2 bad2 ∧ at2 ≤ at' + 2 ∧ g.length ≤ 1000000000 ∧ LIns z w X I ts at2 bad2 i2 w' := by
  have N := lnNext h
  have hs := nx_short h.short at'
  have HH := Lib.hid h
  have HI := Lib.hid hI
  have GL := Lib.hid (fun hl => good_to_label (ts := ts) (at' := at') (bad := bad) (i := i) hl)
  have GO := Lib.hid (fun n at2 bad2 hl hn => @good_to_off ts at' bad bad2 i n at2 hl hn)
  have HTK := Lib.hid (fun W (H : LnS z W X ts at' bad) => lnTake H (by omega))
  have HSG := Lib.hid (fun W (H : LnS z W X ts at' bad) => lnSigned H (by omega))
  clear h hI
  generalize nx ts at' = t at N hs GL GO HTK
  have LB := fun w1 => labelP' t hs w1
  have HSS := Lib.hid hs
  clear hs
  generalize labelOk t = ok at LB GL GO
  go_enter Tryz.func142, Tryz.ntmps142
  go_wp2_with fail
  refine N.mono ?_; rintro e w1 ⟨rfl, b1⟩
  have H1 := Lib.hid ((HH.out).past b1)
  have I1 := Lib.hid ((HI.out).past b1)
  have T1 := Lib.hid (Turn.of_below (P := Two X I) b1)
  have LB1 := LB w1
  clear b1 N LB
  go_wp2_with fail
  refine LB1.mono ?_; rintro e w2 ⟨rfl, rfl⟩
  clear LB1
  cases ok with
  | true =>
    have M := HTK.out _ H1.out
    go_wp2_with fail
    refine M.mono ?_; rintro e w3 ⟨rfl, H3, T3⟩
    have H4 := Lib.hid H3
    have I4 := Lib.hid ((I1.out).turn T3 hne)
    have T4 := Lib.hid ((T1.out).trans (turn_one T3))
    clear H3 T3 M
    go_wp2_with fail
    go_ret
    exact ⟨t, i, _, _, rfl, GL.out trivial, by omega, HSS.out, H4.out, I4.out, T4.out⟩
  | false =>
    have M := HSG.out _ H1.out
    go_wp2_with fail
    refine M.mono ?_; rintro e w3 ⟨off, b3, rfl, g3, off0, off1, H3, T3⟩
    have G3 := Lib.hid (GO.out off _ b3 trivial g3)
    have I3 := (I1.out).turn T3 hne
    have f5 := Oc.free I3 5
    have H4 := Lib.hid (LnS.other (k := 5) (u := .int .i64 off) H3 I3 hne hIf)
    have I4 := Lib.hid (show OcI (w3.setCell ⟨I, 5, none⟩ (.int .i64 off)) I { i with off := off } from Oc.set5 I3 _)
    have S4 := Lib.hid (((T1.out).trans (turn_one (I := I) T3)).trans (turn_ins w3 X I 5 (.int .i64 off)))
    obtain ⟨q0, q1, q2, q3, q4, q5, q6, q7⟩ := Oc.cells I3
    clear g3 H3 T3 I3 M
    go_wp2_with fail
    go_ret
    exact ⟨[], _, _, _, rfl, G3.out, by omega, by simp, H4.out, I4.out, S4.out⟩
end Go.Proofs.YthfkmackodbmkaaGreatDoor
/- The document's own operators. -/
namespace Go.Proofs.YthfkmackodbmkaaGreatDoor
open Go.RowKit
set_option linter.unusedVariables false
set_option linter.unusedSimpArgs false
set_option maxRecDepth 100000
set_option maxHeartbeats 2000000

theorem opIn_at (s : Str) {k : Nat} (h : k < wordsL.length) (n : Int) : opIn (wordsL.drop k) n s = if wordsL.getD k [] ≠ [] ∧ s = wordsL.getD k [] then (n, false) else if wordsL.getD k [] ≠ [] ∧ s = wordsL.getD k [] ++ [51, 50] then (n, true) else opIn (wordsL.drop (k + 1)) (n + 1) s := by
  rw [List.drop_eq_getElem_cons h, opIn]
  have : wordsL.getD k [] = wordsL[k] := by rw [List.getD_eq_getElem?_getD, List.getElem?_eq_getElem h]; rfl
  rw [this]
theorem refOp (s : Str) (hs : s.length ≤ 1000000000) (w : World) : Calls Tryz.prog 138 #[str s] w fun e w' => e = .returned (.tuple #[.int .u8 (opOf s).1, .bool (opOf s).2]) ∧ Below w.heap.size w w' := by
  obtain ⟨R, hR⟩ : ∃ R, R = opOf s := ⟨_, rfl⟩
  rw [← hR]
  have HR := Lib.hid hR
  have WD := wordsD w
  clear hR hs
  go_enter Tryz.func138, Tryz.ntmps138
  go_wp2_with fail
  refine WD.mono ?_; rintro e w1 ⟨v, rfl, S1, b1⟩
  have HL : wordsL.length = 27 := rfl
  obtain ⟨g, o, cap, rfl, z1, z2, z4⟩ : ∃ g o cap, v = .slice (some ⟨g, o, none⟩) 27 cap ∧ 27 ≤ cap ∧ cap ≤ 9223372036854775807 ∧ ∀ j, j < 27 → w1.cell? ⟨g, o + j, none⟩ = some (str (wordsL.getD j [])) := by
    obtain ⟨ao, cap, rfl⟩ := S1.shape
    obtain ⟨g, o, rfl, a, b, c, d, f⟩ := S1.at (by rw [HL]; omega)
    rw [HL] at b f
    exact ⟨g, o, cap, rfl, b, c, f⟩
  have Z4 := Lib.hid z4
  have HB := Lib.hid b1
  clear z4 S1 b1 WD
  go_wp2_with fail
  go_loopw [5] (fun i wr => ∃ k : Nat, k ≤ 27 ∧ i = .int .i64 k ∧ Hid (R = opIn (wordsL.drop k) ((k : Int) + 1) s) ∧ wr = w1) (fun i _ => 28 - (intOf i).toNat)
  case atStart => exact ⟨0, by omega, rfl, Lib.hid (by rw [HR.out]; rfl), rfl⟩
  case round =>
    obtain ⟨k, hk, rfl, HI, rfl⟩ := hrel
    by_cases hlt : k < 27
    · have hd : decide ((k : Int) < 27) = true := by simp; omega
      have hd2 : decide (k < 27) = true := by simpa using hlt
      have k0 : 0 ≤ (k : Int) := by omega
      have k1 : (k : Int) < 27 := by omega
      have d0 := Z4.out k hlt
      have e0 := opIn_at s (k := k) (by rw [HL]; omega) ((k : Int) + 1)
      have wl := words_len ⟨k, hlt⟩
      simp only at wl
      have u8 : IntKind.u8.wrap ((k : Int) + 1) = (k : Int) + 1 := by rw [Go.IntKind.wrap_u8']; omega
      generalize wordsL.getD k [] = x at d0 e0 wl
      have C1 := run_cat (P := Tryz.prog) x [51, 50] (by simp; omega)
      have HE := Lib.hid e0
      clear e0 wl hd hd2
      cases q0 : (x == []) with
      | true =>
        have HI2 := Lib.hid (show R = opIn (wordsL.drop (k + 1)) (((k + 1 : Nat) : Int) + 1) s by
          rw [HI.out, HE.out, if_neg (fun e => e.1 (eq_of_beq q0)), if_neg (fun e => e.1 (eq_of_beq q0))]
          rw [show (k : Int) + 1 + 1 = ((k + 1 : Nat) : Int) + 1 from by omega])
        go_wp2_with fail
        go_roundw
        case rel => exact ⟨k + 1, by omega, by go_num, HI2, by trivial⟩
        case measure =>
          simp only [intOf]
          omega
      | false =>
        have n0 : x ≠ [] := by simpa using q0
        have HN0 := Lib.hid n0
        clear n0
        cases q1 : (s == x) with
        | true =>
          have HR2 := Lib.hid (show R = ((k : Int) + 1, false) by rw [HI.out, HE.out, if_pos ⟨HN0.out, eq_of_beq q1⟩])
          go_wp2_with fail
          go_ret2
          exact ⟨by rw [HR2.out]; try rfl, HB.out⟩
        | false =>
          have n1 : ¬ s = x := by simpa using q1
          have HN1 := Lib.hid n1
          clear n1
          cases q2 : (s == x ++ [51, 50]) with
          | true =>
            have HR2 := Lib.hid (show R = ((k : Int) + 1, true) by rw [HI.out, HE.out, if_neg (fun e => HN1.out e.2), if_pos ⟨HN0.out, eq_of_beq q2⟩])
            go_wp2_with fail
            go_ret2
            exact ⟨by rw [HR2.out]; try rfl, HB.out⟩
          | false =>
            have n2 : ¬ s = x ++ [51, 50] := by simpa using q2
            have HI2 := Lib.hid (show R = opIn (wordsL.drop (k + 1)) (((k + 1 : Nat) : Int) + 1) s by
              rw [HI.out, HE.out, if_neg (fun e => HN1.out e.2), if_neg (fun e => n2 e.2)]
              rw [show (k : Int) + 1 + 1 = ((k + 1 : Nat) : Int) + 1 from by omega])
            clear n2
            go_wp2_with fail
            go_roundw
            case rel => exact ⟨k + 1, by omega, by go_num, HI2, by trivial⟩
            case measure =>
              simp only [intOf]
              omega
    · have hd : decide ((k : Int) < 27) = false := by simp; omega
      have hd2 : decide (k < 27) = false := by simpa using hlt
      have hk27 : k = 27 := by omega
      have HR2 := Lib.hid (show R = (0, false) by rw [HI.out, hk27]; rfl)
      clear hk27
      go_wp2_with fail
      go_ret2
      exact ⟨by rw [HR2.out]; try rfl, HB.out⟩
end Go.Proofs.YthfkmackodbmkaaGreatDoor
