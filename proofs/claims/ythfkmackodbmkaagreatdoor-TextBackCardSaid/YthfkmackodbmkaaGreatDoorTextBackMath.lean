/- What is shown is parsed as it was: the language, there and back. -/
import Derived.Test.YthfkmackodbmkaaGreatDoorTextRef
import Derived.Test.YthfkmackodbmkaaGreatDoorTextSeq
import Derived.Test.YthfkmackodbmkaaGreatDoorTextRun
namespace Go.Proofs.YthfkmackodbmkaaGreatDoor
set_option linter.unusedVariables false
set_option linter.unusedSimpArgs false
set_option maxRecDepth 10000

theorem digit_of {k : Nat} (h : k < 10) : digitC (UInt8.ofNat (48 + k)) = true ∧ Lib.digitVal (UInt8.ofNat (48 + k)) = some k ∧ (UInt8.ofNat (48 + k) = 48 → k = 0) := by
  have : ∀ k : Fin 10, digitC (UInt8.ofNat (48 + k.val)) = true ∧ Lib.digitVal (UInt8.ofNat (48 + k.val)) = some k.val ∧ (UInt8.ofNat (48 + k.val) = 48 → k.val = 0) := by decide
  exact this ⟨k, h⟩
theorem dec_spec (u : Nat) : (Lib.decDigits u).all digitC = true ∧ Lib.decDigits u ≠ [] ∧ Lib.decFrom 0 (Lib.decDigits u) = some u ∧ ((Lib.decDigits u).head? = some 48 → u = 0) := by
  induction u using Nat.strongRecOn with
  | _ u ih =>
    by_cases h : u < 10
    · have hd := digit_of h
      rw [Lib.decDigits, dif_pos h]
      exact ⟨by simp only [List.all_cons, hd.1, List.all_nil, Bool.and_self], by simp, by simp only [Lib.decFrom, hd.2.1]; congr 1; omega, fun e => hd.2.2 (by simpa only [List.head?_cons, Option.some.injEq] using e)⟩
    · obtain ⟨h1, h2, h3, h4⟩ := ih (u / 10) (by omega)
      have hd := digit_of (k := u % 10) (by omega)
      rw [Lib.decDigits, dif_neg h]
      refine ⟨by simp only [List.all_append, h1, List.all_cons, hd.1, List.all_nil, Bool.and_self], by simp, ?_, ?_⟩
      · rw [dec_snoc, h3, Option.bind_some, hd.2.1, Option.map_some]; congr 1; omega
      · intro e
        cases hq : Lib.decDigits (u / 10) with
        | nil => exact absurd hq h2
        | cons b r =>
          rw [hq] at e h4
          have := h4 (by simpa using e)
          omega
theorem ndigits_short : ∀ (k u : Nat), u < 10 ^ (k + 1) → Lib.nDigits u ≤ k + 1
  | 0, u, h => by rw [Lib.nDigits_small (by simpa using h)]; exact Nat.le_refl _
  | k + 1, u, h => by
    by_cases hu : u < 10
    · rw [Lib.nDigits_small hu]; omega
    · rw [Lib.nDigits_big hu]
      have := ndigits_short k (u / 10) (by rw [Nat.pow_succ] at h; omega)
      omega
theorem num_dec (u : Nat) (h : u < 10000000000) : numOf (Lib.decDigits u) = some (u : Int) := by
  obtain ⟨h1, h2, h3, h4⟩ := dec_spec u
  have hl : (Lib.decDigits u).length ≤ 10 := by rw [Lib.decDigits_length]; exact ndigits_short 9 u (by omega)
  have hc : (Lib.decDigits u).length = 1 ∨ (Lib.decDigits u).head? ≠ some 48 := by
    by_cases e : (Lib.decDigits u).head? = some 48
    · left
      have := h4 e; subst this
      rw [Lib.decDigits, dif_pos (by omega)]; rfl
    · exact .inr e
  have hd : Lib.decNat (Lib.decDigits u) = some u := by
    unfold Lib.decNat
    rw [if_neg (by simpa using h2), h3]
  unfold numOf
  rw [if_pos ⟨hl, hc⟩, hd]
  rfl
theorem dec_word (u : Nat) : (Lib.decDigits u).all wordC = true := by
  have := (dec_spec u).1
  rw [List.all_eq_true] at this ⊢
  intro c hc
  simp [wordC, this c hc]

/-- No word goes on. -/
def stop (r : Str) : Prop := ∀ c, r.head? = some c → wordC c = false
def TW (ts : List Str) (s : Str) : Prop := ∀ r, stop r → toks [] (s ++ r) = (toks [] r).map (ts ++ ·)
def TF (ts : List Str) (s : Str) : Prop := ∀ r, toks [] (s ++ r) = (toks [] r).map (ts ++ ·)
theorem TF.w {ts : List Str} {s : Str} (h : TF ts s) : TW ts s := fun r _ => h r
theorem tw_word {u : Str} (hu : u.all wordC = true) (h0 : u ≠ []) : TW [u] u := fun r hr => toks_word hu h0 hr
theorem tf_blank {c : UInt8} (h : blankC c = true) : TF [] [c] := fun r => by
  rw [List.cons_append, List.nil_append, toks_blank r h]
  cases toks [] r <;> rfl
theorem tf_sign {c : UInt8} (h : signC c = true) : TF [[c]] [c] := fun r => by
  rw [List.cons_append, List.nil_append, toks_sign r h]
  cases toks [] r <;> rfl
theorem map_two {a b : List Str} (o : Option (List Str)) : (o.map (b ++ ·)).map (a ++ ·) = o.map (a ++ b ++ ·) := by
  cases o <;> simp
theorem TF.then {a b : List Str} {s t : Str} (h : TF a s) (h' : TF b t) : TF (a ++ b) (s ++ t) := fun r => by
  rw [List.append_assoc, h, h', map_two]
theorem TF.thenW {a b : List Str} {s t : Str} (h : TF a s) (h' : TW b t) : TW (a ++ b) (s ++ t) := fun r hr => by
  rw [List.append_assoc, h, h' r hr, map_two]
theorem TW.thenF {a b : List Str} {s t : Str} (h : TW a s) (h' : TF b t) (hs : ∀ r, stop (t ++ r)) : TF (a ++ b) (s ++ t) := fun r => by
  rw [List.append_assoc, h _ (hs r), h', map_two]
theorem TW.thenW {a b : List Str} {s t : Str} (h : TW a s) (h' : TW b t) (hs : ∀ r, stop (t ++ r)) : TW (a ++ b) (s ++ t) := fun r hr => by
  rw [List.append_assoc, h _ (hs r), h' r hr, map_two]
theorem stop_cons {c : UInt8} (h : wordC c = false) (s r : Str) : stop (c :: s ++ r) := fun x hx => by
  simp at hx; subst hx; exact h
theorem tf_sep : TF [[44]] [44, 32] := (tf_sign (c := 44) (by decide)).then (tf_blank (c := 32) (by decide))
theorem tf_sp : TF [] [32] := tf_blank (by decide)
def numTk (n : Int) : List Str := if n < 0 then [[45], Lib.decDigits (-n).toNat] else [Lib.decDigits n.toNat]
theorem tw_dec (u : Nat) : TW [Lib.decDigits u] (Lib.decDigits u) := tw_word (dec_word u) (dec_spec u).2.1
theorem tw_itoa (n : Int) : TW (numTk n) (Lib.itoa n) := by
  unfold numTk Lib.itoa
  split
  · rw [show n.natAbs = (-n).toNat by omega]
    exact (tf_sign (c := 45) (by decide)).thenW (tw_dec _)
  · exact tw_dec _
def farTk (off : Int) : List Str := if off < 0 then [[45], Lib.decDigits (-off).toNat] else [[43], Lib.decDigits off.toNat]
theorem itoa_pos {n : Int} (h : 0 ≤ n) : Lib.itoa n = Lib.decDigits n.toNat := by unfold Lib.itoa; rw [if_neg (by omega)]
theorem tf_gap {gap : Str} (hg : gap = [] ∨ gap = [32]) : TF [] gap := by
  rcases hg with rfl | rfl
  · intro r; rw [List.nil_append]; cases toks [] r <;> rfl
  · exact tf_sp
theorem tw_far (off : Int) {gap : Str} (hg : gap = [] ∨ gap = [32]) : TW (farTk off) (farS off gap) := by
  unfold farTk farS
  split
  · rw [itoa_pos (by omega)]
    exact (tf_sign (c := 45) (by decide)).thenW ((tf_gap hg).thenW (tw_dec _))
  · rw [itoa_pos (by omega)]
    exact (tf_sign (c := 43) (by decide)).thenW ((tf_gap hg).thenW (tw_dec _))
theorem far_stop (off : Int) (gap r : Str) : stop (farS off gap ++ r) := by
  unfold farS
  split
  · exact stop_cons (by decide) _ _
  · exact stop_cons (by decide) _ _
theorem regs_word : ∀ k : Fin 11, (regs.getD k.val []).all wordC = true ∧ regs.getD k.val [] ≠ [] ∧ ixOf regs (regs.getD k.val []) = some k.val := by decide
theorem regS_word {n : Int} (h0 : 0 ≤ n) (h1 : n ≤ 10) : (regS n).all wordC = true ∧ regS n ≠ [] ∧ ixOf regs (regS n) = some n.toNat := by
  have := regs_word ⟨n.toNat, by omega⟩
  simp only [List.getD_eq_getElem?_getD] at this
  exact this
theorem tw_reg {n : Int} (h0 : 0 ≤ n) (h1 : n ≤ 10) : TW [regS n] (regS n) := tw_word (regS_word h0 h1).1 (regS_word h0 h1).2.1
def cellTk (n off : Int) : List Str := [[91], regS n] ++ farTk off ++ [[93]]
theorem tf_cell {n : Int} (h0 : 0 ≤ n) (h1 : n ≤ 10) (off : Int) : TF (cellTk n off) (cellS n off) := by
  have a := (tf_sign (c := 91) (by decide)).thenW (tw_reg h0 h1)
  have b := a.thenF tf_sp (fun r => stop_cons (by decide) [] r)
  have c := b.thenW (tw_far off (gap := [32]) (.inr rfl))
  have d := c.thenF (tf_sign (c := 93) (by decide)) (fun r => stop_cons (by decide) [] r)
  unfold cellTk cellS
  simpa using d
def secTk (i : Ins) : List Str := if i.ui then numTk i.im else [regS i.src]
theorem tw_sec {i : Ins} (h0 : 0 ≤ i.src) (h1 : i.src ≤ 10) : TW (secTk i) (secondS i) := by
  unfold secTk secondS
  split
  · exact tw_itoa _
  · exact tw_reg h0 h1
def lineTk (i : Ins) : List Str :=
  if i.op = 28 then [nameOf i] else if i.op = 13 then [nameOf i] ++ [regS i.dst]
  else if i.op = 14 then [nameOf i] ++ ([regS i.dst] ++ ([[44]] ++ cellTk i.src i.off))
  else if i.op = 15 then [nameOf i] ++ (cellTk i.dst i.off ++ ([[44]] ++ secTk i))
  else if i.op = 16 then [nameOf i] ++ farTk i.off
  else if jumpsI i then [nameOf i] ++ ([regS i.dst] ++ ([[44]] ++ (secTk i ++ ([[44]] ++ farTk i.off))))
  else [nameOf i] ++ ([regS i.dst] ++ ([[44]] ++ secTk i))
def kindOf (op : Int) : Kind := if op = 28 then .exit else if op = 13 then .target else if op = 14 then .load else if op = 15 then .put else if op = 16 then .jump else if 16 < op then .ask else .reckon
def NameOk (op : Nat) (nw : Bool) (sz : Nat) : Prop :=
  ((1 ≤ op ∧ op ≤ 13 ∨ 17 ≤ op ∧ op ≤ 27) ∧ sz = 0) ∨ ((op = 14 ∨ op = 15) ∧ nw = false ∧ (sz = 1 ∨ sz = 2 ∨ sz = 4 ∨ sz = 8)) ∨ ((op = 16 ∨ op = 28) ∧ nw = false ∧ sz = 0)
instance (op : Nat) (nw : Bool) (sz : Nat) : Decidable (NameOk op nw sz) := by unfold NameOk; infer_instance
theorem names_all : ∀ (op : Fin 29) (nw : Bool) (sz : Fin 9), NameOk op.val nw sz.val →
    (nameOf ⟨op.val, nw, 0, 0, false, 0, 0, sz.val⟩).all wordC = true ∧ nameOf ⟨op.val, nw, 0, 0, false, 0, 0, sz.val⟩ ≠ [] ∧ (nameOf ⟨op.val, nw, 0, 0, false, 0, 0, sz.val⟩).length ≤ 7 ∧
    entry (nameOf ⟨op.val, nw, 0, 0, false, 0, 0, sz.val⟩) = some (⟨op.val, nw, 0, 0, false, 0, 0, sz.val⟩, kindOf op.val) := by decide +kernel
theorem name_ok {i : Ins} (h : right i = true) : (nameOf i).all wordC = true ∧ nameOf i ≠ [] ∧ (nameOf i).length ≤ 7 ∧ entry (nameOf i) = some (⟨i.op, i.nw, 0, 0, false, 0, 0, i.sz⟩, kindOf i.op) := by
  have t := tame h
  have hn : NameOk i.op.toNat i.nw i.sz.toNat := by
    have h1 := t.op0; have h2 := t.op1; have h3 := t.sz
    unfold NameOk
    by_cases e : i.op = 16 ∨ i.op = 28
    · have hnw : i.nw = false := by
        obtain ⟨op, nw, dst, src, ui, off, im, sz⟩ := i
        simp only at e ⊢
        rcases e with rfl | rfl <;> (simp [right] at h)
        · exact h.2.1
        · exact h.1
      right; right
      exact ⟨by omega, hnw, by omega⟩
    · rcases h3 with ⟨a, b, c⟩ | ⟨a, b, c⟩
      · right; left; exact ⟨by omega, c, by omega⟩
      · left; exact ⟨by omega, by omega⟩
  have hz : 0 ≤ i.sz ∧ i.sz ≤ 8 := by have := t.sz; omega
  have := names_all ⟨i.op.toNat, by have := t.op1; omega⟩ i.nw ⟨i.sz.toNat, by omega⟩ hn
  have e1 : ((i.op.toNat : Nat) : Int) = i.op := by have := t.op0; omega
  have e2 : ((i.sz.toNat : Nat) : Int) = i.sz := by omega
  simp only [e1, e2] at this
  exact this
theorem tw_bare {i : Ins} (h : right i = true) : TW (lineTk i) (bareS i) := by
  have t := tame h
  obtain ⟨n1, n2, -, -⟩ := name_ok h
  have N := tw_word n1 n2
  have D := tw_reg t.dst0 t.dst1
  have st : ∀ (s r : Str), stop (32 :: s ++ r) := fun s r => stop_cons (by decide) s r
  have ss : ∀ (s r : Str), stop (44 :: s ++ r) := fun s r => stop_cons (by decide) s r
  have sp : ∀ {ts : List Str} {s : Str}, TW ts s → TW ([nameOf i] ++ ts) (nameOf i ++ ([32] ++ s)) := fun {ts s} H => N.thenW (tf_sp.thenW H) (fun r => st s r)
  have co : ∀ {a ts : List Str} {u s : Str}, TW a u → TW ts s → TW (a ++ ([[44]] ++ ts)) (u ++ ([44, 32] ++ s)) := fun {a ts u s} A H => A.thenW (tf_sep.thenW H) (fun r => ss _ r)
  unfold lineTk bareS partsS
  split
  · simpa using N
  split
  · simpa [joinS] using sp D
  split
  · simpa [joinS] using sp (co D (tf_cell t.src0 t.src1 i.off).w)
  split
  · simpa [joinS] using sp (co (tf_cell t.dst0 t.dst1 i.off).w (tw_sec t.src0 t.src1))
  split
  · simpa [joinS] using sp (tw_far i.off (gap := []) (.inl rfl))
  split
  · simpa [joinS] using sp (co D (co (tw_sec t.src0 t.src1) (tw_far i.off (gap := []) (.inl rfl))))
  · simpa [joinS] using sp (co D (tw_sec t.src0 t.src1))
theorem toks_bare {i : Ins} (h : right i = true) : toks [] (bareS i) = some (lineTk i) := by
  have := tw_bare h [] (fun c hc => by simp at hc)
  simpa [toks, flush] using this
theorem toks_chars : ∀ (s cur : Str) (ts : List Str), toks cur s = some ts → ∀ c ∈ s, wordC c = true ∨ blankC c = true ∨ signC c = true
  | [], _, _, _, c, hc => by cases hc
  | b :: s, cur, ts, h, c, hc => by
    unfold toks at h
    split at h
    · rename_i hw
      rcases List.mem_cons.1 hc with rfl | hc
      · exact .inl hw
      · exact toks_chars s _ ts h c hc
    · split at h
      · rename_i hb
        cases hr : toks [] s with
        | none => rw [hr] at h; cases h
        | some ts' =>
          rcases List.mem_cons.1 hc with rfl | hc
          · exact .inr (.inl hb)
          · exact toks_chars s [] ts' hr c hc
      · split at h
        · rename_i hs
          cases hr : toks [] s with
          | none => rw [hr] at h; cases h
          | some ts' =>
            rcases List.mem_cons.1 hc with rfl | hc
            · exact .inr (.inr hs)
            · exact toks_chars s [] ts' hr c hc
        · cases h
theorem toks_no (s cur : Str) (ts : List Str) (h : toks cur s = some ts) : (35 : UInt8) ∉ s ∧ (10 : UInt8) ∉ s :=
  ⟨fun e => by rcases toks_chars s cur ts h _ e with h | h | h <;> revert h <;> decide, fun e => by rcases toks_chars s cur ts h _ e with h | h | h <;> revert h <;> decide⟩
theorem cut_none : ∀ {s : Str}, (35 : UInt8) ∉ s → cutHash s = s
  | [], _ => rfl
  | c :: s, h => by
    simp only [List.mem_cons, not_or] at h
    have hc : (c != 35) = true := by simp; exact fun e => h.1 e.symm
    unfold cutHash
    rw [List.takeWhile_cons_of_pos (by simpa using hc)]
    rw [show s.takeWhile (· != 35) = s from cut_none h.2]
theorem tokL_bare {i : Ins} (h : right i = true) : tokL (bareS i) = some (lineTk i) := by
  unfold tokL
  rw [cut_none (toks_no _ _ _ (toks_bare h)).1, toks_bare h]

theorem rd_reg {n : Int} (h0 : 0 ≤ n) (h1 : n ≤ 10) (r : List Str) : rdReg (regS n :: r) = some (n, r) := by
  show (ixOf regs (regS n)).map _ = _
  rw [(regS_word h0 h1).2.2, Option.map_some]
  congr 2; omega
theorem rd_num (b : Bool) {u : Int} (h0 : 0 ≤ u) (h1 : u < 10000000000) (r : List Str) : rdNum b (Lib.decDigits u.toNat :: r) = some (if b then -u else u, r) := by
  show (numOf (Lib.decDigits u.toNat)).map _ = _
  rw [num_dec _ (by omega), Option.map_some]
  have : ((u.toNat : Nat) : Int) = u := by omega
  rw [this]
theorem rd_signed {off : Int} (h0 : -32768 ≤ off) (h1 : off < 32768) (r : List Str) : rdSigned (farTk off ++ r) = some (off, r) := by
  unfold farTk
  split
  · have : rdSigned ([[45], Lib.decDigits (-off).toNat] ++ r) = rdNum true (Lib.decDigits (-off).toNat :: r) := rfl
    rw [this, rd_num true (by omega) (by omega)]
    simp
  · have : rdSigned ([[43], Lib.decDigits off.toNat] ++ r) = rdNum false (Lib.decDigits off.toNat :: r) := rfl
    rw [this, rd_num false (by omega) (by omega)]
    simp
theorem rd_cell {n off : Int} (h0 : 0 ≤ n) (h1 : n ≤ 10) (f0 : -32768 ≤ off) (f1 : off < 32768) (r : List Str) : rdCell (cellTk n off ++ r) = some ((n, off), r) := by
  unfold rdCell cellTk
  have e : ([[91], regS n] ++ farTk off ++ [[93]]) ++ r = [91] :: regS n :: (farTk off ++ ([93] :: r)) := by simp
  rw [e]
  have a : rdOf [[91]] ([91] :: regS n :: (farTk off ++ ([93] :: r))) = some (0, regS n :: (farTk off ++ ([93] :: r))) := rfl
  rw [a, Option.bind_some, rd_reg h0 h1, Option.bind_some, rd_signed f0 f1, Option.bind_some]
  rfl
theorem digits_no_reg (u : Nat) : ixOf regs (Lib.decDigits u) = none := by
  refine ixOf_all _ _ fun h => ?_
  obtain ⟨h1, h2, -, -⟩ := dec_spec u
  have key : ∀ t ∈ regs, t.head? = some 114 := by decide
  have := key _ h
  cases hq : Lib.decDigits u with
  | nil => exact absurd hq h2
  | cons c s =>
    rw [hq] at this h1
    simp at this
    subst this
    simp at h1
    exact absurd h1.1 (by decide)
theorem rd_second (j : Ins) {i : Ins} (h0 : 0 ≤ i.src) (h1 : i.src ≤ 10) (m0 : -2147483648 ≤ i.im) (m1 : i.im < 2147483648) (r : List Str) :
    rdSecond j (secTk i ++ r) = some (if i.ui then { j with ui := true, im := i.im } else { j with src := i.src }, r) := by
  unfold secTk
  cases i.ui with
  | false =>
    simp only [Bool.false_eq_true, if_false]
    unfold rdSecond
    rw [show [regS i.src] ++ r = regS i.src :: r from rfl, rd_reg h0 h1]
  | true =>
    simp only [if_true]
    unfold numTk
    split
    · have hr : rdReg ([[45], Lib.decDigits (-i.im).toNat] ++ r) = none := rfl
      have ht : takeOf [[45]] ([[45], Lib.decDigits (-i.im).toNat] ++ r) = (0, Lib.decDigits (-i.im).toNat :: r) := rfl
      unfold rdSecond
      rw [hr, ht]
      simp only [decide_true]
      rw [rd_num true (by omega) (by omega)]
      simp
    · have hr : rdReg ([Lib.decDigits i.im.toNat] ++ r) = none := by
        show (ixOf regs (Lib.decDigits i.im.toNat)).map _ = none
        rw [digits_no_reg]; rfl
      have hi : ixOf [[45]] (Lib.decDigits i.im.toNat) = none := by
        refine ixOf_all _ _ fun h => ?_
        obtain ⟨q1, q2, -, -⟩ := dec_spec i.im.toNat
        simp at h
        rw [h] at q1
        exact absurd q1 (by decide)
      have ht : takeOf [[45]] ([Lib.decDigits i.im.toNat] ++ r) = (-1, Lib.decDigits i.im.toNat :: r) := by
        show ((ixOf [[45]] (Lib.decDigits i.im.toNat)).map _).getD _ = _
        rw [hi]; rfl
      unfold rdSecond
      rw [hr, ht]
      simp only [show decide ((-1 : Int) = 0) = false from rfl]
      rw [rd_num false (by omega) (by omega)]
      simp
theorem rd_jump (j : Ins) {off : Int} (h0 : -32768 ≤ off) (h1 : off < 32768) (r : List Str) : rdJump j (farTk off ++ r) = some (({ j with off := off }, []), r) := by
  have hs := rd_signed h0 h1 r
  unfold farTk at hs ⊢
  split
  · rename_i hn
    rw [if_pos hn] at hs
    have e : rdJump j ([[45], Lib.decDigits (-off).toNat] ++ r) = (rdSigned ([[45], Lib.decDigits (-off).toNat] ++ r)).map fun y => (({ j with off := y.1 }, []), y.2) := rfl
    rw [e, hs]; rfl
  · rename_i hn
    rw [if_neg hn] at hs
    have e : rdJump j ([[43], Lib.decDigits off.toNat] ++ r) = (rdSigned ([[43], Lib.decDigits off.toNat] ++ r)).map fun y => (({ j with off := y.1 }, []), y.2) := rfl
    rw [e, hs]; rfl
theorem comma (r : List Str) : rdOf [[44]] ([44] :: r) = some (0, r) := rfl
theorem rd_kind {i : Ins} (h : right i = true) : ∃ rest, lineTk i = nameOf i :: rest ∧ rdKind (kindOf i.op) ⟨i.op, i.nw, 0, 0, false, 0, 0, i.sz⟩ rest = some ((i, []), []) := by
  have t := tame h
  have hJ : jumpsI i = (decide (16 ≤ i.op) && decide (i.op ≤ 27)) := rfl
  have hD := fun r => rd_reg t.dst0 t.dst1 r
  have hC := fun r => rd_cell t.src0 t.src1 t.off0 t.off1 r
  have hC2 := fun r => rd_cell t.dst0 t.dst1 t.off0 t.off1 r
  have hS := fun j r => rd_second j (i := i) t.src0 t.src1 t.im0 t.im1 r
  have hF := fun j r => rd_jump j t.off0 t.off1 r
  have hC' := hC []
  have hC2' := fun r => hC2 r
  have hS' := fun j => hS j []
  have hF' := fun j => hF j []
  simp only [List.append_nil] at hC' hS' hF'
  obtain ⟨op, nw, dst, src, ui, off, im, sz⟩ := i
  simp only at *
  have o0 := t.op0
  have o1 := t.op1
  simp only at o0 o1
  unfold lineTk kindOf
  simp only
  by_cases e28 : op = 28
  · subst e28
    simp [right] at h
    obtain ⟨rfl, rfl, rfl, rfl, rfl, rfl, rfl⟩ := h
    exact ⟨[], rfl, rfl⟩
  by_cases e13 : op = 13
  · subst e13
    simp [right] at h
    obtain ⟨-, rfl, rfl, rfl, rfl, rfl⟩ := h
    refine ⟨[regS dst], rfl, ?_⟩
    simp only [show ¬ (13 : Int) = 28 by decide, if_false, if_true]
    show (rdTarget _ [regS dst]).map _ = _
    unfold rdTarget
    rw [hD]; rfl
  by_cases e14 : op = 14
  · subst e14
    simp [right] at h
    obtain ⟨-, -, -, -, rfl, rfl, rfl⟩ := h
    refine ⟨[regS dst] ++ ([[44]] ++ cellTk src off), rfl, ?_⟩
    simp only [show ¬ (14 : Int) = 28 by decide, show ¬ (14 : Int) = 13 by decide, if_false, if_true]
    show (rdLoad _ (regS dst :: [44] :: cellTk src off)).map _ = _
    unfold rdLoad rdTarget
    rw [hD, Option.map_some, Option.bind_some, comma, Option.bind_some, hC']
    rfl
  by_cases e15 : op = 15
  · subst e15
    refine ⟨cellTk dst off ++ ([[44]] ++ secTk ⟨15, nw, dst, src, ui, off, im, sz⟩), rfl, ?_⟩
    simp only [show ¬ (15 : Int) = 28 by decide, show ¬ (15 : Int) = 13 by decide, show ¬ (15 : Int) = 14 by decide, if_false, if_true]
    show (rdPut _ (cellTk dst off ++ ([44] :: secTk ⟨15, nw, dst, src, ui, off, im, sz⟩))).map _ = _
    unfold rdPut
    rw [hC2', Option.bind_some, comma, Option.bind_some, hS']
    cases ui with
    | true => simp [right, second] at h; obtain ⟨-, -, -, ⟨rfl, -⟩, rfl⟩ := h; rfl
    | false => simp [right, second] at h; obtain ⟨-, -, -, ⟨-, rfl⟩, rfl⟩ := h; rfl
  by_cases e16 : op = 16
  · subst e16
    simp [right] at h
    obtain ⟨-, rfl, rfl, rfl, rfl, rfl, rfl⟩ := h
    refine ⟨farTk off, rfl, ?_⟩
    simp only [show ¬ (16 : Int) = 28 by decide, show ¬ (16 : Int) = 13 by decide, show ¬ (16 : Int) = 14 by decide, show ¬ (16 : Int) = 15 by decide, if_false, if_true]
    show rdJump _ (farTk off) = _
    rw [hF']
  by_cases e17 : 17 ≤ op
  · have hj : jumpsI ⟨op, nw, dst, src, ui, off, im, sz⟩ = true := by rw [hJ]; simp; omega
    have hlt : (16 : Int) < op := by omega
    refine ⟨[regS dst] ++ ([[44]] ++ (secTk ⟨op, nw, dst, src, ui, off, im, sz⟩ ++ ([[44]] ++ farTk off))), by simp [e28, e13, e14, e15, e16, hj], ?_⟩
    simp only [e28, e13, e14, e15, e16, hlt, if_false, if_true]
    show rdAsk _ (regS dst :: [44] :: (secTk ⟨op, nw, dst, src, ui, off, im, sz⟩ ++ ([44] :: farTk off))) = _
    unfold rdAsk rdReckon rdTarget
    rw [hD, Option.map_some, Option.bind_some, comma, Option.bind_some, hS, Option.bind_some, comma, Option.bind_some, hF']
    have h1 : ¬ (1 ≤ op ∧ op ≤ 12) := by omega
    have h2 : 17 ≤ op ∧ op ≤ 27 := by omega
    cases ui with
    | true => simp [right, h1, e13, e14, e15, e16, h2, second] at h; obtain ⟨-, -, ⟨rfl, -⟩, rfl⟩ := h; rfl
    | false => simp [right, h1, e13, e14, e15, e16, h2, second] at h; obtain ⟨-, -, ⟨-, rfl⟩, rfl⟩ := h; rfl
  · have hj : jumpsI ⟨op, nw, dst, src, ui, off, im, sz⟩ = false := by rw [hJ]; simp; omega
    have hlt : ¬ (16 : Int) < op := by omega
    refine ⟨[regS dst] ++ ([[44]] ++ secTk ⟨op, nw, dst, src, ui, off, im, sz⟩), by simp [e28, e13, e14, e15, e16, hj], ?_⟩
    simp only [e28, e13, e14, e15, e16, hlt, if_false, if_true]
    show (rdReckon _ (regS dst :: [44] :: secTk ⟨op, nw, dst, src, ui, off, im, sz⟩)).map _ = _
    unfold rdReckon rdTarget
    rw [hD, Option.map_some, Option.bind_some, comma, Option.bind_some, hS']
    have h1 : 1 ≤ op ∧ op ≤ 12 := by omega
    cases ui with
    | true => simp [right, h1, second] at h; obtain ⟨-, ⟨rfl, -⟩, rfl, rfl⟩ := h; rfl
    | false => simp [right, h1, second] at h; obtain ⟨-, ⟨-, rfl⟩, rfl, rfl⟩ := h; rfl
theorem name_no_colon {i : Ins} (h : right i = true) : isLab (lineTk i) = false := by
  have t := tame h
  have hl : ∀ off, (farTk off).length = 2 := fun off => by unfold farTk; split <;> rfl
  have hs : 1 ≤ (secTk i).length := by unfold secTk numTk; split <;> (try split) <;> simp
  unfold isLab lineTk cellTk
  split
  · simp
  split
  · have := (regS_word t.dst0 t.dst1).1
    simp
    intro e
    rw [e] at this
    exact absurd this (by decide)
  split
  · simp [hl]
  split
  · simp [hl]
  split
  · simp [hl]
  split
  · simp [hl]
  · simp
theorem told_bare {i : Ins} (h : right i = true) : told (bareS i) = some ⟨[], i, []⟩ := by
  unfold told
  rw [tokL_bare h, Option.bind_some]
  have hc := name_no_colon h
  obtain ⟨rest, e, hk⟩ := rd_kind h
  unfold rdLine
  rw [hc, e]
  simp only [List.cons_ne_nil, if_false, Bool.false_eq_true]
  show (Option.bind (Option.bind (entry (nameOf i)) _) _) = _
  rw [(name_ok h).2.2.2, Option.bind_some]
  simp only
  rw [hk, Option.bind_some]
  simp [h]
theorem bare_no_ten {i : Ins} (h : right i = true) : (10 : UInt8) ∉ bareS i := (toks_no _ _ _ (toks_bare h)).2
theorem lines_part : ∀ (s r : Str), (10 : UInt8) ∉ s → lines (s ++ 10 :: r) = s :: lines r
  | [], r, _ => by simp [lines]
  | c :: s, r, h => by
    simp only [List.mem_cons, not_or] at h
    have hc : ¬ c = 10 := fun e => h.1 e.symm
    rw [List.cons_append, lines, if_neg hc, lines_part s r h.2]
    rfl
theorem lines_text : ∀ l : List Ins, l.all right = true → lines (textS l) = l.map bareS ++ [[]]
  | [], _ => rfl
  | i :: l, h => by
    simp only [List.all_cons, Bool.and_eq_true] at h
    have e : textS (i :: l) = bareS i ++ 10 :: textS l := by simp [textS, oneS]
    rw [e, lines_part _ _ (bare_no_ten h.1), lines_text l h.2]
    rfl
theorem told_nil : told [] = some nothing := rfl
theorem run_text : ∀ (l : List Ins) (d : Dr) (n : Int), l.all right = true → d.list.length + l.length ≤ 4096 → runL d n (l.map bareS ++ [[]]) = .inl { d with list := d.list ++ l }
  | [], d, n, _, _ => by
    simp [runL, stepL, told_nil, addL, nothing, noIns]
  | i :: l, d, n, h, hl => by
    simp only [List.all_cons, Bool.and_eq_true] at h
    simp only [List.length_cons] at hl
    have h0 : i.op ≠ 0 := by have := (tame h.1).op0; omega
    have h1 : ¬ d.list.length = 4096 := by omega
    have hs : stepL d (n + 1) (bareS i) = .inl { d with list := d.list ++ [i] } := by
      unfold stepL
      rw [told_bare h.1]
      simp [addL, h0, h1]
    rw [List.map_cons, List.cons_append, runL, hs]
    simp only
    rw [run_text l _ _ h.2 (by simp; omega)]
    simp
theorem dec_len (k u : Nat) (h : u < 10 ^ (k + 1)) : (Lib.decDigits u).length ≤ k + 1 := by rw [Lib.decDigits_length]; exact ndigits_short k u h
theorem far_len {off : Int} (gap : Str) (h0 : -32768 ≤ off) (h1 : off < 32768) : (farS off gap).length ≤ 6 + gap.length := by
  unfold farS
  split
  · rw [itoa_pos (by omega)]
    have := dec_len 4 (-off).toNat (by omega)
    simp; omega
  · rw [itoa_pos (by omega)]
    have := dec_len 4 off.toNat (by omega)
    simp; omega
theorem sec_len {i : Ins} (m0 : -2147483648 ≤ i.im) (m1 : i.im < 2147483648) : (secondS i).length ≤ 11 := by
  unfold secondS
  split
  · unfold Lib.itoa
    split
    · have := dec_len 9 i.im.natAbs (by omega)
      simp; omega
    · have := dec_len 9 i.im.toNat (by omega)
      omega
  · have := regS_len i.src; omega
theorem one_len {i : Ins} (h : right i = true) : (oneS i).length ≤ 64 := by
  have t := tame h
  have n := (name_ok h).2.2.1
  have s := sec_len t.im0 t.im1
  have f := far_len [] t.off0 t.off1
  have f2 := far_len [32] t.off0 t.off1
  have r1 := regS_len i.dst
  have r2 := regS_len i.src
  simp only [List.length_nil, List.length_cons] at f f2
  unfold oneS bareS partsS cellS
  split
  · simp; omega
  · split
    · simp [joinS]; omega
    · split
      · simp [joinS]; omega
      · split
        · simp [joinS]; omega
        · split
          · simp [joinS]; omega
          · split
            · simp [joinS]; omega
            · split
              · simp [joinS]; omega
              · simp [joinS]; omega
theorem text_len : ∀ l : List Ins, l.all right = true → (textS l).length ≤ l.length * 64
  | [], _ => by simp [textS]
  | i :: l, h => by
    simp only [List.all_cons, Bool.and_eq_true] at h
    have h1 := one_len h.1
    have h2 := text_len l h.2
    have e : textS (i :: l) = oneS i ++ textS l := by simp [textS]
    rw [e, List.length_append, List.length_cons]; omega
theorem text_back {l : List Ins} (h : l.all right = true) (hl : l.length ≤ 4096) : parseL (textS l) = (l, 0, 0) := by
  have := text_len l h
  unfold parseL
  rw [if_neg (by omega), lines_text l h, show (⟨[], [], []⟩ : Dr) = dr0 from rfl, run_text l dr0 0 h (by simp [dr0]; omega)]
  simp [linked, linkL, dr0]
theorem text_tens : ∀ l : List Ins, l.all right = true → (textS l).count 10 = l.length
  | [], _ => rfl
  | i :: l, h => by
    simp only [List.all_cons, Bool.and_eq_true] at h
    have e : textS (i :: l) = bareS i ++ 10 :: textS l := by simp [textS, oneS]
    rw [e, List.count_append, List.count_cons_self, text_tens l h.2, List.count_eq_zero_of_not_mem (bare_no_ten h.1)]
    simp
end Go.Proofs.YthfkmackodbmkaaGreatDoor
