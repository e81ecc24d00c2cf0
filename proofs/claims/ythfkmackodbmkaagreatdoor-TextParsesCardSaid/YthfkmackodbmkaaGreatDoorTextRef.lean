/- The document's own reading of a word's bytes. -/
import Derived.Test.YthfkmackodbmkaaGreatDoorTextStd
import Derived.Test.YthfkmackodbmkaaGreatDoorTextShow
namespace Go.Proofs.YthfkmackodbmkaaGreatDoor
open Go.RowKit
set_option linter.unusedVariables false
set_option linter.unusedSimpArgs false
set_option maxRecDepth 100000
set_option maxHeartbeats 1000000

theorem wordyP (c : UInt8) (w : World) : Calls Tryz.prog 135 #[.int .u8 c.toNat] w fun e w' => e = .returned (.bool (wordC c)) ∧ w = w' := by
  have hlt := c.toNat_lt
  obtain ⟨n, hn⟩ : ∃ n : Nat, n = c.toNat := ⟨_, rfl⟩
  have hw : wordC c = ((decide (97 ≤ (n : Int)) && decide ((n : Int) ≤ 122)) || ((decide (48 ≤ (n : Int)) && decide ((n : Int) ≤ 57)) || decide ((n : Int) = 95))) := by
    simp only [wordC, letterC, digitC, ← hn]
    rw [Bool.eq_iff_iff]; simp; omega
  rw [hw, ← hn]
  clear hw hn hlt
  go_enter Tryz.func135, Tryz.ntmps135
  by_cases a : 97 ≤ (n : Int) <;> by_cases b : (n : Int) ≤ 122 <;> by_cases c : 48 ≤ (n : Int) <;> by_cases d : (n : Int) ≤ 57 <;> by_cases e : (n : Int) = 95
  all_goals try (exfalso; omega)
  all_goals
    have e' : ((n : Int) == 95) = decide ((n : Int) = 95) := by rw [Bool.eq_iff_iff]; simp
    simp only [a, b, c, d, e, decide_true, decide_false, Bool.true_and, Bool.false_and, Bool.and_true, Bool.and_false, Bool.or_true, Bool.or_false, Bool.true_or, Bool.false_or] at e' ⊢
    go_wp2_with fail
    go_ret
    exact ⟨by first | rfl | (refine ret_bool ?_; simp [*]), rfl⟩
theorem signP (c : UInt8) (w : World) : Calls Tryz.prog 136 #[.int .u8 c.toNat] w fun e w' => e = .returned (.bool (signC c)) ∧ w = w' := by
  obtain ⟨n, hn⟩ : ∃ n : Nat, n = c.toNat := ⟨_, rfl⟩
  have hw : signC c = (decide ((n : Int) = 44) || (decide ((n : Int) = 91) || (decide ((n : Int) = 93) || (decide ((n : Int) = 43) || (decide ((n : Int) = 45) || decide ((n : Int) = 58)))))) := by
    have key : ∀ c : UInt8, (signC c == (decide ((c.toNat : Int) = 44) || (decide ((c.toNat : Int) = 91) || (decide ((c.toNat : Int) = 93) || (decide ((c.toNat : Int) = 43) || (decide ((c.toNat : Int) = 45) || decide ((c.toNat : Int) = 58))))))) = true :=
      fun c => all8 (p := fun c => signC c == (decide ((c.toNat : Int) = 44) || (decide ((c.toNat : Int) = 91) || (decide ((c.toNat : Int) = 93) || (decide ((c.toNat : Int) = 43) || (decide ((c.toNat : Int) = 45) || decide ((c.toNat : Int) = 58))))))) (by decide +kernel) c
    rw [hn]
    simpa using key c
  rw [hw, ← hn]
  clear hw hn
  have q : ∀ k : Int, ((n : Int) == k) = decide ((n : Int) = k) := fun k => by rw [Bool.eq_iff_iff]; simp
  go_enter Tryz.func136, Tryz.ntmps136
  have h : n = 44 ∨ n = 91 ∨ n = 93 ∨ n = 43 ∨ n = 45 ∨ n = 58 ∨ ((n : Int) ≠ 44 ∧ (n : Int) ≠ 91 ∧ (n : Int) ≠ 93 ∧ (n : Int) ≠ 43 ∧ (n : Int) ≠ 45 ∧ (n : Int) ≠ 58) := by omega
  rcases h with rfl | rfl | rfl | rfl | rfl | rfl | ⟨h1, h2, h3, h4, h5, h6⟩
  iterate 6 (
    · clear q
      go_wp2_with fail
      go_ret
      exact ⟨rfl, rfl⟩)
  · have a1 := q 44
    have a2 := q 91
    have a3 := q 93
    have a4 := q 43
    have a5 := q 45
    have a6 := q 58
    simp only [h1, h2, h3, h4, h5, h6, decide_false, Bool.false_or] at a1 a2 a3 a4 a5 a6 ⊢
    clear q h1 h2 h3 h4 h5 h6
    go_wp2_with fail
    go_ret
    exact ⟨rfl, rfl⟩
theorem labelP' (s : Str) (hs : s.length ≤ 1000000000) (w : World) : Calls Tryz.prog 70 #[str s] w fun e w' => e = .returned (.bool (labelOk s)) ∧ w = w' := by
  go_enter Tryz.func70, Tryz.ntmps70
  cases s with
  | nil =>
    go_wp2_with fail
    go_ret
    exact ⟨rfl, rfl⟩
  | cons c r =>
    have hc0 : (⟨(c :: r).toArray⟩ : ByteArray).size = r.length + 1 := by simp [ByteArray.size]
    have h1 : decide ((1 : Int) ≤ (r.length : Int) + 1) = true := by rw [decide_eq_true_iff]; omega
    have hn : labelOk (c :: r) = (decide ((r.length : Int) + 1 ≤ 30) && (decide (97 ≤ (c.toNat : Int)) && decide ((c.toNat : Int) ≤ 122))) := by
      unfold labelOk letterC
      rw [Bool.eq_iff_iff]; simp; omega
    rw [hn]
    have hg : ∀ h : 0 < (⟨(c :: r).toArray⟩ : ByteArray).size, (⟨(c :: r).toArray⟩ : ByteArray)[0]'h = c := fun _ => rfl
    clear hn
    by_cases a : (r.length : Int) + 1 ≤ 30 <;> by_cases b : 97 ≤ (c.toNat : Int) <;> by_cases d : (c.toNat : Int) ≤ 122
    all_goals
      simp only [a, b, d, decide_true, decide_false, Bool.true_and, Bool.false_and]
      have a' := a
      go_wp2_with fail
      all_goals
        go_ret
        exact ⟨by first | rfl | (refine ret_bool ?_; simp [*]), rfl⟩
theorem reg_name : ∀ k : Fin 11, (114 : UInt8) :: Lib.itoa (k.val : Int) = regs.getD k.val [] := by decide +kernel
theorem ixOf_take : ∀ (l : List Str) (s : Str) (k : Nat), s ∉ l.take k → l[k]? = some s → ixOf l s = some k
  | [], s, k, _, h => by simp at h
  | x :: l, s, 0, _, h => by simp at h; subst h; simp [ixOf]
  | x :: l, s, k + 1, hn, h => by
    simp only [List.take_succ_cons, List.mem_cons, not_or] at hn
    have hx : ¬ x = s := fun e => hn.1 e.symm
    rw [ixOf, if_neg hx, ixOf_take l s k hn.2 (by simpa using h)]
    rfl
theorem ixOf_all : ∀ (l : List Str) (s : Str), s ∉ l → ixOf l s = none
  | [], _, _ => rfl
  | x :: l, s, hn => by
    simp only [List.mem_cons, not_or] at hn
    have hx : ¬ x = s := fun e => hn.1 e.symm
    rw [ixOf, if_neg hx, ixOf_all l s hn.2]
    rfl
/-- The number of a register, and whether it is one. -/
def regR (s : Str) : Int × Bool := match ixOf regs s with | some k => ((k : Int), true) | none => (0, false)
theorem refReg (s : Str) (w : World) (L : Lay w) : Calls Tryz.prog 193 #[str s] w fun e w' => e = .returned (.tuple #[.int .i64 (regR s).1, .bool (regR s).2]) ∧ Below w.heap.size w w' := by
  obtain ⟨R0, hR0⟩ : ∃ R0, R0 = regR s := ⟨_, rfl⟩
  rw [← hR0]
  have HR := Lib.hid hR0
  have HL := Lib.hid L
  clear hR0 L
  go_enter Tryz.func193, Tryz.ntmps193
  go_wp2_with fail
  go_loopw [4] (fun i wr => ∃ k : Nat, k ≤ 11 ∧ i = .int .i64 k ∧ Hid (s ∉ regs.take k) ∧ Hid (Below w.heap.size w wr)) (fun i _ => 12 - (intOf i).toNat)
  case atStart => exact ⟨0, Nat.zero_le _, rfl, Lib.hid (by simp), Lib.hid (Below.refl _ _)⟩
  case round =>
    obtain ⟨k, hk, rfl, HN, HB⟩ := hrel
    by_cases hlt : k ≤ 10
    · have hd : decide ((k : Int) ≤ 10) = true := by simp; omega
      have I := itoaP (k : Int) (by omega) (by omega) wr ((HL.out).past HB.out)
      have il := itoa_short (k : Int) (by omega) (by omega)
      have C1 := run_cat (P := Tryz.prog) [114] (Lib.itoa (k : Int)) (by simp; omega)
      have rn := reg_name ⟨k, by omega⟩
      simp only at rn
      simp only [List.cons_append, List.nil_append] at C1
      rw [rn] at C1
      have HG := Lib.hid (show regs[k]? = some (regs.getD k []) by rw [List.getD_eq_getElem?_getD]; have : k < regs.length := by have : regs.length = 11 := rfl; omega
                                                                   rw [List.getElem?_eq_getElem this]; rfl)
      generalize regs.getD k [] = rk at C1 HG rn
      have HRN := Lib.hid rn
      clear il rn
      go_wp2_with fail
      refine I.mono ?_; rintro e w2 ⟨rfl, b2⟩
      have HB2 := Lib.hid ((HB.out).trans (b2.mono (HB.out).size))
      clear I b2
      by_cases hs : s = rk
      · have hs' : (s == rk) = true := by simpa using hs
        have HE := Lib.hid (show R0 = ((k : Int), true) by
          rw [HR.out]; unfold regR
          rw [ixOf_take regs s k HN.out (by rw [HG.out, hs])])
        clear hs
        go_wp2_with fail
        go_ret2
        exact ⟨by rw [HE.out]; rfl, HB2.out⟩
      · have hs' : (s == rk) = false := by simpa using hs
        have HN2 := Lib.hid (show s ∉ regs.take (k + 1) by
          rw [List.take_add_one, HG.out]
          simp only [Option.toList_some, List.mem_append, List.mem_singleton, not_or]
          exact ⟨HN.out, hs⟩)
        clear hs
        go_wp2_with fail
        go_roundw
        case rel => exact ⟨k + 1, by omega, by go_num, HN2, HB2⟩
        case measure =>
          simp only [intOf]
          omega
    · have hd : decide ((k : Int) ≤ 10) = false := by simp; omega
      have hk11 : k = 11 := by omega
      have hN := HN.out
      rw [hk11, show regs.take 11 = regs from rfl] at hN
      have HE := Lib.hid (show R0 = (0, false) by rw [HR.out]; unfold regR; rw [ixOf_all regs s hN])
      clear hN
      go_wp2_with fail
      go_ret2
      exact ⟨by rw [HE.out]; rfl, HB.out⟩
theorem digit_val (c : UInt8) : Lib.digitVal c = if 48 ≤ c.toNat ∧ c.toNat ≤ 57 then some (c.toNat - 48) else none := by
  have key : ∀ c : UInt8, (Lib.digitVal c == if 48 ≤ c.toNat ∧ c.toNat ≤ 57 then some (c.toNat - 48) else none) = true := fun c => all8 (p := fun c => Lib.digitVal c == if 48 ≤ c.toNat ∧ c.toNat ≤ 57 then some (c.toNat - 48) else none) (by decide +kernel) c
  simpa using key c
theorem dec_snoc : ∀ (l : List UInt8) (acc : Nat) (c : UInt8), Lib.decFrom acc (l ++ [c]) = (Lib.decFrom acc l).bind fun n => (Lib.digitVal c).map fun d => n * 10 + d
  | [], acc, c => by
    simp only [List.nil_append, Lib.decFrom, Option.bind_some]
    cases Lib.digitVal c <;> rfl
  | b :: l, acc, c => by
    simp only [List.cons_append, Lib.decFrom]
    cases Lib.digitVal b with
    | none => rfl
    | some d => exact dec_snoc l _ c
theorem dec_bad : ∀ (l r : List UInt8) (acc : Nat) (c : UInt8), Lib.digitVal c = none → Lib.decFrom acc (l ++ c :: r) = none
  | [], r, acc, c, h => by simp [Lib.decFrom, h]
  | b :: l, r, acc, c, h => by
    simp only [List.cons_append, Lib.decFrom]
    cases Lib.digitVal b with
    | none => rfl
    | some d => exact dec_bad l r _ c h
/-- A number's word is told: the number, and whether it is one. -/
def NumR (s : Str) (w : World) (e : Ending) (w' : World) : Prop := ∃ n : Int, e = .returned (.tuple #[.int .i64 n, .bool (numOf s).isSome]) ∧ (∀ m, numOf s = some m → n = m) ∧ -9223372036854775808 ≤ n ∧ n ≤ 9223372036854775807 ∧ Below w.heap.size w w'
theorem num_bad {s : Str} {k : Nat} {c : UInt8} (hc : s[k]? = some c) (h : ¬ (48 ≤ (c.toNat : Int) ∧ (c.toNat : Int) ≤ 57)) : numOf s = none := by
  have hk : k < s.length := (List.getElem?_eq_some_iff.1 hc).1
  have hd : Lib.digitVal c = none := by rw [digit_val, if_neg (by omega)]
  have e : s = s.take k ++ c :: s.drop (k + 1) := by
    have h1 := List.take_append_drop k s
    rw [List.drop_eq_getElem_cons hk] at h1
    rw [(List.getElem?_eq_some_iff.1 hc).2] at h1
    exact h1.symm
  have hn : Lib.decNat s = none := by
    unfold Lib.decNat
    split
    · rfl
    · rw [e]; exact dec_bad _ _ _ _ hd
  unfold numOf
  rw [hn]
  split <;> rfl
theorem refNumber (s : Str) (hs : s.length ≤ 1000000000) (w : World) : Calls Tryz.prog 212 #[str s] w (NumR s w) := by
  have hc0 : (⟨s.toArray⟩ : ByteArray).size = s.length := by simp [ByteArray.size]
  have HS := Lib.hid hs
  clear hs
  go_enter Tryz.func212, Tryz.ntmps212
  go_wp2_with fail
  go_loopw [4, 5] (fun n i wr => ∃ (k : Nat) (v : Int), k ≤ s.length ∧ n = .int .i64 v ∧ i = .int .i64 k ∧ Hid (-9223372036854775808 ≤ v ∧ v ≤ 9223372036854775807 ∧ ∃ u, Lib.decFrom 0 (s.take k) = some u ∧ (k ≤ 18 → v = u)) ∧ wr = w) (fun _ i _ => s.length - (intOf i).toNat)
  case atStart => exact ⟨0, 0, Nat.zero_le _, rfl, rfl, Lib.hid ⟨by omega, by omega, 0, rfl, fun _ => rfl⟩, rfl⟩
  case round =>
    obtain ⟨k, v, hk, rfl, rfl, HV, rfl⟩ := hrel
    by_cases hlt : k < s.length
    · have hd : decide ((k : Int) < s.length) = true := by simp; omega
      have hd2 : decide (k < s.length) = true := by simpa using hlt
      obtain ⟨c, hc⟩ : ∃ c, s[k]? = some c := ⟨s[k], by simp [hlt]⟩
      have hg : ∀ h : k < (⟨s.toArray⟩ : ByteArray).size, (⟨s.toArray⟩ : ByteArray)[k]'h = c := by
        intro h
        have := List.getElem?_eq_some_iff.1 hc
        obtain ⟨_, e⟩ := this
        exact e
      have k0 : 0 ≤ (k : Int) := by omega
      have k1 : (k : Int) < (s.length : Int) := by omega
      by_cases a : 48 ≤ (c.toNat : Int)
      · by_cases b : (c.toNat : Int) ≤ 57
        · have a' : decide ((c.toNat : Int) < 48) = false := by simp; omega
          have b' : decide ((57 : Int) < c.toNat) = false := by simp; omega
          have HC := Lib.hid (And.intro hc (And.intro a b))
          clear hc
          go_wp2_with fail
          obtain ⟨v0, v1, u, hu, hv⟩ := HV.out
          obtain ⟨hc, -, -⟩ := HC.out
          have htk : s.take (k + 1) = s.take k ++ [c] := by rw [List.take_add_one, hc]; rfl
          have hdv : Lib.digitVal c = some (c.toNat - 48) := by rw [digit_val, if_pos ⟨by omega, by omega⟩]
          have hw : wrap64 ((k : Int) + 1) = (k : Int) + 1 := IntWalk.wrap64_in _ ⟨by omega, by have := HS.out; omega⟩
          refine ⟨⟨k + 1, wrap64 (wrap64 (10 * v) + (↑c.toNat - 48)), by omega, rfl, by rw [hw]; rfl, Lib.hid ⟨by unfold wrap64; omega, by unfold wrap64; omega, u * 10 + (c.toNat - 48), by rw [htk, dec_snoc, hu, Option.bind_some, hdv]; rfl, fun hk18 => ?_⟩, trivial⟩, ?_⟩
          · have hv' := hv (by omega)
            have hlt2 := Lib.decFrom_lt _ _ _ hu
            rw [List.length_take, Nat.min_eq_left (by omega)] at hlt2
            have hp : 10 ^ k ≤ 10 ^ 17 := Nat.pow_le_pow_right (by omega) (by omega)
            have h17 : (10 : Nat) ^ 17 = 100000000000000000 := by decide
            rw [hv', IntWalk.wrap64_in (10 * (u : Int)) ⟨by omega, by omega⟩, IntWalk.wrap64_in _ ⟨by omega, by omega⟩]
            omega
          · rw [hw]
            simp only [intOf]
            omega
        · have a' : decide ((c.toNat : Int) < 48) = false := by simp; omega
          have b' : decide ((57 : Int) < c.toNat) = true := by simp; omega
          have HN := Lib.hid (num_bad hc (by omega))
          clear hc
          go_wp2_with fail
          go_ret2
          exact ⟨0, by rw [HN.out]; rfl, by rw [HN.out]; simp, by omega, by omega, Below.refl _ _⟩
      · have a' : decide ((c.toNat : Int) < 48) = true := by simp; omega
        have HN := Lib.hid (num_bad hc (by omega))
        clear hc
        go_wp2_with fail
        go_ret2
        exact ⟨0, by rw [HN.out]; rfl, by rw [HN.out]; simp, by omega, by omega, Below.refl _ _⟩
    · have hd : decide ((k : Int) < s.length) = false := by simp; omega
      have hd2 : decide (k < s.length) = false := by simpa using hlt
      have hkn : k = s.length := by omega
      obtain ⟨v0, v1, u, hu, hv⟩ := HV.out
      rw [hkn, List.take_length] at hu
      rw [hkn] at hv
      have HU := Lib.hid (And.intro hu (And.intro hv (And.intro v0 v1)))
      have HKN := Lib.hid hkn
      clear hu hv v0 v1 hd hd2 hlt hkn
      cases s with
      | nil =>
        have e : numOf [] = none := rfl
        go_wp2_with fail
        go_quiet (fail)
        go_wp2_with fail
        go_ret2
        obtain ⟨_, _, v0, v1⟩ := HU.out
        exact ⟨v, rfl, by rw [e]; simp, v0, v1, below_drewN (Below.refl _ _) _⟩
      | cons c r =>
        have hc1 : (⟨(c :: r).toArray⟩ : ByteArray).size = r.length + 1 := by simp [ByteArray.size]
        have hg : ∀ h : 0 < (⟨(c :: r).toArray⟩ : ByteArray).size, (⟨(c :: r).toArray⟩ : ByteArray)[0]'h = c := fun _ => rfl
        have h1 : decide ((1 : Int) ≤ (r.length : Int) + 1) = true := by rw [decide_eq_true_iff]; omega
        have hkk : decide ((k : Int) < (r.length : Int) + 1) = false := by rw [decide_eq_false_iff_not]; have := HKN.out; have e : (c :: r).length = r.length + 1 := rfl; omega
        have hdn : Lib.decNat (c :: r) = some u := by unfold Lib.decNat; rw [if_neg (by simp)]; exact HU.out.1
        have hnum : numOf (c :: r) = if r.length + 1 ≤ 10 ∧ (r.length + 1 = 1 ∨ c ≠ 48) then some (u : Int) else none := by
          unfold numOf; rw [hdn]; simp
        have HNUM := Lib.hid hnum
        obtain ⟨_, hvu, v0, v1⟩ := HU.out
        have HVU := Lib.hid (And.intro hvu (And.intro v0 v1))
        clear hdn hnum hvu v0 v1 HU hc0 hk
        obtain ⟨ba, ha⟩ : ∃ ba, decide ((r.length : Int) + 1 ≤ 10) = ba := ⟨_, rfl⟩
        obtain ⟨bb, hb⟩ : ∃ bb, ((r.length : Int) + 1 == 1) = bb := ⟨_, rfl⟩
        obtain ⟨bc, hcc⟩ : ∃ bc, ((c.toNat : Int) != 48) = bc := ⟨_, rfl⟩
        have HB3 := Lib.hid (And.intro ha (And.intro hb hcc))
        have e48 : c = 48 ↔ c.toNat = 48 := ⟨fun e => by rw [e]; rfl, fun e => by apply UInt8.toNat_inj.1; simpa using e⟩
        have HE48 := Lib.hid e48
        clear e48
        cases ba <;> cases bb <;> cases bc
        all_goals
          go_wp2_with fail
          go_quiet (fail)
          go_wp2_with fail
          go_ret2
          obtain ⟨g1, g2, g3⟩ := HB3.out
          obtain ⟨hvu, v0, v1⟩ := HVU.out
          have e48 := HE48.out
          simp at g1 g2 g3
          refine ⟨v, ?_, ?_, v0, v1, below_drewN (Below.refl _ _) _⟩
          · rw [HNUM.out]
            first | (rw [if_pos ⟨by omega, by first | (left; omega) | (right; rw [Ne, e48]; omega)⟩]; rfl) | (rw [if_neg (by rw [Ne, e48]; omega)]; rfl)
          · intro m hm
            rw [HNUM.out] at hm
            split at hm
            · rename_i hq
              cases hm
              exact hvu (by show r.length + 1 ≤ 18; omega)
            · cases hm
end Go.Proofs.YthfkmackodbmkaaGreatDoor
