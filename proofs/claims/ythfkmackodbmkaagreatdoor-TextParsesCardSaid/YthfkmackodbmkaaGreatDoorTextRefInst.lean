/- The document's own sizes and instructions. -/
import Derived.Test.YthfkmackodbmkaaGreatDoorTextRefA
import Derived.Deep.CutBlock
import Derived.StillTailTactics
namespace Go.Proofs.YthfkmackodbmkaaGreatDoor
open Go.RowKit
set_option linter.unusedVariables false
set_option linter.unusedSimpArgs false
set_option maxRecDepth 100000
set_option maxHeartbeats 2000000

def pow4 : List Int := [1, 2, 4, 8]
theorem sizedIn_at (s p : Str) {k : Nat} (h : k < 4) : sizedIn (pow4.drop k) s p = if s = p ++ Lib.itoa (2 ^ k : Nat) then ((2 ^ k : Nat) : Int) else sizedIn (pow4.drop (k + 1)) s p := by
  have h4 : k = 0 ∨ k = 1 ∨ k = 2 ∨ k = 3 := by omega
  have c : ∀ (k : Int) (l : List Int), sizedIn (k :: l) s p = if s = p ++ Lib.itoa k then k else sizedIn l s p := fun _ _ => rfl
  rcases h4 with rfl | rfl | rfl | rfl
  · exact c 1 [2, 4, 8]
  · exact c 2 [4, 8]
  · exact c 4 [8]
  · exact c 8 []
theorem sizedOf_eq (s p : Str) : sizedOf s p = sizedIn (pow4.drop 0) s p := rfl
theorem sizedOf_end (s p : Str) : sizedIn (pow4.drop 4) s p = 0 := rfl
theorem twice_less (n : Nat) (h : n ≤ 8 ∧ 1 ≤ n) : 17 - (intOf (.int .i64 (2 * (n : Int)))).toNat < 17 - (intOf (.int .i64 (n : Int))).toNat := by
  have e1 : (2 * (n : Int)).toNat = 2 * n := by omega
  have e2 : ((n : Int)).toNat = n := by omega
  show 17 - (2 * (n : Int)).toNat < 17 - ((n : Int)).toNat
  rw [e1, e2]
  omega
theorem refSizedW (s p : Str) (hs : s.length ≤ 1000000000) (hp : p.length ≤ 1000) (w : World) (L : Lay w) : Calls Tryz.prog 143 #[str s, str p] w fun e w' => e = .returned (.int .i64 (sizedOf s p)) ∧ Below w.heap.size w w' := by
  obtain ⟨R, hR⟩ : ∃ R, R = sizedOf s p := ⟨_, rfl⟩
  rw [← hR]
  have HR := Lib.hid hR
  have H0 := Lib.hid (show R = sizedIn (pow4.drop 0) s p by rw [hR, sizedOf_eq])
  have HL := Lib.hid L
  clear hR hs L
  go_enter Tryz.func143, Tryz.ntmps143
  go_wp2_with fail
  go_loopw [5] (fun i wr => ∃ k n : Nat, k ≤ 4 ∧ i = .int .i64 n ∧ Hid (n = 2 ^ k) ∧ Hid (R = sizedIn (pow4.drop k) s p) ∧ Hid (Below w.heap.size w wr)) (fun i _ => 17 - (intOf i).toNat)
  case atStart => exact ⟨0, 1, by omega, rfl, Lib.hid rfl, H0, Lib.hid (Below.refl _ _)⟩
  case round =>
    obtain ⟨k, n, hk, rfl, HN, HI, HB⟩ := hrel
    by_cases hlt : k < 4
    · have hn8 : n ≤ 8 ∧ 1 ≤ n := by
        have := HN.out
        have : k = 0 ∨ k = 1 ∨ k = 2 ∨ k = 3 := by omega
        rcases this with rfl | rfl | rfl | rfl <;> (rw [HN.out]; decide)
      have hd : decide ((n : Int) ≤ 8) = true := by simp; omega
      have hd2 : decide (n ≤ 8) = true := by simp; omega
      have I := itoaP (n : Int) (by omega) (by omega) wr ((HL.out).past HB.out)
      have il := itoa_short (n : Int) (by omega) (by omega)
      have C1 := run_cat (P := Tryz.prog) p (Lib.itoa (n : Int)) (by omega)
      have e0 := sizedIn_at s p hlt
      rw [← HN.out] at e0
      have HE := Lib.hid e0
      have h2 : wrap64 (2 * (n : Int)) = 2 * (n : Int) := IntWalk.wrap64_in _ ⟨by omega, by omega⟩
      have HN8 := Lib.hid hn8
      clear e0 il hn8
      generalize Lib.itoa (n : Int) = t at I C1 HE
      go_wp2_with fail
      refine I.mono ?_; rintro e w2 ⟨rfl, b2⟩
      have HB2 := Lib.hid ((HB.out).trans (b2.mono (HB.out).size))
      clear I b2
      cases q : (s == p ++ t) with
      | true =>
        have HR2 := Lib.hid (show R = (n : Int) by rw [HI.out, HE.out, if_pos (eq_of_beq q)])
        go_wp2_with fail
        go_ret
        exact ⟨by rw [HR2.out]; try rfl, HB2.out⟩
      | false =>
        have nq : ¬ s = p ++ t := by simpa using q
        have HI2 := Lib.hid (show R = sizedIn (pow4.drop (k + 1)) s p by rw [HI.out, HE.out, if_neg nq])
        have HN2 := Lib.hid (show 2 * n = 2 ^ (k + 1) by rw [HN.out, Nat.pow_succ]; omega)
        clear nq
        go_wp2_with fail
        go_roundw
        case rel => exact ⟨k + 1, 2 * n, by omega, by go_num, HN2, HI2, HB2⟩
        case measure =>
          rw [h2]
          exact twice_less n HN8.out
    · have hk4 : k = 4 := by omega
      have hn := HN.out
      rw [hk4] at hn
      have hn16 : n = 16 := hn
      have HR2 := Lib.hid (show R = 0 by rw [HI.out, hk4, sizedOf_end])
      subst hn16
      clear hk4 hn
      go_wp2_with fail
      go_ret
      exact ⟨by rw [HR2.out]; try rfl, HB.out⟩
/-- An instruction's line, not asked yet whether it is right. -/
def rdW : List Str → Option ((Ins × Str) × List Str)
  | [] => none
  | w :: r => (entry w).bind fun e => rdKind e.2 e.1 r
/-- What inst leaves. -/
def InstR (z w : World) (X : Nat) (ts : List Str) (e : Ending) (w' : World) : Prop :=
  ∃ i2 g at2 bad2, e = .returned (.tuple #[agg i2, str g]) ∧ (bad2 = false → rdW ts = some ((i2, g), [])) ∧ (bad2 = true → ∀ x, rdW ts = some x → x.2 ≠ []) ∧ g.length ≤ 1000000000 ∧ LnS z w' X ts at2 bad2 ∧ Turn (· = X) w w'
/-- What is read of an instruction goes on. -/
def Rest (ts : List Str) (i2 : Ins) (g : Str) (at2 : Nat) (bad2 : Bool) : Prop :=
  (bad2 = false → rdW ts = some ((i2, g), ts.drop at2) ∧ at2 ≤ ts.length) ∧ (bad2 = true → rdW ts = none)
theorem rest_good {ts : List Str} {i2 : Ins} {g : Str} {at2 : Nat} {bad2 : Bool} (h : Good (rdW ts) ts false (i2, g) at2 bad2) : Rest ts i2 g at2 bad2 := by
  have h2 := h.2 rfl
  cases hr : rdW ts with
  | none =>
    rw [hr] at h2
    exact ⟨fun e => (by rw [h2] at e; cases e), fun _ => hr⟩
  | some x =>
    rw [hr] at h2
    obtain ⟨a, b, c, d⟩ := h2
    exact ⟨fun _ => ⟨by rw [hr, b, ← c], d⟩, fun e => (by rw [a] at e; cases e)⟩
theorem rest_end {ts : List Str} {i2 : Ins} {g : Str} {at2 : Nat} {bad2 bad3 : Bool} (h : Rest ts i2 g at2 bad2) (h3 : bad3 = (bad2 || decide (at2 ≠ ts.length))) :
    (bad3 = false → rdW ts = some ((i2, g), [])) ∧ (bad3 = true → ∀ x, rdW ts = some x → x.2 ≠ []) := by
  cases bad2 with
  | true =>
    refine ⟨fun e => (by rw [h3] at e; cases e), fun _ x hx => ?_⟩
    rw [h.2 rfl] at hx; cases hx
  | false =>
    obtain ⟨a, b⟩ := h.1 rfl
    rw [h3]
    refine ⟨fun e => ?_, fun e x hx => ?_⟩
    · have e : at2 = ts.length := by simpa using e
      rw [a, e, List.drop_length]
    · have e : ¬ at2 = ts.length := by simpa using e
      rw [a] at hx
      cases hx
      simp only
      intro h0
      have := congrArg List.length h0
      simp at this
      omega
/-- A call that turned blocks of its own alone, but for X. -/
theorem turn_own {w w1 w2 : World} {X I : Nat} (h1 : Turn (· = X) w w1) (hI : w.heap.size ≤ I) (h2 : Turn (Two X I) w1 w2) : Turn (· = X) w w2 :=
  ⟨h2.os.trans h1.os, h2.tape.trans h1.tape, h2.output.trans h1.output, Nat.le_trans h1.size h2.size, fun k hk hn => (h2.block k (Nat.lt_of_lt_of_le hk h1.size) (fun e => by
    rcases e with e | e
    · exact hn e
    · omega)).trans (h1.block k hk hn)⟩
theorem rdW_cons {ts : List Str} (h : 0 < ts.length) : rdW ts = (entry (nx ts 0)).bind fun e => rdKind e.2 e.1 (ts.drop 1) := by
  cases ts with
  | nil => simp at h
  | cons t r => rfl
/-- What stands while an instruction is read: the line X, the instruction I, the result's block R. -/
structure IS (z w W : World) (X I R : Nat) (ts : List Str) (at2 : Nat) (bad2 : Bool) (i2 : Ins) : Prop where
  ls : LnS z W X ts at2 bad2
  oi : OcI W I i2
  res : Oc W 47 R (.int .u8 0) (.bool false) (.int .i64 0) (.int .i64 0) (.bool false) (.int .i64 0) (.int .i64 0) (.int .i64 0)
  turn : Turn (· = X) w W
  neI : I ≠ X
  neR : R ≠ X
  neIR : R ≠ I
  farI : w.heap.size ≤ I
  farR : w.heap.size ≤ R
  base : z.heap.size ≤ w.heap.size
theorem IS.go {z w W : World} {X I R : Nat} {ts : List Str} {at2 : Nat} {bad2 : Bool} {i2 : Ins} (h : IS z w W X I R ts at2 bad2 i2) {at3 : Nat} {bad3 : Bool} {W' : World} (hg : LGo z W X ts at3 bad3 W') : IS z w W' X I R ts at3 bad3 i2 :=
  ⟨hg.1, h.oi.turn hg.2 h.neI, (hg.2.block R (Oc.lt h.res) h.neR).trans h.res, h.turn.trans hg.2, h.neI, h.neR, h.neIR, h.farI, h.farR, h.base⟩
theorem IS.ins {z w W : World} {X I R : Nat} {ts : List Str} {at2 : Nat} {bad2 : Bool} {i2 : Ins} (h : IS z w W X I R ts at2 bad2 i2) {at3 : Nat} {bad3 : Bool} {i3 : Ins} {W' : World} (hg : LIns z W X I ts at3 bad3 i3 W') : IS z w W' X I R ts at3 bad3 i3 :=
  ⟨hg.1, hg.2.1, (hg.2.2.block R (Oc.lt h.res) (fun e => by rcases e with e | e; exact h.neR e; exact h.neIR e)).trans h.res, turn_own h.turn h.farI hg.2.2, h.neI, h.neR, h.neIR, h.farI, h.farR, h.base⟩
theorem IS.past {z w W : World} {X I R : Nat} {ts : List Str} {at2 : Nat} {bad2 : Bool} {i2 : Ins} (h : IS z w W X I R ts at2 bad2 i2) {W' : World} (hb : Below W.heap.size W W') : IS z w W' X I R ts at2 bad2 i2 :=
  ⟨h.ls.past hb, h.oi.past hb, Oc.past h.res hb, h.turn.trans (Turn.of_below hb), h.neI, h.neR, h.neIR, h.farI, h.farR, h.base⟩
theorem IS.put {z w W : World} {X I R : Nat} {ts : List Str} {at2 : Nat} {bad2 : Bool} {i2 : Ins} (h : IS z w W X I R ts at2 bad2 i2) (k : Nat) (u : Value) {i3 : Ins} (ho : OcI (W.setCell ⟨I, k, none⟩ u) I i3) : IS z w (W.setCell ⟨I, k, none⟩ u) X I R ts at2 bad2 i3 :=
  ⟨LnS.other h.ls h.oi h.neI (Nat.le_trans h.base h.farI), ho, ((turn_ins W X I k u).block R (Oc.lt h.res) (fun e => by rcases e with e | e; exact h.neR e; exact h.neIR e)).trans h.res, turn_own h.turn h.farI (turn_ins W X I k u), h.neI, h.neR, h.neIR, h.farI, h.farR, h.base⟩
theorem IS.op {z w W : World} {X I R : Nat} {ts : List Str} {at2 : Nat} {bad2 : Bool} {i2 : Ins} (h : IS z w W X I R ts at2 bad2 i2) (n : Int) : IS z w (W.setCell ⟨I, 0, none⟩ (.int .u8 n)) X I R ts at2 bad2 { i2 with op := n } := h.put 0 _ (Oc.set0 h.oi _)
theorem IS.nw {z w W : World} {X I R : Nat} {ts : List Str} {at2 : Nat} {bad2 : Bool} {i2 : Ins} (h : IS z w W X I R ts at2 bad2 i2) (b : Bool) : IS z w (W.setCell ⟨I, 1, none⟩ (.bool b)) X I R ts at2 bad2 { i2 with nw := b } := h.put 1 _ (Oc.set1 h.oi _)
theorem IS.dst {z w W : World} {X I R : Nat} {ts : List Str} {at2 : Nat} {bad2 : Bool} {i2 : Ins} (h : IS z w W X I R ts at2 bad2 i2) (n : Int) : IS z w (W.setCell ⟨I, 2, none⟩ (.int .i64 n)) X I R ts at2 bad2 { i2 with dst := n } := h.put 2 _ (Oc.set2 h.oi _)
theorem IS.src {z w W : World} {X I R : Nat} {ts : List Str} {at2 : Nat} {bad2 : Bool} {i2 : Ins} (h : IS z w W X I R ts at2 bad2 i2) (n : Int) : IS z w (W.setCell ⟨I, 3, none⟩ (.int .i64 n)) X I R ts at2 bad2 { i2 with src := n } := h.put 3 _ (Oc.set3 h.oi _)
theorem IS.sz {z w W : World} {X I R : Nat} {ts : List Str} {at2 : Nat} {bad2 : Bool} {i2 : Ins} (h : IS z w W X I R ts at2 bad2 i2) (n : Int) : IS z w (W.setCell ⟨I, 7, none⟩ (.int .i64 n)) X I R ts at2 bad2 { i2 with sz := n } := h.put 7 _ (Oc.set7 h.oi _)
theorem IS.bad {z w W : World} {X I R : Nat} {ts : List Str} {at2 : Nat} {bad2 : Bool} {i2 : Ins} (h : IS z w W X I R ts at2 bad2 i2) (b : Bool) : IS z w (W.setCell ⟨X, 2, none⟩ (.bool b)) X I R ts at2 b i2 := h.go ⟨h.ls.mark b, turn_set _ _ _ _⟩
theorem IS.at {z w W : World} {X I R : Nat} {ts : List Str} {at2 : Nat} {bad2 : Bool} {i2 : Ins} (h : IS z w W X I R ts at2 bad2 i2) : (∃ ao cap, W.cell? ⟨X, 0, none⟩ = some (.slice ao ts.length cap)) ∧ W.cell? ⟨X, 1, none⟩ = some (.int .i64 at2) ∧ W.cell? ⟨X, 2, none⟩ = some (.bool bad2) ∧ W.frozen? ⟨X, 1, none⟩ = false ∧ W.frozen? ⟨X, 2, none⟩ = false := by
  obtain ⟨ao, cap, h1, h2⟩ := h.ls.shape
  obtain ⟨c0, c1, c2, f1, f2⟩ := h1.cells
  exact ⟨⟨ao, cap, c0⟩, c1, c2, f1, f2⟩
theorem IS.lay {z w W : World} {X I R : Nat} {ts : List Str} {at2 : Nat} {bad2 : Bool} {i2 : Ins} (h : IS z w W X I R ts at2 bad2 i2) : Lay W := h.ls.layW
theorem turn_wrote (V : World) (R : Nat) (c0 c1 c2 c3 c4 c5 c6 c7 : Value) : Turn (· = R) V (wrote V R c0 c1 c2 c3 c4 c5 c6 c7) := by
  unfold wrote
  have k : ∀ (W : World) (n : Nat) (u : Value), Turn (· = R) W (W.setCell ⟨R, n, none⟩ u) := fun W n u => turn_set W R n u
  exact (((((((k _ _ _).trans (k _ _ _)).trans (k _ _ _)).trans (k _ _ _)).trans (k _ _ _)).trans (k _ _ _)).trans (k _ _ _)).trans (k _ _ _)
theorem noStrs_ins {V : World} {R : Nat} {c0 c1 c2 c3 c4 c5 c6 c7 : Value} (h : Oc V 47 R c0 c1 c2 c3 c4 c5 c6 c7) : NoStrs V R := by
  intro cur fr hb
  rw [show V.heap[R]? = _ from h] at hb
  simp at hb
theorem Ss.turn {V V' : World} {R : Nat} {v : Value} {l : List Str} (h : Ss V v l) (ht : Turn (· = R) V V') (h2 : NoStrs V R) : Ss V' v l := by
  obtain ⟨ao, cap, hv, a, b, c⟩ := h
  refine ⟨ao, cap, hv, a, b, ?_⟩
  rcases c with c | ⟨g, o, cur, fr, e, hb, hc⟩
  · exact .inl c
  · refine .inr ⟨g, o, cur, fr, e, ?_, hc⟩
    rw [ht.block g (Array.getElem?_eq_some_iff.1 hb).1 (fun e => by subst e; exact h2 cur fr hb)]
    exact hb
/-- The result is written, the line marked: what inst leaves. -/
theorem inst_end {z w W : World} {X I R : Nat} {ts : List Str} {at2 : Nat} {bad2 : Bool} {i2 : Ins} (h : IS z w W X I R ts at2 bad2 i2) {g : Str} (hr : Rest ts i2 g at2 bad2) (hg : g.length ≤ 1000000000) {bad3 : Bool} (h3 : bad3 = (bad2 || decide (at2 ≠ ts.length))) :
    InstR z w X ts (.returned (.tuple #[agg i2, str g])) (wrote (W.setCell ⟨X, 2, none⟩ (.bool bad3)) R (.int .u8 i2.op) (.bool i2.nw) (.int .i64 i2.dst) (.int .i64 i2.src) (.bool i2.ui) (.int .i64 i2.off) (.int .i64 i2.im) (.int .i64 i2.sz)).drew ∧
    OcI (wrote (W.setCell ⟨X, 2, none⟩ (.bool bad3)) R (.int .u8 i2.op) (.bool i2.nw) (.int .i64 i2.dst) (.int .i64 i2.src) (.bool i2.ui) (.int .i64 i2.off) (.int .i64 i2.im) (.int .i64 i2.sz)).drew R i2 := by
  have hb := h.bad bad3
  have tw := turn_wrote (W.setCell ⟨X, 2, none⟩ (.bool bad3)) R (.int .u8 i2.op) (.bool i2.nw) (.int .i64 i2.dst) (.int .i64 i2.src) (.bool i2.ui) (.int .i64 i2.off) (.int .i64 i2.im) (.int .i64 i2.sz)
  have oc := wrote_oc hb.res (.int .u8 i2.op) (.bool i2.nw) (.int .i64 i2.dst) (.int .i64 i2.src) (.bool i2.ui) (.int .i64 i2.off) (.int .i64 i2.im) (.int .i64 i2.sz)
  generalize wrote (W.setCell ⟨X, 2, none⟩ (.bool bad3)) R (.int .u8 i2.op) (.bool i2.nw) (.int .i64 i2.dst) (.int .i64 i2.src) (.bool i2.ui) (.int .i64 i2.off) (.int .i64 i2.im) (.int .i64 i2.sz) = W' at tw oc ⊢
  generalize W.setCell ⟨X, 2, none⟩ (.bool bad3) = V at tw hb
  obtain ⟨a, b⟩ := rest_end hr h3
  have hls : LnS z W' X ts at2 bad3 := hb.ls.turn (fun v h1 h2 => ⟨(tw.block X h1.lt (fun e => hb.neR e.symm)).trans h1, h2.turn tw (noStrs_ins hb.res)⟩) tw (fun k e => by subst e; exact Nat.le_trans hb.base hb.farR)
  have bd := (Below.refl W'.heap.size W').drew
  exact ⟨⟨i2, g, at2, bad3, rfl, a, b, hg, hls.past bd, (turn_own hb.turn h.farR (tw.mono (fun k e => .inr e))).trans (Turn.of_below bd)⟩, OcI.past (show OcI W' R i2 from oc) bd⟩
theorem opOf_zero (s : Str) (h : (opOf s).1 = 0) : (opOf s).2 = false := by
  have : ∀ (l : List Str) (n : Int), 0 < n → (opIn l n s).1 = 0 → (opIn l n s).2 = false := by
    intro l
    induction l with
    | nil => intro n _ _; rfl
    | cons x l ih =>
      intro n h0 h1
      unfold opIn at h1 ⊢
      split
      · rfl
      · rename_i c1
        rw [if_neg c1] at h1
        split
        · rename_i c2
          rw [if_pos c2] at h1
          simp only at h1
          omega
        · rename_i c2
          rw [if_neg c2] at h1
          exact ih (n + 1) (by omega) h1
  exact this wordsL 1 (by decide) h
theorem ne_nat (a b : Nat) : decide (a ≠ b) = !((a : Int) == (b : Int)) := by
  by_cases h : a = b
  · subst h; simp
  · have : ¬ (a : Int) = b := by omega
    simp [h, this]
set_option maxHeartbeats 20000000 in
theorem refInst {z w : World} {X : Nat} {ts : List Str} (h : LnS z w X ts 0 false) (hpos : 0 < ts.length) :
    Calls Tryz.prog 72 #[.pointer (some ⟨X, 0, none⟩)] w (InstR z w X ts) := by
  have B0 := alloc_below w (.cells #[.int .u8 0, .bool false, .int .i64 0, .int .i64 0, .bool false, .int .i64 0, .int .i64 0, .int .i64 0] 47)
  have R0 := oc_new w 47 (.int .u8 0) (.bool false) (.int .i64 0) (.int .i64 0) (.bool false) (.int .i64 0) (.int .i64 0) (.int .i64 0)
  have N := lnTake (h.past B0) (by omega)
  have hrw := rdW_cons hpos
  rw [← disp_entry] at hrw
  have hs := nx_short h.short 0
  have hX := h.lt
  have hzw := h.below.size
  have hz0 : (w.alloc (.cells #[.int .u8 0, .bool false, .int .i64 0, .int .i64 0, .bool false, .int .i64 0, .int .i64 0, .int .i64 0] 47)).heap.size = w.heap.size + 1 := by simp
  have HRW := Lib.hid hrw
  have HP := Lib.hid hpos
  have HR0 := Lib.hid R0
  have HB0 := Lib.hid B0
  have HF := Lib.hid h.far
  clear h hrw hpos R0 B0
  generalize nx ts 0 = t at N hs HRW
  go_enter Tryz.func72, Tryz.ntmps72
  go_wp2_with fail
  refine N.mono ?_; rintro e w1 ⟨rfl, H1, T1⟩
  have b1 := alloc_below w1 (.cells #[.int .u8 0, .bool false, .int .i64 0, .int .i64 0, .bool false, .int .i64 0, .int .i64 0, .int .i64 0] 47)
  have O1 := refOp t hs (w1.alloc (.cells #[.int .u8 0, .bool false, .int .i64 0, .int .i64 0, .bool false, .int .i64 0, .int .i64 0, .int .i64 0] 47))
  have hz1 := T1.size
  rw [hz0] at hz1
  have I1 := oc_new w1 47 (.int .u8 0) (.bool false) (.int .i64 0) (.int .i64 0) (.bool false) (.int .i64 0) (.int .i64 0) (.int .i64 0)
  have S1 : IS z w (w1.alloc (.cells #[.int .u8 0, .bool false, .int .i64 0, .int .i64 0, .bool false, .int .i64 0, .int .i64 0, .int .i64 0] 47)) X w1.heap.size w.heap.size ts 1 false noIns :=
    ⟨H1.past b1, I1, Oc.past ((T1.block w.heap.size (by rw [hz0]; omega) (by omega)).trans HR0.out) b1, ((Turn.of_below HB0.out).trans T1).trans (Turn.of_below b1), by omega, by omega, by omega, by omega, Nat.le_refl _, hzw⟩
  have HS1 := Lib.hid S1
  have hos := opOf_small t
  have HSZ := Lib.hid (fun p (hp : p.length ≤ 1000) W (L : Lay W) => refSizedW t p hs hp W L)
  have HGO := Lib.hid hs
  clear H1 T1 N I1 b1 S1
  generalize hI : w1.heap.size = I at *
  unfold disp at HRW
  generalize ho : opOf t = o at O1 HRW hos
  obtain ⟨o, nw⟩ := o
  simp only at hos
  go_wp2_with fail
  refine O1.mono ?_; rintro e w2 ⟨rfl, b2⟩
  have S2 := (HS1.out).past b2
  have S3 := (S2.op o).nw nw
  obtain ⟨q0, q1, q2, q3, q4, q5, q6, q7⟩ := Oc.cells S2.oi
  have fr := Oc.free S2.oi
  have j0 := fr 0
  have j1 := fr 1
  obtain ⟨p0, p1, p2, p3, p4, p5, p6, p7⟩ := Oc.cells S3.oi
  have HS3 := Lib.hid S3
  clear fr S2 S3 O1 b2
  go_upto_block 0 with fail
  go_cut [6] (fun s6 wx => ∃ (i2 : Ins) (g : Str) (at2 : Nat) (b2 : Bool), s6 = str g ∧ Hid (IS z w wx X I w.heap.size ts at2 b2 i2) ∧ Hid (Rest ts i2 g at2 b2) ∧ g.length ≤ 1000000000)
  case first =>
    by_cases e13 : o = 13
    · subst e13
      have M1 := lnReg (HS3.out).ls (by omega)
      have G1 := Lib.hid (good_reg ts 1 false)
      generalize (false || !(regR (nx ts (1))).2) = b1 at M1 G1
      generalize (regR (nx ts (1))).1 = n1 at M1 G1
      go_wp2_with fail
      refine M1.mono ?_; rintro e w1 ⟨rfl, g1⟩
      have T1 := Lib.hid ((HS3.out).go g1)
      clear M1 g1
      obtain ⟨q0, q1, q2, q3, q4, q5, q6, q7⟩ := Oc.cells (T1.out).oi
      have j2 := Oc.free (T1.out).oi 2
      have U1 := Lib.hid ((T1.out).dst n1)
      have HW := Lib.hid (show rdW ts = rdKind .target ⟨13, nw, 0, 0, false, 0, 0, 0⟩ (ts.drop 1) by rw [HRW.out]; rfl)
      have RE := Lib.hid (rest_good (g := []) (by rw [HW.out]; exact ((G1.out).map rfl).map rfl))
      go_wp2_with fail
      go_meet
      exact ⟨_, [], _, _, rfl, U1, RE, by simp⟩
    have q13 : (o == 13) = false := by simpa using e13
    have H13 := Lib.hid e13
    clear e13
    by_cases e17 : 17 ≤ o
    · have d17 : decide (17 ≤ o) = true := by simpa using e17
      have H17 := Lib.hid e17
      clear e17
      have M2 := lnReg (HS3.out).ls (by omega)
      have G2 := Lib.hid (good_reg ts 1 false)
      generalize (false || !(regR (nx ts (1))).2) = b2 at M2 G2
      generalize (regR (nx ts (1))).1 = n2 at M2 G2
      go_wp2_with fail
      refine M2.mono ?_; rintro e w2 ⟨rfl, g2⟩
      have T2 := Lib.hid ((HS3.out).go g2)
      clear M2 g2
      obtain ⟨q0, q1, q2, q3, q4, q5, q6, q7⟩ := Oc.cells (T2.out).oi
      have j2 := Oc.free (T2.out).oi 2
      have U2 := Lib.hid ((T2.out).dst n2)
      have M3 := lnMust (U2.out).ls (by omega) [44]
      have G3 := Lib.hid (good_sign (c := [44]) (by decide) ts (2) b2)
      generalize (b2 || decide (nx ts (2) ≠ [44])) = b3 at M3 G3
      go_wp2_with fail
      refine M3.mono ?_; rintro e w3 ⟨rfl, g3⟩
      have U3 := Lib.hid ((U2.out).go g3)
      clear M3 g3
      have M4 := lnSecond (U3.out).ls (U3.out).oi (U3.out).neI (Nat.le_trans (U3.out).base (U3.out).farI) (by omega) (fun hb => (G3.out).within hb)
      go_wp2_with fail
      refine M4.mono ?_; rintro e w4 ⟨i4, at4, b4, rfl, g4, hat4, h4⟩
      have G4 := Lib.hid g4
      have U4 := Lib.hid ((U3.out).ins h4)
      clear M4 g4 h4
      have M5 := lnMust (U4.out).ls (by omega) [44]
      have G5 := Lib.hid (good_sign (c := [44]) (by decide) ts (at4) b4)
      generalize (b4 || decide (nx ts (at4) ≠ [44])) = b5 at M5 G5
      go_wp2_with fail
      refine M5.mono ?_; rintro e w5 ⟨rfl, g5⟩
      have U5 := Lib.hid ((U4.out).go g5)
      clear M5 g5
      have M6 := lnTo (U5.out).ls (U5.out).oi (U5.out).neI (Nat.le_trans (U5.out).base (U5.out).farI) (by omega)
      go_wp2_with fail
      refine M6.mono ?_; rintro e w6 ⟨gs, i6, at6, b6, rfl, g6, hat6, hgs, h6⟩
      have G6 := Lib.hid g6
      have HGS := Lib.hid hgs
      have U6 := Lib.hid ((U5.out).ins h6)
      clear M6 g6 h6 hgs
      have HW := Lib.hid (show rdW ts = rdKind .ask ⟨o, nw, 0, 0, false, 0, 0, 0⟩ (ts.drop 1) by rw [HRW.out, if_neg H13.out, if_pos H17.out]; rfl)
      have RE := Lib.hid (rest_good (g := gs) (by rw [HW.out]; exact (((G2.out).map rfl).bind ((G3.out).bind (G4.out))).bind ((G5.out).bind (G6.out))))
      go_wp2_with fail
      go_meet
      exact ⟨_, gs, _, _, rfl, U6, RE, HGS.out⟩
    have d17 : decide (17 ≤ o) = false := by simpa using e17
    have H17 := Lib.hid e17
    clear e17
    by_cases e0 : 0 < o
    · have d0 : decide (0 < o) = true := by simpa using e0
      have H0 := Lib.hid e0
      clear e0
      have M7 := lnReg (HS3.out).ls (by omega)
      have G7 := Lib.hid (good_reg ts 1 false)
      generalize (false || !(regR (nx ts (1))).2) = b7 at M7 G7
      generalize (regR (nx ts (1))).1 = n7 at M7 G7
      go_wp2_with fail
      refine M7.mono ?_; rintro e w7 ⟨rfl, g7⟩
      have T7 := Lib.hid ((HS3.out).go g7)
      clear M7 g7
      obtain ⟨q0, q1, q2, q3, q4, q5, q6, q7⟩ := Oc.cells (T7.out).oi
      have j2 := Oc.free (T7.out).oi 2
      have U7 := Lib.hid ((T7.out).dst n7)
      have M8 := lnMust (U7.out).ls (by omega) [44]
      have G8 := Lib.hid (good_sign (c := [44]) (by decide) ts (2) b7)
      generalize (b7 || decide (nx ts (2) ≠ [44])) = b8 at M8 G8
      go_wp2_with fail
      refine M8.mono ?_; rintro e w8 ⟨rfl, g8⟩
      have U8 := Lib.hid ((U7.out).go g8)
      clear M8 g8
      have M9 := lnSecond (U8.out).ls (U8.out).oi (U8.out).neI (Nat.le_trans (U8.out).base (U8.out).farI) (by omega) (fun hb => (G8.out).within hb)
      go_wp2_with fail
      refine M9.mono ?_; rintro e w9 ⟨i9, at9, b9, rfl, g9, hat9, h9⟩
      have G9 := Lib.hid g9
      have U9 := Lib.hid ((U8.out).ins h9)
      clear M9 g9 h9
      have HW := Lib.hid (show rdW ts = rdKind .reckon ⟨o, nw, 0, 0, false, 0, 0, 0⟩ (ts.drop 1) by rw [HRW.out, if_neg H13.out, if_neg (by have := H17.out; omega), if_pos H0.out]; rfl)
      have RE := Lib.hid (rest_good (g := []) (by rw [HW.out]; exact (((G7.out).map rfl).bind ((G8.out).bind (G9.out))).map rfl))
      go_wp2_with fail
      go_meet
      exact ⟨_, [], _, _, rfl, U9, RE, by simp⟩
    have o0 : o = 0 := by have := H17.out; omega
    have hnw : nw = false := by have := opOf_zero t (by rw [ho]; exact o0); rw [ho] at this; exact this
    subst o0 hnw
    have CL : ∀ W, Lay W → Calls Tryz.prog 143 #[str t, str [108, 111, 97, 100]] W fun e w' => e = .returned (.int .i64 (sizedOf t loadW)) ∧ Below W.heap.size W w' := fun W L => HSZ.out loadW (by decide) W L
    have CP : ∀ W, Lay W → Calls Tryz.prog 143 #[str t, str [112, 117, 116]] W fun e w' => e = .returned (.int .i64 (sizedOf t putW)) ∧ Below W.heap.size W w' := fun W L => HSZ.out putW (by decide) W L
    have HR2 := HRW.out
    simp only [show ¬ (0 : Int) = 13 by decide, show ¬ (17 : Int) ≤ 0 by decide, show ¬ (0 : Int) < 0 by decide, if_false] at HR2
    generalize sizedOf t loadW = szl at CL HR2
    generalize sizedOf t putW = szp at CP HR2
    have HR3 := Lib.hid HR2
    clear HRW HR2 H13 q13 H17 d17 e0 hos
    by_cases el : 0 < szl
    · have dl : decide (0 < szl) = true := by simpa using el
      have Kl := Lib.hid el
      clear el
      have M10 := CL _ (HS3.out).lay
      go_wp2_with fail
      refine M10.mono ?_; rintro e w10 ⟨rfl, d10⟩
      have U10 := Lib.hid ((HS3.out).past d10)
      clear M10 d10
      obtain ⟨q0, q1, q2, q3, q4, q5, q6, q7⟩ := Oc.cells (U10.out).oi
      have j0 := Oc.free (U10.out).oi 0
      have U11 := Lib.hid ((U10.out).op 14)
      have M12 := CL _ (U11.out).lay
      go_wp2_with fail
      refine M12.mono ?_; rintro e w12 ⟨rfl, d12⟩
      have U12 := Lib.hid ((U11.out).past d12)
      clear M12 d12
      obtain ⟨q0, q1, q2, q3, q4, q5, q6, q7⟩ := Oc.cells (U12.out).oi
      have j7 := Oc.free (U12.out).oi 7
      have U13 := Lib.hid ((U12.out).sz szl)
      have M14 := lnReg (U13.out).ls (by omega)
      have G14 := Lib.hid (good_reg ts 1 false)
      generalize (false || !(regR (nx ts (1))).2) = b14 at M14 G14
      generalize (regR (nx ts (1))).1 = n14 at M14 G14
      go_wp2_with fail
      refine M14.mono ?_; rintro e w14 ⟨rfl, g14⟩
      have T14 := Lib.hid ((U13.out).go g14)
      clear M14 g14
      obtain ⟨q0, q1, q2, q3, q4, q5, q6, q7⟩ := Oc.cells (T14.out).oi
      have j2 := Oc.free (T14.out).oi 2
      have U14 := Lib.hid ((T14.out).dst n14)
      have M15 := lnMust (U14.out).ls (by omega) [44]
      have G15 := Lib.hid (good_sign (c := [44]) (by decide) ts (2) b14)
      generalize (b14 || decide (nx ts (2) ≠ [44])) = b15 at M15 G15
      go_wp2_with fail
      refine M15.mono ?_; rintro e w15 ⟨rfl, g15⟩
      have U15 := Lib.hid ((U14.out).go g15)
      clear M15 g15
      have M16 := lnCell (U15.out).ls (U15.out).oi (U15.out).neI (Nat.le_trans (U15.out).base (U15.out).farI) (by omega)
      go_wp2_with fail
      refine M16.mono ?_; rintro e w16 ⟨n16, off16, b16, rfl, g16, h16⟩
      have G16 := Lib.hid g16
      have T16 := Lib.hid ((U15.out).ins h16)
      clear M16 g16 h16
      obtain ⟨q0, q1, q2, q3, q4, q5, q6, q7⟩ := Oc.cells (T16.out).oi
      have j3 := Oc.free (T16.out).oi 3
      have U16 := Lib.hid ((T16.out).src n16)
      have HW := Lib.hid (show rdW ts = rdKind .load ⟨14, false, 0, 0, false, 0, 0, szl⟩ (ts.drop 1) by rw [HR3.out, if_pos Kl.out]; rfl)
      have RE := Lib.hid (rest_good (g := []) (by rw [HW.out]; exact (((G14.out).map rfl).bind ((G15.out).bind ((G16.out).map rfl))).map rfl))
      go_wp2_with fail
      go_meet
      exact ⟨_, [], _, _, rfl, U16, RE, by simp⟩
    have dl : decide (0 < szl) = false := by simpa using el
    have Kl := Lib.hid el
    clear el
    by_cases ep : 0 < szp
    · have dp : decide (0 < szp) = true := by simpa using ep
      have Kp := Lib.hid ep
      clear ep
      have M17 := CL _ (HS3.out).lay
      go_wp2_with fail
      refine M17.mono ?_; rintro e w17 ⟨rfl, d17⟩
      have U17 := Lib.hid ((HS3.out).past d17)
      clear M17 d17
      have M18 := CP _ (U17.out).lay
      go_wp2_with fail
      refine M18.mono ?_; rintro e w18 ⟨rfl, d18⟩
      have U18 := Lib.hid ((U17.out).past d18)
      clear M18 d18
      obtain ⟨q0, q1, q2, q3, q4, q5, q6, q7⟩ := Oc.cells (U18.out).oi
      have j0 := Oc.free (U18.out).oi 0
      have U19 := Lib.hid ((U18.out).op 15)
      have M20 := CP _ (U19.out).lay
      go_wp2_with fail
      refine M20.mono ?_; rintro e w20 ⟨rfl, d20⟩
      have U20 := Lib.hid ((U19.out).past d20)
      clear M20 d20
      obtain ⟨q0, q1, q2, q3, q4, q5, q6, q7⟩ := Oc.cells (U20.out).oi
      have j7 := Oc.free (U20.out).oi 7
      have U21 := Lib.hid ((U20.out).sz szp)
      have M22 := lnCell (U21.out).ls (U21.out).oi (U21.out).neI (Nat.le_trans (U21.out).base (U21.out).farI) (by omega)
      go_wp2_with fail
      refine M22.mono ?_; rintro e w22 ⟨n22, off22, b22, rfl, g22, h22⟩
      have G22 := Lib.hid g22
      have T22 := Lib.hid ((U21.out).ins h22)
      clear M22 g22 h22
      obtain ⟨q0, q1, q2, q3, q4, q5, q6, q7⟩ := Oc.cells (T22.out).oi
      have j2 := Oc.free (T22.out).oi 2
      have U22 := Lib.hid ((T22.out).dst n22)
      have M23 := lnMust (U22.out).ls (by omega) [44]
      have G23 := Lib.hid (good_sign (c := [44]) (by decide) ts (6) b22)
      generalize (b22 || decide (nx ts (6) ≠ [44])) = b23 at M23 G23
      go_wp2_with fail
      refine M23.mono ?_; rintro e w23 ⟨rfl, g23⟩
      have U23 := Lib.hid ((U22.out).go g23)
      clear M23 g23
      have M24 := lnSecond (U23.out).ls (U23.out).oi (U23.out).neI (Nat.le_trans (U23.out).base (U23.out).farI) (by omega) (fun hb => (G23.out).within hb)
      go_wp2_with fail
      refine M24.mono ?_; rintro e w24 ⟨i24, at24, b24, rfl, g24, hat24, h24⟩
      have G24 := Lib.hid g24
      have U24 := Lib.hid ((U23.out).ins h24)
      clear M24 g24 h24
      have HW := Lib.hid (show rdW ts = rdKind .put ⟨15, false, 0, 0, false, 0, 0, szp⟩ (ts.drop 1) by rw [HR3.out, if_neg (by have := Kl.out; omega), if_pos Kp.out]; rfl)
      have RE := Lib.hid (rest_good (g := []) (by rw [HW.out]; exact ((G22.out).bind ((G23.out).bind (G24.out))).map rfl))
      go_wp2_with fail
      go_meet
      exact ⟨_, [], _, _, rfl, U24, RE, by simp⟩
    have dp : decide (0 < szp) = false := by simpa using ep
    have Kp := Lib.hid ep
    clear ep
    by_cases ej : t = [106, 117, 109, 112]
    · have qj : (t == [106, 117, 109, 112]) = true := by simpa using ej
      have Kj := Lib.hid ej
      clear ej
      have M25 := CL _ (HS3.out).lay
      go_wp2_with fail
      refine M25.mono ?_; rintro e w25 ⟨rfl, d25⟩
      have U25 := Lib.hid ((HS3.out).past d25)
      clear M25 d25
      have M26 := CP _ (U25.out).lay
      go_wp2_with fail
      refine M26.mono ?_; rintro e w26 ⟨rfl, d26⟩
      have U26 := Lib.hid ((U25.out).past d26)
      clear M26 d26
      obtain ⟨q0, q1, q2, q3, q4, q5, q6, q7⟩ := Oc.cells (U26.out).oi
      have j0 := Oc.free (U26.out).oi 0
      have U27 := Lib.hid ((U26.out).op 16)
      have M28 := lnTo (U27.out).ls (U27.out).oi (U27.out).neI (Nat.le_trans (U27.out).base (U27.out).farI) (by omega)
      go_wp2_with fail
      refine M28.mono ?_; rintro e w28 ⟨gs, i28, at28, b28, rfl, g28, hat28, hgs, h28⟩
      have G28 := Lib.hid g28
      have HGS := Lib.hid hgs
      have U28 := Lib.hid ((U27.out).ins h28)
      clear M28 g28 h28 hgs
      have HW := Lib.hid (show rdW ts = rdKind .jump ⟨16, false, 0, 0, false, 0, 0, 0⟩ (ts.drop 1) by rw [HR3.out, if_neg (by have := Kl.out; omega), if_neg (by have := Kp.out; omega), if_pos (show t = jumpW from Kj.out)]; rfl)
      have RE := Lib.hid (rest_good (g := gs) (by rw [HW.out]; exact (G28.out)))
      go_wp2_with fail
      go_meet
      exact ⟨_, gs, _, _, rfl, U28, RE, HGS.out⟩
    have qj : (t == [106, 117, 109, 112]) = false := by simpa using ej
    have Kj := Lib.hid ej
    clear ej
    by_cases ee : t = [101, 120, 105, 116]
    · have qe : (t == [101, 120, 105, 116]) = true := by simpa using ee
      have Ke := Lib.hid ee
      clear ee
      have M29 := CL _ (HS3.out).lay
      go_wp2_with fail
      refine M29.mono ?_; rintro e w29 ⟨rfl, d29⟩
      have U29 := Lib.hid ((HS3.out).past d29)
      clear M29 d29
      have M30 := CP _ (U29.out).lay
      go_wp2_with fail
      refine M30.mono ?_; rintro e w30 ⟨rfl, d30⟩
      have U30 := Lib.hid ((U29.out).past d30)
      clear M30 d30
      obtain ⟨q0, q1, q2, q3, q4, q5, q6, q7⟩ := Oc.cells (U30.out).oi
      have j0 := Oc.free (U30.out).oi 0
      have U31 := Lib.hid ((U30.out).op 28)
      have HPP := HP.out
      have HW := Lib.hid (show rdW ts = rdKind .exit ⟨28, false, 0, 0, false, 0, 0, 0⟩ (ts.drop 1) by rw [HR3.out, if_neg (by have := Kl.out; omega), if_neg (by have := Kp.out; omega), if_neg (show ¬ t = jumpW from Kj.out), if_pos (show t = exitW from Ke.out)]; rfl)
      have RE := Lib.hid (rest_good (g := []) (by rw [HW.out]; exact ⟨fun e => (by cases e), fun _ => ⟨rfl, rfl, rfl, HPP⟩⟩))
      go_wp2_with fail
      go_meet
      exact ⟨_, [], _, _, rfl, U31, RE, by simp⟩
    have qe : (t == [101, 120, 105, 116]) = false := by simpa using ee
    have Ke := Lib.hid ee
    clear ee
    have M32 := CL _ (HS3.out).lay
    go_wp2_with fail
    refine M32.mono ?_; rintro e w32 ⟨rfl, d32⟩
    have U32 := Lib.hid ((HS3.out).past d32)
    clear M32 d32
    have M33 := CP _ (U32.out).lay
    go_wp2_with fail
    refine M33.mono ?_; rintro e w33 ⟨rfl, d33⟩
    have U33 := Lib.hid ((U32.out).past d33)
    clear M33 d33
    obtain ⟨⟨aq, cq, c0⟩, c1, c2, f1, f2⟩ := (U33.out).at
    have UE := Lib.hid ((U33.out).bad true)
    have HN := Lib.hid (show rdW ts = none by rw [HR3.out, if_neg (by have := Kl.out; omega), if_neg (by have := Kp.out; omega), if_neg (show ¬ t = jumpW from Kj.out), if_neg (show ¬ t = exitW from Ke.out)]; rfl)
    go_wp2_with fail
    go_meet
    exact ⟨_, [], _, _, rfl, UE, Lib.hid ⟨fun e => (by cases e), fun _ => HN.out⟩, by simp⟩
  case rest =>
    obtain ⟨i2, g, at2, b2, rfl, SF, RE, hg⟩ := hcut
    have EN := Lib.hid (fun b3 h3 => inst_end SF.out RE.out hg (bad3 := b3) h3)
    have HA2 := ne_nat at2 ts.length
    obtain ⟨⟨aq, cq, c0⟩, c1, c2, f1, f2⟩ := (SF.out).at
    obtain ⟨y0, y1, y2, y3, y4, y5, y6, y7⟩ := Oc.cells (SF.out).oi
    have HRS := Lib.hid (SF.out).res
    obtain ⟨e0, e1, e2, e3, e4, e5, e6, e7⟩ := Oc.cells HRS.out
    have fr := Oc.free HRS.out
    have r0 := fr 0
    have r1 := fr 1
    have r2 := fr 2
    have r3 := fr 3
    have r4 := fr 4
    have r5 := fr 5
    have r6 := fr 6
    have r7 := fr 7
    clear fr
    clear HRW HSZ HGO HS3 HS1 p0 p1 p2 p3 p4 p5 p6 p7 q0 q1 q2 q3 q4 q5 q6 q7 j0 j1 hos HR0 HB0
    cases hc : ((at2 : Int) == (ts.length : Int)) <;> cases b2
    · rw [hc] at HA2
      have hcn : ((at2 : Int) != (ts.length : Int)) = true := by rw [bne, hc]; rfl
      go_wp2_with fail
      refine wp_region_held_drew (S := fun w' => w'.cell? ⟨X, 0, none⟩ = some (.slice aq ts.length cq) ∧ w'.cell? ⟨X, 1, none⟩ = some (.int .i64 at2)) (by kernel_rfl) ⟨c0, c1⟩ (fun _ => ?_)
      have S0 := And.intro c0 c1
      refine wpAnyH_take (i := 0) (v := ?v0t1) rfl (by kernel_rfl) (by kernel_rfl) (by kernel_rfl) (fun _ _ _ h => h) (Or.inl ⟨by rfl, ?y0t1⟩) S0 ?z0t1
      case y0t1 => intro w_ hSw; go_simp; with_reducible rfl
      try simp only [List.getElem_toArray, List.getElem_cons_zero, List.getElem_cons_succ, Act.put, List.setIfInBounds_toArray, List.set_cons_zero, List.set_cons_succ]
      refine wpAnyH_take (i := 1) (v := ?v1t2) rfl (by kernel_rfl) (by kernel_rfl) (by kernel_rfl) (fun _ _ _ h => h) (Or.inl ⟨by rfl, ?y1t2⟩) S0 ?z1t2
      case y1t2 => intro w_ hSw; go_simp; with_reducible rfl
      try simp only [List.getElem_toArray, List.getElem_cons_zero, List.getElem_cons_succ, Act.put, List.setIfInBounds_toArray, List.set_cons_zero, List.set_cons_succ]
      refine wpAnyH_take (i := 2) (v := ?v2t3) rfl (by kernel_rfl) (by kernel_rfl) (by kernel_rfl) (fun _ _ _ h => h) (Or.inl ⟨by rfl, ?y2t3⟩) S0 ?z2t3
      case y2t3 => intro w_ hSw; go_simp; with_reducible rfl
      try simp only [List.getElem_toArray, List.getElem_cons_zero, List.getElem_cons_succ, Act.put, List.setIfInBounds_toArray, List.set_cons_zero, List.set_cons_succ]
      refine wpAnyH_take (i := 3) (v := ?v3t4) rfl (by kernel_rfl) (by kernel_rfl) (by kernel_rfl) (fun _ _ _ h => h) (Or.inl ⟨by rfl, ?y3t4⟩) S0 ?z3t4
      case y3t4 => intro w_ hSw; go_simp; with_reducible rfl
      try simp only [List.getElem_toArray, List.getElem_cons_zero, List.getElem_cons_succ, Act.put, List.setIfInBounds_toArray, List.set_cons_zero, List.set_cons_succ]
      refine wpAnyH_ready (rs := [4]) (by kernel_rfl) (by simp) ?_
      refine AllReadyH.cons rfl (fun K hK => ?_) AllReadyH.nil
      go_simp
      refine hK.out _ _ S0 (fun _ => ?_)
      clear hK K
      try simp only [List.getElem_toArray, List.getElem_cons_zero, List.getElem_cons_succ, Act.put, List.setIfInBounds_toArray, List.set_cons_zero, List.set_cons_succ]
      refine wpAnyH_take (i := 5) (v := ?v5t5) rfl (by kernel_rfl) (by kernel_rfl) (by kernel_rfl) (fun _ _ _ h => h) (Or.inl ⟨by rfl, ?y5t5⟩) S0 ?z5t5
      case y5t5 => intro w_ hSw; go_simp; with_reducible rfl
      try simp only [List.getElem_toArray, List.getElem_cons_zero, List.getElem_cons_succ, Act.put, List.setIfInBounds_toArray, List.set_cons_zero, List.set_cons_succ]
      refine wpAnyH_take (i := 6) (v := ?v6t6) rfl (by kernel_rfl) (by kernel_rfl) (by kernel_rfl) (fun _ _ _ h => h) (Or.inl ⟨by rfl, ?y6t6⟩) S0 ?z6t6
      case y6t6 => intro w_ hSw; go_simp; with_reducible rfl
      try simp only [List.getElem_toArray, List.getElem_cons_zero, List.getElem_cons_succ, Act.put, List.setIfInBounds_toArray, List.set_cons_zero, List.set_cons_succ]
      refine wpAnyH_take (i := 7) (v := ?v7t7) rfl (by kernel_rfl) (by kernel_rfl) (by kernel_rfl) (fun _ _ _ h => h) (Or.inl ⟨by rfl, ?y7t7⟩) S0 ?z7t7
      case y7t7 => intro w_ hSw; go_simp; with_reducible rfl
      try simp only [List.getElem_toArray, List.getElem_cons_zero, List.getElem_cons_succ, Act.put, List.setIfInBounds_toArray, List.set_cons_zero, List.set_cons_succ]
      refine wpAnyH_take (i := 8) (v := ?v8t8) rfl (by kernel_rfl) (by kernel_rfl) (by kernel_rfl) (fun _ _ _ h => h) (Or.inl ⟨by rfl, ?y8t8⟩) S0 ?z8t8
      case y8t8 => intro w_ hSw; go_simp; with_reducible rfl
      try simp only [List.getElem_toArray, List.getElem_cons_zero, List.getElem_cons_succ, Act.put, List.setIfInBounds_toArray, List.set_cons_zero, List.set_cons_succ]
      refine wpAnyH_take (i := 9) (v := ?v9t9) rfl (by kernel_rfl) (by kernel_rfl) (by kernel_rfl) (fun _ _ _ h => h) (Or.inl ⟨by rfl, ?y9t9⟩) S0 ?z9t9
      case y9t9 => intro w_ hSw; (try dsimp only at hSw); go_simp; with_reducible rfl
      try simp only [List.getElem_toArray, List.getElem_cons_zero, List.getElem_cons_succ, Act.put, List.setIfInBounds_toArray, List.set_cons_zero, List.set_cons_succ]
      refine wpAnyH_take (i := 10) (v := ?v10t10) rfl (by kernel_rfl) (by kernel_rfl) (by kernel_rfl) (fun _ _ _ h => h) (Or.inl ⟨by rfl, ?y10t10⟩) S0 ?z10t10
      case y10t10 => intro w_ hSw; go_simp; with_reducible rfl
      try simp only [List.getElem_toArray, List.getElem_cons_zero, List.getElem_cons_succ, Act.put, List.setIfInBounds_toArray, List.set_cons_zero, List.set_cons_succ]
      refine wpAnyH_take (i := 11) (v := ?v11t11) rfl (by kernel_rfl) (by kernel_rfl) (by kernel_rfl) (fun _ _ _ h => h) (Or.inl ⟨by rfl, ?y11t11⟩) S0 ?z11t11
      case y11t11 => intro w_ hSw; go_simp; with_reducible rfl
      try simp only [List.getElem_toArray, List.getElem_cons_zero, List.getElem_cons_succ, Act.put, List.setIfInBounds_toArray, List.set_cons_zero, List.set_cons_succ]
      refine wpAnyH_take (i := 12) (v := ?v12t12) rfl (by kernel_rfl) (by kernel_rfl) (by kernel_rfl) (fun _ _ _ h => h) (Or.inl ⟨by rfl, ?y12t12⟩) S0 ?z12t12
      case y12t12 => intro w_ hSw; go_simp; with_reducible rfl
      try simp only [List.getElem_toArray, List.getElem_cons_zero, List.getElem_cons_succ, Act.put, List.setIfInBounds_toArray, List.set_cons_zero, List.set_cons_succ]
      refine wpAnyH_take (i := 13) (v := ?v13t13) rfl (by kernel_rfl) (by kernel_rfl) (by kernel_rfl) (fun _ _ _ h => h) (Or.inl ⟨by rfl, ?y13t13⟩) S0 ?z13t13
      case y13t13 => intro w_ hSw; (try dsimp only at hSw); go_simp; with_reducible rfl
      try simp only [List.getElem_toArray, List.getElem_cons_zero, List.getElem_cons_succ, Act.put, List.setIfInBounds_toArray, List.set_cons_zero, List.set_cons_succ]
      refine wpAnyH_take (i := 14) (v := ?v14t14) rfl (by kernel_rfl) (by kernel_rfl) (by kernel_rfl) (fun _ _ _ h => h) (Or.inl ⟨by rfl, ?y14t14⟩) S0 ?z14t14
      case y14t14 => intro w_ hSw; go_simp; with_reducible rfl
      try simp only [List.getElem_toArray, List.getElem_cons_zero, List.getElem_cons_succ, Act.put, List.setIfInBounds_toArray, List.set_cons_zero, List.set_cons_succ]
      refine wpAnyH_take (i := 15) (v := ?v15t15) rfl (by kernel_rfl) (by kernel_rfl) (by kernel_rfl) (fun _ _ _ h => h) (Or.inl ⟨by rfl, ?y15t15⟩) S0 ?z15t15
      case y15t15 => intro w_ hSw; go_simp; with_reducible rfl
      try simp only [List.getElem_toArray, List.getElem_cons_zero, List.getElem_cons_succ, Act.put, List.setIfInBounds_toArray, List.set_cons_zero, List.set_cons_succ]
      refine wpAnyH_take (i := 16) (v := ?v16t16) rfl (by kernel_rfl) (by kernel_rfl) (by kernel_rfl) (fun _ _ _ h => h) (Or.inl ⟨by rfl, ?y16t16⟩) S0 ?z16t16
      case y16t16 => intro w_ hSw; go_simp; with_reducible rfl
      try simp only [List.getElem_toArray, List.getElem_cons_zero, List.getElem_cons_succ, Act.put, List.setIfInBounds_toArray, List.set_cons_zero, List.set_cons_succ]
      refine wpAnyH_take (i := 17) (v := ?v17t17) rfl (by kernel_rfl) (by kernel_rfl) (by kernel_rfl) (fun _ _ _ h => h) (Or.inl ⟨by rfl, ?y17t17⟩) S0 ?z17t17
      case y17t17 => intro w_ hSw; go_simp; with_reducible rfl
      try simp only [List.getElem_toArray, List.getElem_cons_zero, List.getElem_cons_succ, Act.put, List.setIfInBounds_toArray, List.set_cons_zero, List.set_cons_succ]
      refine wpAnyH_take (i := 18) (v := ?v18t18) rfl (by kernel_rfl) (by kernel_rfl) (by kernel_rfl) (fun _ _ _ h => h) (Or.inl ⟨by rfl, ?y18t18⟩) S0 ?z18t18
      case y18t18 => intro w_ hSw; go_simp; with_reducible rfl
      try simp only [List.getElem_toArray, List.getElem_cons_zero, List.getElem_cons_succ, Act.put, List.setIfInBounds_toArray, List.set_cons_zero, List.set_cons_succ]
      refine wpAnyH_ready (rs := [19]) (by kernel_rfl) (by simp) ?_
      refine AllReadyH.cons rfl (fun K hK => ?_) AllReadyH.nil
      go_simp
      refine hK.out _ _ (And.intro (by go_simp) (by go_simp)) (fun _ => ?_)
      clear hK K
      try simp only [List.getElem_toArray, List.getElem_cons_zero, List.getElem_cons_succ, Act.put, List.setIfInBounds_toArray, List.set_cons_zero, List.set_cons_succ]
      refine wpAnyH_done (by kernel_rfl) ?_ _
      go_wp2_with fail
      have EE := EN.out true (by first | rfl | (rw [HA2]; rfl))
      change bodyPost _ _ _ _ _ (World.drew (wrote (wc.setCell ⟨X, 2, none⟩ (.bool true)) w.heap.size (.int .u8 i2.op) (.bool i2.nw) (.int .i64 i2.dst) (.int .i64 i2.src) (.bool i2.ui) (.int .i64 i2.off) (.int .i64 i2.im) (.int .i64 i2.sz)))
      generalize World.drew (wrote (wc.setCell ⟨X, 2, none⟩ (.bool true)) w.heap.size (.int .u8 i2.op) (.bool i2.nw) (.int .i64 i2.dst) (.int .i64 i2.src) (.bool i2.ui) (.int .i64 i2.off) (.int .i64 i2.im) (.int .i64 i2.sz)) = W' at EE ⊢
      obtain ⟨EI, EO⟩ := EE
      obtain ⟨z0, z1, z2, z3, z4, z5, z6, z7⟩ := Oc.cells EO
      have HEI := Lib.hid EI
      clear EI EO EN
      refine bodyPost_ret (v := .tuple #[.agg #[.int .u8 i2.op, .bool i2.nw, .int .i64 i2.dst, .int .i64 i2.src, .bool i2.ui, .int .i64 i2.off, .int .i64 i2.im, .int .i64 i2.sz], str g]) (by simp [results, Tryz.results72, go_sem, z0, z1, z2, z3, z4, z5, z6, z7]) rfl ?_
      exact HEI.out
    · rw [hc] at HA2
      have hcn : ((at2 : Int) != (ts.length : Int)) = true := by rw [bne, hc]; rfl
      go_wp2_with fail
      refine wp_region_held_drew (S := fun w' => w'.cell? ⟨X, 0, none⟩ = some (.slice aq ts.length cq) ∧ w'.cell? ⟨X, 1, none⟩ = some (.int .i64 at2)) (by kernel_rfl) ⟨c0, c1⟩ (fun _ => ?_)
      have S0 := And.intro c0 c1
      refine wpAnyH_take (i := 0) (v := ?v0t19) rfl (by kernel_rfl) (by kernel_rfl) (by kernel_rfl) (fun _ _ _ h => h) (Or.inl ⟨by rfl, ?y0t19⟩) S0 ?z0t19
      case y0t19 => intro w_ hSw; go_simp; with_reducible rfl
      try simp only [List.getElem_toArray, List.getElem_cons_zero, List.getElem_cons_succ, Act.put, List.setIfInBounds_toArray, List.set_cons_zero, List.set_cons_succ]
      refine wpAnyH_take (i := 1) (v := ?v1t20) rfl (by kernel_rfl) (by kernel_rfl) (by kernel_rfl) (fun _ _ _ h => h) (Or.inl ⟨by rfl, ?y1t20⟩) S0 ?z1t20
      case y1t20 => intro w_ hSw; go_simp; with_reducible rfl
      try simp only [List.getElem_toArray, List.getElem_cons_zero, List.getElem_cons_succ, Act.put, List.setIfInBounds_toArray, List.set_cons_zero, List.set_cons_succ]
      refine wpAnyH_take (i := 2) (v := ?v2t21) rfl (by kernel_rfl) (by kernel_rfl) (by kernel_rfl) (fun _ _ _ h => h) (Or.inl ⟨by rfl, ?y2t21⟩) S0 ?z2t21
      case y2t21 => intro w_ hSw; go_simp; with_reducible rfl
      try simp only [List.getElem_toArray, List.getElem_cons_zero, List.getElem_cons_succ, Act.put, List.setIfInBounds_toArray, List.set_cons_zero, List.set_cons_succ]
      refine wpAnyH_take (i := 3) (v := ?v3t22) rfl (by kernel_rfl) (by kernel_rfl) (by kernel_rfl) (fun _ _ _ h => h) (Or.inl ⟨by rfl, ?y3t22⟩) S0 ?z3t22
      case y3t22 => intro w_ hSw; go_simp; with_reducible rfl
      try simp only [List.getElem_toArray, List.getElem_cons_zero, List.getElem_cons_succ, Act.put, List.setIfInBounds_toArray, List.set_cons_zero, List.set_cons_succ]
      refine wpAnyH_ready (rs := [4]) (by kernel_rfl) (by simp) ?_
      refine AllReadyH.cons rfl (fun K hK => ?_) AllReadyH.nil
      go_simp
      refine hK.out _ _ S0 (fun _ => ?_)
      clear hK K
      try simp only [List.getElem_toArray, List.getElem_cons_zero, List.getElem_cons_succ, Act.put, List.setIfInBounds_toArray, List.set_cons_zero, List.set_cons_succ]
      refine wpAnyH_take (i := 5) (v := ?v5t23) rfl (by kernel_rfl) (by kernel_rfl) (by kernel_rfl) (fun _ _ _ h => h) (Or.inl ⟨by rfl, ?y5t23⟩) S0 ?z5t23
      case y5t23 => intro w_ hSw; go_simp; with_reducible rfl
      try simp only [List.getElem_toArray, List.getElem_cons_zero, List.getElem_cons_succ, Act.put, List.setIfInBounds_toArray, List.set_cons_zero, List.set_cons_succ]
      refine wpAnyH_take (i := 6) (v := undef) rfl (by kernel_rfl) (by kernel_rfl) (by kernel_rfl) (fun _ _ _ h => h) (Or.inr ⟨by rfl, rfl⟩) S0 ?_
      try simp only [List.getElem_toArray, List.getElem_cons_zero, List.getElem_cons_succ, Act.put, List.setIfInBounds_toArray, List.set_cons_zero, List.set_cons_succ]
      refine wpAnyH_take (i := 7) (v := undef) rfl (by kernel_rfl) (by kernel_rfl) (by kernel_rfl) (fun _ _ _ h => h) (Or.inr ⟨by rfl, rfl⟩) S0 ?_
      try simp only [List.getElem_toArray, List.getElem_cons_zero, List.getElem_cons_succ, Act.put, List.setIfInBounds_toArray, List.set_cons_zero, List.set_cons_succ]
      refine wpAnyH_take (i := 8) (v := undef) rfl (by kernel_rfl) (by kernel_rfl) (by kernel_rfl) (fun _ _ _ h => h) (Or.inr ⟨by rfl, rfl⟩) S0 ?_
      try simp only [List.getElem_toArray, List.getElem_cons_zero, List.getElem_cons_succ, Act.put, List.setIfInBounds_toArray, List.set_cons_zero, List.set_cons_succ]
      refine wpAnyH_take (i := 9) (v := undef) rfl (by kernel_rfl) (by kernel_rfl) (by kernel_rfl) (fun _ _ _ h => h) (Or.inr ⟨by rfl, rfl⟩) S0 ?_
      try simp only [List.getElem_toArray, List.getElem_cons_zero, List.getElem_cons_succ, Act.put, List.setIfInBounds_toArray, List.set_cons_zero, List.set_cons_succ]
      refine wpAnyH_take (i := 10) (v := undef) rfl (by kernel_rfl) (by kernel_rfl) (by kernel_rfl) (fun _ _ _ h => h) (Or.inr ⟨by rfl, rfl⟩) S0 ?_
      try simp only [List.getElem_toArray, List.getElem_cons_zero, List.getElem_cons_succ, Act.put, List.setIfInBounds_toArray, List.set_cons_zero, List.set_cons_succ]
      refine wpAnyH_take (i := 11) (v := undef) rfl (by kernel_rfl) (by kernel_rfl) (by kernel_rfl) (fun _ _ _ h => h) (Or.inr ⟨by rfl, rfl⟩) S0 ?_
      try simp only [List.getElem_toArray, List.getElem_cons_zero, List.getElem_cons_succ, Act.put, List.setIfInBounds_toArray, List.set_cons_zero, List.set_cons_succ]
      refine wpAnyH_take (i := 12) (v := undef) rfl (by kernel_rfl) (by kernel_rfl) (by kernel_rfl) (fun _ _ _ h => h) (Or.inr ⟨by rfl, rfl⟩) S0 ?_
      try simp only [List.getElem_toArray, List.getElem_cons_zero, List.getElem_cons_succ, Act.put, List.setIfInBounds_toArray, List.set_cons_zero, List.set_cons_succ]
      refine wpAnyH_take (i := 13) (v := undef) rfl (by kernel_rfl) (by kernel_rfl) (by kernel_rfl) (fun _ _ _ h => h) (Or.inr ⟨by rfl, rfl⟩) S0 ?_
      try simp only [List.getElem_toArray, List.getElem_cons_zero, List.getElem_cons_succ, Act.put, List.setIfInBounds_toArray, List.set_cons_zero, List.set_cons_succ]
      refine wpAnyH_take (i := 14) (v := undef) rfl (by kernel_rfl) (by kernel_rfl) (by kernel_rfl) (fun _ _ _ h => h) (Or.inr ⟨by rfl, rfl⟩) S0 ?_
      try simp only [List.getElem_toArray, List.getElem_cons_zero, List.getElem_cons_succ, Act.put, List.setIfInBounds_toArray, List.set_cons_zero, List.set_cons_succ]
      refine wpAnyH_take (i := 15) (v := undef) rfl (by kernel_rfl) (by kernel_rfl) (by kernel_rfl) (fun _ _ _ h => h) (Or.inr ⟨by rfl, rfl⟩) S0 ?_
      try simp only [List.getElem_toArray, List.getElem_cons_zero, List.getElem_cons_succ, Act.put, List.setIfInBounds_toArray, List.set_cons_zero, List.set_cons_succ]
      refine wpAnyH_take (i := 16) (v := ?v16t24) rfl (by kernel_rfl) (by kernel_rfl) (by kernel_rfl) (fun _ _ _ h => h) (Or.inl ⟨by rfl, ?y16t24⟩) S0 ?z16t24
      case y16t24 => intro w_ hSw; go_simp; with_reducible rfl
      try simp only [List.getElem_toArray, List.getElem_cons_zero, List.getElem_cons_succ, Act.put, List.setIfInBounds_toArray, List.set_cons_zero, List.set_cons_succ]
      refine wpAnyH_take (i := 17) (v := ?v17t25) rfl (by kernel_rfl) (by kernel_rfl) (by kernel_rfl) (fun _ _ _ h => h) (Or.inl ⟨by rfl, ?y17t25⟩) S0 ?z17t25
      case y17t25 => intro w_ hSw; go_simp; with_reducible rfl
      try simp only [List.getElem_toArray, List.getElem_cons_zero, List.getElem_cons_succ, Act.put, List.setIfInBounds_toArray, List.set_cons_zero, List.set_cons_succ]
      refine wpAnyH_take (i := 18) (v := ?v18t26) rfl (by kernel_rfl) (by kernel_rfl) (by kernel_rfl) (fun _ _ _ h => h) (Or.inl ⟨by rfl, ?y18t26⟩) S0 ?z18t26
      case y18t26 => intro w_ hSw; go_simp; with_reducible rfl
      try simp only [List.getElem_toArray, List.getElem_cons_zero, List.getElem_cons_succ, Act.put, List.setIfInBounds_toArray, List.set_cons_zero, List.set_cons_succ]
      refine wpAnyH_ready (rs := [19]) (by kernel_rfl) (by simp) ?_
      refine AllReadyH.cons rfl (fun K hK => ?_) AllReadyH.nil
      go_simp
      refine hK.out _ _ (And.intro (by go_simp) (by go_simp)) (fun _ => ?_)
      clear hK K
      try simp only [List.getElem_toArray, List.getElem_cons_zero, List.getElem_cons_succ, Act.put, List.setIfInBounds_toArray, List.set_cons_zero, List.set_cons_succ]
      refine wpAnyH_done (by kernel_rfl) ?_ _
      go_wp2_with fail
      have EE := EN.out true (by first | rfl | (rw [HA2]; rfl))
      change bodyPost _ _ _ _ _ (World.drew (wrote (wc.setCell ⟨X, 2, none⟩ (.bool true)) w.heap.size (.int .u8 i2.op) (.bool i2.nw) (.int .i64 i2.dst) (.int .i64 i2.src) (.bool i2.ui) (.int .i64 i2.off) (.int .i64 i2.im) (.int .i64 i2.sz)))
      generalize World.drew (wrote (wc.setCell ⟨X, 2, none⟩ (.bool true)) w.heap.size (.int .u8 i2.op) (.bool i2.nw) (.int .i64 i2.dst) (.int .i64 i2.src) (.bool i2.ui) (.int .i64 i2.off) (.int .i64 i2.im) (.int .i64 i2.sz)) = W' at EE ⊢
      obtain ⟨EI, EO⟩ := EE
      obtain ⟨z0, z1, z2, z3, z4, z5, z6, z7⟩ := Oc.cells EO
      have HEI := Lib.hid EI
      clear EI EO EN
      refine bodyPost_ret (v := .tuple #[.agg #[.int .u8 i2.op, .bool i2.nw, .int .i64 i2.dst, .int .i64 i2.src, .bool i2.ui, .int .i64 i2.off, .int .i64 i2.im, .int .i64 i2.sz], str g]) (by simp [results, Tryz.results72, go_sem, z0, z1, z2, z3, z4, z5, z6, z7]) rfl ?_
      exact HEI.out
    · rw [hc] at HA2
      have hcn : ((at2 : Int) != (ts.length : Int)) = false := by rw [bne, hc]; rfl
      go_wp2_with fail
      refine wp_region_held_drew (S := fun w' => w'.cell? ⟨X, 0, none⟩ = some (.slice aq ts.length cq) ∧ w'.cell? ⟨X, 1, none⟩ = some (.int .i64 at2)) (by kernel_rfl) ⟨c0, c1⟩ (fun _ => ?_)
      have S0 := And.intro c0 c1
      refine wpAnyH_take (i := 0) (v := ?v0t27) rfl (by kernel_rfl) (by kernel_rfl) (by kernel_rfl) (fun _ _ _ h => h) (Or.inl ⟨by rfl, ?y0t27⟩) S0 ?z0t27
      case y0t27 => intro w_ hSw; go_simp; with_reducible rfl
      try simp only [List.getElem_toArray, List.getElem_cons_zero, List.getElem_cons_succ, Act.put, List.setIfInBounds_toArray, List.set_cons_zero, List.set_cons_succ]
      refine wpAnyH_take (i := 1) (v := ?v1t28) rfl (by kernel_rfl) (by kernel_rfl) (by kernel_rfl) (fun _ _ _ h => h) (Or.inl ⟨by rfl, ?y1t28⟩) S0 ?z1t28
      case y1t28 => intro w_ hSw; go_simp; with_reducible rfl
      try simp only [List.getElem_toArray, List.getElem_cons_zero, List.getElem_cons_succ, Act.put, List.setIfInBounds_toArray, List.set_cons_zero, List.set_cons_succ]
      refine wpAnyH_take (i := 2) (v := ?v2t29) rfl (by kernel_rfl) (by kernel_rfl) (by kernel_rfl) (fun _ _ _ h => h) (Or.inl ⟨by rfl, ?y2t29⟩) S0 ?z2t29
      case y2t29 => intro w_ hSw; go_simp; with_reducible rfl
      try simp only [List.getElem_toArray, List.getElem_cons_zero, List.getElem_cons_succ, Act.put, List.setIfInBounds_toArray, List.set_cons_zero, List.set_cons_succ]
      refine wpAnyH_take (i := 3) (v := ?v3t30) rfl (by kernel_rfl) (by kernel_rfl) (by kernel_rfl) (fun _ _ _ h => h) (Or.inl ⟨by rfl, ?y3t30⟩) S0 ?z3t30
      case y3t30 => intro w_ hSw; go_simp; with_reducible rfl
      try simp only [List.getElem_toArray, List.getElem_cons_zero, List.getElem_cons_succ, Act.put, List.setIfInBounds_toArray, List.set_cons_zero, List.set_cons_succ]
      refine wpAnyH_ready (rs := [4]) (by kernel_rfl) (by simp) ?_
      refine AllReadyH.cons rfl (fun K hK => ?_) AllReadyH.nil
      go_simp
      refine hK.out _ _ S0 (fun _ => ?_)
      clear hK K
      try simp only [List.getElem_toArray, List.getElem_cons_zero, List.getElem_cons_succ, Act.put, List.setIfInBounds_toArray, List.set_cons_zero, List.set_cons_succ]
      refine wpAnyH_take (i := 5) (v := ?v5t31) rfl (by kernel_rfl) (by kernel_rfl) (by kernel_rfl) (fun _ _ _ h => h) (Or.inl ⟨by rfl, ?y5t31⟩) S0 ?z5t31
      case y5t31 => intro w_ hSw; go_simp; with_reducible rfl
      try simp only [List.getElem_toArray, List.getElem_cons_zero, List.getElem_cons_succ, Act.put, List.setIfInBounds_toArray, List.set_cons_zero, List.set_cons_succ]
      refine wpAnyH_take (i := 6) (v := ?v6t32) rfl (by kernel_rfl) (by kernel_rfl) (by kernel_rfl) (fun _ _ _ h => h) (Or.inl ⟨by rfl, ?y6t32⟩) S0 ?z6t32
      case y6t32 => intro w_ hSw; go_simp; with_reducible rfl
      try simp only [List.getElem_toArray, List.getElem_cons_zero, List.getElem_cons_succ, Act.put, List.setIfInBounds_toArray, List.set_cons_zero, List.set_cons_succ]
      refine wpAnyH_take (i := 7) (v := ?v7t33) rfl (by kernel_rfl) (by kernel_rfl) (by kernel_rfl) (fun _ _ _ h => h) (Or.inl ⟨by rfl, ?y7t33⟩) S0 ?z7t33
      case y7t33 => intro w_ hSw; go_simp; with_reducible rfl
      try simp only [List.getElem_toArray, List.getElem_cons_zero, List.getElem_cons_succ, Act.put, List.setIfInBounds_toArray, List.set_cons_zero, List.set_cons_succ]
      refine wpAnyH_take (i := 8) (v := ?v8t34) rfl (by kernel_rfl) (by kernel_rfl) (by kernel_rfl) (fun _ _ _ h => h) (Or.inl ⟨by rfl, ?y8t34⟩) S0 ?z8t34
      case y8t34 => intro w_ hSw; go_simp; with_reducible rfl
      try simp only [List.getElem_toArray, List.getElem_cons_zero, List.getElem_cons_succ, Act.put, List.setIfInBounds_toArray, List.set_cons_zero, List.set_cons_succ]
      refine wpAnyH_take (i := 9) (v := ?v9t35) rfl (by kernel_rfl) (by kernel_rfl) (by kernel_rfl) (fun _ _ _ h => h) (Or.inl ⟨by rfl, ?y9t35⟩) S0 ?z9t35
      case y9t35 => intro w_ hSw; (try dsimp only at hSw); go_simp; with_reducible rfl
      try simp only [List.getElem_toArray, List.getElem_cons_zero, List.getElem_cons_succ, Act.put, List.setIfInBounds_toArray, List.set_cons_zero, List.set_cons_succ]
      refine wpAnyH_take (i := 10) (v := ?v10t36) rfl (by kernel_rfl) (by kernel_rfl) (by kernel_rfl) (fun _ _ _ h => h) (Or.inl ⟨by rfl, ?y10t36⟩) S0 ?z10t36
      case y10t36 => intro w_ hSw; go_simp; with_reducible rfl
      try simp only [List.getElem_toArray, List.getElem_cons_zero, List.getElem_cons_succ, Act.put, List.setIfInBounds_toArray, List.set_cons_zero, List.set_cons_succ]
      refine wpAnyH_take (i := 11) (v := ?v11t37) rfl (by kernel_rfl) (by kernel_rfl) (by kernel_rfl) (fun _ _ _ h => h) (Or.inl ⟨by rfl, ?y11t37⟩) S0 ?z11t37
      case y11t37 => intro w_ hSw; go_simp; with_reducible rfl
      try simp only [List.getElem_toArray, List.getElem_cons_zero, List.getElem_cons_succ, Act.put, List.setIfInBounds_toArray, List.set_cons_zero, List.set_cons_succ]
      refine wpAnyH_take (i := 12) (v := ?v12t38) rfl (by kernel_rfl) (by kernel_rfl) (by kernel_rfl) (fun _ _ _ h => h) (Or.inl ⟨by rfl, ?y12t38⟩) S0 ?z12t38
      case y12t38 => intro w_ hSw; go_simp; with_reducible rfl
      try simp only [List.getElem_toArray, List.getElem_cons_zero, List.getElem_cons_succ, Act.put, List.setIfInBounds_toArray, List.set_cons_zero, List.set_cons_succ]
      refine wpAnyH_take (i := 13) (v := ?v13t39) rfl (by kernel_rfl) (by kernel_rfl) (by kernel_rfl) (fun _ _ _ h => h) (Or.inl ⟨by rfl, ?y13t39⟩) S0 ?z13t39
      case y13t39 => intro w_ hSw; (try dsimp only at hSw); go_simp; with_reducible rfl
      try simp only [List.getElem_toArray, List.getElem_cons_zero, List.getElem_cons_succ, Act.put, List.setIfInBounds_toArray, List.set_cons_zero, List.set_cons_succ]
      refine wpAnyH_take (i := 14) (v := ?v14t40) rfl (by kernel_rfl) (by kernel_rfl) (by kernel_rfl) (fun _ _ _ h => h) (Or.inl ⟨by rfl, ?y14t40⟩) S0 ?z14t40
      case y14t40 => intro w_ hSw; go_simp; with_reducible rfl
      try simp only [List.getElem_toArray, List.getElem_cons_zero, List.getElem_cons_succ, Act.put, List.setIfInBounds_toArray, List.set_cons_zero, List.set_cons_succ]
      refine wpAnyH_take (i := 15) (v := ?v15t41) rfl (by kernel_rfl) (by kernel_rfl) (by kernel_rfl) (fun _ _ _ h => h) (Or.inl ⟨by rfl, ?y15t41⟩) S0 ?z15t41
      case y15t41 => intro w_ hSw; go_simp; with_reducible rfl
      try simp only [List.getElem_toArray, List.getElem_cons_zero, List.getElem_cons_succ, Act.put, List.setIfInBounds_toArray, List.set_cons_zero, List.set_cons_succ]
      refine wpAnyH_take (i := 16) (v := ?v16t42) rfl (by kernel_rfl) (by kernel_rfl) (by kernel_rfl) (fun _ _ _ h => h) (Or.inl ⟨by rfl, ?y16t42⟩) S0 ?z16t42
      case y16t42 => intro w_ hSw; go_simp; with_reducible rfl
      try simp only [List.getElem_toArray, List.getElem_cons_zero, List.getElem_cons_succ, Act.put, List.setIfInBounds_toArray, List.set_cons_zero, List.set_cons_succ]
      refine wpAnyH_take (i := 17) (v := ?v17t43) rfl (by kernel_rfl) (by kernel_rfl) (by kernel_rfl) (fun _ _ _ h => h) (Or.inl ⟨by rfl, ?y17t43⟩) S0 ?z17t43
      case y17t43 => intro w_ hSw; go_simp; with_reducible rfl
      try simp only [List.getElem_toArray, List.getElem_cons_zero, List.getElem_cons_succ, Act.put, List.setIfInBounds_toArray, List.set_cons_zero, List.set_cons_succ]
      refine wpAnyH_take (i := 18) (v := ?v18t44) rfl (by kernel_rfl) (by kernel_rfl) (by kernel_rfl) (fun _ _ _ h => h) (Or.inl ⟨by rfl, ?y18t44⟩) S0 ?z18t44
      case y18t44 => intro w_ hSw; go_simp; with_reducible rfl
      try simp only [List.getElem_toArray, List.getElem_cons_zero, List.getElem_cons_succ, Act.put, List.setIfInBounds_toArray, List.set_cons_zero, List.set_cons_succ]
      refine wpAnyH_ready (rs := [19]) (by kernel_rfl) (by simp) ?_
      refine AllReadyH.cons rfl (fun K hK => ?_) AllReadyH.nil
      go_simp
      refine hK.out _ _ (And.intro (by go_simp) (by go_simp)) (fun _ => ?_)
      clear hK K
      try simp only [List.getElem_toArray, List.getElem_cons_zero, List.getElem_cons_succ, Act.put, List.setIfInBounds_toArray, List.set_cons_zero, List.set_cons_succ]
      refine wpAnyH_done (by kernel_rfl) ?_ _
      go_wp2_with fail
      have EE := EN.out false (by first | rfl | (rw [HA2]; rfl))
      change bodyPost _ _ _ _ _ (World.drew (wrote (wc.setCell ⟨X, 2, none⟩ (.bool false)) w.heap.size (.int .u8 i2.op) (.bool i2.nw) (.int .i64 i2.dst) (.int .i64 i2.src) (.bool i2.ui) (.int .i64 i2.off) (.int .i64 i2.im) (.int .i64 i2.sz)))
      generalize World.drew (wrote (wc.setCell ⟨X, 2, none⟩ (.bool false)) w.heap.size (.int .u8 i2.op) (.bool i2.nw) (.int .i64 i2.dst) (.int .i64 i2.src) (.bool i2.ui) (.int .i64 i2.off) (.int .i64 i2.im) (.int .i64 i2.sz)) = W' at EE ⊢
      obtain ⟨EI, EO⟩ := EE
      obtain ⟨z0, z1, z2, z3, z4, z5, z6, z7⟩ := Oc.cells EO
      have HEI := Lib.hid EI
      clear EI EO EN
      refine bodyPost_ret (v := .tuple #[.agg #[.int .u8 i2.op, .bool i2.nw, .int .i64 i2.dst, .int .i64 i2.src, .bool i2.ui, .int .i64 i2.off, .int .i64 i2.im, .int .i64 i2.sz], str g]) (by simp [results, Tryz.results72, go_sem, z0, z1, z2, z3, z4, z5, z6, z7]) rfl ?_
      exact HEI.out
    · rw [hc] at HA2
      have hcn : ((at2 : Int) != (ts.length : Int)) = false := by rw [bne, hc]; rfl
      go_wp2_with fail
      refine wp_region_held_drew (S := fun w' => w'.cell? ⟨X, 0, none⟩ = some (.slice aq ts.length cq) ∧ w'.cell? ⟨X, 1, none⟩ = some (.int .i64 at2)) (by kernel_rfl) ⟨c0, c1⟩ (fun _ => ?_)
      have S0 := And.intro c0 c1
      refine wpAnyH_take (i := 0) (v := ?v0t45) rfl (by kernel_rfl) (by kernel_rfl) (by kernel_rfl) (fun _ _ _ h => h) (Or.inl ⟨by rfl, ?y0t45⟩) S0 ?z0t45
      case y0t45 => intro w_ hSw; go_simp; with_reducible rfl
      try simp only [List.getElem_toArray, List.getElem_cons_zero, List.getElem_cons_succ, Act.put, List.setIfInBounds_toArray, List.set_cons_zero, List.set_cons_succ]
      refine wpAnyH_take (i := 1) (v := ?v1t46) rfl (by kernel_rfl) (by kernel_rfl) (by kernel_rfl) (fun _ _ _ h => h) (Or.inl ⟨by rfl, ?y1t46⟩) S0 ?z1t46
      case y1t46 => intro w_ hSw; go_simp; with_reducible rfl
      try simp only [List.getElem_toArray, List.getElem_cons_zero, List.getElem_cons_succ, Act.put, List.setIfInBounds_toArray, List.set_cons_zero, List.set_cons_succ]
      refine wpAnyH_take (i := 2) (v := ?v2t47) rfl (by kernel_rfl) (by kernel_rfl) (by kernel_rfl) (fun _ _ _ h => h) (Or.inl ⟨by rfl, ?y2t47⟩) S0 ?z2t47
      case y2t47 => intro w_ hSw; go_simp; with_reducible rfl
      try simp only [List.getElem_toArray, List.getElem_cons_zero, List.getElem_cons_succ, Act.put, List.setIfInBounds_toArray, List.set_cons_zero, List.set_cons_succ]
      refine wpAnyH_take (i := 3) (v := ?v3t48) rfl (by kernel_rfl) (by kernel_rfl) (by kernel_rfl) (fun _ _ _ h => h) (Or.inl ⟨by rfl, ?y3t48⟩) S0 ?z3t48
      case y3t48 => intro w_ hSw; go_simp; with_reducible rfl
      try simp only [List.getElem_toArray, List.getElem_cons_zero, List.getElem_cons_succ, Act.put, List.setIfInBounds_toArray, List.set_cons_zero, List.set_cons_succ]
      refine wpAnyH_ready (rs := [4]) (by kernel_rfl) (by simp) ?_
      refine AllReadyH.cons rfl (fun K hK => ?_) AllReadyH.nil
      go_simp
      refine hK.out _ _ S0 (fun _ => ?_)
      clear hK K
      try simp only [List.getElem_toArray, List.getElem_cons_zero, List.getElem_cons_succ, Act.put, List.setIfInBounds_toArray, List.set_cons_zero, List.set_cons_succ]
      refine wpAnyH_take (i := 5) (v := ?v5t49) rfl (by kernel_rfl) (by kernel_rfl) (by kernel_rfl) (fun _ _ _ h => h) (Or.inl ⟨by rfl, ?y5t49⟩) S0 ?z5t49
      case y5t49 => intro w_ hSw; go_simp; with_reducible rfl
      try simp only [List.getElem_toArray, List.getElem_cons_zero, List.getElem_cons_succ, Act.put, List.setIfInBounds_toArray, List.set_cons_zero, List.set_cons_succ]
      refine wpAnyH_take (i := 6) (v := undef) rfl (by kernel_rfl) (by kernel_rfl) (by kernel_rfl) (fun _ _ _ h => h) (Or.inr ⟨by rfl, rfl⟩) S0 ?_
      try simp only [List.getElem_toArray, List.getElem_cons_zero, List.getElem_cons_succ, Act.put, List.setIfInBounds_toArray, List.set_cons_zero, List.set_cons_succ]
      refine wpAnyH_take (i := 7) (v := undef) rfl (by kernel_rfl) (by kernel_rfl) (by kernel_rfl) (fun _ _ _ h => h) (Or.inr ⟨by rfl, rfl⟩) S0 ?_
      try simp only [List.getElem_toArray, List.getElem_cons_zero, List.getElem_cons_succ, Act.put, List.setIfInBounds_toArray, List.set_cons_zero, List.set_cons_succ]
      refine wpAnyH_take (i := 8) (v := undef) rfl (by kernel_rfl) (by kernel_rfl) (by kernel_rfl) (fun _ _ _ h => h) (Or.inr ⟨by rfl, rfl⟩) S0 ?_
      try simp only [List.getElem_toArray, List.getElem_cons_zero, List.getElem_cons_succ, Act.put, List.setIfInBounds_toArray, List.set_cons_zero, List.set_cons_succ]
      refine wpAnyH_take (i := 9) (v := undef) rfl (by kernel_rfl) (by kernel_rfl) (by kernel_rfl) (fun _ _ _ h => h) (Or.inr ⟨by rfl, rfl⟩) S0 ?_
      try simp only [List.getElem_toArray, List.getElem_cons_zero, List.getElem_cons_succ, Act.put, List.setIfInBounds_toArray, List.set_cons_zero, List.set_cons_succ]
      refine wpAnyH_take (i := 10) (v := undef) rfl (by kernel_rfl) (by kernel_rfl) (by kernel_rfl) (fun _ _ _ h => h) (Or.inr ⟨by rfl, rfl⟩) S0 ?_
      try simp only [List.getElem_toArray, List.getElem_cons_zero, List.getElem_cons_succ, Act.put, List.setIfInBounds_toArray, List.set_cons_zero, List.set_cons_succ]
      refine wpAnyH_take (i := 11) (v := undef) rfl (by kernel_rfl) (by kernel_rfl) (by kernel_rfl) (fun _ _ _ h => h) (Or.inr ⟨by rfl, rfl⟩) S0 ?_
      try simp only [List.getElem_toArray, List.getElem_cons_zero, List.getElem_cons_succ, Act.put, List.setIfInBounds_toArray, List.set_cons_zero, List.set_cons_succ]
      refine wpAnyH_take (i := 12) (v := undef) rfl (by kernel_rfl) (by kernel_rfl) (by kernel_rfl) (fun _ _ _ h => h) (Or.inr ⟨by rfl, rfl⟩) S0 ?_
      try simp only [List.getElem_toArray, List.getElem_cons_zero, List.getElem_cons_succ, Act.put, List.setIfInBounds_toArray, List.set_cons_zero, List.set_cons_succ]
      refine wpAnyH_take (i := 13) (v := undef) rfl (by kernel_rfl) (by kernel_rfl) (by kernel_rfl) (fun _ _ _ h => h) (Or.inr ⟨by rfl, rfl⟩) S0 ?_
      try simp only [List.getElem_toArray, List.getElem_cons_zero, List.getElem_cons_succ, Act.put, List.setIfInBounds_toArray, List.set_cons_zero, List.set_cons_succ]
      refine wpAnyH_take (i := 14) (v := undef) rfl (by kernel_rfl) (by kernel_rfl) (by kernel_rfl) (fun _ _ _ h => h) (Or.inr ⟨by rfl, rfl⟩) S0 ?_
      try simp only [List.getElem_toArray, List.getElem_cons_zero, List.getElem_cons_succ, Act.put, List.setIfInBounds_toArray, List.set_cons_zero, List.set_cons_succ]
      refine wpAnyH_take (i := 15) (v := undef) rfl (by kernel_rfl) (by kernel_rfl) (by kernel_rfl) (fun _ _ _ h => h) (Or.inr ⟨by rfl, rfl⟩) S0 ?_
      try simp only [List.getElem_toArray, List.getElem_cons_zero, List.getElem_cons_succ, Act.put, List.setIfInBounds_toArray, List.set_cons_zero, List.set_cons_succ]
      refine wpAnyH_take (i := 16) (v := ?v16t50) rfl (by kernel_rfl) (by kernel_rfl) (by kernel_rfl) (fun _ _ _ h => h) (Or.inl ⟨by rfl, ?y16t50⟩) S0 ?z16t50
      case y16t50 => intro w_ hSw; go_simp; with_reducible rfl
      try simp only [List.getElem_toArray, List.getElem_cons_zero, List.getElem_cons_succ, Act.put, List.setIfInBounds_toArray, List.set_cons_zero, List.set_cons_succ]
      refine wpAnyH_take (i := 17) (v := ?v17t51) rfl (by kernel_rfl) (by kernel_rfl) (by kernel_rfl) (fun _ _ _ h => h) (Or.inl ⟨by rfl, ?y17t51⟩) S0 ?z17t51
      case y17t51 => intro w_ hSw; go_simp; with_reducible rfl
      try simp only [List.getElem_toArray, List.getElem_cons_zero, List.getElem_cons_succ, Act.put, List.setIfInBounds_toArray, List.set_cons_zero, List.set_cons_succ]
      refine wpAnyH_take (i := 18) (v := ?v18t52) rfl (by kernel_rfl) (by kernel_rfl) (by kernel_rfl) (fun _ _ _ h => h) (Or.inl ⟨by rfl, ?y18t52⟩) S0 ?z18t52
      case y18t52 => intro w_ hSw; go_simp; with_reducible rfl
      try simp only [List.getElem_toArray, List.getElem_cons_zero, List.getElem_cons_succ, Act.put, List.setIfInBounds_toArray, List.set_cons_zero, List.set_cons_succ]
      refine wpAnyH_ready (rs := [19]) (by kernel_rfl) (by simp) ?_
      refine AllReadyH.cons rfl (fun K hK => ?_) AllReadyH.nil
      go_simp
      refine hK.out _ _ (And.intro (by go_simp) (by go_simp)) (fun _ => ?_)
      clear hK K
      try simp only [List.getElem_toArray, List.getElem_cons_zero, List.getElem_cons_succ, Act.put, List.setIfInBounds_toArray, List.set_cons_zero, List.set_cons_succ]
      refine wpAnyH_done (by kernel_rfl) ?_ _
      go_wp2_with fail
      have EE := EN.out true (by first | rfl | (rw [HA2]; rfl))
      change bodyPost _ _ _ _ _ (World.drew (wrote (wc.setCell ⟨X, 2, none⟩ (.bool true)) w.heap.size (.int .u8 i2.op) (.bool i2.nw) (.int .i64 i2.dst) (.int .i64 i2.src) (.bool i2.ui) (.int .i64 i2.off) (.int .i64 i2.im) (.int .i64 i2.sz)))
      generalize World.drew (wrote (wc.setCell ⟨X, 2, none⟩ (.bool true)) w.heap.size (.int .u8 i2.op) (.bool i2.nw) (.int .i64 i2.dst) (.int .i64 i2.src) (.bool i2.ui) (.int .i64 i2.off) (.int .i64 i2.im) (.int .i64 i2.sz)) = W' at EE ⊢
      obtain ⟨EI, EO⟩ := EE
      obtain ⟨z0, z1, z2, z3, z4, z5, z6, z7⟩ := Oc.cells EO
      have HEI := Lib.hid EI
      clear EI EO EN
      refine bodyPost_ret (v := .tuple #[.agg #[.int .u8 i2.op, .bool i2.nw, .int .i64 i2.dst, .int .i64 i2.src, .bool i2.ui, .int .i64 i2.off, .int .i64 i2.im, .int .i64 i2.sz], str g]) (by simp [results, Tryz.results72, go_sem, z0, z1, z2, z3, z4, z5, z6, z7]) rfl ?_
      exact HEI.out
end Go.Proofs.YthfkmackodbmkaaGreatDoor
