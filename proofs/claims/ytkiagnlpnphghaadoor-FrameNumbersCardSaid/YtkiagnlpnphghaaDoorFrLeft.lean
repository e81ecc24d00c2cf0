/- Contracts of what a scan has left: whether its head is there, what that says, whether it is whole, or spoilt. -/
import Derived.Test.YtkiagnlpnphghaaDoorFrPut
import Derived.Lib.SliceRun
namespace Go.Proofs.YtkiagnlpnphghaaDoor
open Go.RowKit
set_option linter.unusedVariables false
set_option linter.unusedSimpArgs false

/-- Block R begins with v, which reads as the bytes l. -/
structure Lf (w : World) (R : Nat) (v : Value) (l : List Int) : Prop where
  c : w.cell? ⟨R, 0, none⟩ = some v
  bs : Bs w v l
  oct : Oct l
theorem Lf.past {w w' : World} {R : Nat} {v : Value} {l : List Int} (h : Lf w R v l) (hb : Below w.heap.size w w') : Lf w' R v l :=
  ⟨(hb.cell (p := ⟨R, 0, none⟩) (World.block_lt_of_cell? w _ h.c)).trans h.c, h.bs.past hb, h.oct⟩
theorem Still.past {w w' : World} (h : Still w w') : Below w.heap.size w w' := h.below _

theorem hasHead_yes (R : Nat) (v : Value) (l : List Int) (w : World) (h : Lf w R v l) (hl : 9 ≤ l.length) :
    Calls Tryd.prog 92 #[.pointer (some ⟨R, 0, none⟩)] w fun e w' => w = w' ∧ e = .returned (.bool true) := by
  obtain ⟨ao, cap, rfl⟩ := h.bs.shape
  have c := h.c
  have hn := h.bs.len
  clear h
  have hd : decide ((9 : Int) ≤ l.length) = true := by simp; omega
  go_enter Tryd.func92, Tryd.ntmps92
  go_wp2
  go_ret
  exact ⟨rfl, rfl⟩
theorem hasHead_no (R : Nat) (v : Value) (l : List Int) (w : World) (h : Lf w R v l) (hl : ¬ 9 ≤ l.length) :
    Calls Tryd.prog 92 #[.pointer (some ⟨R, 0, none⟩)] w fun e w' => w = w' ∧ e = .returned (.bool false) := by
  obtain ⟨ao, cap, rfl⟩ := h.bs.shape
  have c := h.c
  have hn := h.bs.len
  clear h
  have hd : decide ((9 : Int) ≤ l.length) = false := by simp; omega
  go_enter Tryd.func92, Tryd.ntmps92
  go_wp2
  go_ret
  exact ⟨rfl, rfl⟩
theorem says_nat {l : List Int} (ho : Oct l) (hl : 9 ≤ l.length) : n4 (l.drop 1) = (says l : Nat) ∧ says l < 4294967296 := by
  have := n4_bound (ho.drop 1) (by rw [List.length_drop]; omega)
  unfold says
  omega
theorem saysOf (R : Nat) (v : Value) (l : List Int) (w : World) (h : Lf w R v l) (hl : 9 ≤ l.length) :
    Calls Tryd.prog 93 #[.pointer (some ⟨R, 0, none⟩)] w fun e w' => Tells (.int .u32 (says l : Nat)) w e w' := by
  obtain ⟨b, off, cap, rfl, h1, h2, -, -⟩ := h.bs.at (by omega)
  have c := h.c
  have hn := h.bs.len
  have hb := h.bs.drop (n := 1) (by omega)
  rw [if_neg (by omega)] at hb
  have N := number4 94 (Or.inr rfl) _ _ w hb (h.oct.drop 1) (by rw [List.length_drop]; omega)
  rw [(says_nat h.oct hl).1] at N
  simp only [Option.map_some, add_none] at N
  have HN := Lib.hid N
  clear N hb h
  generalize l.length = n at *
  have hcap : cap ≤ 9223372036854775807 := by unfold maxLen at h2; omega
  have hz : ¬ cap = 1 := by omega
  clear h2
  go_enter Tryd.func93, Tryd.ntmps93
  go_wp2_with fail
  refine (HN.out).mono ?_; rintro e w1 ⟨rfl, hs⟩
  go_wp2
  go_ret
  exact ⟨rfl, hs⟩

theorem hasHead_if {R : Nat} {v : Value} {l : List Int} {w : World} (h : Lf w R v l) : (9 ≤ l.length → Calls Tryd.prog 92 #[.pointer (some ⟨R, 0, none⟩)] w fun e w' => w = w' ∧ e = .returned (.bool true)) ∧
    (¬ 9 ≤ l.length → Calls Tryd.prog 92 #[.pointer (some ⟨R, 0, none⟩)] w fun e w' => w = w' ∧ e = .returned (.bool false)) := ⟨hasHead_yes R v l w h, hasHead_no R v l w h⟩

theorem tooLongOf (R : Nat) (v : Value) (l : List Int) (w : World) (h : Lf w R v l) :
    Calls Tryd.prog 63 #[.pointer (some ⟨R, 0, none⟩)] w fun e w' => Tells (.bool (tooLongB l)) w e w' := by
  by_cases h9 : 9 ≤ l.length
  · have H9 := Lib.hid (hasHead_yes R v l w h h9)
    have S := Lib.hid (saysOf R v l w h h9)
    have hs := (says_nat h.oct h9).2
    have hB : tooLongB l = decide ((262144 : Int) < (says l : Nat)) := by
      unfold tooLongB
      by_cases hq : 262144 < says l
      · rw [decide_eq_true ⟨h9, hq⟩, decide_eq_true (by omega)]
      · rw [decide_eq_false (fun h => hq h.2), decide_eq_false (by omega)]
    rw [hB]
    clear h hB
    generalize says l = s at *
    go_enter Tryd.func63, Tryd.ntmps63
    go_wp2_with fail
    refine (H9.out).mono ?_; rintro e w1 ⟨rfl, rfl⟩
    go_wp2_with fail
    refine (S.out).mono ?_; rintro e w1 ⟨rfl, hst⟩
    go_wp2
    go_ret
    exact ⟨rfl, hst⟩
  · have H9 := Lib.hid (hasHead_no R v l w h h9)
    have hB : tooLongB l = false := decide_eq_false (fun h => h9 h.1)
    rw [hB]
    clear h hB
    go_enter Tryd.func63, Tryd.ntmps63
    go_wp2_with fail
    refine (H9.out).mono ?_; rintro e w1 ⟨rfl, rfl⟩
    go_wp2
    go_ret
    exact ⟨rfl, Still.refl _⟩

/-- A quiet callee, in a world that some draws have changed. -/
theorem Calls.quiet_tells {f : FuncId} {args : Array Value} {w : World} {n : Nat} {v : Value} (h : Calls Tryd.prog f args (w.drewN n) fun e w' => Tells v (w.drewN n) e w') :
    Calls Tryd.prog f args (w.drewN n) fun e w'' => e = .returned v ∧ ∃ m, w'' = w.drewN m :=
  Calls.quiet_of (h.mono fun e w' ⟨he, m, hm⟩ => ⟨he, m, hm⟩)
theorem Lf.drewN {w : World} {R : Nat} {v : Value} {l : List Int} (h : Lf w R v l) (n : Nat) : Lf (w.drewN n) R v l := ⟨by simpa using h.c, h.bs.drewN n, h.oct⟩

set_option maxHeartbeats 1000000 in
theorem completeOf (R : Nat) (v : Value) (l : List Int) (w : World) (h : Lf w R v l) :
    Calls Tryd.prog 64 #[.pointer (some ⟨R, 0, none⟩)] w fun e w' => Tells (.bool (completeB l)) w e w' := by
  by_cases h9 : 9 ≤ l.length
  · have H9 := fun m => Lib.hid (hasHead_yes R v l (w.drewN m) (h.drewN m) h9)
    have S := fun m => Lib.hid (saysOf R v l (w.drewN m) (h.drewN m) h9)
    have hs := (says_nat h.oct h9).2
    have hln := h.bs.len
    have c := h.c
    obtain ⟨ao, cap, hsh⟩ := h.bs.shape
    subst hsh
    by_cases hq : says l ≤ 262144
    · have hB : completeB l = decide (((says l : Nat) : Int) ≤ (l.length : Int) - 9) := by
        unfold completeB
        by_cases hr : 9 + says l ≤ l.length
        · rw [decide_eq_true ⟨h9, hq, hr⟩, decide_eq_true (by omega)]
        · rw [decide_eq_false (fun h => hr h.2.2), decide_eq_false (by omega)]
      rw [hB]
      have hdq : decide (((says l : Nat) : Int) ≤ 262144) = true := by simp; omega
      clear h hB
      generalize says l = s at *
      generalize l.length = n at *
      go_enter Tryd.func64, Tryd.ntmps64
      go_wp2
      go_quiet (first | (go_at_call 92; exact Calls.quiet_of_same ((H9 _).out.mono fun e w' ⟨h1, h2⟩ => ⟨h2, h1.symm⟩)) | (go_at_call 93; exact Calls.quiet_tells (S _).out))
      go_wp2
      go_ret
      exact ⟨rfl, ⟨_, rfl⟩⟩
    · have hB : completeB l = false := decide_eq_false (fun h => hq h.2.1)
      rw [hB]
      have hdq : decide (((says l : Nat) : Int) ≤ 262144) = false := by simp; omega
      clear h hB
      generalize says l = s at *
      generalize l.length = n at *
      go_enter Tryd.func64, Tryd.ntmps64
      go_wp2
      go_quiet (first | (go_at_call 92; exact Calls.quiet_of_same ((H9 _).out.mono fun e w' ⟨h1, h2⟩ => ⟨h2, h1.symm⟩)) | (go_at_call 93; exact Calls.quiet_tells (S _).out))
      go_wp2
      go_ret
      exact ⟨rfl, ⟨_, rfl⟩⟩
  · have H9 := fun m => Lib.hid (hasHead_no R v l (w.drewN m) (h.drewN m) h9)
    have hB : completeB l = false := decide_eq_false (fun h => h9 h.1)
    rw [hB]
    clear h hB
    go_enter Tryd.func64, Tryd.ntmps64
    go_wp2
    go_quiet (first | (go_at_call 92; exact Calls.quiet_of_same ((H9 _).out.mono fun e w' ⟨h1, h2⟩ => ⟨h2, h1.symm⟩)))
    go_wp2
    go_ret
    exact ⟨rfl, ⟨_, rfl⟩⟩

/-- What is complete: its Data. -/
theorem completeB_at {l : List Int} (h : completeB l = true) : 9 ≤ l.length ∧ says l ≤ 262144 ∧ 9 + says l ≤ l.length := of_decide_eq_true h
/-- Where the Data stands. -/
def dAt (b off cap : Nat) : Option Addr := if cap - 9 = 0 then some ⟨b, off, none⟩ else some ⟨b, off + 9, none⟩
theorem dAt_bs {w : World} {b off n cap : Nat} {l : List Int} (h : Bs w (.slice (some ⟨b, off, none⟩) n cap) l) (hc : completeB l = true) : Bs w (.slice (dAt b off cap) (says l) (cap - 9)) (dataOf l) := by
  obtain ⟨h9, hq, hr⟩ := completeB_at hc
  have h1 := h.drop (n := 9) (by omega)
  simp only [Option.map_some, add_none] at h1
  exact h1.take (by rw [List.length_drop]; omega)
set_option maxHeartbeats 1000000 in
theorem dataIs (R : Nat) (b off cap : Nat) (l : List Int) (w : World) (h : Lf w R (.slice (some ⟨b, off, none⟩) l.length cap) l) (hc : completeB l = true) (hcap : l.length ≤ cap) (hcap2 : cap ≤ maxLen) :
    Calls Tryd.prog 91 #[.pointer (some ⟨R, 0, none⟩)] w fun e w' => Tells (.slice (dAt b off cap) (says l) (cap - 9)) w e w' := by
  obtain ⟨h9, hq, hr⟩ := completeB_at hc
  have S := fun m => Lib.hid (saysOf R _ l (w.drewN m) (h.drewN m) h9)
  have hln := h.bs.len
  have c := h.c
  have hcm : cap ≤ 9223372036854775807 := by unfold maxLen at hcap2; omega
  have hw : IntKind.i64.wrap (9 + ((says l : Nat) : Int)) = ((9 + says l : Nat) : Int) := by rw [IntWalk.i64_in _ (by omega)]; omega
  clear h hcap2
  unfold dAt
  generalize says l = s at *
  generalize l.length = n at *
  go_enter Tryd.func91, Tryd.ntmps91
  go_wp2
  go_quiet (first | (go_at_call 93; exact Calls.quiet_tells (S _).out))
  all_goals go_wp2
  all_goals
    go_ret
    exact ⟨rfl, ⟨_, rfl⟩⟩

theorem Lf.take5 {w : World} {R : Nat} {b off cap : Nat} {l : List Int} (h : Lf w R (.slice (some ⟨b, off, none⟩) l.length cap) l) (h9 : 9 ≤ l.length) : Bs w (.slice (some ⟨b, off, none⟩) 5 cap) (l.take 5) := h.bs.take (by omega)
theorem Lf.drop5 {w : World} {R : Nat} {b off cap : Nat} {l : List Int} (h : Lf w R (.slice (some ⟨b, off, none⟩) l.length cap) l) (h9 : 9 ≤ l.length) (hc : l.length ≤ cap) : Bs w (.slice (some ⟨b, off + 5, none⟩) (l.length - 5) (cap - 5)) (l.drop 5) := by
  have h1 := h.bs.drop (n := 5) (by omega)
  rw [if_neg (by omega)] at h1
  simpa only [Option.map_some, add_none] using h1
/-- .. in a world that has grown. -/
abbrev Lg (w w' : World) (R : Nat) (v : Value) : Prop := w'.cell? ⟨R, 0, none⟩ = some v ∧ Below w.heap.size w w'
theorem Lg.past {w w1 w2 : World} {R : Nat} {v : Value} (h : Lg w w1 R v) (hR : R < w.heap.size) (hb : Below w1.heap.size w1 w2) : Lg w w2 R v :=
  ⟨(hb.cell (p := ⟨R, 0, none⟩) (Nat.lt_of_lt_of_le hR h.2.size)).trans h.1, bel_past h.2 hb⟩
theorem Lg.alloc {w w1 : World} {R : Nat} {v : Value} (h : Lg w w1 R v) (hR : R < w.heap.size) (o : Obj) : Lg w (w1.alloc o) R v := h.past hR (alloc_below w1 o)

set_option maxHeartbeats 2000000 in
theorem fitsIs (R : Nat) (b off cap : Nat) (l : List Int) (w : World) (T : Tab w) (h : Lf w R (.slice (some ⟨b, off, none⟩) l.length cap) l) (hc : completeB l = true) (hcap : l.length ≤ cap) (hcap2 : cap ≤ maxLen) :
    Calls Tryd.prog 65 #[.pointer (some ⟨R, 0, none⟩)] w (Gives (.bool (fitsB l)) w) := by
  obtain ⟨h9, hq, hr⟩ := completeB_at hc
  have hln := h.bs.len
  have c := h.c
  have hR := World.block_lt_of_cell? w _ h.c
  have hcm : cap ≤ 9223372036854775807 := by unfold maxLen at hcap2; omega
  have hz5 : ¬ cap = 5 := by omega
  have hB : fitsB l = (((crc (l.take 5 ++ dataOf l) : Nat) : Int) == n4 (l.drop 5)) := by
    unfold fitsB
    by_cases e : n4 (l.drop 5) = ((crc (l.take 5 ++ dataOf l) : Nat) : Int)
    · rw [decide_eq_true e, e]; simp
    · rw [decide_eq_false e]; symm; simp; exact fun h => e h.symm
  rw [hB]
  have D := fun W (g : Lg w W R (.slice (some ⟨b, off, none⟩) l.length cap)) => Lib.hid (dataIs R b off cap l W ⟨g.1, (h.past g.2).bs, h.oct⟩ hc hcap hcap2)
  have N := fun W (g : Lg w W R (.slice (some ⟨b, off, none⟩) l.length cap)) => Lib.hid (number4 94 (Or.inr rfl) _ _ W ((h.past g.2).drop5 h9 hcap) (h.oct.drop 5) (by rw [List.length_drop]; omega))
  have S := fun W (g : Lg w W R (.slice (some ⟨b, off, none⟩) l.length cap)) => Lib.hid (sum (.slice (some ⟨W.heap.size, 0, none⟩) 2 2) [.slice (some ⟨b, off, none⟩) 5 cap, .slice (dAt b off cap) (says l) (cap - 9)] [l.take 5, dataOf l] (W.alloc (.cells #[.slice (some ⟨b, off, none⟩) 5 cap, .slice (dAt b off cap) (says l) (cap - 9)] 27)) ((T.past g.2).alloc _) (vals_lit W [.slice (some ⟨b, off, none⟩) 5 cap, .slice (dAt b off cap) (says l) (cap - 9)] (by simp)) rfl (fun j hj => by
    match j, hj with
    | 0, _ => exact ⟨((h.past g.2).take5 h9).alloc _, h.oct.take 5⟩
    | 1, _ => exact ⟨(dAt_bs (h.past g.2).bs hc).alloc _, (h.oct.drop 9).take _⟩))
  have hfl : ([l.take 5, dataOf l] : List (List Int)).flatten = l.take 5 ++ dataOf l := by simp
  rw [hfl] at S
  have G0 : Lg w w.drew R (.slice (some ⟨b, off, none⟩) l.length cap) := ⟨c, drew_below w⟩
  clear h hB hfl T hcap2
  generalize says l = s at *
  generalize l.length = n at *
  generalize dAt b off cap = da at *
  have u1 : 5 ≤ n := by omega
  have u2 : 5 ≤ cap := by omega
  have u3 : (5 : Int) ≤ (n : Int) := by omega
  have u4 : (5 : Int) ≤ (cap : Int) := by omega
  go_enter Tryd.func65, Tryd.ntmps65
  go_wp2
  go_region_held3 (fun w' => w'.cell? ⟨R, 0, none⟩ = some (.slice (some ⟨b, off, none⟩) n cap) ∧ Below w.heap.size w w') (first | (with_reducible assumption) | (with_reducible exact Lg.alloc (by with_reducible assumption) hR _)) (first | (go_at_call 91; refine ((D _ (by with_reducible assumption)).out).mono ?_; rintro e w1 ⟨rfl, hs1⟩; have G1 := G0.past hR hs1.past) | (go_at_call 30; refine ((S _ (by with_reducible assumption)).out).mono ?_; rintro e w2 ⟨rfl, rfl⟩; have G2 := G1.alloc hR (.cells #[.slice (some ⟨b, off, none⟩) 5 cap, .slice da s (cap - 9)] 27)) | (go_at_call 94; refine ((N _ (by with_reducible assumption)).out).mono ?_; rintro e w3 ⟨rfl, hs3⟩; have G3 := G2.past hR hs3.past))
  all_goals
    go_wp2
    go_ret
    exact ⟨rfl, G3.2⟩
theorem fitsOf (R : Nat) (v : Value) (l : List Int) (w : World) (T : Tab w) (h : Lf w R v l) (hc : completeB l = true) :
    Calls Tryd.prog 65 #[.pointer (some ⟨R, 0, none⟩)] w (Gives (.bool (fitsB l)) w) := by
  obtain ⟨b, off, cap, rfl, h1, h2, -, -⟩ := h.bs.at (by have := (completeB_at hc).1; omega)
  exact fitsIs R b off cap l w T h hc h1 h2
theorem gives_still {v : Value} {w w1 w2 : World} (h : Still w w1) (hb : Below w1.heap.size w1 w2) : Below w.heap.size w w2 := bel_trans h.past hb

theorem wholeOf (R : Nat) (v : Value) (l : List Int) (w : World) (T : Tab w) (h : Lf w R v l) :
    Calls Tryd.prog 61 #[.pointer (some ⟨R, 0, none⟩)] w (Gives (.bool (wholeB l)) w) := by
  have C := Lib.hid (completeOf R v l w h)
  cases hc : completeB l
  · have hB : wholeB l = false := by unfold wholeB; rw [hc]; rfl
    rw [hB]
    rw [hc] at C
    clear h hB hc T
    go_enter Tryd.func61, Tryd.ntmps61
    go_wp2_with fail
    refine (C.out).mono ?_; rintro e w1 ⟨rfl, hs⟩
    go_wp2
    go_ret
    exact ⟨rfl, hs.past⟩
  · have hB : wholeB l = fitsB l := by unfold wholeB; rw [hc]; rfl
    rw [hB]
    rw [hc] at C
    have F := fun W (hs : Still w W) => Lib.hid (fitsOf R v l W (T.past hs.past) (h.past hs.past) hc)
    clear h hB hc T
    generalize fitsB l = f at *
    go_enter Tryd.func61, Tryd.ntmps61
    go_wp2_with fail
    refine (C.out).mono ?_; rintro e w1 ⟨rfl, hs⟩
    go_wp2_with fail
    refine ((F w1 hs).out).mono ?_; rintro e w2 ⟨rfl, hb⟩
    go_wp2
    go_ret
    exact ⟨rfl, bel_trans hs.past hb⟩
theorem spoiltOf (R : Nat) (v : Value) (l : List Int) (w : World) (T : Tab w) (h : Lf w R v l) :
    Calls Tryd.prog 33 #[.pointer (some ⟨R, 0, none⟩)] w (Gives (.bool (spoiltB l)) w) := by
  have L := Lib.hid (tooLongOf R v l w h)
  cases hl : tooLongB l
  · have C := fun W (hs : Still w W) => Lib.hid (completeOf R v l W (h.past hs.past))
    rw [hl] at L
    cases hc : completeB l
    · have hB : spoiltB l = false := by unfold spoiltB; rw [hc, hl]; rfl
      rw [hB]
      rw [hc] at C
      clear h hB hc hl T
      go_enter Tryd.func33, Tryd.ntmps33
      go_wp2_with fail
      refine (L.out).mono ?_; rintro e w1 ⟨rfl, hs⟩
      go_wp2_with fail
      refine ((C w1 hs).out).mono ?_; rintro e w2 ⟨rfl, hs2⟩
      go_wp2
      go_ret
      exact ⟨rfl, bel_trans hs.past hs2.past⟩
    · have hB : spoiltB l = !fitsB l := by unfold spoiltB; rw [hc, hl]; rfl
      rw [hB]
      rw [hc] at C
      have F := fun W (hs : Below w.heap.size w W) => Lib.hid (fitsOf R v l W (T.past hs) (h.past hs) hc)
      clear h hB hc hl T
      generalize fitsB l = f at *
      go_enter Tryd.func33, Tryd.ntmps33
      go_wp2_with fail
      refine (L.out).mono ?_; rintro e w1 ⟨rfl, hs⟩
      go_wp2_with fail
      refine ((C w1 hs).out).mono ?_; rintro e w2 ⟨rfl, hs2⟩
      go_wp2_with fail
      refine ((F w2 (bel_trans hs.past hs2.past)).out).mono ?_; rintro e w3 ⟨rfl, hb⟩
      go_wp2
      go_ret
      exact ⟨rfl, bel_trans (bel_trans hs.past hs2.past) hb⟩
  · have hB : spoiltB l = true := by unfold spoiltB; rw [hl]; rfl
    rw [hB]
    rw [hl] at L
    clear h hB hl T
    go_enter Tryd.func33, Tryd.ntmps33
    go_wp2_with fail
    refine (L.out).mono ?_; rintro e w1 ⟨rfl, hs⟩
    go_wp2
    go_ret
    exact ⟨rfl, hs.past⟩

set_option maxRecDepth 100000 in
theorem cloneOf (v : Value) (l : List Int) (w : World) (h : Bs w v l) (hlen : l.length ≤ 140737488355328) :
    Calls Tryd.prog 90 #[v] w (Shaped l.length l w) := by
  obtain ⟨ao, cap, hsh⟩ := h.shape
  subst hsh
  cases ao with
  | none =>
    have h0 : l = [] := by
      obtain ⟨ao, cap', hv, h1, h2, h3, h4⟩ := h
      cases hv
      exact List.eq_nil_of_length_eq_zero (by have := h3 rfl; omega)
    subst h0
    clear h
    have hn := fun W => Lib.run_eql_slice_nil (P := Tryd.prog) W 27 5 none 0 cap 0 0 Tryd.underlying27
    go_enter Tryd.func90, Tryd.ntmps90
    go_wp2
    go_ret
    exact ⟨_, _, rfl, Own.nil _ _, Below.refl _ _⟩
  | some ad =>
    have H := Lib.hid h
    have hln := h.len
    clear h
    have hn := fun W => Lib.run_eql_slice_nil (P := Tryd.prog) W 27 5 (some ad) l.length cap 0 0 Tryd.underlying27
    go_enter Tryd.func90, Tryd.ntmps90
    go_wp2_with (at_builtin; refine wpList_append_bs _ rfl _ _ rfl w.heap.size _ _ rfl (made_now w w.heap.size (Nat.le_refl _)) _ l rfl ((H.out).alloc _) (by simpa using hlen) (by simp) ?_)
    intro v' w' ho hg
    have B := Lib.hid ((alloc_below w (.cells #[] 5)).grown hg (by simp) (fun k e => by cases e; exact Nat.le_refl _))
    obtain ⟨a1, c1, hs⟩ := ho.bs.shape
    have HO := Lib.hid ho
    clear ho hg
    subst hs
    go_wp2
    go_ret
    exact ⟨_, _, rfl, HO.out, B.out⟩
end Go.Proofs.YtkiagnlpnphghaaDoor
