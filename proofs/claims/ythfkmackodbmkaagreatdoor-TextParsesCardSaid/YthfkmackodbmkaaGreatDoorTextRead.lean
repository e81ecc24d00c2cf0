/- What reads a line's tokens: one of those that may come, a register, a number, a label, a cell. -/
import Derived.Test.YthfkmackodbmkaaGreatDoorTextStd
namespace Go.Proofs.YthfkmackodbmkaaGreatDoor
open Go.RowKit
set_option linter.unusedVariables false
set_option linter.unusedSimpArgs false

/-- The reader has gone on, or nothing else than it has turned. -/
def Goes (w : World) (R : Nat) (ts : List Str) (lab : Str) (i : Ins) (tl : Str) (w' : World) : Prop := Rdr w' R ts lab i tl ∧ w.grownBy w' (some R)
theorem var_grown {P : Program} {w w' : World} {name : String} {cs ds : Array Value} {t : TypeId} {fr : Nat × Nat} {R : Nat} (h : w.var? P name = some cs) (hR : w.heap[R]? = some (.cells ds t fr)) (hd : ds ≠ cs) (hg : w.grownBy w' (some R)) : w'.var? P name = some cs := by
  unfold World.var? at h ⊢
  cases hn : P.globalNamed name with
  | none => rw [hn] at h; cases h
  | some g =>
    rw [hn] at h
    simp only [Option.bind_some] at h ⊢
    have hlt : g < w.heap.size := by
      rcases Nat.lt_or_ge g w.heap.size with h' | h'
      · exact h'
      · rw [Array.getElem?_eq_none h'] at h; cases h
    have hne : some g ≠ some R := by
      intro e
      cases e
      rw [hR] at h
      exact hd (by simpa using h)
    rw [hg.block g hlt hne]; exact h
theorem Lay.grown {w w' : World} {R : Nat} {ao : Option Addr} {n cap : Nat} {lab : Str} {i : Ins} {tl : Str} (h : Lay w) (hr : Rd w R (.slice ao n cap) lab i tl) (hg : w.grownBy w' (some R)) : Lay w' := by
  obtain ⟨⟨m, h1⟩, h2, ⟨tp, p, h3⟩, cs, fr, h4, h5⟩ := h
  refine ⟨⟨m, ?_⟩, var_grown h2 hr ?_ hg, ⟨tp, p, var_grown h3 hr ?_ hg⟩, cs, fr, ?_, h5⟩
  · refine hg.cell h1 (fun e => ?_)
    have e : _ = R := Option.some.inj e
    simp only at e
    subst e
    rw [hr.cells.1] at h1
    cases h1
  · intro e
    have := congrArg Array.size e
    simp [Lib.pow10Tab] at this
  · intro e
    have := congrArg Array.size e
    simp at this
  · rw [hg.block _ (Array.getElem?_eq_some_iff.1 h4).1 (fun e => ?_)]
    · exact h4
    · have e : _ = R := Option.some.inj e
      subst e
      rw [show w.heap[_]? = _ from hr] at h4
      simp at h4
theorem grown_past {w w' w'' : World} {R : Nat} (h : w.grownBy w' (some R)) (hb : Below w'.heap.size w' w'') : w.grownBy w'' (some R) :=
  ⟨hb.os.trans h.os, hb.tape.trans h.tape, hb.output.trans h.output, Nat.le_trans h.size hb.size, fun k hk hne => (hb.block k (Nat.lt_of_lt_of_le hk h.size)).trans (h.block k hk hne)⟩
theorem past_grown {w w' : World} {R : Nat} (hb : Below w.heap.size w w') : w.grownBy w' (some R) :=
  ⟨hb.os, hb.tape, hb.output, hb.size, fun k hk _ => hb.block k hk⟩
theorem grown_trans {w w' w'' : World} {R : Nat} (h : w.grownBy w' (some R)) (h' : w'.grownBy w'' (some R)) : w.grownBy w'' (some R) :=
  ⟨h'.os.trans h.os, h'.tape.trans h.tape, h'.output.trans h.output, Nat.le_trans h.size h'.size, fun k hk hne => (h'.block k (Nat.lt_of_lt_of_le hk h.size) hne).trans (h.block k hk hne)⟩
theorem grown_refl (w : World) (R : Nat) : w.grownBy w (some R) := ⟨rfl, rfl, rfl, Nat.le_refl _, fun _ _ _ => rfl⟩

theorem take (may : List Str) {w : World} {R : Nat} {v : Value} {ts : List Str} {lab : Str} {i : Ins} {tl : Str} (h : Rdr w R ts lab i tl) (hm : Ss w v may) :
    Calls Tryz.prog 125 #[.pointer (some ⟨R, 0, none⟩), v] w fun e w' => e = .returned (.int .i64 (takeOf may ts).1) ∧ Goes w R (takeOf may ts).2 lab i tl w' := by
  have E := empty h
  cases ts with
  | nil =>
    have G : Goes w R [] lab i tl w := ⟨h, grown_refl w R⟩
    clear h hm
    go_enter Tryz.func125, Tryz.ntmps125
    go_wp2_with fail
    refine E.mono ?_; rintro e w' ⟨rfl, rfl⟩
    go_wp2_with fail
    go_ret
    exact ⟨rfl, G⟩
  | cons t ts =>
    have I := indexP hm t
    have N := next_some h
    have G : Hid (Goes w R (t :: ts) lab i tl w) := Lib.hid ⟨h, grown_refl w R⟩
    obtain ⟨ao, cap, h1, h2⟩ := h.shape
    obtain ⟨g, o, rfl, _, z1, z2, z3, z4⟩ := h2.at (by simp)
    have c0 := h1.cells.1
    have d0 : w.cell? ⟨g, o, none⟩ = some (str t) := by simpa using z4 0 (by simp)
    have hx : takeOf may (t :: ts) = match ixOf may t with | some k => ((k : Int), ts) | none => (-1, t :: ts) := by
      simp only [takeOf, rdOf]; cases ixOf may t <;> rfl
    rw [hx]
    clear h h1 h2 z4 hm hx
    generalize ixOf may t = ix at I ⊢
    go_enter Tryz.func125, Tryz.ntmps125
    go_wp2_with fail
    refine E.mono ?_; rintro e w' ⟨rfl, rfl⟩
    go_wp2_with fail
    refine I.mono ?_; rintro e w' ⟨rfl, rfl⟩
    cases ix with
    | none =>
      simp only [ixV]
      go_wp2_with fail
      go_ret
      exact ⟨rfl, G.out⟩
    | some k =>
      have hk : decide ((0 : Int) ≤ (k : Int)) = true := by simp
      simp only [ixV]
      go_wp2_with fail
      refine N.mono ?_; rintro e w' ⟨rfl, hr, hg⟩
      go_wp2_with fail
      go_ret
      exact ⟨rfl, hr, hg⟩
/-- Either what is read, and the reader gone on; or the panic. -/
def Reads (w : World) (R : Nat) {α : Type} (res : Option α) (enc : α → Value) (st : α → World → Prop) (e : Ending) (w' : World) : Prop :=
  match res with
  | some x => e = .returned (enc x) ∧ st x w' ∧ w.grownBy w' (some R)
  | none => e = NoLine ∧ w.grownBy w' (some R)
theorem reads_none {w w' : World} {R : Nat} {α : Type} {res : Option α} {enc : α → Value} {st : α → World → Prop} {e : Ending} (h : res = none) (he : e = NoLine) (hg : w.grownBy w' (some R)) : Reads w R res enc st e w' := by
  subst h; exact ⟨he, hg⟩
theorem reads_some {w w' : World} {R : Nat} {α : Type} {res : Option α} {enc : α → Value} {st : α → World → Prop} {e : Ending} (x : α) (h : res = some x) (he : e = .returned (enc x)) (hs : st x w') (hg : w.grownBy w' (some R)) : Reads w R res enc st e w' := by
  subst h; exact ⟨he, hs, hg⟩
theorem Reads.out {w w' : World} {R : Nat} {α : Type} {res : Option α} {enc : α → Value} {st : α → World → Prop} {e : Ending} (h : Reads w R res enc st e w') :
    (res = none ∧ e = NoLine ∧ w.grownBy w' (some R)) ∨ ∃ x, res = some x ∧ e = .returned (enc x) ∧ st x w' ∧ w.grownBy w' (some R) := by
  cases res with
  | none => exact .inl ⟨rfl, h⟩
  | some x => exact .inr ⟨x, rfl, h⟩
theorem rdOf_eq (may ts : List Str) : rdOf may ts = if (takeOf may ts).1 < 0 then none else some (takeOf may ts) := by
  unfold takeOf
  cases h : rdOf may ts with
  | none => simp
  | some x =>
    have : 0 ≤ x.1 := by
      cases ts with
      | nil => cases h
      | cons t r =>
        simp only [rdOf] at h
        cases hi : ixOf may t with
        | none => rw [hi] at h; cases h
        | some k => rw [hi] at h; simp at h; rw [← h]; simp
    simp; omega
theorem need (may : List Str) {w : World} {R : Nat} {v : Value} {ts : List Str} {lab : Str} {i : Ins} {tl : Str} (h : Rdr w R ts lab i tl) (hm : Ss w v may) :
    Calls Tryz.prog 121 #[.pointer (some ⟨R, 0, none⟩), v] w (Reads w R (rdOf may ts) (fun x => .int .i64 x.1) (fun x w' => Rdr w' R x.2 lab i tl)) := by
  have T := take may h hm
  rw [rdOf_eq]
  clear h hm
  generalize takeOf may ts = x at T ⊢
  obtain ⟨n, ts'⟩ := x
  go_enter Tryz.func121, Tryz.ntmps121
  go_wp2_with fail
  refine T.mono ?_; rintro e w' ⟨rfl, hr, hg⟩
  by_cases hn : n < 0
  · have hd : decide ((0 : Int) ≤ n) = false := by simp; omega
    go_wp2_with fail
    refine (must_no w').mono ?_; rintro e w'' ⟨rfl, rfl⟩
    go_wp2_with fail
    exact ⟨rfl, reads_none rfl rfl hg⟩
  · have hd : decide ((0 : Int) ≤ n) = true := by simp; omega
    go_wp2_with fail
    refine (must_ok w').mono ?_; rintro e w'' ⟨rfl, rfl⟩
    go_wp2_with fail
    go_ret
    exact reads_some _ rfl rfl hr hg
theorem registersP (w : World) : Calls Tryz.prog 169 #[] w fun e w' => ∃ v, e = .returned v ∧ Ss w' v regs ∧ Below w.heap.size w w' := by
  have S := ss_new w regs (by decide)
  go_enter Tryz.func169, Tryz.ntmps169
  go_wp2_with fail
  go_ret
  exact ⟨_, rfl, S, alloc_below _ _⟩
theorem registerP {w : World} {R : Nat} {ts : List Str} {lab : Str} {i : Ins} {tl : Str} (h : Rdr w R ts lab i tl) :
    Calls Tryz.prog 123 #[.pointer (some ⟨R, 0, none⟩)] w (Reads w R (rdReg ts) (fun x => .int .i64 x.1) (fun x w' => Rdr w' R x.2 lab i tl)) := by
  have S := registersP w
  have HH := Lib.hid h
  unfold rdReg
  clear h
  go_enter Tryz.func123, Tryz.ntmps123
  go_wp2_with fail
  refine S.mono ?_; rintro e w1 ⟨v, rfl, hv, hb⟩
  go_wp2_with fail
  refine (need regs (HH.out.past hb) hv).mono ?_; intro e w2 h2
  rcases h2.out with ⟨hx, rfl, hg⟩ | ⟨x, hx, rfl, hr, hg⟩
  · go_wp2_with fail
    exact ⟨rfl, reads_none hx rfl (grown_trans (past_grown hb) hg)⟩
  · go_wp2_with fail
    go_ret
    exact reads_some x hx rfl hr (grown_trans (past_grown hb) hg)
set_option maxRecDepth 100000 in
theorem numberP (below : Bool) {w : World} {R : Nat} {ts : List Str} {lab : Str} {i : Ins} {tl : Str} (h : Rdr w R ts lab i tl) (L : Lay w) :
    Calls Tryz.prog 126 #[.pointer (some ⟨R, 0, none⟩), .bool below] w (Reads w R (rdNum below ts) (fun x => .int .i64 x.1) (fun x w' => Rdr w' R x.2 lab i tl)) := by
  cases ts with
  | nil =>
    have N := next_none h
    clear h
    go_enter Tryz.func126, Tryz.ntmps126
    go_wp2_with fail
    refine N.mono ?_; rintro e w' ⟨rfl, rfl⟩
    go_wp2_with fail
    exact ⟨rfl, reads_none rfl rfl (grown_refl w R)⟩
  | cons t ts =>
    have N := next_some h
    have ht := h.1 t (by simp)
    have hne := ht.ne
    have HL : Hid (∀ W, w.grownBy W (some R) → Lay W) := Lib.hid fun W hg => by
      obtain ⟨ao, cap, h1, _⟩ := h.shape
      exact L.grown h1 hg
    clear h L
    obtain ⟨c, r, rfl⟩ : ∃ c r, t = c :: r := by cases t with | nil => exact absurd rfl hne | cons c r => exact ⟨c, r, rfl⟩
    have hc0 : (⟨(c :: r).toArray⟩ : ByteArray).size = r.length + 1 := by simp [ByteArray.size]
    go_enter Tryz.func126, Tryz.ntmps126
    go_wp2_with fail
    refine N.mono ?_; rintro e w' ⟨rfl, hr, hg⟩
    by_cases hl : r.length + 1 ≤ 10
    · have hd : decide ((r.length : Int) + 1 ≤ 10) = true := by simp; omega
      go_wp2_with fail
      by_cases hz : c = 48
      · by_cases h1 : r.length = 0
        · have hq : ((r.length : Int) + 1 == 1) = true := by simp [h1]
          have HN : numOf (c :: r) = (Lib.decNat (c :: r)).map fun n : Nat => (n : Int) := by rw [numOf, if_pos ⟨by simpa using hl, .inl (by simp [h1])⟩]
          refine (must_ok w').mono ?_; rintro e w'' ⟨rfl, rfl⟩
          subst hz
          go_wp2_with fail
          refine (must_ok w').mono ?_; rintro e w'' ⟨rfl, rfl⟩
          go_wp2_with fail
          refine (atoiP (48 :: r) ht (by simpa using hl) w' (HL.out _ hg)).mono ?_; rintro e w'' ⟨h2, hb⟩
          have hr' := hr.past hb
          have hg' := grown_past hg hb
          cases hd2 : Lib.decNat (48 :: r) with
          | none =>
            rw [hd2] at h2 HN
            obtain ⟨tp, p, rfl⟩ := h2
            go_wp2_with fail
            refine (must_no w'').mono ?_; rintro e w3 ⟨rfl, rfl⟩
            go_wp2_with fail
            exact ⟨rfl, reads_none (by simp [rdNum, HN]) rfl hg'⟩
          | some m =>
            rw [hd2] at h2 HN
            subst h2
            have hm : (m : Int) < 9223372036854775808 := by have := Lib.decNat_small (l := 48 :: r) (by simp; omega) hd2; omega
            go_wp2_with fail
            refine (must_ok w'').mono ?_; rintro e w3 ⟨rfl, rfl⟩
            cases below
            all_goals
              go_wp2_with fail
              go_ret
              exact reads_some _ (by simp [rdNum, HN]; rfl) (ret_int (by first | rfl | (simp only [IntKind.wrap]; omega))) hr' hg'
        · have hq : ((r.length : Int) + 1 == 1) = false := by simp; omega
          refine (must_ok w').mono ?_; rintro e w'' ⟨rfl, rfl⟩
          subst hz
          go_wp2_with fail
          refine (must_no w').mono ?_; rintro e w'' ⟨rfl, rfl⟩
          go_wp2_with fail
          exact ⟨rfl, reads_none (by have : ¬ r = [] := fun e => h1 (by simp [e]); simp [rdNum, numOf, this]) rfl hg⟩
      · have hz' : ((c.toNat : Int) != 48) = true := by
          have : c.toNat ≠ 48 := fun e => hz (by apply UInt8.toNat_inj.1; simpa using e)
          simp; omega
        have hz3 : ¬ ((c.toNat : Int) = 48) := by simpa using hz'
        have hz4 : ¬ (c.toNat = 48) := by omega
        have hz5 : ((c.toNat : Int) == 48) = false := by simpa using hz'
        have HN : numOf (c :: r) = (Lib.decNat (c :: r)).map fun n : Nat => (n : Int) := by rw [numOf, if_pos ⟨by simpa using hl, .inr (by simpa using hz)⟩]
        refine (must_ok w').mono ?_; rintro e w'' ⟨rfl, rfl⟩
        go_wp2_with fail
        refine (must_ok w').mono ?_; rintro e w'' ⟨rfl, rfl⟩
        go_wp2_with fail
        refine (atoiP (c :: r) ht (by simpa using hl) w' (HL.out _ hg)).mono ?_; rintro e w'' ⟨h2, hb⟩
        have hr' := hr.past hb
        have hg' := grown_past hg hb
        cases hd2 : Lib.decNat (c :: r) with
        | none =>
          rw [hd2] at h2 HN
          obtain ⟨tp, p, rfl⟩ := h2
          go_wp2_with fail
          refine (must_no w'').mono ?_; rintro e w3 ⟨rfl, rfl⟩
          go_wp2_with fail
          exact ⟨rfl, reads_none (by simp [rdNum, HN]) rfl hg'⟩
        | some m =>
          rw [hd2] at h2 HN
          subst h2
          have hm : (m : Int) < 9223372036854775808 := by have := Lib.decNat_small (l := c :: r) (by simp; omega) hd2; omega
          go_wp2_with fail
          refine (must_ok w'').mono ?_; rintro e w3 ⟨rfl, rfl⟩
          cases below
          all_goals
            go_wp2_with fail
            go_ret
            exact reads_some _ (by simp [rdNum, HN]; rfl) (ret_int (by first | rfl | (simp only [IntKind.wrap]; omega))) hr' hg'
    · have hd : decide ((r.length : Int) + 1 ≤ 10) = false := by simp; omega
      go_wp2_with fail
      refine (must_no w').mono ?_; rintro e w'' ⟨rfl, rfl⟩
      go_wp2_with fail
      exact ⟨rfl, reads_none (by simp [rdNum, numOf, hl]) rfl hg⟩
theorem need_lit (may : List Str) (hl : may.length ≤ 1000000000) {w : World} {R : Nat} {ts : List Str} {lab : Str} {i : Ins} {tl : Str} (h : Rdr w R ts lab i tl) :
    Calls Tryz.prog 121 #[.pointer (some ⟨R, 0, none⟩), .slice (some ⟨w.heap.size, 0, none⟩) may.length may.length] (w.alloc (.cells (may.map str).toArray 9)) (Reads w R (rdOf may ts) (fun x => .int .i64 x.1) (fun x w' => Rdr w' R x.2 lab i tl)) := by
  refine (need may (h.past (alloc_below w _)) (ss_new w may hl)).mono ?_; intro e w' h2
  rcases h2.out with ⟨hx, he, hg⟩ | ⟨x, hx, he, hr, hg⟩
  · exact reads_none hx he (grown_trans (past_grown (alloc_below w _)) hg)
  · exact reads_some x hx he hr (grown_trans (past_grown (alloc_below w _)) hg)
theorem take_lit (may : List Str) (hl : may.length ≤ 1000000000) {w : World} {R : Nat} {ts : List Str} {lab : Str} {i : Ins} {tl : Str} (h : Rdr w R ts lab i tl) :
    Calls Tryz.prog 125 #[.pointer (some ⟨R, 0, none⟩), .slice (some ⟨w.heap.size, 0, none⟩) may.length may.length] (w.alloc (.cells (may.map str).toArray 9)) fun e w' => e = .returned (.int .i64 (takeOf may ts).1) ∧ Goes w R (takeOf may ts).2 lab i tl w' := by
  refine (take may (h.past (alloc_below w _)) (ss_new w may hl)).mono ?_; rintro e w' ⟨he, hr, hg⟩
  exact ⟨he, hr, grown_trans (past_grown (alloc_below w _)) hg⟩
theorem Rdr.lay {w : World} {R : Nat} {ts : List Str} {lab : Str} {i : Ins} {tl : Str} (h : Rdr w R ts lab i tl) (L : Lay w) {w' : World} (hg : w.grownBy w' (some R)) : Lay w' := by
  obtain ⟨ao, cap, h1, _⟩ := h.shape
  exact L.grown h1 hg
theorem signedP {w : World} {R : Nat} {ts : List Str} {lab : Str} {i : Ins} {tl : Str} (h : Rdr w R ts lab i tl) (L : Lay w) : Calls Tryz.prog 183 #[.pointer (some ⟨R, 0, none⟩)] w (Reads w R (rdSigned ts) (fun x => .int .i64 x.1) (fun x w' => Rdr w' R x.2 lab i tl)) := by
  have N := need_lit [[43], [45]] (by decide) h
  have HL := Lib.hid fun W (hg : w.grownBy W (some R)) => h.lay L hg
  clear h L
  go_enter Tryz.func183, Tryz.ntmps183
  go_wp2_with fail
  refine N.mono ?_; intro e w1 h1
  rcases h1.out with ⟨hx, rfl, hg⟩ | ⟨x, hx, rfl, hr, hg⟩
  · go_wp2_with fail
    exact ⟨rfl, reads_none (by simp [rdSigned, hx]) rfl hg⟩
  · have hb : (x.1 == 1) = decide (x.1 = 1) := by rw [Bool.eq_iff_iff]; simp
    have P := numberP (decide (x.1 = 1)) hr (HL.out _ hg)
    rw [← hb] at P
    go_wp2_with fail
    refine P.mono ?_; intro e w2 h2
    rcases h2.out with ⟨hy, rfl, hg2⟩ | ⟨y, hy, rfl, hr2, hg2⟩
    · go_wp2_with fail
      exact ⟨rfl, reads_none (by rw [rdSigned, hx, Option.bind_some, ← hb]; exact hy) rfl (grown_trans hg hg2)⟩
    · go_wp2_with fail
      go_ret
      exact reads_some y (by rw [rdSigned, hx, Option.bind_some, ← hb]; exact hy) rfl hr2 (grown_trans hg hg2)
theorem labelP {w : World} {R : Nat} {ts : List Str} {lab : Str} {i : Ins} {tl : Str} (h : Rdr w R ts lab i tl) : Calls Tryz.prog 127 #[.pointer (some ⟨R, 0, none⟩)] w (Reads w R (rdLabel ts) (fun x => str x.1) (fun x w' => Rdr w' R x.2 lab i tl)) := by
  cases ts with
  | nil =>
    have N := next_none h
    clear h
    go_enter Tryz.func127, Tryz.ntmps127
    go_wp2_with fail
    refine N.mono ?_; rintro e w' ⟨rfl, rfl⟩
    go_wp2_with fail
    exact ⟨rfl, reads_none rfl rfl (grown_refl w R)⟩
  | cons t ts =>
    have N := next_some h
    have ht := h.1 t (by simp)
    have hne := ht.ne
    clear h
    obtain ⟨c, r, rfl⟩ : ∃ c r, t = c :: r := by cases t with | nil => exact absurd rfl hne | cons c r => exact ⟨c, r, rfl⟩
    have hc0 : (⟨(c :: r).toArray⟩ : ByteArray).size = r.length + 1 := by simp [ByteArray.size]
    go_enter Tryz.func127, Tryz.ntmps127
    go_wp2_with fail
    refine N.mono ?_; rintro e w' ⟨rfl, hr, hg⟩
    by_cases hl : r.length + 1 ≤ 30
    · have hd : decide ((r.length : Int) + 1 ≤ 30) = true := by simp; omega
      go_wp2_with fail
      refine (must_ok w').mono ?_; rintro e w'' ⟨rfl, rfl⟩
      go_wp2_with fail
      refine (letterAt c w').mono ?_; rintro e w'' ⟨n, rfl, hn, rfl⟩
      cases hc : letterC c with
      | true =>
        rw [hc] at hn
        go_wp2_with fail
        refine (must_ok w').mono ?_; rintro e w'' ⟨rfl, rfl⟩
        go_wp2_with fail
        go_ret
        exact reads_some (c :: r, ts) (by simp [rdLabel, labelOk, hl, hc]) rfl hr hg
      | false =>
        rw [hc] at hn
        go_wp2_with fail
        refine (must_no w').mono ?_; rintro e w'' ⟨rfl, rfl⟩
        go_wp2_with fail
        exact ⟨rfl, reads_none (by simp [rdLabel, labelOk, hl, hc]) rfl hg⟩
    · have hd : decide ((r.length : Int) + 1 ≤ 30) = false := by simp; omega
      go_wp2_with fail
      refine (must_no w').mono ?_; rintro e w'' ⟨rfl, rfl⟩
      go_wp2_with fail
      exact ⟨rfl, reads_none (by simp [rdLabel, labelOk, hl]) rfl hg⟩
theorem cellT {w : World} {R : Nat} {ts : List Str} {lab : Str} {i : Ins} {tl : Str} (h : Rdr w R ts lab i tl) (L : Lay w) : Calls Tryz.prog 124 #[.pointer (some ⟨R, 0, none⟩)] w (Reads w R (rdCell ts) (fun x => .tuple #[.int .i64 x.1.1, .int .i64 x.1.2]) (fun x w' => Rdr w' R x.2 lab i tl)) := by
  have N := need_lit [[91]] (by decide) h
  have HL := Lib.hid fun W (hg : w.grownBy W (some R)) => h.lay L hg
  clear h L
  go_enter Tryz.func124, Tryz.ntmps124
  go_wp2_with fail
  refine N.mono ?_; intro e w1 h1
  rcases h1.out with ⟨hx, rfl, hg⟩ | ⟨x, hx, rfl, hr, hg⟩
  · go_wp2_with fail
    exact ⟨rfl, reads_none (by simp [rdCell, hx]) rfl hg⟩
  have P := registerP hr
  go_wp2_with fail
  refine P.mono ?_; intro e w2 h2
  rcases h2.out with ⟨hy, rfl, hg2⟩ | ⟨y, hy, rfl, hr2, hg2⟩
  · go_wp2_with fail
    exact ⟨rfl, reads_none (by simp [rdCell, hx, hy]) rfl (grown_trans hg hg2)⟩
  have g2 := grown_trans hg hg2
  have P2 := signedP hr2 (HL.out _ g2)
  go_wp2_with fail
  refine P2.mono ?_; intro e w3 h3
  rcases h3.out with ⟨hz, rfl, hg3⟩ | ⟨z, hz, rfl, hr3, hg3⟩
  · go_wp2_with fail
    exact ⟨rfl, reads_none (by simp [rdCell, hx, hy, hz]) rfl (grown_trans g2 hg3)⟩
  have g3 := grown_trans g2 hg3
  have P3 := need_lit [[93]] (by decide) hr3
  go_wp2_with fail
  refine P3.mono ?_; intro e w4 h4
  rcases h4.out with ⟨hu, rfl, hg4⟩ | ⟨u, hu, rfl, hr4, hg4⟩
  · go_wp2_with fail
    exact ⟨rfl, reads_none (by simp [rdCell, hx, hy, hz, hu]) rfl (grown_trans g3 hg4)⟩
  · go_wp2_with fail
    go_ret2
    exact reads_some ((y.1, z.1), u.2) (by simp [rdCell, hx, hy, hz, hu]) rfl hr4 (grown_trans g3 hg4)
end Go.Proofs.YthfkmackodbmkaaGreatDoor
