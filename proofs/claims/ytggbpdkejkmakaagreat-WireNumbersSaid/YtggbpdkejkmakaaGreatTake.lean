/- Contracts of what a reader has left: take, number, within, block, entry, empty. -/
import Derived.Test.YtggbpdkejkmakaaGreatEnt
import Derived.Laws.PanicsMore
import Derived.Laws.BitsAllLaws
import Derived.Laws.Bits64
import Derived.Laws.BitsLemmas
import Derived.OneCell
namespace Go.Proofs.YtggbpdkejkmakaaGreat
open Go.RowKit
set_option linter.unusedVariables false

/-- Block R is a reader: what is left, and the one that it takes itself for. -/
def Rd (w : World) (R : Nat) (v s : Value) : Prop := w.heap[R]? = some (.cells #[v, s] 76 (0, 0))

theorem Rd.lt {w : World} {R : Nat} {v s : Value} (h : Rd w R v s) : R < w.heap.size := (Array.getElem?_eq_some_iff.1 h).1
theorem Rd.cell0 {w : World} {R : Nat} {v s : Value} (h : Rd w R v s) : w.cell? ⟨R, 0, none⟩ = some v := by
  rw [cell_of_row w R 0 _ _ _ h]; rfl
theorem Rd.cell1 {w : World} {R : Nat} {v s : Value} (h : Rd w R v s) : w.cell? ⟨R, 1, none⟩ = some s := by
  rw [cell_of_row w R 1 _ _ _ h]; rfl
theorem Rd.free0 {w : World} {R : Nat} {v s : Value} (h : Rd w R v s) : w.frozen? ⟨R, 0, none⟩ = false := by
  simp [World.frozen?, show w.heap[R]? = _ from h]
theorem Rd.free1 {w : World} {R : Nat} {v s : Value} (h : Rd w R v s) : w.frozen? ⟨R, 1, none⟩ = false := by
  simp [World.frozen?, show w.heap[R]? = _ from h]
theorem Rd.set0 {w : World} {R : Nat} {v s : Value} (h : Rd w R v s) (u : Value) : Rd (w.setCell ⟨R, 0, none⟩ u) R u s := by
  unfold Rd at h ⊢
  simp only [World.setCell, Array.getElem?_modify, h]
  simp
theorem Rd.set1 {w : World} {R : Nat} {v s : Value} (h : Rd w R v s) (u : Value) : Rd (w.setCell ⟨R, 1, none⟩ u) R v u := by
  unfold Rd at h ⊢
  simp only [World.setCell, Array.getElem?_modify, h]
  simp

/-- The panic of what can't be read. -/
def Unread : Ending := .panicked [{ v := .iface 182 (.agg #[]), recovered := false }]

theorem take_ok (R n m cap : Nat) (ao : Option Addr) (s : Value) (w : World) (h : Rd w R (.slice ao m cap) s) (hn : n ≤ m) (hm : m ≤ cap) (hc : cap ≤ maxLen) :
    Calls Tryz.prog 74 #[.pointer (some ⟨R, 0, none⟩), .int .i64 n] w fun e w' => e = .returned (.slice ao n cap) ∧ w' = w.setCell ⟨R, 0, none⟩ (.slice (if cap - n = 0 then ao else ao.map (·.add n)) (m - n) (cap - n)) := by
  have c0 := h.cell0
  have f0 := h.free0
  have hc' : cap ≤ 9223372036854775807 := by unfold maxLen at hc; omega
  clear hc h
  go_enter Tryz.func74, Tryz.ntmps74
  go_wp2
  all_goals
    go_ret
    exact ⟨rfl, rfl⟩

theorem take_no (R m cap : Nat) (n : Int) (ao : Option Addr) (s : Value) (w : World) (h : Rd w R (.slice ao m cap) s) (hn : n < 0 ∨ (m : Int) < n) (hm : m ≤ cap) (hc : cap ≤ maxLen) :
    Calls Tryz.prog 74 #[.pointer (some ⟨R, 0, none⟩), .int .i64 n] w fun e w' => e = Unread ∧ w = w' := by
  have c0 := h.cell0
  have f0 := h.free0
  have hc' : cap ≤ 9223372036854775807 := by unfold maxLen at hc; omega
  clear hc h
  unfold Unread
  rcases hn with hn | hn
  · go_enter Tryz.func74, Tryz.ntmps74
    go_wp2
    exact ⟨rfl, rfl, rfl⟩
  · have hz : ¬ n < 0 := by omega
    go_enter Tryz.func74, Tryz.ntmps74
    go_wp2
    exact ⟨rfl, rfl, rfl⟩

/-- What v has stands in a block of bytes. -/
def Tag (w : World) (v : Value) : Prop := ∀ a n cap, v = .slice (some a) n cap → 0 < n → ∃ cur fr, w.heap[a.block]? = some (.cells cur 5 fr)
/-- Block k is none of bytes. -/
def NoBytes (w : World) (k : Nat) : Prop := ∀ cur fr, w.heap[k]? ≠ some (.cells cur 5 fr)

theorem Tag.keep {w w' : World} {v : Value} {row : Option Nat} (h : Tag w v) (hg : w.grownBy w' row) (hX : ∀ k, row = some k → NoBytes w k) : Tag w' v := by
  intro a n cap hv hn
  obtain ⟨cur, fr, hb⟩ := h a n cap hv hn
  refine ⟨cur, fr, (hg.block _ (Array.getElem?_eq_some_iff.1 hb).1 (fun e => hX _ e.symm cur fr hb)).trans hb⟩
theorem Tag.bs {w w' : World} {v : Value} {l : List Int} {row : Option Nat} (ht : Tag w v) (h : Bs w v l) (hg : w.grownBy w' row) (hX : ∀ k, row = some k → NoBytes w k) : Bs w' v l := by
  obtain ⟨ao, cap, rfl, h1, h2, h3, h4⟩ := h
  refine ⟨ao, cap, rfl, h1, h2, h3, fun a ha j hj => ?_⟩
  subst ha
  obtain ⟨cur, fr, hb⟩ := ht a l.length cap rfl (by omega)
  exact hg.cell (h4 a rfl j hj) (fun e => hX _ (e.symm.trans (by rw [block_of_add])) cur fr hb)
theorem Rd.noBytes {w : World} {R : Nat} {v s : Value} (h : Rd w R v s) : NoBytes w R := by
  intro cur fr hb
  rw [show w.heap[R]? = _ from h] at hb
  simp at hb

/-- Reader R has the bytes l left, and takes itself for sp. -/
def Left (w : World) (R : Nat) (l : List Int) (sp : Option Addr) : Prop := Oct l ∧ ∃ v, Rd w R v (.pointer sp) ∧ Bs w v l ∧ Tag w v

theorem grownBy_trans {a b c : World} {row : Option Nat} (h : a.grownBy b row) (k : b.grownBy c row) : a.grownBy c row :=
  ⟨k.os.trans h.os, k.tape.trans h.tape, k.output.trans h.output, Nat.le_trans h.size k.size, fun i hi hne => (k.block i (Nat.lt_of_lt_of_le hi h.size) hne).trans (h.block i hi hne)⟩
theorem grownBy_refl (w : World) (row : Option Nat) : w.grownBy w row := ⟨rfl, rfl, rfl, Nat.le_refl _, fun _ _ _ => rfl⟩
theorem grownBy_setCell (w : World) (a : Addr) (u : Value) : w.grownBy (w.setCell a u) (some a.block) :=
  ⟨rfl, rfl, rfl, by simp [World.setCell], fun k hk hne => Below.heap_setCell w a u k (fun e => hne (by rw [e]))⟩
theorem below_grownBy {w w' : World} (h : Below w.heap.size w w') (row : Option Nat) : w.grownBy w' row :=
  ⟨h.os, h.tape, h.output, h.size, fun k hk _ => h.block k hk⟩

/-- A reader keeps what it has left where another block than its own, and none of bytes, has turned. -/
theorem Left.keep {w w' : World} {R : Nat} {l : List Int} {sp : Option Addr} {row : Option Nat} (h : Left w R l sp) (hg : w.grownBy w' row) (hX : ∀ k, row = some k → k ≠ R ∧ NoBytes w k) : Left w' R l sp := by
  obtain ⟨ho, v, hr, hb, ht⟩ := h
  exact ⟨ho, v, (hg.block R hr.lt (fun e => (hX R e.symm).1 rfl)).trans hr, ht.bs hb hg (fun k hk => (hX k hk).2), ht.keep hg (fun k hk => (hX k hk).2)⟩
theorem Left.grown {w w' : World} {R : Nat} {l : List Int} {sp : Option Addr} (h : Left w R l sp) (hg : w.grownBy w' none) : Left w' R l sp := h.keep hg (fun k hk => by cases hk)
theorem Left.alloc {w : World} {R : Nat} {l : List Int} {sp : Option Addr} (h : Left w R l sp) (o : Obj) : Left (w.alloc o) R l sp := h.grown (World.grownBy_alloc w o none)
theorem Left.lt {w : World} {R : Nat} {l : List Int} {sp : Option Addr} (h : Left w R l sp) : R < w.heap.size := by obtain ⟨_, v, hr, _⟩ := h; exact hr.lt
theorem Left.oct {w : World} {R : Nat} {l : List Int} {sp : Option Addr} (h : Left w R l sp) : Oct l := h.1

/-- e returns the first n bytes; they are no more left. -/
def Took (R n : Nat) (l : List Int) (sp : Option Addr) (w : World) (e : Ending) (w' : World) : Prop :=
  ∃ v, e = .returned v ∧ Bs w' v (l.take n) ∧ Left w' R (l.drop n) sp ∧ w.grownBy w' (some R)

theorem take (R n : Nat) (l : List Int) (sp : Option Addr) (w : World) (h : Left w R l sp) (hn : n ≤ l.length) :
    Calls Tryz.prog 74 #[.pointer (some ⟨R, 0, none⟩), .int .i64 n] w (Took R n l sp w) := by
  obtain ⟨ho, v, hr, hb, ht⟩ := h
  have hb' := hb
  obtain ⟨ao, cap, rfl, h1, h2, h3, h4⟩ := hb'
  refine (take_ok R n l.length cap ao _ w hr hn h1 h2).mono fun e w' ⟨he, hw⟩ => ?_
  have hg : w.grownBy w' (some R) := by rw [hw]; exact grownBy_setCell w ⟨R, 0, none⟩ _
  have hr' := hr.set0 (Value.slice (if cap - n = 0 then ao else ao.map (·.add n)) (l.length - n) (cap - n))
  rw [← hw] at hr'
  have hN : ∀ k, some R = some k → NoBytes w k := fun k hk => by cases hk; exact hr.noBytes
  have hb2 := ht.bs hb hg hN
  have ht2 := ht.keep hg hN
  refine ⟨_, he, hb2.take hn, ⟨ho.drop n, _, hr', hb2.drop hn, fun a m c hv hm => ?_⟩, hg⟩
  split at hv
  · cases hv; exact ht2 a _ _ rfl (by omega)
  · cases ao with
    | none => cases hv
    | some a0 =>
      cases hv
      obtain ⟨cur, fr, hbl⟩ := ht2 a0 _ _ rfl (by omega)
      exact ⟨cur, fr, by rw [block_of_add]; exact hbl⟩

theorem takeNo (R : Nat) (n : Int) (l : List Int) (sp : Option Addr) (w : World) (h : Left w R l sp) (hn : n < 0 ∨ (l.length : Int) < n) :
    Calls Tryz.prog 74 #[.pointer (some ⟨R, 0, none⟩), .int .i64 n] w fun e w' => e = Unread ∧ w = w' := by
  obtain ⟨ho, v, hr, hb, ht⟩ := h
  obtain ⟨ao, cap, rfl, h1, h2, h3, h4⟩ := hb
  exact take_no R l.length cap n ao _ w hr hn h1 h2

/-- The number that the first k bytes are. -/
def be (l : List Int) : Nat → Int
  | 0 => 0
  | k + 1 => be l k * 256 + nth l k
theorem be_succ (l : List Int) (k : Nat) : be l (k + 1) = be l k * 256 + nth l k := rfl
theorem be_bound {l : List Int} (ho : Oct l) : ∀ k, k ≤ l.length → ∃ a : Nat, be l k = a ∧ a < 256 ^ k
  | 0, _ => ⟨0, rfl, Nat.zero_lt_one⟩
  | k + 1, h => by
    obtain ⟨a, h1, h2⟩ := be_bound ho k (by omega)
    have hn := ho.nth (j := k) (by omega)
    refine ⟨a * 256 + (nth l k).toNat, by rw [be_succ, h1]; omega, ?_⟩
    rw [Nat.pow_succ]
    generalize 256 ^ k = z at *
    omega
theorem be_top {l : List Int} (ho : Oct l) {k : Nat} (hk : k < 8) (h : k ≤ l.length) : 0 ≤ be l k ∧ be l k < 72057594037927936 := by
  obtain ⟨a, h1, h2⟩ := be_bound ho k h
  have h3 : 256 ^ k ≤ 256 ^ 7 := Nat.pow_le_pow_right (by decide) (by omega)
  have h4 : 256 ^ 7 = 72057594037927936 := by decide
  rw [h4] at h3
  rw [h1]
  omega
theorem or_byte (a b : Nat) (h1 : a < 72057594037927936) (h2 : b < 256) : bits .or .u64 ((a : Int) * 256) b = (a : Int) * 256 + b := by
  have h := Nat.two_pow_add_eq_or_of_lt (i := 8) (b := b) (by omega) a
  rw [show (a : Int) * 256 = ((2 ^ 8 * a : Nat) : Int) from by omega, Go.u64_or_nat _ _ (by omega) (by omega), ← h]
  omega
theorem be_or {l : List Int} (ho : Oct l) {k : Nat} (hk : k < 8) (h : k < l.length) : bits .or .u64 (IntKind.u64.wrap (be l k * 256)) (IntKind.u64.wrap (nth l k)) = be l (k + 1) := by
  have hb := be_top ho hk (Nat.le_of_lt h)
  have hn := ho.nth h
  rw [be_succ]
  generalize be l k = x at *
  generalize nth l k = y at *
  have e1 : IntKind.u64.wrap (x * 256) = x * 256 := by rw [IntKind.wrap_u64]; omega
  have e2 : IntKind.u64.wrap y = y := by rw [IntKind.wrap_u64]; omega
  rw [e1, e2]
  obtain ⟨a, rfl⟩ := Int.eq_ofNat_of_zero_le hb.1
  obtain ⟨b, rfl⟩ := Int.eq_ofNat_of_zero_le hn.1
  exact or_byte a b (by omega) (by omega)
/-- The number that eight bytes are. -/
def val (l : List Int) : Int := wrap64 (be l 8)

/-- e returns v; reader R has l left, and nothing else has turned. -/
def Reads (R : Nat) (v : Value) (l : List Int) (sp : Option Addr) (w : World) (e : Ending) (w' : World) : Prop :=
  e = .returned v ∧ Left w' R l sp ∧ w.grownBy w' (some R)
/-- e is the panic of what can't be read; reader R has something left, and nothing else has turned. -/
def Fails (R : Nat) (sp : Option Addr) (w : World) (e : Ending) (w' : World) : Prop :=
  e = Unread ∧ (∃ l, Left w' R l sp) ∧ w.grownBy w' (some R)

set_option maxHeartbeats 1000000 in
set_option maxRecDepth 100000 in
theorem number (R : Nat) (l : List Int) (sp : Option Addr) (w : World) (h : Left w R l sp) (hl : 8 ≤ l.length) :
    Calls Tryz.prog 42 #[.pointer (some ⟨R, 0, none⟩)] w (Reads R (.int .i64 (val l)) (l.drop 8) sp w) := by
  have T := Lib.hid (take R 8 l sp w h hl)
  have ho := Lib.hid h.1
  clear h
  go_enter Tryz.func42, Tryz.ntmps42
  go_wp2_with fail
  refine (T.out).mono ?_
  rintro e w1 ⟨v1, rfl, hb, hL, hg⟩
  have hlen : (l.take 8).length = 8 := by simp; omega
  obtain ⟨b, off, cap, rfl, -, -, -, cells⟩ := hb.at (by omega)
  have CU := Lib.hid cells
  have HL := Lib.hid hL
  have HG := Lib.hid hg
  rw [hlen]
  clear cells hb hL hg hlen
  go_wp2_with fail
  go_loop [3, 9] (fun s i => ∃ k : Nat, k ≤ 8 ∧ i = .int .i64 k ∧ s = .int .u64 (be l k)) (fun _ i => 8 - (intOf i).toNat)
  case atStart => exact ⟨0, Nat.zero_le _, rfl, rfl⟩
  case round =>
    obtain ⟨k, hk, rfl, rfl⟩ := hrel
    by_cases hlt : k < 8
    · have cu := CU.out k (by simp; omega)
      rw [nth_take hlt] at cu
      have hor := Lib.hid (be_or ho.out hlt (by omega))
      have hd : decide (k < 8) = true := by simpa using hlt
      go_wp2_with fail
      go_round
      case rel => exact ⟨k + 1, by omega, by go_num, by rw [hor.out]⟩
      case measure => simp [intOf]; omega
    · obtain rfl : k = 8 := by omega
      go_wp2_with fail
      go_ret
      exact ⟨rfl, HL.out, HG.out⟩

set_option maxRecDepth 100000 in
theorem numberNo (R : Nat) (l : List Int) (sp : Option Addr) (w : World) (h : Left w R l sp) (hl : l.length < 8) :
    Calls Tryz.prog 42 #[.pointer (some ⟨R, 0, none⟩)] w (Fails R sp w) := by
  have T := Lib.hid (takeNo R 8 l sp w h (Or.inr (by omega)))
  have H := Lib.hid h
  clear h
  go_enter Tryz.func42, Tryz.ntmps42
  go_wp2_with fail
  refine (T.out).mono ?_
  rintro e w1 ⟨rfl, rfl⟩
  exact ⟨rfl, rfl, ⟨l, H.out⟩, grownBy_refl _ _⟩

/-- What a number is read as. -/
def rdNum (l : List Int) : Option (Int × List Int) := if 8 ≤ l.length then some (val l, l.drop 8) else none
def rdIn (most : Int) (l : List Int) : Option (Int × List Int) := (rdNum l).bind fun p => if 0 ≤ p.1 ∧ p.1 ≤ most then some p else none
def rdBytes (l : List Int) : Option (List Int × List Int) := (rdNum l).bind fun p => if 0 ≤ p.1 ∧ p.1 ≤ p.2.length then some (p.2.take p.1.toNat, p.2.drop p.1.toNat) else none
theorem rdNum_some {l : List Int} {n : Int} {r : List Int} (h : rdNum l = some (n, r)) : 8 ≤ l.length ∧ n = val l ∧ r = l.drop 8 := by
  unfold rdNum at h
  split at h
  · simp at h; exact ⟨by assumption, h.1.symm, h.2.symm⟩
  · cases h
theorem rdNum_none {l : List Int} (h : rdNum l = none) : l.length < 8 := by
  unfold rdNum at h
  split at h
  · cases h
  · omega
theorem rdIn_some {most : Int} {l : List Int} {n : Int} {r : List Int} (h : rdIn most l = some (n, r)) : rdNum l = some (n, r) ∧ 0 ≤ n ∧ n ≤ most := by
  unfold rdIn at h
  cases hr : rdNum l with
  | none => rw [hr] at h; cases h
  | some p =>
    rw [hr] at h
    simp only [Option.bind_some] at h
    split at h
    · cases h; exact ⟨rfl, by assumption⟩
    · cases h
theorem rdIn_none {most : Int} {l : List Int} (h : rdIn most l = none) : rdNum l = none ∨ ∃ n r, rdNum l = some (n, r) ∧ (n < 0 ∨ most < n) := by
  unfold rdIn at h
  cases hr : rdNum l with
  | none => exact Or.inl rfl
  | some p =>
    rw [hr] at h
    simp only [Option.bind_some] at h
    split at h
    · cases h
    · exact Or.inr ⟨p.1, p.2, rfl, by omega⟩
theorem rdBytes_some {l d r : List Int} (h : rdBytes l = some (d, r)) : ∃ n r0, rdNum l = some (n, r0) ∧ 0 ≤ n ∧ n ≤ r0.length ∧ d = r0.take n.toNat ∧ r = r0.drop n.toNat := by
  unfold rdBytes at h
  cases hr : rdNum l with
  | none => rw [hr] at h; cases h
  | some p =>
    rw [hr] at h
    simp only [Option.bind_some] at h
    split at h
    · cases h; rename_i hc; exact ⟨p.1, p.2, rfl, hc.1, hc.2, rfl, rfl⟩
    · cases h
theorem rdBytes_none {l : List Int} (h : rdBytes l = none) : rdNum l = none ∨ ∃ n r, rdNum l = some (n, r) ∧ (n < 0 ∨ (r.length : Int) < n) := by
  unfold rdBytes at h
  cases hr : rdNum l with
  | none => exact Or.inl rfl
  | some p =>
    rw [hr] at h
    simp only [Option.bind_some] at h
    split at h
    · cases h
    · exact Or.inr ⟨p.1, p.2, rfl, by omega⟩
theorem val_bounds (l : List Int) : -9223372036854775808 ≤ val l ∧ val l ≤ 9223372036854775807 := by unfold val wrap64; omega

theorem number_some {R : Nat} {l : List Int} {sp : Option Addr} {w : World} (h : Left w R l sp) {n : Int} {r : List Int} (hn : rdNum l = some (n, r)) :
    Calls Tryz.prog 42 #[.pointer (some ⟨R, 0, none⟩)] w (Reads R (.int .i64 n) r sp w) := by
  obtain ⟨h1, rfl, rfl⟩ := rdNum_some hn
  exact number R l sp w h h1
theorem number_none {R : Nat} {l : List Int} {sp : Option Addr} {w : World} (h : Left w R l sp) (hn : rdNum l = none) :
    Calls Tryz.prog 42 #[.pointer (some ⟨R, 0, none⟩)] w (Fails R sp w) := numberNo R l sp w h (rdNum_none hn)

set_option maxRecDepth 100000 in
theorem within_some {R : Nat} {most : Int} {l : List Int} {sp : Option Addr} {w : World} (h : Left w R l sp) {n : Int} {r : List Int} (hn : rdIn most l = some (n, r)) :
    Calls Tryz.prog 77 #[.pointer (some ⟨R, 0, none⟩), .int .i64 most] w (Reads R (.int .i64 n) r sp w) := by
  obtain ⟨h1, h2, h3⟩ := rdIn_some hn
  have T := Lib.hid (number_some h h1)
  clear h h1 hn
  go_enter Tryz.func77, Tryz.ntmps77
  go_wp2_with fail
  refine (T.out).mono ?_
  rintro e w1 ⟨rfl, hL, hg⟩
  go_wp2
  go_ret
  exact ⟨rfl, hL, hg⟩

set_option maxRecDepth 100000 in
theorem within_none {R : Nat} {most : Int} {l : List Int} {sp : Option Addr} {w : World} (h : Left w R l sp) (hn : rdIn most l = none) :
    Calls Tryz.prog 77 #[.pointer (some ⟨R, 0, none⟩), .int .i64 most] w (Fails R sp w) := by
  rcases rdIn_none hn with h1 | ⟨n, r, h1, h2⟩
  · have T := Lib.hid (number_none h h1)
    clear h h1 hn
    go_enter Tryz.func77, Tryz.ntmps77
    go_wp2_with fail
    refine (T.out).mono ?_
    rintro e w1 ⟨rfl, hL, hg⟩
    exact ⟨rfl, rfl, hL, hg⟩
  · have T := Lib.hid (number_some h h1)
    clear h h1 hn
    rcases h2 with h2 | h2
    · go_enter Tryz.func77, Tryz.ntmps77
      go_wp2_with fail
      refine (T.out).mono ?_
      rintro e w1 ⟨rfl, hL, hg⟩
      go_wp2
      exact ⟨rfl, rfl, ⟨r, hL⟩, hg⟩
    · by_cases h3 : n < 0
      · go_enter Tryz.func77, Tryz.ntmps77
        go_wp2_with fail
        refine (T.out).mono ?_
        rintro e w1 ⟨rfl, hL, hg⟩
        go_wp2
        exact ⟨rfl, rfl, ⟨r, hL⟩, hg⟩
      · go_enter Tryz.func77, Tryz.ntmps77
        go_wp2_with fail
        refine (T.out).mono ?_
        rintro e w1 ⟨rfl, hL, hg⟩
        go_wp2
        exact ⟨rfl, rfl, ⟨r, hL⟩, hg⟩
end Go.Proofs.YtggbpdkejkmakaaGreat
