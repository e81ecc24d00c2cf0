/- Instructions, their bytes and what may come behind them, as plain values. -/
import Derived.Test.YthfkmackodbmkaaGreatDoorMem
namespace Go.Proofs.YthfkmackodbmkaaGreatDoor
set_option linter.unusedVariables false
set_option linter.unusedSimpArgs false

structure Ins where
  op : Int
  nw : Bool
  dst : Int
  src : Int
  ui : Bool
  off : Int
  im : Int
  sz : Int
deriving DecidableEq

def noIns : Ins := ⟨0, false, 0, 0, false, 0, 0, 0⟩
/-- The numbers of an instruction that came in: of their kinds. -/
structure InsWf (i : Ins) : Prop where
  op0 : 0 ≤ i.op
  op1 : i.op ≤ 255
  dst0 : -9223372036854775808 ≤ i.dst
  dst1 : i.dst ≤ 9223372036854775807
  src0 : -9223372036854775808 ≤ i.src
  src1 : i.src ≤ 9223372036854775807
  off0 : -9223372036854775808 ≤ i.off
  off1 : i.off ≤ 9223372036854775807
  im0 : -9223372036854775808 ≤ i.im
  im1 : i.im ≤ 9223372036854775807
  sz0 : -9223372036854775808 ≤ i.sz
  sz1 : i.sz ≤ 9223372036854775807

def isT (n : Int) : Bool := decide (0 ≤ n) && decide (n ≤ 9)
def isR (n : Int) : Bool := decide (0 ≤ n) && decide (n ≤ 10)
def second (i : Ins) : Bool := if i.ui = true then decide (i.src = 0) && (decide (-2147483648 ≤ i.im) && decide (i.im < 2147483648)) else isR i.src && decide (i.im = 0)
def farI (i : Ins) : Bool := decide (-32768 ≤ i.off) && decide (i.off < 32768)
def okSize (n : Int) : Bool := decide (n = 1) || (decide (n = 2) || (decide (n = 4) || decide (n = 8)))
def condI (i : Ins) : Bool := decide (17 ≤ i.op) && decide (i.op ≤ 27)
def jumpsI (i : Ins) : Bool := decide (16 ≤ i.op) && decide (i.op ≤ 27)
def right (i : Ins) : Bool :=
  if 1 ≤ i.op ∧ i.op ≤ 12 then isT i.dst && (second i && (decide (i.off = 0) && decide (i.sz = 0)))
  else if i.op = 13 then isT i.dst && decide (i = ⟨13, i.nw, i.dst, 0, false, 0, 0, 0⟩)
  else if i.op = 14 then isT i.dst && (isR i.src && (farI i && (okSize i.sz && decide (i = ⟨14, false, i.dst, i.src, false, i.off, 0, i.sz⟩))))
  else if i.op = 15 then isR i.dst && (farI i && (okSize i.sz && (second i && !i.nw)))
  else if i.op = 16 then farI i && decide (i = ⟨16, false, 0, 0, false, i.off, 0, 0⟩)
  else if 17 ≤ i.op ∧ i.op ≤ 27 then isR i.dst && (farI i && (second i && decide (i.sz = 0)))
  else decide (i = ⟨28, false, 0, 0, false, 0, 0, 0⟩)

/-- The flags of what an Op has. -/
def fl (op : Int) : Int :=
  if 1 ≤ op ∧ op ≤ 12 then 147 else if op = 13 then 131 else if op = 14 then 107 else if op = 15 then 117 else if op = 16 then 33 else if 17 ≤ op ∧ op ≤ 27 then 181 else if op = 28 then 1 else 0
theorem fl_cases (op : Int) : fl op = 0 ∨ fl op = 1 ∨ fl op = 33 ∨ fl op = 107 ∨ fl op = 117 ∨ fl op = 131 ∨ fl op = 147 ∨ fl op = 181 := by
  unfold fl; repeat' split
  all_goals simp
def bit (h k : Int) : Bool := decide (h / k % 2 = 1)
/-- Nothing but what the flags tell. -/
def bare (i : Ins) (h : Int) : Ins :=
  { op := i.op, nw := bit h 128 && i.nw, dst := if (bit h 2 || bit h 4) = true then i.dst else 0
    src := if (bit h 16 && i.ui) = true then 0 else if (bit h 8 || bit h 16) = true then i.src else 0
    ui := bit h 16 && i.ui, off := if bit h 32 = true then i.off else 0, im := if (bit h 16 && i.ui) = true then i.im else 0, sz := if bit h 64 = true then i.sz else 0 }
def fitsI (i : Ins) (h : Int) : Bool :=
  decide (0 ≤ i.dst) && (decide (i.dst ≤ if bit h 2 = true then 9 else 10) && (decide (0 ≤ i.src) && (decide (i.src ≤ 10) && (decide (-32768 ≤ i.off) && (decide (i.off < 32768) && (decide (-2147483648 ≤ i.im) && (decide (i.im ≤ 2147483647) && (!bit h 64 || okSize i.sz))))))))
theorem right_eq (i : Ins) : right i = (bit (fl i.op) 1 && (decide (i = bare i (fl i.op)) && fitsI i (fl i.op))) := by
  obtain ⟨op, nw, dst, src, ui, off, im, sz⟩ := i
  rw [Bool.eq_iff_iff]
  unfold fl
  simp only []
  by_cases h1 : 1 ≤ op ∧ op ≤ 12
  · cases ui <;> cases nw <;> simp [right, h1, bit, bare, fitsI, isT, isR, second, farI, okSize] <;> omega
  by_cases h2 : op = 13
  · subst h2; cases ui <;> cases nw <;> simp [right, bit, bare, fitsI, isT, isR, second, farI, okSize] <;> omega
  by_cases h3 : op = 14
  · subst h3; cases ui <;> cases nw <;> simp [right, bit, bare, fitsI, isT, isR, second, farI, okSize] <;> omega
  by_cases h4 : op = 15
  · subst h4; cases ui <;> cases nw <;> simp [right, bit, bare, fitsI, isT, isR, second, farI, okSize] <;> omega
  by_cases h5 : op = 16
  · subst h5; cases ui <;> cases nw <;> simp [right, bit, bare, fitsI, isT, isR, second, farI, okSize] <;> omega
  by_cases h6 : 17 ≤ op ∧ op ≤ 27
  · cases ui <;> cases nw <;> simp [right, h1, h2, h3, h4, h5, h6, bit, bare, fitsI, isT, isR, second, farI, okSize] <;> omega
  by_cases h7 : op = 28
  · subst h7; cases ui <;> cases nw <;> simp [right, bit, bare, fitsI, isT, isR, second, farI, okSize] <;> omega
  · simp [right, h1, h2, h3, h4, h5, h6, h7, bit]

/-- What a right instruction's numbers are. -/
structure Tame (i : Ins) : Prop where
  op0 : 1 ≤ i.op
  op1 : i.op ≤ 28
  dst0 : 0 ≤ i.dst
  dst1 : i.dst ≤ 10
  src0 : 0 ≤ i.src
  src1 : i.src ≤ 10
  off0 : -32768 ≤ i.off
  off1 : i.off < 32768
  im0 : -2147483648 ≤ i.im
  im1 : i.im < 2147483648
  sz : (i.op = 14 ∨ i.op = 15) ∧ (i.sz = 1 ∨ i.sz = 2 ∨ i.sz = 4 ∨ i.sz = 8) ∧ i.nw = false ∨ i.op ≠ 14 ∧ i.op ≠ 15 ∧ i.sz = 0
theorem tame {i : Ins} (h : right i = true) : Tame i := by
  obtain ⟨op, nw, dst, src, ui, off, im, sz⟩ := i
  by_cases h1 : 1 ≤ op ∧ op ≤ 12
  · cases ui <;> simp [right, h1, isT, isR, second, farI, okSize] at h <;> constructor <;> simp <;> omega
  by_cases h2 : op = 13
  · subst h2; simp [right, isT, isR, second, farI, okSize] at h; obtain ⟨h, rfl, rfl, rfl, rfl, rfl⟩ := h; constructor <;> simp <;> omega
  by_cases h3 : op = 14
  · subst h3; simp [right, isT, isR, second, farI, okSize] at h; obtain ⟨h, h', h'', h3, rfl, rfl, rfl⟩ := h; constructor <;> simp <;> omega
  by_cases h4 : op = 15
  · subst h4; cases ui <;> simp [right, isT, isR, second, farI, okSize] at h <;> obtain ⟨h, h', h'', h3, rfl⟩ := h <;> constructor <;> simp <;> omega
  by_cases h5 : op = 16
  · subst h5; simp [right, isT, isR, second, farI, okSize] at h; obtain ⟨h, rfl, rfl, rfl, rfl, rfl, rfl⟩ := h; constructor <;> simp <;> omega
  by_cases h6 : 17 ≤ op ∧ op ≤ 27
  · cases ui <;> simp [right, h1, h2, h3, h4, h5, h6, isT, isR, second, farI, okSize] at h <;> constructor <;> simp <;> omega
  · simp [right, h1, h2, h3, h4, h5, h6] at h
    obtain ⟨rfl, rfl, rfl, rfl, rfl, rfl, rfl, rfl⟩ := h
    constructor <;> simp
theorem Tame.wf {i : Ins} (h : Tame i) : InsWf i := by
  obtain ⟨a, b, c, d, e, f, g, h, j, k, l⟩ := h
  constructor <;> omega

/-- The bits of a size. -/
def szb (n : Int) : Int := if n = 2 then 64 else if n = 4 then 128 else if n = 8 then 192 else 0
def first (i : Ins) : Int := i.op + (if i.ui = true then 32 else 0) + (if i.nw = true then 64 else 0) + szb i.sz
def wrap (n k : Int) : Int := if n < 0 then n + k else n
/-- The eight bytes of an instruction. -/
def enc (i : Ins) : List Int :=
  [first i, 16 * i.dst + i.src, wrap i.off 65536 / 256, wrap i.off 65536 % 256, wrap i.im 4294967296 / 16777216, wrap i.im 4294967296 / 65536 % 256, wrap i.im 4294967296 / 256 % 256, wrap i.im 4294967296 % 256]
theorem enc_length (i : Ins) : (enc i).length = 8 := rfl
theorem wrap_off {n : Int} (h0 : -32768 ≤ n) (h1 : n < 32768) : 0 ≤ wrap n 65536 ∧ wrap n 65536 < 65536 := by unfold wrap; split <;> omega
theorem wrap_im {n : Int} (h0 : -2147483648 ≤ n) (h1 : n < 2147483648) : 0 ≤ wrap n 4294967296 ∧ wrap n 4294967296 < 4294967296 := by unfold wrap; split <;> omega
theorem first_bounds {i : Ins} (t : Tame i) : 0 ≤ first i ∧ first i < 256 := by
  obtain ⟨op0, op1, -, -, -, -, -, -, -, -, h⟩ := t
  unfold first szb
  rcases h with ⟨h1, h2, h3⟩ | ⟨h1, h2, h3⟩
  · rw [h3]; rcases h2 with h2 | h2 | h2 | h2 <;> rw [h2] <;> simp <;> split <;> omega
  · rw [h3]; simp; split <;> split <;> omega
theorem enc_oct {i : Ins} (t : Tame i) : Oct (enc i) := by
  have h1 := first_bounds t
  have h2 := wrap_off t.off0 t.off1
  have h3 := wrap_im t.im0 t.im1
  have := t.dst0; have := t.dst1; have := t.src0; have := t.src1
  intro n hn
  simp only [enc, List.mem_cons, List.not_mem_nil, or_false] at hn
  generalize wrap i.off 65536 = x at *
  generalize wrap i.im 4294967296 = y at *
  rcases hn with rfl | rfl | rfl | rfl | rfl | rfl | rfl | rfl <;> omega

def unwrap (n k : Int) : Int := if k / 2 ≤ n then n - k else n
/-- The instruction that eight bytes may be. -/
def dec (b : List Int) : Ins :=
  let op := nth b 0 % 32
  let up := nth b 0 / 64
  { op := op, ui := decide (nth b 0 / 32 % 2 = 1), dst := nth b 1 / 16, src := nth b 1 % 16, off := unwrap (256 * nth b 2 + nth b 3) 65536
    im := unwrap (16777216 * nth b 4 + 65536 * nth b 5 + 256 * nth b 6 + nth b 7) 4294967296
    sz := if op = 14 ∨ op = 15 then (if up = 0 then 1 else if up = 1 then 2 else if up = 2 then 4 else 8) else 0
    nw := if op = 14 ∨ op = 15 then false else decide (up % 2 = 1) }
def okI (b : List Int) : Bool := right (dec b) && decide (enc (dec b) = b)
theorem wrap_unwrap (n k : Int) (hk : k % 2 = 0) (h0 : -(k / 2) ≤ n) (h1 : n < k / 2) : unwrap (wrap n k) k = n := by unfold unwrap wrap; split <;> split <;> omega
theorem div_sum (a b c d : Int) (h0 : 0 ≤ a) (h1 : a < 4294967296) : 16777216 * (a / 16777216) + 65536 * (a / 65536 % 256) + 256 * (a / 256 % 256) + a % 256 = a := by omega
/-- What the first byte holds. -/
theorem first_parts {i : Ins} (t : Tame i) : first i % 32 = i.op ∧ (first i / 32 % 2 = 1 ↔ i.ui = true) ∧ (i.op ≠ 14 → i.op ≠ 15 → (first i / 64 % 2 = 1 ↔ i.nw = true) ∧ first i / 64 ≤ 1) ∧ (i.op = 14 ∨ i.op = 15 → szb i.sz / 64 = first i / 64) := by
  obtain ⟨op, nw, dst, src, ui, off, im, sz⟩ := i
  obtain ⟨op0, op1, -, -, -, -, -, -, -, -, hs⟩ := t
  simp only at op0 op1 hs
  unfold first szb
  simp only
  rcases hs with ⟨h1, h2, rfl⟩ | ⟨h1, h2, rfl⟩
  · rcases h2 with rfl | rfl | rfl | rfl <;> cases ui <;> simp <;> omega
  · cases ui <;> cases nw <;> simp [h1, h2] <;> omega
theorem enc_nth (i : Ins) : nth (enc i) 0 = first i ∧ nth (enc i) 1 = 16 * i.dst + i.src ∧ nth (enc i) 2 = wrap i.off 65536 / 256 ∧ nth (enc i) 3 = wrap i.off 65536 % 256 ∧ nth (enc i) 4 = wrap i.im 4294967296 / 16777216 ∧
    nth (enc i) 5 = wrap i.im 4294967296 / 65536 % 256 ∧ nth (enc i) 6 = wrap i.im 4294967296 / 256 % 256 ∧ nth (enc i) 7 = wrap i.im 4294967296 % 256 := ⟨rfl, rfl, rfl, rfl, rfl, rfl, rfl, rfl⟩
theorem dec_enc {i : Ins} (h : right i = true) : dec (enc i) = i := by
  have t := tame h
  have h2 := wrap_off t.off0 t.off1
  have h3 := wrap_im t.im0 t.im1
  have e1 := wrap_unwrap i.off 65536 (by decide) (by have := t.off0; omega) (by have := t.off1; omega)
  have e2 := wrap_unwrap i.im 4294967296 (by decide) (by have := t.im0; omega) (by have := t.im1; omega)
  have e3 : 256 * (wrap i.off 65536 / 256) + wrap i.off 65536 % 256 = wrap i.off 65536 := by omega
  have e4 := div_sum (wrap i.im 4294967296) 0 0 0 h3.1 h3.2
  obtain ⟨p1, p2, p3, p4⟩ := first_parts t
  obtain ⟨n0, n1, n2, n3, n4, n5, n6, n7⟩ := enc_nth i
  obtain ⟨op0, op1, dst0, dst1, src0, src1, -, -, -, -, hs⟩ := t
  unfold dec
  simp only [n0, n1, n2, n3, n4, n5, n6, n7, p1, e3, e4, e1, e2]
  obtain ⟨op, nw, dst, src, ui, off, im, sz⟩ := i
  simp only at *
  congr 1
  · rcases hs with ⟨h1, h2, rfl⟩ | ⟨h1, h2, rfl⟩
    · simp [h1]
    · simp only [h1, h2, or_self, if_false]
      rw [Bool.eq_iff_iff, decide_eq_true_iff]; exact (p3 h1 h2).1
  · omega
  · omega
  · rw [Bool.eq_iff_iff, decide_eq_true_iff]; exact p2
  · rcases hs with ⟨h1, h2, rfl⟩ | ⟨h1, h2, rfl⟩
    · rw [if_pos h1]
      have := p4 h1
      rcases h2 with rfl | rfl | rfl | rfl <;> simp [szb] at this <;> simp [← this]
    · simp [h1, h2]
theorem ok_enc {i : Ins} (h : right i = true) : okI (enc i) = true := by
  unfold okI; rw [dec_enc h, h]; simp
theorem ok_right {b : List Int} (h : okI b = true) : right (dec b) = true ∧ enc (dec b) = b := by
  unfold okI at h; simpa using h
/-- The instruction that eight bytes may be, where the bit above Narrow tells. -/
def decP (b : List Int) : Ins := { dec b with nw := if nth b 0 % 32 = 14 ∨ nth b 0 % 32 = 15 then false else decide (nth b 0 / 64 = 1) }
theorem decP_eq {b : List Int} (h : nth b 0 / 64 ≠ 3 ∨ nth b 0 % 32 = 14 ∨ nth b 0 % 32 = 15) (h0 : 0 ≤ nth b 0) (h1 : nth b 0 < 256) : decP b = dec b := by
  unfold decP dec
  simp only
  congr 1
  by_cases hc : nth b 0 % 32 = 14 ∨ nth b 0 % 32 = 15
  · simp [hc]
  · rw [if_neg hc, if_neg hc, Bool.eq_iff_iff, decide_eq_true_iff, decide_eq_true_iff]; omega
def okP (b : List Int) : Bool := right (decP b) && decide (enc (decP b) = b)
theorem okP_eq {b : List Int} (h0 : 0 ≤ nth b 0) (h1 : nth b 0 < 256) : okP b = okI b ∧ (okI b = true → decP b = dec b) := by
  by_cases hc : nth b 0 / 64 ≠ 3 ∨ nth b 0 % 32 = 14 ∨ nth b 0 % 32 = 15
  · have := decP_eq hc h0 h1
    exact ⟨by unfold okP okI; rw [this], fun _ => this⟩
  · simp only [not_or, ne_eq, Decidable.not_not] at hc
    have hi : ∀ i : Ins, right i = true → i.op = nth b 0 % 32 → enc i = b → False := fun i hr ho he => by
      have t := tame hr
      have p := (first_parts t).2.2.1 (by rw [ho]; exact hc.2.1) (by rw [ho]; exact hc.2.2)
      have : nth b 0 = first i := by rw [← he]; rfl
      rw [this] at hc
      omega
    have f : okI b = false := by
      cases h : okI b with
      | false => rfl
      | true => exact absurd (hi _ (ok_right h).1 rfl (ok_right h).2) (fun h => h)
    refine ⟨?_, fun h => by rw [f] at h; cases h⟩
    rw [f]
    cases h : okP b with
    | false => rfl
    | true =>
      unfold okP at h
      simp only [Bool.and_eq_true, decide_eq_true_eq] at h
      exact absurd (hi _ h.1 rfl h.2) (fun h => h)

/-- Lists of instructions. -/
def ith (l : List Ins) (j : Nat) : Ins := l.getD j noIns
theorem ith_of {l : List Ins} {j : Nat} (h : j < l.length) : ith l j = l[j] := by simp [ith, List.getD, h]
theorem take_ith {l : List Ins} {k : Nat} (h : k < l.length) : l.take (k + 1) = l.take k ++ [ith l k] := by
  rw [List.take_succ_eq_append_getElem h, ith_of h]
theorem ins_ext {a b : List Ins} (hl : a.length = b.length) (h : ∀ j, j < a.length → ith a j = ith b j) : a = b := by
  apply List.ext_getElem hl
  intro i h1 h2
  have := h i h1
  rwa [ith_of h1, ith_of h2] at this
theorem flat_congr {α β : Type} {l : List α} {f g : α → List β} (h : ∀ x ∈ l, f x = g x) : l.flatMap f = l.flatMap g := by
  induction l with
  | nil => rfl
  | cons a l ih => simp only [List.flatMap_cons, h a (List.mem_cons_self ..), ih fun x hx => h x (List.mem_cons_of_mem _ hx)]
def encs (l : List Ins) : List Int := l.flatMap enc
theorem encs_append (a b : List Ins) : encs (a ++ b) = encs a ++ encs b := by simp [encs]
theorem encs_one (i : Ins) : encs [i] = enc i := by simp [encs]
theorem encs_length (l : List Ins) : (encs l).length = 8 * l.length := by
  induction l with
  | nil => rfl
  | cons i l ih => rw [show i :: l = [i] ++ l from rfl, encs_append, encs_one, List.length_append, ih, enc_length]; simp; omega
theorem encs_take (l : List Ins) (k : Nat) : encs (l.take k) = (encs l).take (8 * k) := by
  induction l generalizing k with
  | nil => simp [encs]
  | cons i l ih =>
    cases k with
    | zero => simp [encs]
    | succ k =>
      rw [List.take_succ_cons, show i :: l = [i] ++ l from rfl, show i :: List.take k l = [i] ++ List.take k l from rfl, encs_append, encs_append, encs_one, ih]
      rw [List.take_append, show 8 * (k + 1) - (enc i).length = 8 * k from by rw [enc_length]; omega, List.take_of_length_le (l := enc i) (by rw [enc_length]; omega)]
def rights (l : List Ins) : Bool := l.all right
theorem rights_ith {l : List Ins} (h : rights l = true) {j : Nat} (hj : j < l.length) : right (ith l j) = true := by
  rw [ith_of hj]; exact List.all_eq_true.1 h _ (List.getElem_mem hj)
theorem rights_of {l : List Ins} (h : ∀ j, j < l.length → right (ith l j) = true) : rights l = true := by
  refine List.all_eq_true.2 fun x hx => ?_
  obtain ⟨j, hj, rfl⟩ := List.getElem_of_mem hx
  rw [← ith_of hj]; exact h j hj
theorem rights_take {l : List Ins} (h : rights l = true) (k : Nat) : rights (l.take k) = true :=
  List.all_eq_true.2 fun x hx => List.all_eq_true.1 h _ (List.mem_of_mem_take hx)
theorem encs_oct {l : List Ins} (h : rights l = true) : Oct (encs l) := by
  intro n hn
  obtain ⟨i, hi, hn⟩ := List.mem_flatMap.1 hn
  exact enc_oct (tame (List.all_eq_true.1 h _ hi)) n hn

/-- The k-th eight bytes. -/
def chunk (b : List Int) (k : Nat) : List Int := (b.drop (8 * k)).take 8
theorem chunk_length {b : List Int} {k : Nat} (h : 8 * k + 8 ≤ b.length) : (chunk b k).length = 8 := by unfold chunk; simp; omega
theorem chunk_encs {l : List Ins} {k : Nat} (h : k < l.length) : chunk (encs l) k = enc (ith l k) := by
  unfold chunk
  have e : l = l.take k ++ (ith l k :: l.drop (k + 1)) := by rw [ith_of h, ← List.drop_eq_getElem_cons h, List.take_append_drop]
  conv => lhs; rw [e, encs_append, show ith l k :: l.drop (k + 1) = [ith l k] ++ l.drop (k + 1) from rfl, encs_append, encs_one]
  have hl : (encs (l.take k)).length = 8 * k := by rw [encs_length]; simp; omega
  rw [← hl, List.drop_left, show (8 : Nat) = (enc (ith l k)).length from rfl, List.take_left]
theorem chunks {b : List Int} {n : Nat} (h : b.length = 8 * n) : b = (List.range n).flatMap (chunk b) := by
  induction n generalizing b with
  | zero => exact List.eq_nil_of_length_eq_zero (by omega)
  | succ n ih =>
    have h1 := ih (b := b.take (8 * n)) (by simp; omega)
    rw [List.range_succ, List.flatMap_append, List.flatMap_singleton]
    have e : (List.range n).flatMap (chunk b) = (List.range n).flatMap (chunk (b.take (8 * n))) := by
      refine flat_congr fun k hk => ?_
      have := List.mem_range.1 hk
      unfold chunk
      rw [List.drop_take, List.take_take, Nat.min_eq_left (by omega)]
    rw [e, ← h1]
    unfold chunk
    rw [List.take_of_length_le (l := b.drop (8 * n)) (by simp; omega), List.take_append_drop]
/-- Are the first n eights instructions'? -/
def oks (b : List Int) (n : Nat) : Prop := ∀ k, k < n → okI (chunk b k) = true
def decs (b : List Int) (n : Nat) : List Ins := (List.range n).map fun k => dec (chunk b k)
theorem decs_length (b : List Int) (n : Nat) : (decs b n).length = n := by simp [decs]
theorem decs_succ (b : List Int) (n : Nat) : decs b (n + 1) = decs b n ++ [dec (chunk b n)] := by simp [decs, List.range_succ]
theorem ith_decs {b : List Int} {n k : Nat} (h : k < n) : ith (decs b n) k = dec (chunk b k) := by
  rw [ith_of (by rw [decs_length]; exact h)]; simp [decs]
theorem decs_encs {l : List Ins} (h : rights l = true) : decs (encs l) l.length = l := by
  refine ins_ext (decs_length _ _) fun j hj => ?_
  rw [decs_length] at hj
  rw [ith_decs hj, chunk_encs hj, dec_enc (rights_ith h hj)]
theorem oks_encs {l : List Ins} (h : rights l = true) : oks (encs l) l.length := fun k hk => by
  rw [chunk_encs hk]; exact ok_enc (rights_ith h hk)
theorem encs_decs {b : List Int} {n : Nat} (h : b.length = 8 * n) (ho : oks b n) : encs (decs b n) = b := by
  conv => rhs; rw [chunks h]
  unfold encs decs
  rw [List.flatMap_map]
  exact flat_congr fun k hk => (ok_right (ho k (List.mem_range.1 hk))).2
theorem rights_decs {b : List Int} {n : Nat} (ho : oks b n) : rights (decs b n) = true :=
  rights_of fun j hj => by
    rw [decs_length] at hj
    rw [ith_decs hj]; exact (ok_right (ho j hj)).1

/-- Put and Get. -/
def putE (l : List Ins) : Int := if 4096 < l.length then 3 else if rights l = true then 0 else 4
def putI (l : List Ins) : List Int := if putE l = 0 then encs l else []
open Classical in
noncomputable def getE (b : List Int) : Int := if 32768 < b.length then 3 else if b.length % 8 ≠ 0 then 4 else if oks b (b.length / 8) then 0 else 4
noncomputable def getI (b : List Int) : List Ins := if getE b = 0 then decs b (b.length / 8) else []
theorem putE_zero {l : List Ins} : putE l = 0 ↔ l.length ≤ 4096 ∧ rights l = true := by
  unfold putE; split
  · simp; omega
  · split <;> simp_all <;> omega
theorem getE_zero {b : List Int} : getE b = 0 ↔ b.length ≤ 32768 ∧ b.length % 8 = 0 ∧ oks b (b.length / 8) := by
  unfold getE; split
  · simp; omega
  · split
    · simp; omega
    · split
      · rename_i h1 h2 h3; exact ⟨fun _ => ⟨by omega, by omega, h3⟩, fun _ => rfl⟩
      · rename_i h1 h2 h3; exact ⟨fun h => absurd h (by decide), fun h => absurd h.2.2 h3⟩
theorem get_put {l : List Ins} (h : putE l = 0) (k : Nat) (hk : k ≤ l.length) : getE ((putI l).take (8 * k)) = 0 ∧ getI ((putI l).take (8 * k)) = l.take k := by
  obtain ⟨h1, h2⟩ := putE_zero.1 h
  unfold putI
  rw [if_pos h, ← encs_take]
  have hl : (encs (l.take k)).length = 8 * (l.take k).length := encs_length _
  have hz : getE (encs (l.take k)) = 0 := getE_zero.2 ⟨by rw [hl]; simp; omega, by omega, by rw [hl, Nat.mul_div_cancel_left _ (by decide)]; exact oks_encs (rights_take h2 k)⟩
  refine ⟨hz, ?_⟩
  unfold getI
  rw [if_pos hz, hl, Nat.mul_div_cancel_left _ (by decide)]
  exact decs_encs (rights_take h2 k)
theorem put_get {b : List Int} (h : getE b = 0) : putE (getI b) = 0 ∧ putI (getI b) = b ∧ rights (getI b) = true := by
  obtain ⟨h1, h2, h3⟩ := getE_zero.1 h
  have hr : rights (getI b) = true := by unfold getI; rw [if_pos h]; exact rights_decs h3
  have hp : putE (getI b) = 0 := putE_zero.2 ⟨by unfold getI; rw [if_pos h, decs_length]; omega, hr⟩
  refine ⟨hp, ?_, hr⟩
  unfold putI
  rw [if_pos hp]
  unfold getI
  rw [if_pos h]
  exact encs_decs (by omega) h3

/-- What may come behind the instruction at a place. -/
def nextI (l : List Ins) (at_ : Int) : List Int :=
  if at_ < 0 ∨ (l.length : Int) ≤ at_ then [] else
  let i := ith l at_.toNat
  if right i = false then [] else if i.op = 28 then [] else if i.op = 16 then [at_ + 1 + i.off] else if jumpsI i = true then
    (if i.off < 0 then [at_ + 1 + i.off, at_ + 1] else if 0 < i.off then [at_ + 1, at_ + 1 + i.off] else [at_ + 1]) else [at_ + 1]
end Go.Proofs.YthfkmackodbmkaaGreatDoor
