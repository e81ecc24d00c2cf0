/- The library's functions, of strings as lists of bytes. -/
import Derived.Test.YthfkmackodbmkaaGreatDoorTextMem
import Derived.Test.YthfkmackodbmkaaGreatDoorTextShelf
import Derived.Lib.AppendIntMem
namespace Go.Proofs.YthfkmackodbmkaaGreatDoor
open Go.RowKit
set_option linter.unusedVariables false
set_option linter.unusedSimpArgs false

/-- What the library reads of the program's variables, and what the code does. -/
structure Lay (w : World) : Prop where
  mx : ∃ m, w.cell? ⟨0, 0, none⟩ = some (.int .i64 m)
  pow : Lib.TabIs Tryz.prog w "internal/strconv.uint64pow10" .u64 Lib.pow10Tab
  syn : ∃ tp p, w.var? Tryz.prog "strconv.ErrSyntax" = some #[.iface tp p]
  names : ∃ cs fr, w.heap[1]? = some (.cells cs 187 fr) ∧ cs = (opNames.map str).toArray
theorem below_drewN {B : Nat} {a w : World} (h : Below B a w) : ∀ n, Below B a (w.drewN n)
  | 0 => h
  | n + 1 => (below_drewN h n).drew
theorem var_past {P : Program} {w w' : World} {name : String} {cs : Array Value} (h : w.var? P name = some cs) (hb : Below w.heap.size w w') : w'.var? P name = some cs := by
  unfold World.var? at h ⊢
  cases hg : P.globalNamed name with
  | none => rw [hg] at h; cases h
  | some g =>
    rw [hg] at h
    simp only [Option.bind_some] at h ⊢
    have hlt : g < w.heap.size := by
      rcases Nat.lt_or_ge g w.heap.size with h' | h'
      · exact h'
      · rw [Array.getElem?_eq_none h'] at h; cases h
    rw [hb.block g hlt]; exact h
theorem Lay.past {w w' : World} (h : Lay w) (hb : Below w.heap.size w w') : Lay w' := by
  obtain ⟨⟨m, h1⟩, h2, ⟨tp, p, h3⟩, cs, fr, h4, h5⟩ := h
  exact ⟨⟨m, (hb.cell (World.block_lt_of_cell? w _ h1)).trans h1⟩, var_past h2 hb, ⟨tp, p, var_past h3 hb⟩, cs, fr, (hb.block _ (Array.getElem?_eq_some_iff.1 h4).1).trans h4, h5⟩

theorem index_one (s : List UInt8) (c : UInt8) : Lib.index s [c] = if c ∈ s then ((s.takeWhile (· != c)).length : Int) else -1 := by
  induction s with
  | nil => rfl
  | cons b s ih =>
    unfold Lib.index
    by_cases h : c = b
    · subst h; simp
    · have h' : ¬ b = c := fun e => h e.symm
      rw [if_neg (by simpa using h), ih]
      by_cases hm : c ∈ s
      · simp [hm, h, h']
      · simp [hm, h, h']
theorem cut_hash (s : Str) : (Lib.cut s [35]).1 = cutHash s := by
  unfold Lib.cut cutHash
  rw [index_one]
  by_cases h : (35 : UInt8) ∈ s
  · simp only [h, if_true]
    rw [if_pos (by omega)]
    have : ∀ s : Str, s.take (s.takeWhile (· != 35)).length = s.takeWhile (· != 35) := by
      intro s
      induction s with
      | nil => rfl
      | cons b s ih => by_cases hb : b = 35 <;> simp [hb, ih]
    simpa using this s
  · simp only [h, if_false]
    rw [if_neg (by omega)]
    induction s with
    | nil => rfl
    | cons b s ih =>
      simp only [List.mem_cons, not_or] at h
      have : b ≠ 35 := fun e => h.1 e.symm
      simp [this]
      exact ih h.2
theorem cutP (s : Str) (w : World) (T : Lay w) (hs : s.length ≤ 1000000000) :
    Calls Tryz.prog 129 #[str s, .string ⟨#[35]⟩] w fun e w' => (∃ b c, e = .returned (.tuple #[str (cutHash s), b, c])) ∧ Below w.heap.size w w' := by
  obtain ⟨m, hm⟩ := T.mx
  refine (Tryz.strings_Cut ⟨s.toArray⟩ ⟨#[35]⟩ m w (by simp [ByteArray.size]; omega) hm).mono ?_
  rintro e w' ⟨rfl, n, rfl⟩
  refine ⟨⟨str (Lib.cut s [35]).2.1, .bool (Lib.cut s [35]).2.2, ?_⟩, below_drewN (Below.refl _ _) n⟩
  rw [← cut_hash]
theorem trimBlank (s : Str) (w : World) :
    Calls Tryz.prog 130 #[str s, .string ⟨#[9, 13, 32]⟩] w fun e w' => e = .returned (str (s.dropWhile blankC)) ∧ Below w.heap.size w w' := by
  refine (Tryz.strings_TrimLeft_ascii ⟨s.toArray⟩ ⟨#[9, 13, 32]⟩ w (by decide) ?_).mono ?_
  · intro j b h
    have : b ∈ [(9 : UInt8), 13, 32] := List.mem_of_getElem? h
    revert this; simp; rintro (rfl | rfl | rfl) <;> decide
  · rintro e w' ⟨rfl, hb⟩
    exact ⟨rfl, hb⟩
def wordBytes : Str := [97, 98, 99, 100, 101, 102, 103, 104, 105, 106, 107, 108, 109, 110, 111, 112, 113, 114, 115, 116, 117, 118, 119, 120, 121, 122, 48, 49, 50, 51, 52, 53, 54, 55, 56, 57, 95]
theorem word_bytes (c : UInt8) : (wordBytes.contains c == wordC c) = true := all8 (p := fun c => wordBytes.contains c == wordC c) (by decide +kernel) c
theorem word_bytes_low : wordBytes.all (fun b => decide (b.toNat < 128)) = true := by decide +kernel
theorem trimWord (s : Str) (w : World) :
    Calls Tryz.prog 130 #[str s, .string ⟨#[97, 98, 99, 100, 101, 102, 103, 104, 105, 106, 107, 108, 109, 110, 111, 112, 113, 114, 115, 116, 117, 118, 119, 120, 121, 122, 48, 49, 50, 51, 52, 53, 54, 55, 56, 57, 95]⟩] w fun e w' => e = .returned (str (s.dropWhile wordC)) ∧ Below w.heap.size w w' := by
  refine (Tryz.strings_TrimLeft_ascii ⟨s.toArray⟩ ⟨wordBytes.toArray⟩ w (by decide) ?_).mono ?_
  · intro j b h
    have hm : b ∈ wordBytes := List.mem_of_getElem? (by simpa using h)
    have := List.all_eq_true.1 word_bytes_low b hm
    simpa using this
  · rintro e w' ⟨rfl, hb⟩
    refine ⟨?_, hb⟩
    have : (fun c => wordBytes.contains c) = wordC := by funext c; simpa using word_bytes c
    simp only [Lib.trimLeftS]
    rw [show (fun x => wordBytes.toArray.toList.contains x) = wordC from this]
theorem indexByte_mem (s : Str) (c : UInt8) : (0 ≤ Lib.indexByte s c) ↔ c ∈ s := by
  induction s with
  | nil => simp [Lib.indexByte]
  | cons b s ih =>
    unfold Lib.indexByte
    by_cases h : b = c
    · subst h; simp
    · have h' : ¬ c = b := fun e => h e.symm
      have := Lib.indexByte_ge s c
      simp only [beq_iff_eq, h, if_false, List.mem_cons, h', false_or, ← ih]
      split <;> omega
theorem signAt (c : UInt8) (w : World) :
    Calls Tryz.prog 132 #[.string ⟨#[44, 91, 93, 43, 45, 58]⟩, .int .u8 c.toNat] w fun e w' => ∃ n : Int, e = .returned (.int .i64 n) ∧ decide (0 ≤ n) = signC c ∧ w = w' := by
  refine (Tryz.strings_IndexByte ⟨#[44, 91, 93, 43, 45, 58]⟩ c.toNat w).mono ?_
  rintro e w' ⟨rfl, rfl⟩
  refine ⟨_, rfl, ?_, rfl⟩
  have : ((c.toNat : Int).toNat.toUInt8) = c := by simp
  rw [this]
  have := indexByte_mem [44, 91, 93, 43, 45, 58] c
  rw [Bool.eq_iff_iff, decide_eq_true_iff]
  exact this.trans (by simp [signC])
def letterBytes : Str := [97, 98, 99, 100, 101, 102, 103, 104, 105, 106, 107, 108, 109, 110, 111, 112, 113, 114, 115, 116, 117, 118, 119, 120, 121, 122]
theorem letter_bytes (c : UInt8) : (letterBytes.contains c == letterC c) = true := all8 (p := fun c => letterBytes.contains c == letterC c) (by decide +kernel) c
theorem letterAt (c : UInt8) (w : World) :
    Calls Tryz.prog 132 #[.string ⟨#[97, 98, 99, 100, 101, 102, 103, 104, 105, 106, 107, 108, 109, 110, 111, 112, 113, 114, 115, 116, 117, 118, 119, 120, 121, 122]⟩, .int .u8 c.toNat] w fun e w' => ∃ n : Int, e = .returned (.int .i64 n) ∧ decide (0 ≤ n) = letterC c ∧ w = w' := by
  refine (Tryz.strings_IndexByte ⟨letterBytes.toArray⟩ c.toNat w).mono ?_
  rintro e w' ⟨rfl, rfl⟩
  refine ⟨_, rfl, ?_, rfl⟩
  have : ((c.toNat : Int).toNat.toUInt8) = c := by simp
  rw [this]
  have h2 := letter_bytes c
  simp only [beq_iff_eq] at h2
  rw [← h2, Bool.eq_iff_iff, decide_eq_true_iff]
  exact (indexByte_mem letterBytes c).trans (by simp)
theorem itoaP (n : Int) (h0 : -9223372036854775808 ≤ n) (h1 : n ≤ 9223372036854775807) (w : World) (T : Lay w) :
    Calls Tryz.prog 105 #[.int .i64 n] w fun e w' => e = .returned (str (Lib.itoa n)) ∧ Below w.heap.size w w' := by
  refine (Tryz.strconv_Itoa n h0 h1 w T.pow).mono ?_
  rintro e w' ⟨rfl, k, os, rfl⟩
  exact ⟨rfl, Lib.below_grow _ w (Nat.le_refl _) k os⟩
theorem decNat_sign {c : UInt8} (h : signC c = true) : Lib.decNat [c] = none := by
  simp only [signC, List.contains_eq_mem, decide_eq_true_eq, List.mem_cons, List.not_mem_nil, or_false] at h
  rcases h with rfl | rfl | rfl | rfl | rfl | rfl <;> decide
theorem atoi_num {t : Str} (ht : Tok t) : Lib.atoi t = (Lib.decNat t).map fun n : Nat => (n : Int) := by
  rcases ht with ⟨h0, hw⟩ | ⟨c, hc, rfl⟩
  · cases t with
    | nil => exact absurd rfl h0
    | cons b r =>
      simp only [List.all_cons, Bool.and_eq_true] at hw
      have h1 : ¬ b = 45 := by rintro rfl; exact absurd hw.1 (by decide)
      have h2 : ¬ b = 43 := by rintro rfl; exact absurd hw.1 (by decide)
      simp [Lib.atoi, h1, h2]
  · simp only [signC, List.contains_eq_mem, decide_eq_true_eq, List.mem_cons, List.not_mem_nil, or_false] at hc
    rcases hc with rfl | rfl | rfl | rfl | rfl | rfl <;> decide
theorem atoiP (t : Str) (ht : Tok t) (hl : t.length ≤ 10) (w : World) (T : Lay w) :
    Calls Tryz.prog 186 #[str t] w fun e w' => (match Lib.decNat t with | some m => e = .returned (.tuple #[.int .i64 m, .nilIface]) | none => ∃ tp p, e = .returned (.tuple #[.int .i64 0, .iface tp p])) ∧ Below w.heap.size w w' := by
  have hA := Lib.atoiAll_short t (by omega)
  rw [atoi_num ht] at hA
  cases hd : Lib.decNat t with
  | some m =>
    rw [hd] at hA
    refine (Tryz.strconv_Atoi_ok ⟨t.toArray⟩ (by simp [ByteArray.size]; omega) m (by simpa [Lib.NumEnd.ofOption] using hA) w).mono ?_
    rintro e w' ⟨rfl, rfl | ⟨s, rfl⟩⟩
    · exact ⟨rfl, Below.refl _ _⟩
    · exact ⟨rfl, Lib.bytesWorld_below _ _ _⟩
  | none =>
    rw [hd] at hA
    obtain ⟨tp, p, hs⟩ := T.syn
    refine (Tryz.strconv_Atoi_syntax_var ⟨t.toArray⟩ (by simp [ByteArray.size]; omega) (by simpa [Lib.NumEnd.ofOption] using hA) tp p w hs).mono ?_
    rintro e w' ⟨N, rfl, _, _, hb⟩
    exact ⟨⟨_, _, rfl⟩, hb⟩
def ixV (o : Option Nat) : Int := match o with | some k => (k : Int) | none => -1
theorem ixOf_lib (s : Str) : ∀ (l : List Str) (i : Nat), Lib.idxFromS (l.map fun t => (⟨t.toArray⟩ : ByteArray)) ⟨s.toArray⟩ i = match ixOf l s with | some k => ((i + k : Nat) : Int) | none => -1
  | [], i => rfl
  | t :: l, i => by
    rw [List.map_cons, Lib.idxFromS, ixOf]
    by_cases h : t = s
    · subst h; simp
    · have h' : ¬ (⟨t.toArray⟩ : ByteArray) = ⟨s.toArray⟩ := fun e => h (by simpa using e)
      rw [if_neg h', if_neg h, ixOf_lib s l (i + 1)]
      cases ixOf l s with
      | none => rfl
      | some k => simp only [Option.map_some]; congr 1; omega
theorem indexP {w : World} {v : Value} {l : List Str} (h : Ss w v l) (t : Str) :
    Calls Tryz.prog 184 #[v, str t] w fun e w' => e = .returned (.int .i64 (ixV (ixOf l t))) ∧ w = w' := by
  have hn := h.len
  obtain ⟨ao, cap, rfl⟩ := h.shape
  cases l with
  | nil =>
    refine (Tryz.slices_Index_string_empty _ _ _ _).mono ?_
    rintro e w' ⟨rfl, rfl⟩
    exact ⟨rfl, rfl⟩
  | cons x l =>
    obtain ⟨g, o, rfl, _, _, _, _, hc⟩ := h.at (by simp)
    refine (Tryz.slices_Index_string g o _ cap ((x :: l).map fun t => (⟨t.toArray⟩ : ByteArray)) ⟨t.toArray⟩ w (by simp) hn ?_).mono ?_
    · intro j hj
      have hj' : j < (x :: l).length := by simpa using hj
      rw [hc j hj']
      simp only [List.getD, List.getElem?_map]
      rw [List.getElem?_eq_getElem hj']
      rfl
    · rintro e w' ⟨rfl, rfl⟩
      refine ⟨?_, rfl⟩
      rw [List.take_of_length_le (by simp), Lib.idxOfS, ixOf_lib]
      unfold ixV
      cases ixOf (x :: l) t <;> simp
end Go.Proofs.YthfkmackodbmkaaGreatDoor
