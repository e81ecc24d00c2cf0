/- Bytes as a string, and whether two are one. -/
import Derived.Test.YthfkmackodbmkaaGreatDoorMem
import Derived.Laws.BytesString
import Derived.Laws.Cells
import Derived.Laws.Strings
import Derived.Test.YthfkmackodbmkaaGreatDoorTextAwake
import Derived.Test.YthfkmackodbmkaaGreatDoorTextRefB
import Derived.Test.YthfkmackodbmkaaGreatDoorTextLineOf
import Derived.Lib.SplitLaws
import Derived.Lib.Replace
import Derived.Lib.Repeat
import Derived.Deep.RegionHeld3
namespace Go.Proofs.YthfkmackodbmkaaGreatDoor
open Go.RowKit
set_option linter.unusedVariables false
set_option linter.unusedSimpArgs false

def strOf (l : List Int) : ByteArray := l.foldl (fun r n => r.push (UInt8.ofNat n.toNat)) ByteArray.empty
theorem push_data (r : ByteArray) (x : UInt8) : (r.push x).data.toList = r.data.toList ++ [x] := by
  obtain ⟨⟨l⟩⟩ := r
  simp [ByteArray.push]
theorem strOf_data (l : List Int) (r : ByteArray) : (l.foldl (fun r n => r.push (UInt8.ofNat n.toNat)) r).data.toList = r.data.toList ++ l.map fun n => UInt8.ofNat n.toNat := by
  induction l generalizing r with
  | nil => simp
  | cons n l ih => rw [List.foldl_cons, ih, push_data]; simp
theorem strOf_list (l : List Int) : (strOf l).toList = l.map fun n => UInt8.ofNat n.toNat := by
  rw [ByteArray.toList_eq]
  have := strOf_data l ByteArray.empty
  unfold strOf
  rw [this]; rfl
theorem octs_inj {a b : List Int} (ha : Oct a) (hb : Oct b) (h : (a.map fun n => UInt8.ofNat n.toNat) = b.map fun n => UInt8.ofNat n.toNat) : a = b := by
  induction a generalizing b with
  | nil => cases b with
    | nil => rfl
    | cons _ _ => cases h
  | cons x a ih =>
    cases b with
    | nil => cases h
    | cons y b =>
      simp only [List.map_cons, List.cons.injEq] at h
      have hx := ha x (List.mem_cons_self ..)
      have hy := hb y (List.mem_cons_self ..)
      have e : x = y := by
        have := congrArg UInt8.toNat h.1
        simp at this
        omega
      rw [e, ih (fun n hn => ha n (List.mem_cons_of_mem _ hn)) (fun n hn => hb n (List.mem_cons_of_mem _ hn)) h.2]
theorem strs_eq {a b : List Int} (ha : Oct a) (hb : Oct b) : ((strOf a).toList == (strOf b).toList) = decide (a = b) := by
  rw [strOf_list, strOf_list, Bool.eq_iff_iff]
  simp only [beq_iff_eq, decide_eq_true_eq]
  exact ⟨octs_inj ha hb, fun h => by rw [h]⟩
theorem run_string {w : World} {b o n cap : Nat} {l : List Int} (h : Bs w (.slice (some ⟨b, o, none⟩) n cap) l) : (convert 42 9 (.slice (some ⟨b, o, none⟩) n cap)).run Tryz.prog w = .ok (.string (strOf l)) w := by
  obtain ⟨ao, c, hv, h1, h2, h3, h4⟩ := h
  cases hv
  rw [run_convert_bytes_string w 42 9 5 _ _ _ Tryz.underlying42 (by kernel_rfl) (by kernel_rfl)]
  refine run_bytesToString w _ _ _ l ?_
  have := run_loadCells_list (P := Tryz.prog) (w := w) ⟨b, o, none⟩ (l.map (Value.int .u8)) fun j v hj => by
    have hjl : j < l.length := by simpa using (List.getElem?_eq_some_iff.1 hj).1
    rw [show l.map (Value.int .u8) = bv l from rfl, bv_get hjl] at hj
    cases hj
    exact h4 _ rfl j hjl
  simpa using this
theorem run_eql_strs {a b : List Int} (ha : Oct a) (hb : Oct b) (w : World) : (binOp .eql 9 (.string (strOf a)) (.string (strOf b))).run Tryz.prog w = .ok (.bool (decide (a = b))) w := by
  rw [binOp_string_eql, strs_eq ha hb]; rfl
theorem step_string {w : World} {ops : Array Oper} {o : Oper} {a : Act} {K : Act → World → Prop} {Q : Exit → Act → World → Prop} {E : Prop} (hgd : Region.wanted o (yielded ops a.tmps) = true) (x : Operand) (ho : o.op = .convert 42 9 x)
    (b p n cap : Nat) (l : List Int) (hx : a.eval x = .slice (some ⟨b, p, none⟩) n cap) (hb : Bs w (.slice (some ⟨b, p, none⟩) n cap) l) (h : K (a.put o.dst (.string (strOf l))) w) :
    if Region.wanted o (yielded ops a.tmps) = true then Oper.wp Tryz.prog o a w K Q else E := by
  rw [if_pos hgd]
  have e := run_string hb
  unfold Oper.wp
  simp only [execOp, ho, hx, Sem.run_bind, e, Result.andThen_ok, Sem.run_pure, Oper.upon_value]
  exact h
end Go.Proofs.YthfkmackodbmkaaGreatDoor
/- Both tell the same of a text (barbicanlaw07.parses). -/
namespace Go.Proofs.YthfkmackodbmkaaGreatDoor
open Go.RowKit
set_option linter.unusedVariables false
set_option linter.unusedSimpArgs false
set_option maxRecDepth 100000
set_option maxHeartbeats 8000000

theorem parsesP (s : Str) (w : World) (L : Lay w) (hs : s.length ≤ 1000000000) : Calls Tryz.prog 10 #[str s] w (Says true w) := by
  have PS := parseC s w L hs
  have PR := fun W (L : Lay W) => refParse s W L
  obtain ⟨R, hR⟩ : ∃ R, R = parseL s := ⟨_, rfl⟩
  rw [← hR] at PS PR
  obtain ⟨xs, fe, fa⟩ := R
  unfold ParsedD at PR
  simp only at PS PR
  have HPR := Lib.hid PR
  have HL := Lib.hid L
  clear hR L PR
  go_enter Tryz.func10, Tryz.ntmps10
  go_wp2_with fail
  refine PS.mono ?_; rintro e w6 ⟨a6, c6, rfl, o6, b6⟩
  have A6 := alloc_below w6 (.cells #[.int .i64 fe, .int .i64 fa] 26)
  have F6 := Lib.hid (show Fb (w6.alloc (.cells #[.int .i64 fe, .int .i64 fa] 26)) w6.heap.size fe fa from heap_alloc_new w6 _)
  have I6 := Lib.hid ((o6.inss).past A6)
  have B6 := Lib.hid (b6.trans (A6.mono b6.size))
  clear o6 b6 A6 PS
  go_wp2_with fail
  refine ((HPR.out) _ ((HL.out).past B6.out)).mono ?_; rintro e w7 ⟨v7, rfl, i7, b7⟩
  obtain ⟨a7, c7, hv7⟩ := i7.shape
  subst hv7
  have A7 := alloc_below w7 (.cells #[.int .i64 fe, .int .i64 fa] 26)
  have F7 := (show Fb (w7.alloc (.cells #[.int .i64 fe, .int .i64 fa] 26)) w7.heap.size fe fa from heap_alloc_new w7 _)
  have G7 := ((F6.out).past b7).past A7
  have I7 := Lib.hid (i7.past A7)
  have J7 := Lib.hid (((I6.out).past b7).past A7)
  have b7' := (B6.out).trans (b7.mono (B6.out).size)
  have B7 := Lib.hid (b7'.trans (A7.mono b7'.size))
  obtain ⟨f0, f1⟩ := F7.cells
  obtain ⟨g0, g1⟩ := G7.cells
  have SJ := sameIns _ _ xs _ J7.out I7.out
  clear i7 b7 A7 F7 G7 F6 b7'
  go_wp2_with fail
  with_reducible refine SJ.mono ?_
  rintro e w9 ⟨rfl, st⟩
  have B9 := Lib.hid ((B7.out).trans (st.below w.heap.size))
  clear st SJ
  go_wp2_with fail
  go_ret
  exact ⟨rfl, B9.out⟩
end Go.Proofs.YthfkmackodbmkaaGreatDoor
/- The library's functions that TextNumbers calls, for short strings: how long the answers are. -/
namespace Go.Proofs.YthfkmackodbmkaaGreatDoor
open Go.RowKit
set_option linter.unusedVariables false
set_option linter.unusedSimpArgs false
set_option maxHeartbeats 2000000

theorem splitK_parts (sep : List UInt8) : ∀ (k : Nat) (s x : Str), x ∈ Lib.splitK sep 0 k s → x.length ≤ s.length ∧ ∀ c ∈ x, c ∈ s
  | 0, s, x, h => by
    have : x = s := by simpa [Lib.splitK] using h
    subst this; exact ⟨Nat.le_refl _, fun _ h => h⟩
  | k + 1, s, x, h => by
    unfold Lib.splitK at h
    split at h
    · have : x = s := by simpa using h
      subst this; exact ⟨Nat.le_refl _, fun _ h => h⟩
    · rcases List.mem_cons.1 h with rfl | h
      · exact ⟨by rw [List.length_take]; omega, fun c hc => List.mem_of_mem_take hc⟩
      · obtain ⟨h1, h2⟩ := splitK_parts sep k _ x h
        exact ⟨by rw [List.length_drop] at h1; omega, fun c hc => List.mem_of_mem_drop (h2 c hc)⟩
theorem str_of (b : ByteArray) : Value.string b = str b.data.toList := by
  obtain ⟨⟨l⟩⟩ := b; rfl
theorem splitP (s : Str) (c : UInt8) (w : World) (L : Lay w) (hs : s.length ≤ 1000) :
    Calls Tryz.prog 16 #[str s, .string ⟨#[c]⟩] w fun e w' => ∃ ps : List Str, e = .returned (.slice (some ⟨w.heap.size, 0, none⟩) ps.length ps.length) ∧ 0 < ps.length ∧ ps.length ≤ s.length + 1 ∧
      (∀ x ∈ ps, x.length ≤ s.length ∧ ∀ b ∈ x, b ∈ s) ∧ Ss w' (.slice (some ⟨w.heap.size, 0, none⟩) ps.length ps.length) ps ∧ Below w.heap.size w w' := by
  obtain ⟨m, hm⟩ := L.mx
  have hsz : (⟨s.toArray⟩ : ByteArray).size = s.length := by simp [ByteArray.size]
  refine (Tryz.strings_Split ⟨s.toArray⟩ ⟨#[c]⟩ m w (by rw [hsz]; omega) hm (Nat.le_refl 1)).mono ?_
  rintro e w' ⟨rfl, rfl⟩
  have hd := Lib.splitB_data ⟨#[c]⟩ 0 (Lib.countB ⟨s.toArray⟩ ⟨#[c]⟩) ⟨s.toArray⟩
  have hl := Lib.splitB_all ⟨#[c]⟩ (Nat.le_refl 1) 0 _ ⟨s.toArray⟩ rfl
  have hc := Lib.countB_le ⟨#[c]⟩ (Nat.le_refl 1) s.length ⟨s.toArray⟩ (by rw [hsz]; omega)
  rw [hsz] at hc
  generalize Lib.countB ⟨s.toArray⟩ ⟨#[c]⟩ = k at hd hl hc ⊢
  generalize hB : Lib.splitB ⟨#[c]⟩ 0 k ⟨s.toArray⟩ = B at hd hl ⊢
  have hp : ∀ x ∈ B.map (·.data.toList), x.length ≤ s.length ∧ ∀ b ∈ x, b ∈ s := fun x hx => by
    rw [hd] at hx
    exact splitK_parts _ _ _ x hx
  have hv : B.map Value.string = (B.map (·.data.toList)).map str := by rw [List.map_map]; exact List.map_congr_left fun b _ => str_of b
  have hl2 : (B.map (·.data.toList)).length = k + 1 := by rw [List.length_map, hl]
  refine ⟨B.map (·.data.toList), by rw [hl2], by omega, by omega, hp, ?_, alloc_below _ _⟩
  rw [hv]
  exact ss_new w _ (by omega)
theorem joinTail_len (sep : Str) (b : Nat) : ∀ r : List Str, (∀ x ∈ r, x.length ≤ b) → (Lib.joinTail sep r).length ≤ r.length * (b + sep.length)
  | [], _ => by simp [Lib.joinTail]
  | x :: r, h => by
    have h1 := h x (by simp)
    have h2 := joinTail_len sep b r (fun y hy => h y (by simp [hy]))
    have e : Lib.joinTail sep (x :: r) = (sep ++ x) ++ Lib.joinTail sep r := by simp [Lib.joinTail]
    rw [e, List.length_append, List.length_append, List.length_cons, Nat.succ_mul]
    omega
theorem join_len (b : Nat) (l : List Str) (h : ∀ x ∈ l, x.length ≤ b) : (Lib.join l [32]).length ≤ l.length * (b + 1) := by
  cases l with
  | nil => simp [Lib.join_nil]
  | cons x r =>
    rw [Lib.join_cons, List.length_append, List.length_cons, Nat.succ_mul]
    have h1 := h x (by simp)
    have h2 := joinTail_len [32] b r (fun y hy => h y (by simp [hy]))
    simp only [List.length_singleton] at h2
    omega
/-- Join, of a part of a slice of short strings. -/
theorem joinQ {w : World} {g m : Nat} {ps : List Str} (hm : ps.length = m) (h : Ss w (.slice (some ⟨g, 0, none⟩) m m) ps) (hb : ∀ x ∈ ps, x.length ≤ 300) (hl : ps.length ≤ 400) (o n c : Nat) (hn : o + n ≤ m) (hc : n ≤ c) :
    Calls Tryz.prog 17 #[.slice (some ⟨g, o, none⟩) n c, .string ⟨#[32]⟩] w fun e w' => ∃ u, e = .returned (str u) ∧ u.length ≤ 130000 ∧ Below w.heap.size w w' := by
  by_cases h0 : n = 0
  · subst h0
    refine (Tryz.strings_Join_none _ c ⟨#[32]⟩ w).mono ?_
    rintro e w' ⟨rfl, rfl⟩
    exact ⟨[], rfl, by simp, Below.refl _ _⟩
  · obtain ⟨g', o', e, _, _, _, hg, hcell⟩ := h.at (by omega)
    obtain ⟨rfl, rfl⟩ : g = g' ∧ 0 = o' := by cases e; exact ⟨rfl, rfl⟩
    obtain ⟨qs, hqs⟩ : ∃ qs, qs = (ps.drop o).take n := ⟨_, rfl⟩
    have hql : qs.length = n := by rw [hqs, List.length_take, List.length_drop]; omega
    have hqb : ∀ x ∈ qs, x.length ≤ 300 := fun x hx => hb x (by rw [hqs] at hx; exact List.mem_of_mem_drop (List.mem_of_mem_take hx))
    have hmm : ((qs.map fun t => (⟨t.toArray⟩ : ByteArray)).map (·.data.toList)) = qs := by rw [List.map_map]; simp [Function.comp_def]
    have hjl := join_len 300 qs hqb
    have hj2 : qs.length * (300 + 1) ≤ 400 * 301 := Nat.mul_le_mul_right _ (by omega)
    have J := Tryz.strings_Join g o c (qs.map fun t => (⟨t.toArray⟩ : ByteArray)) ⟨#[32]⟩ w (fun j x hx => ?_) hg (by simp; omega) (by simp; omega) (by rw [hmm]; show (Lib.join qs [32]).length ≤ _; omega)
    · rw [List.length_map, hql] at J
      refine J.mono ?_
      rintro e w' ⟨rfl, hb'⟩
      rw [hmm]
      exact ⟨_, rfl, by show (Lib.join qs [32]).length ≤ _; omega, hb'⟩
    · rw [List.getElem?_map] at hx
      obtain ⟨t, ht, rfl⟩ := Option.map_eq_some_iff.1 hx
      have hj : j < qs.length := (List.getElem?_eq_some_iff.1 ht).1
      have := hcell (o + j) (by omega)
      rw [Nat.zero_add] at this
      rw [this]
      have e2 : ps[o + j]? = some t := by rw [hqs, List.getElem?_take_of_lt (by omega), List.getElem?_drop] at ht; exact ht
      simp [List.getD, e2]
theorem replaceK_len (old : Str) : ∀ (k : Nat) (s : Str), (Lib.replaceK old [] k s).length ≤ s.length
  | 0, s => Nat.le_refl _
  | k + 1, s => by
    unfold Lib.replaceK
    split
    · exact Nat.le_refl _
    · have := replaceK_len old k (s.drop ((Lib.index s old).toNat + old.length))
      rw [List.length_drop] at this
      rw [List.length_append, List.length_append, List.length_take, List.length_nil]
      have h0 : (Lib.replaceK old [] k (s.drop ((Lib.index s old).toNat + old.length))).length ≤ s.length - (Lib.index s old).toNat := by omega
      omega
theorem bareP (s : Str) (w : World) (L : Lay w) (hs : s.length ≤ 1000) :
    Calls Tryz.prog 18 #[str s, .string ⟨#[32]⟩, .string ⟨#[]⟩] w fun e w' => ∃ u, e = .returned (str u) ∧ u.length ≤ 1000 ∧ Below w.heap.size w w' := by
  obtain ⟨m, hm⟩ := L.mx
  have hsz : (⟨s.toArray⟩ : ByteArray).size = s.length := by simp [ByteArray.size]
  refine (Tryz.strings_ReplaceAll ⟨s.toArray⟩ ⟨#[32]⟩ ⟨#[]⟩ m w (by rw [hsz]; omega) hm (by decide) (by rw [hsz]; show s.length + _ * 0 ≤ _; omega)).mono ?_
  rintro e w' ⟨rfl, hb⟩
  refine ⟨Lib.replaceAll s [32] [], rfl, ?_, hb⟩
  unfold Lib.replaceAll Lib.replace
  split
  · exact hs
  · exact Nat.le_trans (replaceK_len _ _ _) hs
theorem upperP (s : Str) (w : World) (hs : s.length ≤ 1000) (ha : ∀ b ∈ s, b.toNat < 128) :
    Calls Tryz.prog 19 #[str s] w fun e w' => ∃ u, e = .returned (str u) ∧ u.length ≤ 1000 ∧ Below w.heap.size w w' := by
  have hsz : (⟨s.toArray⟩ : ByteArray).size = s.length := by simp [ByteArray.size]
  refine (Tryz.strings_ToUpper_ascii ⟨s.toArray⟩ w (by rw [hsz]; omega) (fun j b hj => ha b (List.mem_of_getElem? hj))).mono ?_
  rintro e w' ⟨rfl, hb⟩
  exact ⟨Lib.toUpperA s, rfl, by simp [Lib.toUpperA]; exact hs, hb⟩
theorem timesP (s : Str) (c : Nat) (w : World) (hc : c ≤ 1000000) (hs : s.length ≤ 10) :
    Calls Tryz.prog 20 #[str s, .int .i64 c] w fun e w' => ∃ u, e = .returned (str u) ∧ u.length ≤ 10000000 ∧ Below w.heap.size w w' := by
  have hsz : (⟨s.toArray⟩ : ByteArray).size = s.length := by simp [ByteArray.size]
  have hm : s.length * c ≤ 10 * 1000000 := Nat.mul_le_mul hs hc
  refine (Tryz.strings_Repeat ⟨s.toArray⟩ c w (by omega) (by rw [hsz]; omega)).mono ?_
  rintro e w' ⟨rfl, hb⟩
  refine ⟨Lib.repeatL s c, rfl, ?_, hb⟩
  rw [Lib.repeatL_length, Nat.mul_comm]
  omega
def Short1 (x : Str) : Prop := x.length ≤ 300 ∧ ∀ b ∈ x, b.toNat < 128
/-- A row of m short strings of letters stands at g. -/
def SRow (w : World) (g m : Nat) : Prop := ∃ ps : List Str, ps.length = m ∧ m ≤ 301 ∧ (∀ x ∈ ps, Short1 x) ∧ Ss w (.slice (some ⟨g, 0, none⟩) m m) ps
theorem SRow.past {w w' : World} {g m : Nat} (h : SRow w g m) (hb : Below w.heap.size w w') : SRow w' g m := by
  obtain ⟨ps, h1, h2, h3, h4⟩ := h
  exact ⟨ps, h1, h2, h3, h4.past hb⟩
theorem SRow.at {w : World} {g m : Nat} (h : SRow w g m) {j : Nat} (hj : j < m) : ∃ x, Short1 x ∧ w.cell? ⟨g, j, none⟩ = some (str x) ∧ g < w.heap.size := by
  obtain ⟨ps, h1, h2, h3, h4⟩ := h
  obtain ⟨g', o', e, _, _, _, hg, hcell⟩ := h4.at (by omega)
  obtain ⟨rfl, rfl⟩ : g = g' ∧ 0 = o' := by cases e; exact ⟨rfl, rfl⟩
  have := hcell j (by omega)
  rw [Nat.zero_add] at this
  refine ⟨_, ?_, this, hg⟩
  have hj' : j < ps.length := by omega
  rw [List.getD_eq_getElem?_getD, List.getElem?_eq_getElem hj']
  exact h3 _ (List.getElem_mem hj')
theorem splitR (s : Str) (c : UInt8) (w : World) (L : Lay w) (hs : s.length ≤ 300) (ha : s.all (fun b => decide (b.toNat < 128)) = true) :
    Calls Tryz.prog 16 #[str s, .string ⟨#[c]⟩] w fun e w' => ∃ m : Nat, e = .returned (.slice (some ⟨w.heap.size, 0, none⟩) m m) ∧ 0 < m ∧ m ≤ 301 ∧ SRow w' w.heap.size m ∧ Below w.heap.size w w' := by
  refine (splitP s c w L (by omega)).mono ?_
  rintro e w' ⟨ps, rfl, h1, h2, h3, h4, h5⟩
  refine ⟨ps.length, rfl, h1, by omega, ⟨ps, rfl, by omega, fun x hx => ⟨by have := (h3 x hx).1; omega, fun b hb => ?_⟩, h4⟩, h5⟩
  have := List.all_eq_true.1 ha b ((h3 x hx).2 b hb)
  simpa using this
theorem joinR {w : World} {g m : Nat} (h : SRow w g m) (o n c : Nat) (hn : o + n ≤ m) (hc : n ≤ c) :
    Calls Tryz.prog 17 #[.slice (some ⟨g, o, none⟩) n c, .string ⟨#[32]⟩] w fun e w' => ∃ u, e = .returned (str u) ∧ u.length ≤ 130000 ∧ Below w.heap.size w w' := by
  obtain ⟨ps, h1, h2, h3, h4⟩ := h
  exact joinQ h1 h4 (fun x hx => (h3 x hx).1) (by omega) o n c hn hc
def tlA (g m k : Nat) : Option Addr := if m = k then some ⟨g, 0, none⟩ else some ⟨g, k, none⟩
theorem joinT {w : World} {g m : Nat} (h : SRow w g m) (k : Nat) (hk : k ≤ m) :
    Calls Tryz.prog 17 #[.slice (tlA g m k) (m - k) (m - k), .string ⟨#[32]⟩] w fun e w' => ∃ u, e = .returned (str u) ∧ u.length ≤ 130000 ∧ Below w.heap.size w w' := by
  unfold tlA
  split
  · exact joinR h 0 (m - k) (m - k) (by omega) (Nat.le_refl _)
  · exact joinR h k (m - k) (m - k) (by omega) (Nat.le_refl _)
theorem sizeStr (W : World) : (sizeOf 9).run Tryz.prog W = .ok 1 W := by kernel_rfl
theorem sliceHead (g m k : Nat) (h : k ≤ m) (W : World) : (Instr.slice 37 (.slice (some ⟨g, 0, none⟩) m m) none (some (.int .i64 (k : Nat))) none).run Tryz.prog W = .ok (.slice (some ⟨g, 0, none⟩) k m) W := by
  have he : Tryz.prog.underlying 37 = some (.slice (Tryz.prog.elem 37)) := by kernel_rfl
  have hel : Tryz.prog.elem 37 = 9 := by kernel_rfl
  rw [run_slice_h (w := W) 37 (some ⟨g, 0, none⟩) m m he .i64 (k : Nat) (by omega) (by omega), hel, sizeStr]
  simp [Result.andThen, sliced, add_none]
theorem sliceTail (g m k : Nat) (h : k + 1 ≤ m) (W : World) : (Instr.slice 37 (.slice (some ⟨g, 0, none⟩) m m) (some (.int .i64 ((k : Int) + 1))) none none).run Tryz.prog W = .ok (.slice (tlA g m (k + 1)) (m - (k + 1)) (m - (k + 1))) W := by
  have he : Tryz.prog.underlying 37 = some (.slice (Tryz.prog.elem 37)) := by kernel_rfl
  have hel : Tryz.prog.elem 37 = 9 := by kernel_rfl
  rw [run_slice_l (w := W) 37 (some ⟨g, 0, none⟩) m m he .i64 ((k : Int) + 1) (by omega) (by omega), hel, sizeStr]
  rw [show ((k : Int) + 1).toNat = k + 1 from by omega]
  simp only [Result.andThen, sliced, tlA]
  by_cases h : m = k + 1
  · simp [h]
  · simp [h, add_none]
theorem cat (a b : Str) (n : Nat) (h : a.length + b.length ≤ n) (hn : n ≤ 1000000000) : ∃ c : Str, c.length ≤ n ∧ ∀ W, (Op.stringOp .add ⟨a.toArray⟩ ⟨b.toArray⟩).run Tryz.prog W = .ok (str c) W :=
  ⟨a ++ b, by rw [List.length_append]; exact h, run_cat a b (by omega)⟩
/-- One byte, as a string. -/
theorem byteS (W : World) (c : Nat) : ∃ bb : Str, bb.length = 1 ∧
    (convert 42 9 (.slice (some ⟨W.heap.size, 0, none⟩) 1 1)).run Tryz.prog (W.alloc (.cells #[.int .u8 (c : Int)] 5)) = .ok (str bb) (W.alloc (.cells #[.int .u8 (c : Int)] 5)) := by
  have hb : Bs (W.alloc (.cells #[.int .u8 (c : Int)] 5)) (.slice (some ⟨W.heap.size, 0, none⟩) 1 1) [(c : Int)] := by
    refine ⟨some ⟨W.heap.size, 0, none⟩, 1, rfl, by simp, by unfold maxLen; omega, (by intro e; cases e), fun a ha j hj => ?_⟩
    cases ha
    obtain rfl : j = 0 := by simp at hj; omega
    have hn := heap_alloc_new W (.cells #[.int .u8 (c : Int)] 5)
    rw [add_none]
    unfold World.cell?
    rw [show (⟨W.heap.size, 0 + 0, none⟩ : Addr).block = W.heap.size from rfl, hn]
    rfl
  refine ⟨[UInt8.ofNat (c : Int).toNat], rfl, ?_⟩
  rw [run_string hb]
  congr 1
end Go.Proofs.YthfkmackodbmkaaGreatDoor
/- Numbers, labels, bytes at their ends: both tell the same (TextNumbers). -/
namespace Go.Proofs.YthfkmackodbmkaaGreatDoor
open Go.RowKit
set_option linter.unusedVariables false
set_option linter.unusedSimpArgs false
set_option maxRecDepth 100000
set_option maxHeartbeats 8000000

theorem textNumbersOf (w : World) (L : Lay w) : Calls Tryz.prog 5 #[] w (Says true w) := by
  have HL := Lib.hid L
  have PA := Lib.hid (fun (s : Str) W (h : Below w.heap.size w W) (hs : s.length ≤ 1000000000) => parsesP s W ((HL.out).past h) hs)
  clear L
  go_enter Tryz.func5, Tryz.ntmps5
  go_wp2_with fail
  refine (splitR _ 124 _ HL.out (by decide +kernel) (by decide +kernel)).mono ?_; rintro e w1 ⟨ma, rfl, ma0, ma1, ra, b1⟩
  obtain ⟨ga, hga⟩ : ∃ ga, ga = w.heap.size := ⟨_, rfl⟩
  rw [← hga] at ra
  have B1 := Lib.hid b1
  rw [← hga]
  clear hga b1
  have RA := Lib.hid ra
  clear ra
  go_wp2_with fail
  refine (splitR _ 32 _ ((HL.out).past B1.out) (by decide +kernel) (by decide +kernel)).mono ?_; rintro e w2 ⟨mo, rfl, mo0, mo1, ro, b2⟩
  have RA2 := Lib.hid ((RA.out).past b2)
  obtain ⟨go, hgo⟩ : ∃ go, go = w1.heap.size := ⟨_, rfl⟩
  rw [← hgo] at ro
  have B2 := Lib.hid ((B1.out).trans (b2.mono (B1.out).size))
  rw [← hgo]
  clear hgo b2
  have RO := Lib.hid ro
  clear ro
  go_wp2_with fail
  go_loopw [3] (fun i wr => ∃ k : Nat, k ≤ ma ∧ i = .int .i64 k ∧ Hid (SRow wr ga ma) ∧ Hid (SRow wr go mo) ∧ Hid (Below w.heap.size w wr)) (fun i _ => ma - (intOf i).toNat)
  case atStart => exact ⟨0, Nat.zero_le _, rfl, RA2, RO, B2⟩
  case round =>
    obtain ⟨k, hk, rfl, RA0, RO0, B0⟩ := hrel
    by_cases hlt : k < ma
    · have hd : decide (k < ma) = true := by simpa using hlt
      have k0 : 0 ≤ (k : Int) := by omega
      have k1 : (k : Int) < (ma : Int) := by omega
      have n1 : (k : Int) + 1 ≤ 9223372036854775807 := by omega
      obtain ⟨x, sx, cx, -⟩ := (RA0.out).at hlt
      have SX := Lib.hid sx
      clear sx
      go_wp2_with fail
      refine (splitR x 32 _ ((HL.out).past B0.out) (SX.out).1 (by simpa using (SX.out).2)).mono ?_; rintro e w3 ⟨mw, rfl, mw0, mw1, rw3, b3⟩
      obtain ⟨gw, hgw⟩ : ∃ gw, gw = wr.heap.size := ⟨_, rfl⟩
      rw [← hgw] at rw3
      have RW3 := Lib.hid rw3
      have RA3 := Lib.hid ((RA0.out).past b3)
      have RO3 := Lib.hid ((RO0.out).past b3)
      have CX3 := Lib.hid ((b3.cell (World.block_lt_of_cell? _ _ cx)).trans cx)
      have B3 := Lib.hid ((B0.out).trans (b3.mono (B0.out).size))
      rw [← hgw]
      clear hgw b3 rw3 cx
      go_wp2_with fail
      go_loopw [5] (fun i wr => ∃ j : Nat, j ≤ mw ∧ i = .int .i64 j ∧ Hid (Below w3.heap.size w3 wr)) (fun i _ => mw - (intOf i).toNat)
      case atStart => exact ⟨0, Nat.zero_le _, rfl, Lib.hid (Below.refl _ _)⟩
      case round =>
        obtain ⟨j, hj, rfl, D0⟩ := hrel
        by_cases hjt : j < mw
        · have hd2 : decide (j < mw) = true := by simpa using hjt
          have j0 : 0 ≤ (j : Int) := by omega
          have j1 : (j : Int) < (mw : Int) := by omega
          have jn : (j : Int) + 1 ≤ 9223372036854775807 := by omega
          have SH := sliceHead gw mw j (by omega)
          have ST := sliceTail gw mw j (by omega)
          have u2 : IntKind.i64.wrap ((j : Int) + 1) = j + 1 := IntWalk.i64_in _ (by omega)
          have u3 : wrap64 ((j : Int) + 1) = j + 1 := IntWalk.wrap64_in _ (by omega)
          obtain ⟨z, sz, cz, -⟩ := (RW3.out).at hjt
          have HZ := Lib.hid sz
          have HCZ := Lib.hid cz
          clear sz cz
          go_wp2_with fail
          have S0 := (D0.out).drew
          refine wp_region_held_drew (S := fun w' => Below w3.heap.size w3 w') (by kernel_rfl) S0 (fun S0 => ?_)
          refine wpAnyH_take (i := 0) (v := ?v0t1) rfl (by kernel_rfl) (by kernel_rfl) (by kernel_rfl) (fun _ _ _ h => h) (Or.inl ⟨by rfl, ?y0t1⟩) S0 ?z0t1
          case y0t1 => intro w_ hSw; go_simp; with_reducible rfl
          try simp only [List.getElem_toArray, List.getElem_cons_zero, List.getElem_cons_succ, Act.put, List.setIfInBounds_toArray, List.set_cons_zero, List.set_cons_succ]
          refine wpAnyH_take (i := 1) (v := ?v1t2) rfl (by kernel_rfl) (by kernel_rfl) (by kernel_rfl) (fun _ _ _ h => h) (Or.inl ⟨by rfl, ?y1t2⟩) S0 ?z1t2
          case y1t2 => intro w_ hSw; go_simp; with_reducible rfl
          try simp only [List.getElem_toArray, List.getElem_cons_zero, List.getElem_cons_succ, Act.put, List.setIfInBounds_toArray, List.set_cons_zero, List.set_cons_succ]
          refine wpAnyH_take (i := 2) (v := ?v2t3) rfl (by kernel_rfl) (by kernel_rfl) (by kernel_rfl) (fun _ _ _ h => h) (Or.inl ⟨by rfl, ?y2t3⟩) S0 ?z2t3
          case y2t3 => intro w_ hSw; go_simp; with_reducible rfl
          try simp only [List.getElem_toArray, List.getElem_cons_zero, List.getElem_cons_succ, Act.put, List.setIfInBounds_toArray, List.set_cons_zero, List.set_cons_succ]
          refine wpAnyH_take (i := 4) (v := ?v4t4) rfl (by kernel_rfl) (by kernel_rfl) (by kernel_rfl) (fun _ _ _ h => h) (Or.inl ⟨by rfl, ?y4t4⟩) S0 ?z4t4
          case y4t4 => intro w_ hSw; go_simp; with_reducible rfl
          try simp only [List.getElem_toArray, List.getElem_cons_zero, List.getElem_cons_succ, Act.put, List.setIfInBounds_toArray, List.set_cons_zero, List.set_cons_succ]
          refine wpAnyH_take (i := 5) (v := ?v5t5) rfl (by kernel_rfl) (by kernel_rfl) (by kernel_rfl) (fun _ _ _ h => h) (Or.inl ⟨by rfl, ?y5t5⟩) S0 ?z5t5
          case y5t5 => intro w_ hSw; go_simp; with_reducible rfl
          try simp only [List.getElem_toArray, List.getElem_cons_zero, List.getElem_cons_succ, Act.put, List.setIfInBounds_toArray, List.set_cons_zero, List.set_cons_succ]
          refine wpAnyH_take (i := 6) (v := ?v6t6) rfl (by kernel_rfl) (by kernel_rfl) (by kernel_rfl) (fun _ _ _ h => h) (Or.inl ⟨by rfl, ?y6t6⟩) S0 ?z6t6
          case y6t6 => intro w_ hSw; go_simp; with_reducible rfl
          try simp only [List.getElem_toArray, List.getElem_cons_zero, List.getElem_cons_succ, Act.put, List.setIfInBounds_toArray, List.set_cons_zero, List.set_cons_succ]
          refine wpAnyH_take (i := 7) (v := ?v7t7) rfl (by kernel_rfl) (by kernel_rfl) (by kernel_rfl) (fun _ _ _ h => h) (Or.inl ⟨by rfl, ?y7t7⟩) S0 ?z7t7
          case y7t7 => intro w_ hSw; go_simp; with_reducible rfl
          try simp only [List.getElem_toArray, List.getElem_cons_zero, List.getElem_cons_succ, Act.put, List.setIfInBounds_toArray, List.set_cons_zero, List.set_cons_succ]
          refine wpAnyH_ready (rs := [3]) (by kernel_rfl) (by simp) ?_
          refine AllReadyH.cons rfl (fun K hK => ?_) AllReadyH.nil
          go_simp
          refine (joinR ((RW3.out).past S0) 0 j mw (by omega) (by omega)).mono ?_; rintro e y1 ⟨u, rfl, hu, q1⟩
          have S1 := S0.trans (q1.mono S0.size)
          try go_wp2_with fail
          refine hK.out _ _ S1 (fun _ => ?_)
          clear hK K
          try simp only [List.getElem_toArray, List.getElem_cons_zero, List.getElem_cons_succ, Act.put, List.setIfInBounds_toArray, List.set_cons_zero, List.set_cons_succ]
          refine wpAnyH_ready (rs := [8]) (by kernel_rfl) (by simp) ?_
          refine AllReadyH.cons rfl (fun K hK => ?_) AllReadyH.nil
          go_simp
          refine (joinT ((RW3.out).past S1) (j + 1) (by omega)).mono ?_; rintro e y2 ⟨v, rfl, hv, q2⟩
          have S2 := S1.trans (q2.mono S1.size)
          try go_wp2_with fail
          refine hK.out _ _ S2 (fun _ => ?_)
          clear hK K
          try simp only [List.getElem_toArray, List.getElem_cons_zero, List.getElem_cons_succ, Act.put, List.setIfInBounds_toArray, List.set_cons_zero, List.set_cons_succ]
          refine wpAnyH_take (i := 9) (v := ?v9t8) rfl (by kernel_rfl) (by kernel_rfl) (by kernel_rfl) (fun _ _ _ h => h) (Or.inl ⟨by rfl, ?y9t8⟩) S2 ?z9t8
          case y9t8 => intro w_ hSw; go_simp; with_reducible rfl
          try simp only [List.getElem_toArray, List.getElem_cons_zero, List.getElem_cons_succ, Act.put, List.setIfInBounds_toArray, List.set_cons_zero, List.set_cons_succ]
          refine wpAnyH_take (i := 10) (v := ?v10t9) rfl (by kernel_rfl) (by kernel_rfl) (by kernel_rfl) (fun _ _ _ h => h) (Or.inl ⟨by rfl, ?y10t9⟩) S2 ?z10t9
          case y10t9 => intro w_ hSw; go_simp; with_reducible rfl
          try simp only [List.getElem_toArray, List.getElem_cons_zero, List.getElem_cons_succ, Act.put, List.setIfInBounds_toArray, List.set_cons_zero, List.set_cons_succ]
          refine wpAnyH_done (by kernel_rfl) ?_ _
          have D2 := Lib.hid S2
          have lz := (HZ.out).1
          obtain ⟨c1, lc1, Cc1⟩ := cat [120, 58, 10] u 130003 (by (try simp only [List.length_cons, List.length_nil]); omega) (by omega)
          obtain ⟨c2, lc2, Cc2⟩ := cat c1 [32] 130004 (by (try simp only [List.length_cons, List.length_nil]); omega) (by omega)
          obtain ⟨c3, lc3, Cc3⟩ := cat c2 v 260004 (by (try simp only [List.length_cons, List.length_nil]); omega) (by omega)
          obtain ⟨d1, ld1, Cd1⟩ := cat u [32] 130001 (by (try simp only [List.length_cons, List.length_nil]); omega) (by omega)
          obtain ⟨d2, ld2, Cd2⟩ := cat d1 z 130301 (by (try simp only [List.length_cons, List.length_nil]); omega) (by omega)
          obtain ⟨d3, ld3, Cd3⟩ := cat d2 [32] 130302 (by (try simp only [List.length_cons, List.length_nil]); omega) (by omega)
          obtain ⟨d4, ld4, Cd4⟩ := cat d3 z 130602 (by (try simp only [List.length_cons, List.length_nil]); omega) (by omega)
          obtain ⟨d5, ld5, Cd5⟩ := cat d4 [32] 130603 (by (try simp only [List.length_cons, List.length_nil]); omega) (by omega)
          obtain ⟨d6, ld6, Cd6⟩ := cat d5 v 260603 (by (try simp only [List.length_cons, List.length_nil]); omega) (by omega)
          obtain ⟨d7, ld7, Cd7⟩ := cat d6 [10, 120, 58] 260606 (by (try simp only [List.length_cons, List.length_nil]); omega) (by omega)
          clear S0 S1 S2 q1 q2 SH ST u2 u3 
          go_wp2_with fail
          have cz := ((D2.out).cell (World.block_lt_of_cell? _ _ HCZ.out)).trans HCZ.out
          refine wp_region_held_drew (S := fun w' => w'.cell? ⟨gw, j, none⟩ = some (str z) ∧ Below w3.heap.size w3 w') (by kernel_rfl) ⟨cz, (D2.out).drew⟩ (fun S0 => ?_)
          refine wpAnyH_take (i := 0) (v := ?v0t10) rfl (by kernel_rfl) (by kernel_rfl) (by kernel_rfl) (fun _ _ _ h => h) (Or.inl ⟨by rfl, ?y0t10⟩) S0 ?z0t10
          case y0t10 => intro w_ hSw; go_simp; with_reducible rfl
          try simp only [List.getElem_toArray, List.getElem_cons_zero, List.getElem_cons_succ, Act.put, List.setIfInBounds_toArray, List.set_cons_zero, List.set_cons_succ]
          refine wpAnyH_take (i := 1) (v := ?v1t11) rfl (by kernel_rfl) (by kernel_rfl) (by kernel_rfl) (fun _ _ _ h => h) (Or.inl ⟨by rfl, ?y1t11⟩) S0 ?z1t11
          case y1t11 => intro w_ hSw; go_simp; with_reducible rfl
          try simp only [List.getElem_toArray, List.getElem_cons_zero, List.getElem_cons_succ, Act.put, List.setIfInBounds_toArray, List.set_cons_zero, List.set_cons_succ]
          refine wpAnyH_take (i := 2) (v := ?v2t12) rfl (by kernel_rfl) (by kernel_rfl) (by kernel_rfl) (fun _ _ _ h => h) (Or.inl ⟨by rfl, ?y2t12⟩) S0 ?z2t12
          case y2t12 => intro w_ hSw; go_simp; with_reducible rfl
          try simp only [List.getElem_toArray, List.getElem_cons_zero, List.getElem_cons_succ, Act.put, List.setIfInBounds_toArray, List.set_cons_zero, List.set_cons_succ]
          refine wpAnyH_take (i := 3) (v := ?v3t13) rfl (by kernel_rfl) (by kernel_rfl) (by kernel_rfl) (fun _ _ _ h => h) (Or.inl ⟨by rfl, ?y3t13⟩) S0 ?z3t13
          case y3t13 => intro w_ hSw; go_simp; with_reducible rfl
          try simp only [List.getElem_toArray, List.getElem_cons_zero, List.getElem_cons_succ, Act.put, List.setIfInBounds_toArray, List.set_cons_zero, List.set_cons_succ]
          refine wpAnyH_take (i := 4) (v := ?v4t14) rfl (by kernel_rfl) (by kernel_rfl) (by kernel_rfl) (fun _ _ _ h => h) (Or.inl ⟨by rfl, ?y4t14⟩) S0 ?z4t14
          case y4t14 => intro w_ hSw; go_simp; with_reducible rfl
          try simp only [List.getElem_toArray, List.getElem_cons_zero, List.getElem_cons_succ, Act.put, List.setIfInBounds_toArray, List.set_cons_zero, List.set_cons_succ]
          refine wpAnyH_ready (rs := [5]) (by kernel_rfl) (by simp) ?_
          refine AllReadyH.cons rfl (fun K hK => ?_) AllReadyH.nil
          go_simp
          refine ((PA.out) c3 _ ((B3.out).trans (S0.2.mono (B3.out).size)) (by omega)).mono ?_; rintro e y3 ⟨rfl, q3⟩
          have S1 := And.intro ((q3.cell (World.block_lt_of_cell? _ _ S0.1)).trans S0.1) (S0.2.trans (q3.mono S0.2.size))
          try go_wp2_with fail
          refine hK.out _ _ S1 (fun _ => ?_)
          clear hK K
          try simp only [List.getElem_toArray, List.getElem_cons_zero, List.getElem_cons_succ, Act.put, List.setIfInBounds_toArray, List.set_cons_zero, List.set_cons_succ]
          refine wpAnyH_take (i := 6) (v := ?v6t15) rfl (by kernel_rfl) (by kernel_rfl) (by kernel_rfl) (fun _ _ _ h => h) (Or.inl ⟨by rfl, ?y6t15⟩) S1 ?z6t15
          case y6t15 => intro w_ hSw; go_simp; with_reducible rfl
          try simp only [List.getElem_toArray, List.getElem_cons_zero, List.getElem_cons_succ, Act.put, List.setIfInBounds_toArray, List.set_cons_zero, List.set_cons_succ]
          refine wpAnyH_take (i := 7) (v := ?v7t16) rfl (by kernel_rfl) (by kernel_rfl) (by kernel_rfl) (fun _ _ _ h => h) (Or.inl ⟨by rfl, ?y7t16⟩) S1 ?z7t16
          case y7t16 => intro w_ hSw; go_simp; with_reducible rfl
          try simp only [List.getElem_toArray, List.getElem_cons_zero, List.getElem_cons_succ, Act.put, List.setIfInBounds_toArray, List.set_cons_zero, List.set_cons_succ]
          refine wpAnyH_take (i := 8) (v := ?v8t17) rfl (by kernel_rfl) (by kernel_rfl) (by kernel_rfl) (fun _ _ _ h => h) (Or.inl ⟨by rfl, ?y8t17⟩) S1 ?z8t17
          case y8t17 => intro w_ hSw; go_simp; with_reducible rfl
          try simp only [List.getElem_toArray, List.getElem_cons_zero, List.getElem_cons_succ, Act.put, List.setIfInBounds_toArray, List.set_cons_zero, List.set_cons_succ]
          refine wpAnyH_ready (rs := [9]) (by kernel_rfl) (by simp) ?_
          refine AllReadyH.cons rfl (fun K hK => ?_) AllReadyH.nil
          go_simp
          refine ((PA.out) u _ ((B3.out).trans (S1.2.mono (B3.out).size)) (by omega)).mono ?_; rintro e y4 ⟨rfl, q4⟩
          have S2 := And.intro ((q4.cell (World.block_lt_of_cell? _ _ S1.1)).trans S1.1) (S1.2.trans (q4.mono S1.2.size))
          try go_wp2_with fail
          refine hK.out _ _ S2 (fun _ => ?_)
          clear hK K
          try simp only [List.getElem_toArray, List.getElem_cons_zero, List.getElem_cons_succ, Act.put, List.setIfInBounds_toArray, List.set_cons_zero, List.set_cons_succ]
          refine wpAnyH_take (i := 10) (v := ?v10t18) rfl (by kernel_rfl) (by kernel_rfl) (by kernel_rfl) (fun _ _ _ h => h) (Or.inl ⟨by rfl, ?y10t18⟩) S2 ?z10t18
          case y10t18 => intro w_ hSw; go_simp; with_reducible rfl
          try simp only [List.getElem_toArray, List.getElem_cons_zero, List.getElem_cons_succ, Act.put, List.setIfInBounds_toArray, List.set_cons_zero, List.set_cons_succ]
          refine wpAnyH_take (i := 11) (v := ?v11t19) rfl (by kernel_rfl) (by kernel_rfl) (by kernel_rfl) (fun _ _ _ h => h) (Or.inl ⟨by rfl, ?y11t19⟩) S2 ?z11t19
          case y11t19 => intro w_ hSw; go_simp; with_reducible rfl
          try simp only [List.getElem_toArray, List.getElem_cons_zero, List.getElem_cons_succ, Act.put, List.setIfInBounds_toArray, List.set_cons_zero, List.set_cons_succ]
          refine wpAnyH_take (i := 12) (v := ?v12t20) rfl (by kernel_rfl) (by kernel_rfl) (by kernel_rfl) (fun _ _ _ h => h) (Or.inl ⟨by rfl, ?y12t20⟩) S2 ?z12t20
          case y12t20 => intro w_ hSw; go_simp; with_reducible rfl
          try simp only [List.getElem_toArray, List.getElem_cons_zero, List.getElem_cons_succ, Act.put, List.setIfInBounds_toArray, List.set_cons_zero, List.set_cons_succ]
          refine wpAnyH_take (i := 13) (v := ?v13t21) rfl (by kernel_rfl) (by kernel_rfl) (by kernel_rfl) (fun _ _ _ h => h) (Or.inl ⟨by rfl, ?y13t21⟩) S2 ?z13t21
          case y13t21 => intro w_ hSw; go_simp; with_reducible rfl
          try simp only [List.getElem_toArray, List.getElem_cons_zero, List.getElem_cons_succ, Act.put, List.setIfInBounds_toArray, List.set_cons_zero, List.set_cons_succ]
          refine wpAnyH_take (i := 14) (v := ?v14t22) rfl (by kernel_rfl) (by kernel_rfl) (by kernel_rfl) (fun _ _ _ h => h) (Or.inl ⟨by rfl, ?y14t22⟩) S2 ?z14t22
          case y14t22 => intro w_ hSw; go_simp; with_reducible rfl
          try simp only [List.getElem_toArray, List.getElem_cons_zero, List.getElem_cons_succ, Act.put, List.setIfInBounds_toArray, List.set_cons_zero, List.set_cons_succ]
          refine wpAnyH_take (i := 15) (v := ?v15t23) rfl (by kernel_rfl) (by kernel_rfl) (by kernel_rfl) (fun _ _ _ h => h) (Or.inl ⟨by rfl, ?y15t23⟩) S2 ?z15t23
          case y15t23 => intro w_ hSw; go_simp; with_reducible rfl
          try simp only [List.getElem_toArray, List.getElem_cons_zero, List.getElem_cons_succ, Act.put, List.setIfInBounds_toArray, List.set_cons_zero, List.set_cons_succ]
          refine wpAnyH_take (i := 16) (v := ?v16t24) rfl (by kernel_rfl) (by kernel_rfl) (by kernel_rfl) (fun _ _ _ h => h) (Or.inl ⟨by rfl, ?y16t24⟩) S2 ?z16t24
          case y16t24 => intro w_ hSw; go_simp; with_reducible rfl
          try simp only [List.getElem_toArray, List.getElem_cons_zero, List.getElem_cons_succ, Act.put, List.setIfInBounds_toArray, List.set_cons_zero, List.set_cons_succ]
          refine wpAnyH_take (i := 17) (v := ?v17t25) rfl (by kernel_rfl) (by kernel_rfl) (by kernel_rfl) (fun _ _ _ h => h) (Or.inl ⟨by rfl, ?y17t25⟩) S2 ?z17t25
          case y17t25 => intro w_ hSw; go_simp; with_reducible rfl
          try simp only [List.getElem_toArray, List.getElem_cons_zero, List.getElem_cons_succ, Act.put, List.setIfInBounds_toArray, List.set_cons_zero, List.set_cons_succ]
          refine wpAnyH_take (i := 18) (v := ?v18t26) rfl (by kernel_rfl) (by kernel_rfl) (by kernel_rfl) (fun _ _ _ h => h) (Or.inl ⟨by rfl, ?y18t26⟩) S2 ?z18t26
          case y18t26 => intro w_ hSw; (try dsimp only at hSw); go_simp; with_reducible rfl
          try simp only [List.getElem_toArray, List.getElem_cons_zero, List.getElem_cons_succ, Act.put, List.setIfInBounds_toArray, List.set_cons_zero, List.set_cons_succ]
          refine wpAnyH_take (i := 19) (v := ?v19t27) rfl (by kernel_rfl) (by kernel_rfl) (by kernel_rfl) (fun _ _ _ h => h) (Or.inl ⟨by rfl, ?y19t27⟩) S2 ?z19t27
          case y19t27 => intro w_ hSw; go_simp; with_reducible rfl
          try simp only [List.getElem_toArray, List.getElem_cons_zero, List.getElem_cons_succ, Act.put, List.setIfInBounds_toArray, List.set_cons_zero, List.set_cons_succ]
          refine wpAnyH_take (i := 20) (v := ?v20t28) rfl (by kernel_rfl) (by kernel_rfl) (by kernel_rfl) (fun _ _ _ h => h) (Or.inl ⟨by rfl, ?y20t28⟩) S2 ?z20t28
          case y20t28 => intro w_ hSw; go_simp; with_reducible rfl
          try simp only [List.getElem_toArray, List.getElem_cons_zero, List.getElem_cons_succ, Act.put, List.setIfInBounds_toArray, List.set_cons_zero, List.set_cons_succ]
          refine wpAnyH_take (i := 21) (v := ?v21t29) rfl (by kernel_rfl) (by kernel_rfl) (by kernel_rfl) (fun _ _ _ h => h) (Or.inl ⟨by rfl, ?y21t29⟩) S2 ?z21t29
          case y21t29 => intro w_ hSw; go_simp; with_reducible rfl
          try simp only [List.getElem_toArray, List.getElem_cons_zero, List.getElem_cons_succ, Act.put, List.setIfInBounds_toArray, List.set_cons_zero, List.set_cons_succ]
          refine wpAnyH_take (i := 22) (v := ?v22t30) rfl (by kernel_rfl) (by kernel_rfl) (by kernel_rfl) (fun _ _ _ h => h) (Or.inl ⟨by rfl, ?y22t30⟩) S2 ?z22t30
          case y22t30 => intro w_ hSw; go_simp; with_reducible rfl
          try simp only [List.getElem_toArray, List.getElem_cons_zero, List.getElem_cons_succ, Act.put, List.setIfInBounds_toArray, List.set_cons_zero, List.set_cons_succ]
          refine wpAnyH_take (i := 23) (v := ?v23t31) rfl (by kernel_rfl) (by kernel_rfl) (by kernel_rfl) (fun _ _ _ h => h) (Or.inl ⟨by rfl, ?y23t31⟩) S2 ?z23t31
          case y23t31 => intro w_ hSw; go_simp; with_reducible rfl
          try simp only [List.getElem_toArray, List.getElem_cons_zero, List.getElem_cons_succ, Act.put, List.setIfInBounds_toArray, List.set_cons_zero, List.set_cons_succ]
          refine wpAnyH_take (i := 24) (v := ?v24t32) rfl (by kernel_rfl) (by kernel_rfl) (by kernel_rfl) (fun _ _ _ h => h) (Or.inl ⟨by rfl, ?y24t32⟩) S2 ?z24t32
          case y24t32 => intro w_ hSw; (try dsimp only at hSw); go_simp; with_reducible rfl
          try simp only [List.getElem_toArray, List.getElem_cons_zero, List.getElem_cons_succ, Act.put, List.setIfInBounds_toArray, List.set_cons_zero, List.set_cons_succ]
          refine wpAnyH_take (i := 25) (v := ?v25t33) rfl (by kernel_rfl) (by kernel_rfl) (by kernel_rfl) (fun _ _ _ h => h) (Or.inl ⟨by rfl, ?y25t33⟩) S2 ?z25t33
          case y25t33 => intro w_ hSw; go_simp; with_reducible rfl
          try simp only [List.getElem_toArray, List.getElem_cons_zero, List.getElem_cons_succ, Act.put, List.setIfInBounds_toArray, List.set_cons_zero, List.set_cons_succ]
          refine wpAnyH_take (i := 26) (v := ?v26t34) rfl (by kernel_rfl) (by kernel_rfl) (by kernel_rfl) (fun _ _ _ h => h) (Or.inl ⟨by rfl, ?y26t34⟩) S2 ?z26t34
          case y26t34 => intro w_ hSw; go_simp; with_reducible rfl
          try simp only [List.getElem_toArray, List.getElem_cons_zero, List.getElem_cons_succ, Act.put, List.setIfInBounds_toArray, List.set_cons_zero, List.set_cons_succ]
          refine wpAnyH_take (i := 27) (v := ?v27t35) rfl (by kernel_rfl) (by kernel_rfl) (by kernel_rfl) (fun _ _ _ h => h) (Or.inl ⟨by rfl, ?y27t35⟩) S2 ?z27t35
          case y27t35 => intro w_ hSw; go_simp; with_reducible rfl
          try simp only [List.getElem_toArray, List.getElem_cons_zero, List.getElem_cons_succ, Act.put, List.setIfInBounds_toArray, List.set_cons_zero, List.set_cons_succ]
          refine wpAnyH_take (i := 28) (v := ?v28t36) rfl (by kernel_rfl) (by kernel_rfl) (by kernel_rfl) (fun _ _ _ h => h) (Or.inl ⟨by rfl, ?y28t36⟩) S2 ?z28t36
          case y28t36 => intro w_ hSw; go_simp; with_reducible rfl
          try simp only [List.getElem_toArray, List.getElem_cons_zero, List.getElem_cons_succ, Act.put, List.setIfInBounds_toArray, List.set_cons_zero, List.set_cons_succ]
          refine wpAnyH_take (i := 29) (v := ?v29t37) rfl (by kernel_rfl) (by kernel_rfl) (by kernel_rfl) (fun _ _ _ h => h) (Or.inl ⟨by rfl, ?y29t37⟩) S2 ?z29t37
          case y29t37 => intro w_ hSw; go_simp; with_reducible rfl
          try simp only [List.getElem_toArray, List.getElem_cons_zero, List.getElem_cons_succ, Act.put, List.setIfInBounds_toArray, List.set_cons_zero, List.set_cons_succ]
          refine wpAnyH_ready (rs := [30]) (by kernel_rfl) (by simp) ?_
          refine AllReadyH.cons rfl (fun K hK => ?_) AllReadyH.nil
          go_simp
          refine ((PA.out) d7 _ ((B3.out).trans (S2.2.mono (B3.out).size)) (by omega)).mono ?_; rintro e y5 ⟨rfl, q5⟩
          have S3 := And.intro ((q5.cell (World.block_lt_of_cell? _ _ S2.1)).trans S2.1) (S2.2.trans (q5.mono S2.2.size))
          try go_wp2_with fail
          refine hK.out _ _ S3 (fun _ => ?_)
          clear hK K
          try simp only [List.getElem_toArray, List.getElem_cons_zero, List.getElem_cons_succ, Act.put, List.setIfInBounds_toArray, List.set_cons_zero, List.set_cons_succ]
          refine wpAnyH_take (i := 31) (v := ?v31t38) rfl (by kernel_rfl) (by kernel_rfl) (by kernel_rfl) (fun _ _ _ h => h) (Or.inl ⟨by rfl, ?y31t38⟩) S3 ?z31t38
          case y31t38 => intro w_ hSw; go_simp; with_reducible rfl
          try simp only [List.getElem_toArray, List.getElem_cons_zero, List.getElem_cons_succ, Act.put, List.setIfInBounds_toArray, List.set_cons_zero, List.set_cons_succ]
          refine wpAnyH_take (i := 32) (v := ?v32t39) rfl (by kernel_rfl) (by kernel_rfl) (by kernel_rfl) (fun _ _ _ h => h) (Or.inl ⟨by rfl, ?y32t39⟩) S3 ?z32t39
          case y32t39 => intro w_ hSw; go_simp; with_reducible rfl
          try simp only [List.getElem_toArray, List.getElem_cons_zero, List.getElem_cons_succ, Act.put, List.setIfInBounds_toArray, List.set_cons_zero, List.set_cons_succ]
          refine wpAnyH_done (by kernel_rfl) ?_ _
          have D3 := Lib.hid S3.2
          clear S0 S1 S2 S3 q3 q4 q5 cz Cc1 Cc2 Cc3 Cd1 Cd2 Cd3 Cd4 Cd5 Cd6 Cd7 lc1 lc2 lc3 ld1 ld2 ld3 ld4 ld5 ld6 ld7
          go_wp2_with fail
          go_loopw [8] (fun i wr => ∃ n : Nat, n ≤ mo ∧ i = .int .i64 n ∧ Hid (Below w3.heap.size w3 wr)) (fun i _ => mo - (intOf i).toNat)
          case atStart => exact ⟨0, Nat.zero_le _, rfl, D3⟩
          case round =>
            obtain ⟨n, hn, rfl, E0⟩ := hrel
            by_cases hnt : n < mo
            · have hd3 : decide (n < mo) = true := by simpa using hnt
              have p0 : 0 ≤ (n : Int) := by omega
              have p1 : (n : Int) < (mo : Int) := by omega
              have pn : (n : Int) + 1 ≤ 9223372036854775807 := by omega
              obtain ⟨y, sy, cy, -⟩ := ((RO3.out).past E0.out).at hnt
              have ly := sy.1
              clear sy
              obtain ⟨c1, lc1, Cc1⟩ := cat u [32] 130001 (by (try simp only [List.length_cons, List.length_nil]); omega) (by omega)
              obtain ⟨c2, lc2, Cc2⟩ := cat c1 y 130301 (by (try simp only [List.length_cons, List.length_nil]); omega) (by omega)
              obtain ⟨c3, lc3, Cc3⟩ := cat c2 [32] 130302 (by (try simp only [List.length_cons, List.length_nil]); omega) (by omega)
              obtain ⟨c4, lc4, Cc4⟩ := cat c3 v 260302 (by (try simp only [List.length_cons, List.length_nil]); omega) (by omega)
              obtain ⟨c5, lc5, Cc5⟩ := cat c4 [10, 121, 58] 260305 (by (try simp only [List.length_cons, List.length_nil]); omega) (by omega)
              go_wp2_with fail
              refine ((PA.out) c5 _ ((B3.out).trans ((E0.out).mono (B3.out).size)) (by omega)).mono ?_; rintro e y6 ⟨rfl, q6⟩
              have E1 := Lib.hid ((E0.out).trans (q6.mono (E0.out).size))
              clear q6 cy Cc1 Cc2 Cc3 Cc4 Cc5
              go_wp2_with fail
              go_roundw
              case rel => exact ⟨n + 1, by omega, by go_num, E1⟩
              case measure =>
                simp only [intOf]
                omega
            · have hd3 : decide (n < mo) = false := by simpa using hnt
              go_wp2_with fail
              go_roundw
              case rel => exact ⟨j + 1, by omega, by go_num, E0⟩
              case measure =>
                simp only [intOf]
                omega
        · have hd2 : decide (j < mw) = false := by simpa using hjt
          have cx4 := ((D0.out).cell (World.block_lt_of_cell? _ _ CX3.out)).trans CX3.out
          have B4 := Lib.hid ((B3.out).trans ((D0.out).mono (B3.out).size))
          have lx := (SX.out).1
          go_wp2_with fail
          refine ((PA.out) x _ B4.out (by omega)).mono ?_; rintro e w5 ⟨rfl, b5⟩
          have cx5 := (b5.cell (World.block_lt_of_cell? _ _ cx4)).trans cx4
          have D5 := Lib.hid ((D0.out).trans (b5.mono (D0.out).size))
          have B5 := Lib.hid ((B4.out).trans (b5.mono (B4.out).size))
          clear b5 cx4
          go_wp2_with fail
          refine (bareP x _ ((HL.out).past B5.out) (by omega)).mono ?_; rintro e w6 ⟨u6, rfl, l6, b6⟩
          have cx6 := (b6.cell (World.block_lt_of_cell? _ _ cx5)).trans cx5
          have D6 := Lib.hid ((D5.out).trans (b6.mono (D5.out).size))
          have B6 := Lib.hid ((B5.out).trans (b6.mono (B5.out).size))
          clear b6 cx5
          go_wp2_with fail
          refine ((PA.out) u6 _ B6.out (by omega)).mono ?_; rintro e w7 ⟨rfl, b7⟩
          have cx7 := (b7.cell (World.block_lt_of_cell? _ _ cx6)).trans cx6
          have D7 := Lib.hid ((D6.out).trans (b7.mono (D6.out).size))
          have B7 := Lib.hid ((B6.out).trans (b7.mono (B6.out).size))
          clear b7 cx6
          go_wp2_with fail
          refine (upperP x _ (by omega) (SX.out).2).mono ?_; rintro e w8 ⟨u8, rfl, l8, b8⟩
          have D8 := Lib.hid ((D7.out).trans (b8.mono (D7.out).size))
          have B8 := Lib.hid ((B7.out).trans (b8.mono (B7.out).size))
          clear b8 cx7
          go_wp2_with fail
          refine ((PA.out) u8 _ B8.out (by omega)).mono ?_; rintro e w9 ⟨rfl, b9⟩
          have D9 := Lib.hid ((D8.out).trans (b9.mono (D8.out).size))
          have B9 := Lib.hid ((B8.out).trans (b9.mono (B8.out).size))
          clear b9
          go_wp2_with fail
          go_roundw
          case rel => exact ⟨k + 1, by omega, by go_num, Lib.hid ((RA3.out).past D9.out), Lib.hid ((RO3.out).past D9.out), B9⟩
          case measure =>
            simp only [intOf]
            omega
    · have hd : decide (k < ma) = false := by simpa using hlt
      go_wp2_with fail
      clear RA0 RO0 RA RA2 RO
      go_loopw [9] (fun i wr => ∃ c : Nat, c ≤ 256 ∧ i = .int .i64 c ∧ Hid (Below w.heap.size w wr)) (fun i _ => 256 - (intOf i).toNat)
      case atStart => exact ⟨0, Nat.zero_le _, rfl, B0⟩
      case round =>
        obtain ⟨c, hc, rfl, G0⟩ := hrel
        by_cases hct : c < 256
        · have hd2 : decide (c < 256) = true := by simpa using hct
          have hd3 : decide ((c : Int) < 256) = true := by simp; omega
          have cn : (c : Int) + 1 ≤ 9223372036854775807 := by omega
          have hw8 : IntKind.u8.wrap (c : Int) = c := by rw [IntKind.wrap_u8']; omega
          obtain ⟨bb, lbb, HCV⟩ := byteS wr c
          have A1 := alloc_below wr (.cells #[.int .u8 (c : Int)] 5)
          have G1 := Lib.hid ((G0.out).trans (A1.mono (G0.out).size))
          clear A1
          obtain ⟨f1, lf1, Cf1⟩ := cat [101, 120, 105, 116] bb 5 (by (try simp only [List.length_cons, List.length_nil]); omega) (by omega)
          obtain ⟨f2, lf2, Cf2⟩ := cat bb [101, 120, 105, 116] 5 (by (try simp only [List.length_cons, List.length_nil]); omega) (by omega)
          obtain ⟨f3, lf3, Cf3⟩ := cat [109, 111, 118, 32, 114, 48, 44] bb 8 (by (try simp only [List.length_cons, List.length_nil]); omega) (by omega)
          obtain ⟨f4, lf4, Cf4⟩ := cat f3 [49, 10] 10 (by (try simp only [List.length_cons, List.length_nil]); omega) (by omega)
          obtain ⟨f5, lf5, Cf5⟩ := cat f4 bb 11 (by (try simp only [List.length_cons, List.length_nil]); omega) (by omega)
          go_wp2_with fail
          refine ((PA.out) bb _ G1.out (by omega)).mono ?_; rintro e x0 ⟨rfl, p0⟩
          have Z0 := Lib.hid ((G1.out).trans (p0.mono (G1.out).size))
          clear p0
          go_wp2_with fail
          refine ((PA.out) f1 _ Z0.out (by omega)).mono ?_; rintro e x1 ⟨rfl, p1⟩
          have Z1 := Lib.hid ((Z0.out).trans (p1.mono (Z0.out).size))
          clear p1
          go_wp2_with fail
          refine ((PA.out) f2 _ Z1.out (by omega)).mono ?_; rintro e x2 ⟨rfl, p2⟩
          have Z2 := Lib.hid ((Z1.out).trans (p2.mono (Z1.out).size))
          clear p2
          go_wp2_with fail
          refine ((PA.out) f5 _ Z2.out (by omega)).mono ?_; rintro e x3 ⟨rfl, p3⟩
          have Z3 := Lib.hid ((Z2.out).trans (p3.mono (Z2.out).size))
          clear p3
          go_wp2_with fail
          go_roundw
          case rel => exact ⟨c + 1, by omega, by go_num, Z3⟩
          case measure =>
            simp only [intOf]
            omega
        · have hd2 : decide (c < 256) = false := by simpa using hct
          have hd3 : decide ((c : Int) < 256) = false := by simp; omega
          go_wp2_with fail
          refine (splitR _ 124 _ ((HL.out).past G0.out) (by decide +kernel) (by decide +kernel)).mono ?_; rintro e w4 ⟨mn, rfl, mn0, mn1, rn, b4⟩
          obtain ⟨gn, hgn⟩ : ∃ gn, gn = wr.heap.size := ⟨_, rfl⟩
          rw [← hgn] at rn
          have B4 := Lib.hid ((G0.out).trans (b4.mono (G0.out).size))
          rw [← hgn]
          clear hgn b4
          have RN := Lib.hid rn
          clear rn
          go_wp2_with fail
          go_loopw [12] (fun i wr => ∃ j : Nat, j ≤ mn ∧ i = .int .i64 j ∧ Hid (Below w4.heap.size w4 wr)) (fun i _ => mn - (intOf i).toNat)
          case atStart => exact ⟨0, Nat.zero_le _, rfl, Lib.hid (Below.refl _ _)⟩
          case round =>
            obtain ⟨j, hj, rfl, D0⟩ := hrel
            by_cases hjt : j < mn
            · have hj2 : decide (j < mn) = true := by simpa using hjt
              have j0 : 0 ≤ (j : Int) := by omega
              have j1 : (j : Int) < (mn : Int) := by omega
              have jn : (j : Int) + 1 ≤ 9223372036854775807 := by omega
              obtain ⟨z, sz, cz0, -⟩ := (RN.out).at hjt
              have lz := sz.1
              have HCZ := Lib.hid cz0
              clear sz cz0
              go_wp2_with fail
              obtain ⟨c1, lc1, Cc1⟩ := cat [109, 111, 118, 32, 114, 48, 44, 32] z 308 (by (try simp only [List.length_cons, List.length_nil]); omega) (by omega)
              obtain ⟨c2, lc2, Cc2⟩ := cat c1 [10, 109, 111, 118, 32, 114, 49, 44, 32, 45] 318 (by (try simp only [List.length_cons, List.length_nil]); omega) (by omega)
              obtain ⟨c3, lc3, Cc3⟩ := cat c2 z 618 (by (try simp only [List.length_cons, List.length_nil]); omega) (by omega)
              obtain ⟨d1, ld1, Cd1⟩ := cat [109, 111, 118, 32, 114, 48, 44, 32, 45] z 309 (by (try simp only [List.length_cons, List.length_nil]); omega) (by omega)
              obtain ⟨d2, ld2, Cd2⟩ := cat [106, 117, 109, 112, 32, 43] z 306 (by (try simp only [List.length_cons, List.length_nil]); omega) (by omega)
              obtain ⟨d3, ld3, Cd3⟩ := cat [106, 117, 109, 112, 32, 45] z 306 (by (try simp only [List.length_cons, List.length_nil]); omega) (by omega)
              obtain ⟨d4, ld4, Cd4⟩ := cat [108, 111, 97, 100, 49, 32, 114, 49, 44, 32, 91, 114, 49, 32, 43, 32] z 316 (by (try simp only [List.length_cons, List.length_nil]); omega) (by omega)
              obtain ⟨d5, ld5, Cd5⟩ := cat d4 [93] 317 (by (try simp only [List.length_cons, List.length_nil]); omega) (by omega)
              obtain ⟨d6, ld6, Cd6⟩ := cat [108, 111, 97, 100, 49, 32, 114, 49, 44, 32, 91, 114, 49, 32, 45, 32] z 316 (by (try simp only [List.length_cons, List.length_nil]); omega) (by omega)
              obtain ⟨d7, ld7, Cd7⟩ := cat d6 [93] 317 (by (try simp only [List.length_cons, List.length_nil]); omega) (by omega)
              have cz := ((D0.out).cell (World.block_lt_of_cell? _ _ HCZ.out)).trans HCZ.out
              refine wp_region_held_drew (S := fun w' => w'.cell? ⟨gn, j, none⟩ = some (str z) ∧ Below w4.heap.size w4 w') (by kernel_rfl) ⟨cz, (D0.out).drew⟩ (fun S0 => ?_)
              refine wpAnyH_take (i := 0) (v := ?v0t40) rfl (by kernel_rfl) (by kernel_rfl) (by kernel_rfl) (fun _ _ _ h => h) (Or.inl ⟨by rfl, ?y0t40⟩) S0 ?z0t40
              case y0t40 => intro w_ hSw; go_simp; with_reducible rfl
              try simp only [List.getElem_toArray, List.getElem_cons_zero, List.getElem_cons_succ, Act.put, List.setIfInBounds_toArray, List.set_cons_zero, List.set_cons_succ]
              refine wpAnyH_take (i := 1) (v := ?v1t41) rfl (by kernel_rfl) (by kernel_rfl) (by kernel_rfl) (fun _ _ _ h => h) (Or.inl ⟨by rfl, ?y1t41⟩) S0 ?z1t41
              case y1t41 => intro w_ hSw; go_simp; with_reducible rfl
              try simp only [List.getElem_toArray, List.getElem_cons_zero, List.getElem_cons_succ, Act.put, List.setIfInBounds_toArray, List.set_cons_zero, List.set_cons_succ]
              refine wpAnyH_take (i := 2) (v := ?v2t42) rfl (by kernel_rfl) (by kernel_rfl) (by kernel_rfl) (fun _ _ _ h => h) (Or.inl ⟨by rfl, ?y2t42⟩) S0 ?z2t42
              case y2t42 => intro w_ hSw; go_simp; with_reducible rfl
              try simp only [List.getElem_toArray, List.getElem_cons_zero, List.getElem_cons_succ, Act.put, List.setIfInBounds_toArray, List.set_cons_zero, List.set_cons_succ]
              refine wpAnyH_take (i := 3) (v := ?v3t43) rfl (by kernel_rfl) (by kernel_rfl) (by kernel_rfl) (fun _ _ _ h => h) (Or.inl ⟨by rfl, ?y3t43⟩) S0 ?z3t43
              case y3t43 => intro w_ hSw; (try dsimp only at hSw); go_simp; with_reducible rfl
              try simp only [List.getElem_toArray, List.getElem_cons_zero, List.getElem_cons_succ, Act.put, List.setIfInBounds_toArray, List.set_cons_zero, List.set_cons_succ]
              refine wpAnyH_take (i := 4) (v := ?v4t44) rfl (by kernel_rfl) (by kernel_rfl) (by kernel_rfl) (fun _ _ _ h => h) (Or.inl ⟨by rfl, ?y4t44⟩) S0 ?z4t44
              case y4t44 => intro w_ hSw; go_simp; with_reducible rfl
              try simp only [List.getElem_toArray, List.getElem_cons_zero, List.getElem_cons_succ, Act.put, List.setIfInBounds_toArray, List.set_cons_zero, List.set_cons_succ]
              refine wpAnyH_take (i := 5) (v := ?v5t45) rfl (by kernel_rfl) (by kernel_rfl) (by kernel_rfl) (fun _ _ _ h => h) (Or.inl ⟨by rfl, ?y5t45⟩) S0 ?z5t45
              case y5t45 => intro w_ hSw; go_simp; with_reducible rfl
              try simp only [List.getElem_toArray, List.getElem_cons_zero, List.getElem_cons_succ, Act.put, List.setIfInBounds_toArray, List.set_cons_zero, List.set_cons_succ]
              refine wpAnyH_take (i := 6) (v := ?v6t46) rfl (by kernel_rfl) (by kernel_rfl) (by kernel_rfl) (fun _ _ _ h => h) (Or.inl ⟨by rfl, ?y6t46⟩) S0 ?z6t46
              case y6t46 => intro w_ hSw; go_simp; with_reducible rfl
              try simp only [List.getElem_toArray, List.getElem_cons_zero, List.getElem_cons_succ, Act.put, List.setIfInBounds_toArray, List.set_cons_zero, List.set_cons_succ]
              refine wpAnyH_take (i := 7) (v := ?v7t47) rfl (by kernel_rfl) (by kernel_rfl) (by kernel_rfl) (fun _ _ _ h => h) (Or.inl ⟨by rfl, ?y7t47⟩) S0 ?z7t47
              case y7t47 => intro w_ hSw; go_simp; with_reducible rfl
              try simp only [List.getElem_toArray, List.getElem_cons_zero, List.getElem_cons_succ, Act.put, List.setIfInBounds_toArray, List.set_cons_zero, List.set_cons_succ]
              refine wpAnyH_take (i := 8) (v := ?v8t48) rfl (by kernel_rfl) (by kernel_rfl) (by kernel_rfl) (fun _ _ _ h => h) (Or.inl ⟨by rfl, ?y8t48⟩) S0 ?z8t48
              case y8t48 => intro w_ hSw; go_simp; with_reducible rfl
              try simp only [List.getElem_toArray, List.getElem_cons_zero, List.getElem_cons_succ, Act.put, List.setIfInBounds_toArray, List.set_cons_zero, List.set_cons_succ]
              refine wpAnyH_take (i := 9) (v := ?v9t49) rfl (by kernel_rfl) (by kernel_rfl) (by kernel_rfl) (fun _ _ _ h => h) (Or.inl ⟨by rfl, ?y9t49⟩) S0 ?z9t49
              case y9t49 => intro w_ hSw; (try dsimp only at hSw); go_simp; with_reducible rfl
              try simp only [List.getElem_toArray, List.getElem_cons_zero, List.getElem_cons_succ, Act.put, List.setIfInBounds_toArray, List.set_cons_zero, List.set_cons_succ]
              refine wpAnyH_take (i := 10) (v := ?v10t50) rfl (by kernel_rfl) (by kernel_rfl) (by kernel_rfl) (fun _ _ _ h => h) (Or.inl ⟨by rfl, ?y10t50⟩) S0 ?z10t50
              case y10t50 => intro w_ hSw; go_simp; with_reducible rfl
              try simp only [List.getElem_toArray, List.getElem_cons_zero, List.getElem_cons_succ, Act.put, List.setIfInBounds_toArray, List.set_cons_zero, List.set_cons_succ]
              refine wpAnyH_ready (rs := [11]) (by kernel_rfl) (by simp) ?_
              refine AllReadyH.cons rfl (fun K hK => ?_) AllReadyH.nil
              go_simp
              refine ((PA.out) c3 _ ((B4.out).trans (S0.2.mono (B4.out).size)) (by omega)).mono ?_; rintro e y0 ⟨rfl, q0⟩
              have S1 := And.intro ((q0.cell (World.block_lt_of_cell? _ _ S0.1)).trans S0.1) (S0.2.trans (q0.mono S0.2.size))
              try go_wp2_with fail
              refine hK.out _ _ S1 (fun _ => ?_)
              clear hK K
              try simp only [List.getElem_toArray, List.getElem_cons_zero, List.getElem_cons_succ, Act.put, List.setIfInBounds_toArray, List.set_cons_zero, List.set_cons_succ]
              refine wpAnyH_take (i := 12) (v := ?v12t51) rfl (by kernel_rfl) (by kernel_rfl) (by kernel_rfl) (fun _ _ _ h => h) (Or.inl ⟨by rfl, ?y12t51⟩) S1 ?z12t51
              case y12t51 => intro w_ hSw; go_simp; with_reducible rfl
              try simp only [List.getElem_toArray, List.getElem_cons_zero, List.getElem_cons_succ, Act.put, List.setIfInBounds_toArray, List.set_cons_zero, List.set_cons_succ]
              refine wpAnyH_take (i := 13) (v := ?v13t52) rfl (by kernel_rfl) (by kernel_rfl) (by kernel_rfl) (fun _ _ _ h => h) (Or.inl ⟨by rfl, ?y13t52⟩) S1 ?z13t52
              case y13t52 => intro w_ hSw; go_simp; with_reducible rfl
              try simp only [List.getElem_toArray, List.getElem_cons_zero, List.getElem_cons_succ, Act.put, List.setIfInBounds_toArray, List.set_cons_zero, List.set_cons_succ]
              refine wpAnyH_take (i := 14) (v := ?v14t53) rfl (by kernel_rfl) (by kernel_rfl) (by kernel_rfl) (fun _ _ _ h => h) (Or.inl ⟨by rfl, ?y14t53⟩) S1 ?z14t53
              case y14t53 => intro w_ hSw; go_simp; with_reducible rfl
              try simp only [List.getElem_toArray, List.getElem_cons_zero, List.getElem_cons_succ, Act.put, List.setIfInBounds_toArray, List.set_cons_zero, List.set_cons_succ]
              refine wpAnyH_take (i := 15) (v := ?v15t54) rfl (by kernel_rfl) (by kernel_rfl) (by kernel_rfl) (fun _ _ _ h => h) (Or.inl ⟨by rfl, ?y15t54⟩) S1 ?z15t54
              case y15t54 => intro w_ hSw; go_simp; with_reducible rfl
              try simp only [List.getElem_toArray, List.getElem_cons_zero, List.getElem_cons_succ, Act.put, List.setIfInBounds_toArray, List.set_cons_zero, List.set_cons_succ]
              refine wpAnyH_take (i := 16) (v := ?v16t55) rfl (by kernel_rfl) (by kernel_rfl) (by kernel_rfl) (fun _ _ _ h => h) (Or.inl ⟨by rfl, ?y16t55⟩) S1 ?z16t55
              case y16t55 => intro w_ hSw; go_simp; with_reducible rfl
              try simp only [List.getElem_toArray, List.getElem_cons_zero, List.getElem_cons_succ, Act.put, List.setIfInBounds_toArray, List.set_cons_zero, List.set_cons_succ]
              refine wpAnyH_take (i := 17) (v := ?v17t56) rfl (by kernel_rfl) (by kernel_rfl) (by kernel_rfl) (fun _ _ _ h => h) (Or.inl ⟨by rfl, ?y17t56⟩) S1 ?z17t56
              case y17t56 => intro w_ hSw; (try dsimp only at hSw); go_simp; with_reducible rfl
              try simp only [List.getElem_toArray, List.getElem_cons_zero, List.getElem_cons_succ, Act.put, List.setIfInBounds_toArray, List.set_cons_zero, List.set_cons_succ]
              refine wpAnyH_take (i := 18) (v := ?v18t57) rfl (by kernel_rfl) (by kernel_rfl) (by kernel_rfl) (fun _ _ _ h => h) (Or.inl ⟨by rfl, ?y18t57⟩) S1 ?z18t57
              case y18t57 => intro w_ hSw; go_simp; with_reducible rfl
              try simp only [List.getElem_toArray, List.getElem_cons_zero, List.getElem_cons_succ, Act.put, List.setIfInBounds_toArray, List.set_cons_zero, List.set_cons_succ]
              refine wpAnyH_ready (rs := [19]) (by kernel_rfl) (by simp) ?_
              refine AllReadyH.cons rfl (fun K hK => ?_) AllReadyH.nil
              go_simp
              refine ((PA.out) d1 _ ((B4.out).trans (S1.2.mono (B4.out).size)) (by omega)).mono ?_; rintro e y1 ⟨rfl, q1⟩
              have S2 := And.intro ((q1.cell (World.block_lt_of_cell? _ _ S1.1)).trans S1.1) (S1.2.trans (q1.mono S1.2.size))
              try go_wp2_with fail
              refine hK.out _ _ S2 (fun _ => ?_)
              clear hK K
              try simp only [List.getElem_toArray, List.getElem_cons_zero, List.getElem_cons_succ, Act.put, List.setIfInBounds_toArray, List.set_cons_zero, List.set_cons_succ]
              refine wpAnyH_take (i := 20) (v := ?v20t58) rfl (by kernel_rfl) (by kernel_rfl) (by kernel_rfl) (fun _ _ _ h => h) (Or.inl ⟨by rfl, ?y20t58⟩) S2 ?z20t58
              case y20t58 => intro w_ hSw; go_simp; with_reducible rfl
              try simp only [List.getElem_toArray, List.getElem_cons_zero, List.getElem_cons_succ, Act.put, List.setIfInBounds_toArray, List.set_cons_zero, List.set_cons_succ]
              refine wpAnyH_take (i := 21) (v := ?v21t59) rfl (by kernel_rfl) (by kernel_rfl) (by kernel_rfl) (fun _ _ _ h => h) (Or.inl ⟨by rfl, ?y21t59⟩) S2 ?z21t59
              case y21t59 => intro w_ hSw; go_simp; with_reducible rfl
              try simp only [List.getElem_toArray, List.getElem_cons_zero, List.getElem_cons_succ, Act.put, List.setIfInBounds_toArray, List.set_cons_zero, List.set_cons_succ]
              refine wpAnyH_take (i := 22) (v := ?v22t60) rfl (by kernel_rfl) (by kernel_rfl) (by kernel_rfl) (fun _ _ _ h => h) (Or.inl ⟨by rfl, ?y22t60⟩) S2 ?z22t60
              case y22t60 => intro w_ hSw; go_simp; with_reducible rfl
              try simp only [List.getElem_toArray, List.getElem_cons_zero, List.getElem_cons_succ, Act.put, List.setIfInBounds_toArray, List.set_cons_zero, List.set_cons_succ]
              refine wpAnyH_take (i := 23) (v := ?v23t61) rfl (by kernel_rfl) (by kernel_rfl) (by kernel_rfl) (fun _ _ _ h => h) (Or.inl ⟨by rfl, ?y23t61⟩) S2 ?z23t61
              case y23t61 => intro w_ hSw; go_simp; with_reducible rfl
              try simp only [List.getElem_toArray, List.getElem_cons_zero, List.getElem_cons_succ, Act.put, List.setIfInBounds_toArray, List.set_cons_zero, List.set_cons_succ]
              refine wpAnyH_take (i := 24) (v := ?v24t62) rfl (by kernel_rfl) (by kernel_rfl) (by kernel_rfl) (fun _ _ _ h => h) (Or.inl ⟨by rfl, ?y24t62⟩) S2 ?z24t62
              case y24t62 => intro w_ hSw; go_simp; with_reducible rfl
              try simp only [List.getElem_toArray, List.getElem_cons_zero, List.getElem_cons_succ, Act.put, List.setIfInBounds_toArray, List.set_cons_zero, List.set_cons_succ]
              refine wpAnyH_take (i := 25) (v := ?v25t63) rfl (by kernel_rfl) (by kernel_rfl) (by kernel_rfl) (fun _ _ _ h => h) (Or.inl ⟨by rfl, ?y25t63⟩) S2 ?z25t63
              case y25t63 => intro w_ hSw; go_simp; with_reducible rfl
              try simp only [List.getElem_toArray, List.getElem_cons_zero, List.getElem_cons_succ, Act.put, List.setIfInBounds_toArray, List.set_cons_zero, List.set_cons_succ]
              refine wpAnyH_take (i := 26) (v := ?v26t64) rfl (by kernel_rfl) (by kernel_rfl) (by kernel_rfl) (fun _ _ _ h => h) (Or.inl ⟨by rfl, ?y26t64⟩) S2 ?z26t64
              case y26t64 => intro w_ hSw; (try dsimp only at hSw); go_simp; with_reducible rfl
              try simp only [List.getElem_toArray, List.getElem_cons_zero, List.getElem_cons_succ, Act.put, List.setIfInBounds_toArray, List.set_cons_zero, List.set_cons_succ]
              refine wpAnyH_take (i := 27) (v := ?v27t65) rfl (by kernel_rfl) (by kernel_rfl) (by kernel_rfl) (fun _ _ _ h => h) (Or.inl ⟨by rfl, ?y27t65⟩) S2 ?z27t65
              case y27t65 => intro w_ hSw; go_simp; with_reducible rfl
              try simp only [List.getElem_toArray, List.getElem_cons_zero, List.getElem_cons_succ, Act.put, List.setIfInBounds_toArray, List.set_cons_zero, List.set_cons_succ]
              refine wpAnyH_ready (rs := [28]) (by kernel_rfl) (by simp) ?_
              refine AllReadyH.cons rfl (fun K hK => ?_) AllReadyH.nil
              go_simp
              refine ((PA.out) d2 _ ((B4.out).trans (S2.2.mono (B4.out).size)) (by omega)).mono ?_; rintro e y2 ⟨rfl, q2⟩
              have S3 := And.intro ((q2.cell (World.block_lt_of_cell? _ _ S2.1)).trans S2.1) (S2.2.trans (q2.mono S2.2.size))
              try go_wp2_with fail
              refine hK.out _ _ S3 (fun _ => ?_)
              clear hK K
              try simp only [List.getElem_toArray, List.getElem_cons_zero, List.getElem_cons_succ, Act.put, List.setIfInBounds_toArray, List.set_cons_zero, List.set_cons_succ]
              refine wpAnyH_take (i := 29) (v := ?v29t66) rfl (by kernel_rfl) (by kernel_rfl) (by kernel_rfl) (fun _ _ _ h => h) (Or.inl ⟨by rfl, ?y29t66⟩) S3 ?z29t66
              case y29t66 => intro w_ hSw; go_simp; with_reducible rfl
              try simp only [List.getElem_toArray, List.getElem_cons_zero, List.getElem_cons_succ, Act.put, List.setIfInBounds_toArray, List.set_cons_zero, List.set_cons_succ]
              refine wpAnyH_take (i := 30) (v := ?v30t67) rfl (by kernel_rfl) (by kernel_rfl) (by kernel_rfl) (fun _ _ _ h => h) (Or.inl ⟨by rfl, ?y30t67⟩) S3 ?z30t67
              case y30t67 => intro w_ hSw; go_simp; with_reducible rfl
              try simp only [List.getElem_toArray, List.getElem_cons_zero, List.getElem_cons_succ, Act.put, List.setIfInBounds_toArray, List.set_cons_zero, List.set_cons_succ]
              refine wpAnyH_take (i := 31) (v := ?v31t68) rfl (by kernel_rfl) (by kernel_rfl) (by kernel_rfl) (fun _ _ _ h => h) (Or.inl ⟨by rfl, ?y31t68⟩) S3 ?z31t68
              case y31t68 => intro w_ hSw; go_simp; with_reducible rfl
              try simp only [List.getElem_toArray, List.getElem_cons_zero, List.getElem_cons_succ, Act.put, List.setIfInBounds_toArray, List.set_cons_zero, List.set_cons_succ]
              refine wpAnyH_take (i := 32) (v := ?v32t69) rfl (by kernel_rfl) (by kernel_rfl) (by kernel_rfl) (fun _ _ _ h => h) (Or.inl ⟨by rfl, ?y32t69⟩) S3 ?z32t69
              case y32t69 => intro w_ hSw; go_simp; with_reducible rfl
              try simp only [List.getElem_toArray, List.getElem_cons_zero, List.getElem_cons_succ, Act.put, List.setIfInBounds_toArray, List.set_cons_zero, List.set_cons_succ]
              refine wpAnyH_take (i := 33) (v := ?v33t70) rfl (by kernel_rfl) (by kernel_rfl) (by kernel_rfl) (fun _ _ _ h => h) (Or.inl ⟨by rfl, ?y33t70⟩) S3 ?z33t70
              case y33t70 => intro w_ hSw; go_simp; with_reducible rfl
              try simp only [List.getElem_toArray, List.getElem_cons_zero, List.getElem_cons_succ, Act.put, List.setIfInBounds_toArray, List.set_cons_zero, List.set_cons_succ]
              refine wpAnyH_take (i := 34) (v := ?v34t71) rfl (by kernel_rfl) (by kernel_rfl) (by kernel_rfl) (fun _ _ _ h => h) (Or.inl ⟨by rfl, ?y34t71⟩) S3 ?z34t71
              case y34t71 => intro w_ hSw; go_simp; with_reducible rfl
              try simp only [List.getElem_toArray, List.getElem_cons_zero, List.getElem_cons_succ, Act.put, List.setIfInBounds_toArray, List.set_cons_zero, List.set_cons_succ]
              refine wpAnyH_take (i := 35) (v := ?v35t72) rfl (by kernel_rfl) (by kernel_rfl) (by kernel_rfl) (fun _ _ _ h => h) (Or.inl ⟨by rfl, ?y35t72⟩) S3 ?z35t72
              case y35t72 => intro w_ hSw; (try dsimp only at hSw); go_simp; with_reducible rfl
              try simp only [List.getElem_toArray, List.getElem_cons_zero, List.getElem_cons_succ, Act.put, List.setIfInBounds_toArray, List.set_cons_zero, List.set_cons_succ]
              refine wpAnyH_take (i := 36) (v := ?v36t73) rfl (by kernel_rfl) (by kernel_rfl) (by kernel_rfl) (fun _ _ _ h => h) (Or.inl ⟨by rfl, ?y36t73⟩) S3 ?z36t73
              case y36t73 => intro w_ hSw; go_simp; with_reducible rfl
              try simp only [List.getElem_toArray, List.getElem_cons_zero, List.getElem_cons_succ, Act.put, List.setIfInBounds_toArray, List.set_cons_zero, List.set_cons_succ]
              refine wpAnyH_ready (rs := [37]) (by kernel_rfl) (by simp) ?_
              refine AllReadyH.cons rfl (fun K hK => ?_) AllReadyH.nil
              go_simp
              refine ((PA.out) d3 _ ((B4.out).trans (S3.2.mono (B4.out).size)) (by omega)).mono ?_; rintro e y3 ⟨rfl, q3⟩
              have S4 := And.intro ((q3.cell (World.block_lt_of_cell? _ _ S3.1)).trans S3.1) (S3.2.trans (q3.mono S3.2.size))
              try go_wp2_with fail
              refine hK.out _ _ S4 (fun _ => ?_)
              clear hK K
              try simp only [List.getElem_toArray, List.getElem_cons_zero, List.getElem_cons_succ, Act.put, List.setIfInBounds_toArray, List.set_cons_zero, List.set_cons_succ]
              refine wpAnyH_take (i := 38) (v := ?v38t74) rfl (by kernel_rfl) (by kernel_rfl) (by kernel_rfl) (fun _ _ _ h => h) (Or.inl ⟨by rfl, ?y38t74⟩) S4 ?z38t74
              case y38t74 => intro w_ hSw; go_simp; with_reducible rfl
              try simp only [List.getElem_toArray, List.getElem_cons_zero, List.getElem_cons_succ, Act.put, List.setIfInBounds_toArray, List.set_cons_zero, List.set_cons_succ]
              refine wpAnyH_take (i := 39) (v := ?v39t75) rfl (by kernel_rfl) (by kernel_rfl) (by kernel_rfl) (fun _ _ _ h => h) (Or.inl ⟨by rfl, ?y39t75⟩) S4 ?z39t75
              case y39t75 => intro w_ hSw; go_simp; with_reducible rfl
              try simp only [List.getElem_toArray, List.getElem_cons_zero, List.getElem_cons_succ, Act.put, List.setIfInBounds_toArray, List.set_cons_zero, List.set_cons_succ]
              refine wpAnyH_take (i := 40) (v := ?v40t76) rfl (by kernel_rfl) (by kernel_rfl) (by kernel_rfl) (fun _ _ _ h => h) (Or.inl ⟨by rfl, ?y40t76⟩) S4 ?z40t76
              case y40t76 => intro w_ hSw; go_simp; with_reducible rfl
              try simp only [List.getElem_toArray, List.getElem_cons_zero, List.getElem_cons_succ, Act.put, List.setIfInBounds_toArray, List.set_cons_zero, List.set_cons_succ]
              refine wpAnyH_take (i := 41) (v := ?v41t77) rfl (by kernel_rfl) (by kernel_rfl) (by kernel_rfl) (fun _ _ _ h => h) (Or.inl ⟨by rfl, ?y41t77⟩) S4 ?z41t77
              case y41t77 => intro w_ hSw; go_simp; with_reducible rfl
              try simp only [List.getElem_toArray, List.getElem_cons_zero, List.getElem_cons_succ, Act.put, List.setIfInBounds_toArray, List.set_cons_zero, List.set_cons_succ]
              refine wpAnyH_take (i := 42) (v := ?v42t78) rfl (by kernel_rfl) (by kernel_rfl) (by kernel_rfl) (fun _ _ _ h => h) (Or.inl ⟨by rfl, ?y42t78⟩) S4 ?z42t78
              case y42t78 => intro w_ hSw; go_simp; with_reducible rfl
              try simp only [List.getElem_toArray, List.getElem_cons_zero, List.getElem_cons_succ, Act.put, List.setIfInBounds_toArray, List.set_cons_zero, List.set_cons_succ]
              refine wpAnyH_take (i := 43) (v := ?v43t79) rfl (by kernel_rfl) (by kernel_rfl) (by kernel_rfl) (fun _ _ _ h => h) (Or.inl ⟨by rfl, ?y43t79⟩) S4 ?z43t79
              case y43t79 => intro w_ hSw; go_simp; with_reducible rfl
              try simp only [List.getElem_toArray, List.getElem_cons_zero, List.getElem_cons_succ, Act.put, List.setIfInBounds_toArray, List.set_cons_zero, List.set_cons_succ]
              refine wpAnyH_take (i := 44) (v := ?v44t80) rfl (by kernel_rfl) (by kernel_rfl) (by kernel_rfl) (fun _ _ _ h => h) (Or.inl ⟨by rfl, ?y44t80⟩) S4 ?z44t80
              case y44t80 => intro w_ hSw; (try dsimp only at hSw); go_simp; with_reducible rfl
              try simp only [List.getElem_toArray, List.getElem_cons_zero, List.getElem_cons_succ, Act.put, List.setIfInBounds_toArray, List.set_cons_zero, List.set_cons_succ]
              refine wpAnyH_take (i := 45) (v := ?v45t81) rfl (by kernel_rfl) (by kernel_rfl) (by kernel_rfl) (fun _ _ _ h => h) (Or.inl ⟨by rfl, ?y45t81⟩) S4 ?z45t81
              case y45t81 => intro w_ hSw; go_simp; with_reducible rfl
              try simp only [List.getElem_toArray, List.getElem_cons_zero, List.getElem_cons_succ, Act.put, List.setIfInBounds_toArray, List.set_cons_zero, List.set_cons_succ]
              refine wpAnyH_take (i := 46) (v := ?v46t82) rfl (by kernel_rfl) (by kernel_rfl) (by kernel_rfl) (fun _ _ _ h => h) (Or.inl ⟨by rfl, ?y46t82⟩) S4 ?z46t82
              case y46t82 => intro w_ hSw; go_simp; with_reducible rfl
              try simp only [List.getElem_toArray, List.getElem_cons_zero, List.getElem_cons_succ, Act.put, List.setIfInBounds_toArray, List.set_cons_zero, List.set_cons_succ]
              refine wpAnyH_ready (rs := [47]) (by kernel_rfl) (by simp) ?_
              refine AllReadyH.cons rfl (fun K hK => ?_) AllReadyH.nil
              go_simp
              refine ((PA.out) d5 _ ((B4.out).trans (S4.2.mono (B4.out).size)) (by omega)).mono ?_; rintro e y4 ⟨rfl, q4⟩
              have S5 := And.intro ((q4.cell (World.block_lt_of_cell? _ _ S4.1)).trans S4.1) (S4.2.trans (q4.mono S4.2.size))
              try go_wp2_with fail
              refine hK.out _ _ S5 (fun _ => ?_)
              clear hK K
              try simp only [List.getElem_toArray, List.getElem_cons_zero, List.getElem_cons_succ, Act.put, List.setIfInBounds_toArray, List.set_cons_zero, List.set_cons_succ]
              refine wpAnyH_take (i := 48) (v := ?v48t83) rfl (by kernel_rfl) (by kernel_rfl) (by kernel_rfl) (fun _ _ _ h => h) (Or.inl ⟨by rfl, ?y48t83⟩) S5 ?z48t83
              case y48t83 => intro w_ hSw; go_simp; with_reducible rfl
              try simp only [List.getElem_toArray, List.getElem_cons_zero, List.getElem_cons_succ, Act.put, List.setIfInBounds_toArray, List.set_cons_zero, List.set_cons_succ]
              refine wpAnyH_take (i := 49) (v := ?v49t84) rfl (by kernel_rfl) (by kernel_rfl) (by kernel_rfl) (fun _ _ _ h => h) (Or.inl ⟨by rfl, ?y49t84⟩) S5 ?z49t84
              case y49t84 => intro w_ hSw; go_simp; with_reducible rfl
              try simp only [List.getElem_toArray, List.getElem_cons_zero, List.getElem_cons_succ, Act.put, List.setIfInBounds_toArray, List.set_cons_zero, List.set_cons_succ]
              refine wpAnyH_take (i := 50) (v := ?v50t85) rfl (by kernel_rfl) (by kernel_rfl) (by kernel_rfl) (fun _ _ _ h => h) (Or.inl ⟨by rfl, ?y50t85⟩) S5 ?z50t85
              case y50t85 => intro w_ hSw; go_simp; with_reducible rfl
              try simp only [List.getElem_toArray, List.getElem_cons_zero, List.getElem_cons_succ, Act.put, List.setIfInBounds_toArray, List.set_cons_zero, List.set_cons_succ]
              refine wpAnyH_take (i := 51) (v := ?v51t86) rfl (by kernel_rfl) (by kernel_rfl) (by kernel_rfl) (fun _ _ _ h => h) (Or.inl ⟨by rfl, ?y51t86⟩) S5 ?z51t86
              case y51t86 => intro w_ hSw; go_simp; with_reducible rfl
              try simp only [List.getElem_toArray, List.getElem_cons_zero, List.getElem_cons_succ, Act.put, List.setIfInBounds_toArray, List.set_cons_zero, List.set_cons_succ]
              refine wpAnyH_take (i := 52) (v := ?v52t87) rfl (by kernel_rfl) (by kernel_rfl) (by kernel_rfl) (fun _ _ _ h => h) (Or.inl ⟨by rfl, ?y52t87⟩) S5 ?z52t87
              case y52t87 => intro w_ hSw; go_simp; with_reducible rfl
              try simp only [List.getElem_toArray, List.getElem_cons_zero, List.getElem_cons_succ, Act.put, List.setIfInBounds_toArray, List.set_cons_zero, List.set_cons_succ]
              refine wpAnyH_take (i := 53) (v := ?v53t88) rfl (by kernel_rfl) (by kernel_rfl) (by kernel_rfl) (fun _ _ _ h => h) (Or.inl ⟨by rfl, ?y53t88⟩) S5 ?z53t88
              case y53t88 => intro w_ hSw; go_simp; with_reducible rfl
              try simp only [List.getElem_toArray, List.getElem_cons_zero, List.getElem_cons_succ, Act.put, List.setIfInBounds_toArray, List.set_cons_zero, List.set_cons_succ]
              refine wpAnyH_take (i := 54) (v := ?v54t89) rfl (by kernel_rfl) (by kernel_rfl) (by kernel_rfl) (fun _ _ _ h => h) (Or.inl ⟨by rfl, ?y54t89⟩) S5 ?z54t89
              case y54t89 => intro w_ hSw; (try dsimp only at hSw); go_simp; with_reducible rfl
              try simp only [List.getElem_toArray, List.getElem_cons_zero, List.getElem_cons_succ, Act.put, List.setIfInBounds_toArray, List.set_cons_zero, List.set_cons_succ]
              refine wpAnyH_take (i := 55) (v := ?v55t90) rfl (by kernel_rfl) (by kernel_rfl) (by kernel_rfl) (fun _ _ _ h => h) (Or.inl ⟨by rfl, ?y55t90⟩) S5 ?z55t90
              case y55t90 => intro w_ hSw; go_simp; with_reducible rfl
              try simp only [List.getElem_toArray, List.getElem_cons_zero, List.getElem_cons_succ, Act.put, List.setIfInBounds_toArray, List.set_cons_zero, List.set_cons_succ]
              refine wpAnyH_take (i := 56) (v := ?v56t91) rfl (by kernel_rfl) (by kernel_rfl) (by kernel_rfl) (fun _ _ _ h => h) (Or.inl ⟨by rfl, ?y56t91⟩) S5 ?z56t91
              case y56t91 => intro w_ hSw; go_simp; with_reducible rfl
              try simp only [List.getElem_toArray, List.getElem_cons_zero, List.getElem_cons_succ, Act.put, List.setIfInBounds_toArray, List.set_cons_zero, List.set_cons_succ]
              refine wpAnyH_ready (rs := [57]) (by kernel_rfl) (by simp) ?_
              refine AllReadyH.cons rfl (fun K hK => ?_) AllReadyH.nil
              go_simp
              refine ((PA.out) d7 _ ((B4.out).trans (S5.2.mono (B4.out).size)) (by omega)).mono ?_; rintro e y5 ⟨rfl, q5⟩
              have S6 := And.intro ((q5.cell (World.block_lt_of_cell? _ _ S5.1)).trans S5.1) (S5.2.trans (q5.mono S5.2.size))
              try go_wp2_with fail
              refine hK.out _ _ S6 (fun _ => ?_)
              clear hK K
              try simp only [List.getElem_toArray, List.getElem_cons_zero, List.getElem_cons_succ, Act.put, List.setIfInBounds_toArray, List.set_cons_zero, List.set_cons_succ]
              refine wpAnyH_take (i := 58) (v := ?v58t92) rfl (by kernel_rfl) (by kernel_rfl) (by kernel_rfl) (fun _ _ _ h => h) (Or.inl ⟨by rfl, ?y58t92⟩) S6 ?z58t92
              case y58t92 => intro w_ hSw; go_simp; with_reducible rfl
              try simp only [List.getElem_toArray, List.getElem_cons_zero, List.getElem_cons_succ, Act.put, List.setIfInBounds_toArray, List.set_cons_zero, List.set_cons_succ]
              refine wpAnyH_take (i := 59) (v := ?v59t93) rfl (by kernel_rfl) (by kernel_rfl) (by kernel_rfl) (fun _ _ _ h => h) (Or.inl ⟨by rfl, ?y59t93⟩) S6 ?z59t93
              case y59t93 => intro w_ hSw; go_simp; with_reducible rfl
              try simp only [List.getElem_toArray, List.getElem_cons_zero, List.getElem_cons_succ, Act.put, List.setIfInBounds_toArray, List.set_cons_zero, List.set_cons_succ]
              refine wpAnyH_done (by kernel_rfl) ?_ _
              have D3 := Lib.hid S6.2
              clear S0 S1 S2 S3 S4 S5 S6 q0 q1 q2 q3 q4 q5 cz
              go_wp2_with fail
              go_roundw
              case rel => exact ⟨j + 1, by omega, by go_num, D3⟩
              case measure =>
                simp only [intOf]
                omega
            · have hj2 : decide (j < mn) = false := by simpa using hjt
              have B5 := Lib.hid ((B4.out).trans ((D0.out).mono (B4.out).size))
              go_wp2_with fail
              go_loopw [13] (fun i wr => ∃ c : Nat, 29 ≤ c ∧ c ≤ 32 ∧ i = .int .i64 c ∧ Hid (Below w.heap.size w wr)) (fun i _ => 32 - (intOf i).toNat)
              case atStart => exact ⟨29, by omega, by omega, rfl, B5⟩
              case round =>
                obtain ⟨c, hc9, hc, rfl, G0⟩ := hrel
                by_cases hct : c < 32
                · have hd2 : decide (c < 32) = true := by simpa using hct
                  have hd3 : decide ((c : Int) < 32) = true := by simp; omega
                  have cn : (c : Int) + 1 ≤ 9223372036854775807 := by omega
                  go_wp2_with fail
                  refine (timesP [97] c _ (by omega) (by decide)).mono ?_; rintro e w6 ⟨t, rfl, lt, b6⟩
                  have G1 := Lib.hid ((G0.out).trans (b6.mono (G0.out).size))
                  clear b6
                  obtain ⟨f1, lf1, Cf1⟩ := cat [106, 117, 109, 112, 32] t 10000005 (by (try simp only [List.length_cons, List.length_nil]); omega) (by omega)
                  obtain ⟨f2, lf2, Cf2⟩ := cat f1 [10] 10000006 (by (try simp only [List.length_cons, List.length_nil]); omega) (by omega)
                  obtain ⟨f3, lf3, Cf3⟩ := cat f2 t 20000006 (by (try simp only [List.length_cons, List.length_nil]); omega) (by omega)
                  obtain ⟨f4, lf4, Cf4⟩ := cat f3 [58] 20000007 (by (try simp only [List.length_cons, List.length_nil]); omega) (by omega)
                  obtain ⟨h1, lh1, Ch1⟩ := cat t [58, 10] 10000002 (by (try simp only [List.length_cons, List.length_nil]); omega) (by omega)
                  obtain ⟨h2, lh2, Ch2⟩ := cat h1 t 20000002 (by (try simp only [List.length_cons, List.length_nil]); omega) (by omega)
                  obtain ⟨h3, lh3, Ch3⟩ := cat h2 [58] 20000003 (by (try simp only [List.length_cons, List.length_nil]); omega) (by omega)
                  go_wp2_with fail
                  refine ((PA.out) f4 _ G1.out (by omega)).mono ?_; rintro e x0 ⟨rfl, p0⟩
                  have Z0 := Lib.hid ((G1.out).trans (p0.mono (G1.out).size))
                  clear p0
                  go_wp2_with fail
                  refine ((PA.out) h3 _ Z0.out (by omega)).mono ?_; rintro e x1 ⟨rfl, p1⟩
                  have Z1 := Lib.hid ((Z0.out).trans (p1.mono (Z0.out).size))
                  clear p1
                  go_wp2_with fail
                  go_roundw
                  case rel => exact ⟨c + 1, by omega, by omega, by go_num, Z1⟩
                  case measure =>
                    simp only [intOf]
                    omega
                · have hd2 : decide (c < 32) = false := by simpa using hct
                  have hd3 : decide ((c : Int) < 32) = false := by simp; omega
                  go_wp2_with fail
                  refine (timesP [101, 120, 105, 116, 10] 4096 _ (by omega) (by decide)).mono ?_; rintro e w6 ⟨t, rfl, lt, b6⟩
                  have G1 := Lib.hid ((G0.out).trans (b6.mono (G0.out).size))
                  clear b6
                  obtain ⟨f1, lf1, Cf1⟩ := cat t [101, 120, 105, 116] 10000004 (by (try simp only [List.length_cons, List.length_nil]); omega) (by omega)
                  obtain ⟨f2, lf2, Cf2⟩ := cat t [120, 58, 10, 120, 58] 10000005 (by (try simp only [List.length_cons, List.length_nil]); omega) (by omega)
                  obtain ⟨f3, lf3, Cf3⟩ := cat [106, 117, 109, 112, 32, 120, 10] t 10000007 (by (try simp only [List.length_cons, List.length_nil]); omega) (by omega)
                  go_wp2_with fail
                  refine ((PA.out) t _ G1.out (by omega)).mono ?_; rintro e x0 ⟨rfl, p0⟩
                  have Z0 := Lib.hid ((G1.out).trans (p0.mono (G1.out).size))
                  clear p0
                  go_wp2_with fail
                  refine ((PA.out) f1 _ Z0.out (by omega)).mono ?_; rintro e x1 ⟨rfl, p1⟩
                  have Z1 := Lib.hid ((Z0.out).trans (p1.mono (Z0.out).size))
                  clear p1
                  go_wp2_with fail
                  refine ((PA.out) f2 _ Z1.out (by omega)).mono ?_; rintro e x2 ⟨rfl, p2⟩
                  have Z2 := Lib.hid ((Z1.out).trans (p2.mono (Z1.out).size))
                  clear p2
                  go_wp2_with fail
                  refine ((PA.out) f3 _ Z2.out (by omega)).mono ?_; rintro e x3 ⟨rfl, p3⟩
                  have Z3 := Lib.hid ((Z2.out).trans (p3.mono (Z2.out).size))
                  clear p3
                  go_wp2_with fail
                  refine (timesP [32] 262144 _ (by omega) (by decide)).mono ?_; rintro e w7 ⟨t2, rfl, lt2, b7⟩
                  have X1 := Lib.hid ((Z3.out).trans (b7.mono (Z3.out).size))
                  clear b7
                  go_wp2_with fail
                  refine ((PA.out) t2 _ X1.out (by omega)).mono ?_; rintro e w8 ⟨rfl, b8⟩
                  have X2 := Lib.hid ((X1.out).trans (b8.mono (X1.out).size))
                  clear b8
                  go_wp2_with fail
                  refine (timesP [32] 262144 _ (by omega) (by decide)).mono ?_; rintro e w9 ⟨t3, rfl, lt3, b9⟩
                  have X3 := Lib.hid ((X2.out).trans (b9.mono (X2.out).size))
                  clear b9
                  obtain ⟨g1, lg1, Cg1⟩ := cat t3 [97] 10000001 (by (try simp only [List.length_cons, List.length_nil]); omega) (by omega)
                  go_wp2_with fail
                  refine ((PA.out) g1 _ X3.out (by omega)).mono ?_; rintro e wa ⟨rfl, ba⟩
                  have X4 := Lib.hid ((X3.out).trans (ba.mono (X3.out).size))
                  clear ba
                  go_wp2_with fail
                  refine ((PA.out) [] _ X4.out (by simp)).mono ?_; rintro e wb ⟨rfl, bb⟩
                  have X5 := Lib.hid ((X4.out).trans (bb.mono (X4.out).size))
                  clear bb
                  have AW := awake wb ((HL.out).past X5.out)
                  go_wp2_with fail
                  refine AW.mono ?_; rintro e wc ⟨rfl, bc⟩
                  go_wp2_with fail
                  go_ret
                  exact ⟨rfl, (X5.out).trans (bc.mono (X5.out).size)⟩
end Go.Proofs.YthfkmackodbmkaaGreatDoor
