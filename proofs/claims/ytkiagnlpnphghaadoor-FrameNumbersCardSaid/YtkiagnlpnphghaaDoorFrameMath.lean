/- Frames as plain lists: their bytes, what is scanned of bytes, and what follows. No function of the program in it. -/
import Derived.Test.YtkiagnlpnphghaaDoorMem
import Derived.Test.YtkiagnlpnphghaaDoorCrc
namespace Go.Proofs.YtkiagnlpnphghaaDoor
open Go.RowKit
set_option linter.unusedVariables false

/-- Four bytes of a number, the highest first. -/
def w4 (n : Int) : List Int := [n / 16777216 % 256, n / 65536 % 256, n / 256 % 256, n % 256]
/-- The number that the first four bytes are. -/
def n4 (l : List Int) : Int := nth l 0 * 16777216 + nth l 1 * 65536 + nth l 2 * 256 + nth l 3
theorem w4_length (n : Int) : (w4 n).length = 4 := rfl
theorem w4_oct (n : Int) : Oct (w4 n) := by
  intro x hx
  simp only [w4, List.mem_cons, List.not_mem_nil, or_false] at hx
  omega
theorem n4_w4 {n : Int} (h0 : 0 ≤ n) (h1 : n < 4294967296) (r : List Int) : n4 (w4 n ++ r) = n := by
  simp only [n4, w4, nth, List.cons_append, List.nil_append, List.getD_cons_zero, List.getD_cons_succ]
  omega
theorem four {l : List Int} (h : 4 ≤ l.length) : l.take 4 = [nth l 0, nth l 1, nth l 2, nth l 3] := by
  match l, h with
  | a :: b :: c :: d :: r, _ => simp [nth]
theorem w4_n4 {l : List Int} (ho : Oct l) (h : 4 ≤ l.length) : w4 (n4 l) = l.take 4 := by
  have h0 := ho.nth (j := 0) (by omega)
  have h1 := ho.nth (j := 1) (by omega)
  have h2 := ho.nth (j := 2) (by omega)
  have h3 := ho.nth (j := 3) (by omega)
  rw [four h]
  unfold w4 n4
  generalize nth l 0 = a at *
  generalize nth l 1 = b at *
  generalize nth l 2 = c at *
  generalize nth l 3 = d at *
  have e1 : (a * 16777216 + b * 65536 + c * 256 + d) / 16777216 % 256 = a := by omega
  have e2 : (a * 16777216 + b * 65536 + c * 256 + d) / 65536 % 256 = b := by omega
  have e3 : (a * 16777216 + b * 65536 + c * 256 + d) / 256 % 256 = c := by omega
  have e4 : (a * 16777216 + b * 65536 + c * 256 + d) % 256 = d := by omega
  rw [e1, e2, e3, e4]
theorem n4_bound {l : List Int} (ho : Oct l) (h : 4 ≤ l.length) : 0 ≤ n4 l ∧ n4 l < 4294967296 := by
  have h0 := ho.nth (j := 0) (by omega)
  have h1 := ho.nth (j := 1) (by omega)
  have h2 := ho.nth (j := 2) (by omega)
  have h3 := ho.nth (j := 3) (by omega)
  unfold n4
  omega
theorem n4_take {l : List Int} {k : Nat} (h : 4 ≤ k) : n4 (l.take k) = n4 l := by
  unfold n4
  rw [nth_take (by omega), nth_take (by omega), nth_take (by omega), nth_take (by omega)]
theorem n4_append {a b : List Int} (h : 4 ≤ a.length) : n4 (a ++ b) = n4 a := by
  unfold n4
  rw [nth_append_left (by omega), nth_append_left (by omega), nth_append_left (by omega), nth_append_left (by omega)]

/-- A frame: its kind, its bytes. -/
abbrev Fr := Int × List Int
def head5 (f : Fr) : List Int := f.1 :: w4 f.2.length
def sumOf (f : Fr) : Int := (crc (head5 f ++ f.2) : Nat)
def head9 (f : Fr) : List Int := head5 f ++ w4 (sumOf f)
/-- A frame's bytes. -/
def frm (f : Fr) : List Int := head9 f ++ f.2
def frms : List Fr → List Int
  | [] => []
  | f :: fs => frm f ++ frms fs
def OkFr (f : Fr) : Prop := 0 ≤ f.1 ∧ f.1 ≤ 255 ∧ f.2.length ≤ 262144
/-- The first error of these. -/
def putErr : List Fr → Int
  | [] => 0
  | f :: fs => if f.1 < 0 ∨ 255 < f.1 then 2 else if 262144 < f.2.length then 3 else putErr fs
theorem head5_length (f : Fr) : (head5 f).length = 5 := rfl
theorem head9_length (f : Fr) : (head9 f).length = 9 := rfl
theorem frm_length (f : Fr) : (frm f).length = 9 + f.2.length := by unfold frm; rw [List.length_append, head9_length]
theorem frms_append (a b : List Fr) : frms (a ++ b) = frms a ++ frms b := by
  induction a with
  | nil => rfl
  | cons f a ih => simp only [List.cons_append, frms, ih, List.append_assoc]
theorem frms_one (f : Fr) : frms [f] = frm f := by simp [frms]
theorem frms_le (fs : List Fr) : fs.length * 9 ≤ (frms fs).length := by
  induction fs with
  | nil => simp
  | cons f fs ih => simp only [frms, List.length_append, frm_length, List.length_cons]; omega
theorem putErr_ok {fs : List Fr} (h : putErr fs = 0) : ∀ f ∈ fs, OkFr f := by
  induction fs with
  | nil => intro f hf; cases hf
  | cons g fs ih =>
    unfold putErr at h
    split at h
    · cases h
    · split at h
      · cases h
      · intro f hf
        cases hf with
        | head => exact ⟨by omega, by omega, by omega⟩
        | tail _ hf => exact ih h f hf
theorem putErr_of_ok {fs : List Fr} (h : ∀ f ∈ fs, OkFr f) : putErr fs = 0 := by
  induction fs with
  | nil => rfl
  | cons g fs ih =>
    have hg := h g (List.mem_cons_self ..)
    unfold OkFr at hg
    unfold putErr
    rw [if_neg (by omega), if_neg (by omega)]
    exact ih fun f hf => h f (List.mem_cons_of_mem _ hf)
theorem head5_oct {f : Fr} (h : OkFr f) : Oct (head5 f) := by
  intro x hx
  simp only [head5, List.mem_cons] at hx
  unfold OkFr at h
  rcases hx with rfl | hx
  · omega
  · exact w4_oct _ x hx
theorem frm_oct {f : Fr} (h : OkFr f) (ho : Oct f.2) : Oct (frm f) := ((head5_oct h).append (w4_oct _)).append ho
theorem sumOf_bound {f : Fr} (h : OkFr f) (ho : Oct f.2) : 0 ≤ sumOf f ∧ sumOf f < 4294967296 := by
  have := crc_lt ((head5_oct h).append ho)
  unfold sumOf
  omega

/-- How many bytes of Data the head says; the Data; whether what is left is whole; spoilt. -/
def says (l : List Int) : Nat := (n4 (l.drop 1)).toNat
def dataOf (l : List Int) : List Int := (l.drop 9).take (says l)
def fitsB (l : List Int) : Bool := decide (n4 (l.drop 5) = (crc (l.take 5 ++ dataOf l) : Nat))
def completeB (l : List Int) : Bool := decide (9 ≤ l.length ∧ says l ≤ 262144 ∧ 9 + says l ≤ l.length)
def wholeB (l : List Int) : Bool := completeB l && fitsB l
def tooLongB (l : List Int) : Bool := decide (9 ≤ l.length ∧ 262144 < says l)
def spoiltB (l : List Int) : Bool := tooLongB l || completeB l && !fitsB l
def theFr (l : List Int) : Fr := (nth l 0, dataOf l)
theorem wholeB_complete {l : List Int} (h : wholeB l = true) : 9 ≤ l.length ∧ says l ≤ 262144 ∧ 9 + says l ≤ l.length := by
  unfold wholeB completeB at h
  simp only [Bool.and_eq_true, decide_eq_true_eq] at h
  exact h.1
theorem dataOf_length {l : List Int} (h : 9 + says l ≤ l.length) : (dataOf l).length = says l := by
  unfold dataOf; rw [List.length_take, List.length_drop]; omega
/-- What is scanned: the frames, how many bytes they have, whether what is left is spoilt. -/
def scan (l : List Int) : List Fr × Nat × Bool :=
  if h : wholeB l = true then
    have : (l.drop (9 + says l)).length < l.length := by
      have := wholeB_complete h
      rw [List.length_drop]; omega
    (theFr l :: (scan (l.drop (9 + says l))).1, 9 + says l + (scan (l.drop (9 + says l))).2.1, (scan (l.drop (9 + says l))).2.2)
  else ([], 0, spoiltB l)
termination_by l.length
theorem scan_yes {l : List Int} (h : wholeB l = true) : scan l = (theFr l :: (scan (l.drop (9 + says l))).1, 9 + says l + (scan (l.drop (9 + says l))).2.1, (scan (l.drop (9 + says l))).2.2) := by
  rw [scan, dif_pos h]
theorem scan_no {l : List Int} (h : wholeB l = false) : scan l = ([], 0, spoiltB l) := by
  rw [scan, dif_neg (by rw [h]; decide)]
theorem wholeB_nil : wholeB [] = false := by unfold wholeB completeB; simp
theorem spoiltB_nil : spoiltB [] = false := by unfold spoiltB completeB tooLongB; simp
theorem scan_nil : scan [] = ([], 0, false) := by rw [scan_no wholeB_nil, spoiltB_nil]

theorem cons_append (a : Int) (b : List Int) : a :: b = [a] ++ b := rfl
theorem says_frm {f : Fr} (h : OkFr f) (r : List Int) : says (frm f ++ r) = f.2.length := by
  unfold says frm head9 head5
  simp only [List.cons_append, List.drop_succ_cons, List.drop_zero, List.append_assoc]
  unfold OkFr at h
  rw [n4_w4 (by omega) (by omega)]
  omega
theorem drop9_frm (f : Fr) (r : List Int) : (frm f ++ r).drop 9 = f.2 ++ r := by
  unfold frm
  rw [List.append_assoc, List.drop_append_of_le_length (by rw [head9_length]; exact Nat.le_refl 9), List.drop_of_length_le (by rw [head9_length]; exact Nat.le_refl 9), List.nil_append]
theorem dataOf_frm {f : Fr} (h : OkFr f) (r : List Int) : dataOf (frm f ++ r) = f.2 := by
  unfold dataOf
  rw [says_frm h, drop9_frm, List.take_left]
theorem take5_frm (f : Fr) (r : List Int) : (frm f ++ r).take 5 = head5 f := by
  unfold frm head9
  rw [List.append_assoc, List.append_assoc]
  exact List.take_left' (head5_length f)
theorem drop5_frm (f : Fr) (r : List Int) : (frm f ++ r).drop 5 = w4 (sumOf f) ++ (f.2 ++ r) := by
  unfold frm head9
  rw [List.append_assoc, List.append_assoc]
  exact List.drop_left' (head5_length f)
theorem wholeB_frm {f : Fr} (h : OkFr f) (ho : Oct f.2) (r : List Int) : wholeB (frm f ++ r) = true := by
  unfold wholeB completeB fitsB
  rw [says_frm h, dataOf_frm h, take5_frm, drop5_frm, n4_w4 (sumOf_bound h ho).1 (sumOf_bound h ho).2, List.length_append, frm_length]
  unfold OkFr at h
  simp only [Bool.and_eq_true, decide_eq_true_eq]
  exact ⟨⟨by omega, by omega, by omega⟩, rfl⟩
theorem theFr_frm {f : Fr} (h : OkFr f) (r : List Int) : theFr (frm f ++ r) = f := by
  unfold theFr
  rw [dataOf_frm h]
  rfl
theorem drop_frm (f : Fr) (r : List Int) : (frm f ++ r).drop (9 + f.2.length) = r := List.drop_left' (frm_length f)
theorem scan_frm {f : Fr} (h : OkFr f) (ho : Oct f.2) (r : List Int) : scan (frm f ++ r) = (f :: (scan r).1, 9 + f.2.length + (scan r).2.1, (scan r).2.2) := by
  rw [scan_yes (wholeB_frm h ho r), says_frm h, drop_frm, theFr_frm h]
def OkFrs (fs : List Fr) : Prop := ∀ f ∈ fs, OkFr f ∧ Oct f.2
theorem OkFrs.cons {f : Fr} {fs : List Fr} (h : OkFrs (f :: fs)) : (OkFr f ∧ Oct f.2) ∧ OkFrs fs := ⟨h f (List.mem_cons_self ..), fun g hg => h g (List.mem_cons_of_mem _ hg)⟩
theorem scan_frms : ∀ {fs : List Fr} (h : OkFrs fs) (r : List Int), scan (frms fs ++ r) = (fs ++ (scan r).1, (frms fs).length + (scan r).2.1, (scan r).2.2)
  | [], _, r => by simp [frms]
  | f :: fs, h, r => by
    obtain ⟨⟨h1, h2⟩, h3⟩ := h.cons
    rw [frms, List.append_assoc, scan_frm h1 h2, scan_frms h3 r, List.length_append, frm_length]
    simp only [List.cons_append]
    rw [Nat.add_assoc (9 + f.2.length)]
/-- What is put is scanned. -/
theorem scan_put {fs : List Fr} (h : OkFrs fs) : scan (frms fs) = (fs, (frms fs).length, false) := by
  have := scan_frms h []
  rw [List.append_nil, scan_nil] at this
  simpa using this

/-- A beginning of a frame's bytes that is not all of them. -/
theorem scan_short {f : Fr} (h : OkFr f) {n : Nat} (hn : n < 9 + f.2.length) : scan ((frm f).take n) = ([], 0, false) := by
  have hl : ((frm f).take n).length = n := by rw [List.length_take, frm_length]; omega
  by_cases h9 : n < 9
  · have hw : wholeB ((frm f).take n) = false := by
      unfold wholeB completeB; rw [hl]; have : ¬ 9 ≤ n := by omega
      simp [this]
    have hs : spoiltB ((frm f).take n) = false := by
      unfold spoiltB completeB tooLongB; rw [hl]; have : ¬ 9 ≤ n := by omega
      simp [this]
    rw [scan_no hw, hs]
  · have hsay : says ((frm f).take n) = f.2.length := by
      have h1 := says_frm h []
      rw [List.append_nil] at h1
      rw [← h1]
      unfold says
      rw [List.drop_take, n4_take (by omega)]
    have hw : wholeB ((frm f).take n) = false := by
      unfold wholeB completeB; rw [hl, hsay]; have : ¬ 9 + f.2.length ≤ n := by omega
      simp [this]
    have hs : spoiltB ((frm f).take n) = false := by
      unfold OkFr at h
      unfold spoiltB completeB tooLongB; rw [hl, hsay]; have : ¬ 9 + f.2.length ≤ n := by omega
      have : ¬ 262144 < f.2.length := by omega
      simp [*]
    rw [scan_no hw, hs]
/-- What is left of the frames behind the first k of them that lie within cut. -/
theorem scan_cut {fs : List Fr} (h : OkFrs fs) {k cut : Nat} (hk : k ≤ fs.length) (h1 : (frms (fs.take k)).length ≤ cut) (h2 : cut ≤ (frms fs).length)
    (h3 : ∀ f, fs[k]? = some f → cut < (frms (fs.take k)).length + 9 + f.2.length) :
    scan ((frms fs).take cut) = (fs.take k, (frms (fs.take k)).length, false) := by
  have e : frms fs = frms (fs.take k) ++ frms (fs.drop k) := by rw [← frms_append, List.take_append_drop]
  have ht : (frms fs).take cut = frms (fs.take k) ++ (frms (fs.drop k)).take (cut - (frms (fs.take k)).length) := by
    rw [e, List.take_append, List.take_of_length_le h1]
  have hok : OkFrs (fs.take k) := fun f hf => h f (List.mem_of_mem_take hf)
  rw [ht, scan_frms hok]
  have hrest : scan ((frms (fs.drop k)).take (cut - (frms (fs.take k)).length)) = ([], 0, false) := by
    cases hd : fs.drop k with
    | nil => simp [frms, scan_nil]
    | cons f r =>
      have hf : fs[k]? = some f := by
        have := congrArg List.head? hd
        simpa [List.head?_drop] using this
      have h3 := h3 f hf
      rw [frms, List.take_append_of_le_length (by rw [frm_length]; omega)]
      exact scan_short (h f (List.mem_of_getElem? hf)).1 (by omega)
  rw [hrest]
  simp

theorem head5_theFr {l : List Int} (ho : Oct l) (h : wholeB l = true) : head5 (theFr l) = l.take 5 := by
  obtain ⟨h1, h2, h3⟩ := wholeB_complete h
  have hb := n4_bound (ho.drop 1) (by rw [List.length_drop]; omega)
  unfold head5 theFr
  rw [dataOf_length h3]
  have e : ((says l : Nat) : Int) = n4 (l.drop 1) := by unfold says; omega
  rw [e, w4_n4 (ho.drop 1) (by rw [List.length_drop]; omega)]
  match l, h1 with
  | a :: r, _ => simp [nth]
/-- A frame that is told has the bytes of which it was. -/
theorem frm_theFr {l : List Int} (ho : Oct l) (h : wholeB l = true) : frm (theFr l) = l.take (9 + says l) := by
  obtain ⟨h1, h2, h3⟩ := wholeB_complete h
  have hf : n4 (l.drop 5) = (crc (l.take 5 ++ dataOf l) : Nat) := by
    unfold wholeB fitsB at h
    simp only [Bool.and_eq_true, decide_eq_true_eq] at h
    exact h.2
  have e1 := head5_theFr ho h
  have e2 : w4 (sumOf (theFr l)) = (l.drop 5).take 4 := by
    unfold sumOf
    rw [e1]
    show w4 ((crc (l.take 5 ++ dataOf l) : Nat) : Int) = _
    rw [← hf, w4_n4 (ho.drop 5) (by rw [List.length_drop]; omega)]
  have e3 : l.take (9 + says l) = l.take 5 ++ ((l.drop 5).take 4 ++ (l.drop 9).take (says l)) := by
    rw [show 9 + says l = 5 + (4 + says l) from by omega, List.take_add, List.take_add, List.drop_drop]
  unfold frm head9
  rw [e1, e2, e3, List.append_assoc]
  rfl
theorem theFr_ok {l : List Int} (ho : Oct l) (h : wholeB l = true) : OkFr (theFr l) ∧ Oct (theFr l).2 := by
  obtain ⟨h1, h2, h3⟩ := wholeB_complete h
  have h0 := ho.nth (j := 0) (by omega)
  refine ⟨⟨h0.1, ?_, ?_⟩, (ho.drop 9).take _⟩
  · show nth l 0 ≤ 255
    omega
  · show (dataOf l).length ≤ 262144
    rw [dataOf_length h3]; omega
/-- What is scanned, put again, is the beginning that was used. -/
theorem put_scan : ∀ (n : Nat) {l : List Int} (hn : l.length ≤ n) (ho : Oct l), OkFrs (scan l).1 ∧ (scan l).2.1 ≤ l.length ∧ frms (scan l).1 = l.take (scan l).2.1
  | n, l, hn, ho => by
    cases hw : wholeB l with
    | false => rw [scan_no hw]; exact ⟨fun f hf => (by cases hf), Nat.zero_le _, by simp [frms]⟩
    | true =>
      obtain ⟨h1, h2, h3⟩ := wholeB_complete hw
      cases n with
      | zero => omega
      | succ n =>
        have hl : (l.drop (9 + says l)).length = l.length - (9 + says l) := List.length_drop
        obtain ⟨i1, i2, i3⟩ := put_scan n (l := l.drop (9 + says l)) (by omega) (ho.drop _)
        rw [scan_yes hw]
        refine ⟨fun f hf => ?_, ?_, ?_⟩
        · cases hf with
          | head => exact theFr_ok ho hw
          | tail _ hf => exact i1 f hf
        · show 9 + says l + (scan (l.drop (9 + says l))).2.1 ≤ l.length
          omega
        · show frm (theFr l) ++ frms (scan (l.drop (9 + says l))).1 = l.take (9 + says l + (scan (l.drop (9 + says l))).2.1)
          rw [i3, frm_theFr ho hw]
          exact List.take_add.symm
/-- A frame's bytes with other Data of its length, whose sum is another: spoilt. -/
theorem scan_spoilt {fs : List Fr} (h : OkFrs fs) {f : Fr} (hf : OkFr f) (ho : Oct f.2) {d : List Int} (hd : d.length = f.2.length) (hc : crc (head5 f ++ d) ≠ crc (head5 f ++ f.2)) (r : List Int) :
    scan (frms fs ++ (head9 f ++ (d ++ r))) = (fs, (frms fs).length, true) := by
  have e5 : (head9 f ++ (d ++ r)).take 5 = head5 f := by
    unfold head9; rw [List.append_assoc]; exact List.take_left' (head5_length f)
  have d5 : (head9 f ++ (d ++ r)).drop 5 = w4 (sumOf f) ++ (d ++ r) := by
    unfold head9; rw [List.append_assoc]; exact List.drop_left' (head5_length f)
  have d9 : (head9 f ++ (d ++ r)).drop 9 = d ++ r := List.drop_left' (head9_length f)
  have hs : says (head9 f ++ (d ++ r)) = f.2.length := by
    unfold says head9 head5
    simp only [List.cons_append, List.drop_succ_cons, List.drop_zero, List.append_assoc]
    unfold OkFr at hf
    rw [n4_w4 (by omega) (by omega)]
    omega
  have hdat : dataOf (head9 f ++ (d ++ r)) = d := by
    unfold dataOf; rw [hs, d9, ← hd, List.take_left]
  have hcm : completeB (head9 f ++ (d ++ r)) = true := by
    unfold OkFr at hf
    unfold completeB
    rw [hs, decide_eq_true_eq, List.length_append, head9_length, List.length_append]
    exact ⟨by omega, by omega, by omega⟩
  have hft : fitsB (head9 f ++ (d ++ r)) = false := by
    unfold fitsB
    rw [d5, e5, hdat, n4_w4 (sumOf_bound hf ho).1 (sumOf_bound hf ho).2]
    simp only [decide_eq_false_iff_not]
    intro e
    unfold sumOf at e
    exact hc (by omega)
  have hw : wholeB (head9 f ++ (d ++ r)) = false := by unfold wholeB; rw [hft]; simp
  have hsp : spoiltB (head9 f ++ (d ++ r)) = true := by unfold spoiltB; rw [hcm, hft]; simp
  rw [scan_frms h, scan_no hw, hsp]
  simp
theorem frm_pos (f : Fr) : 0 < (frm f).length := by rw [frm_length]; omega
end Go.Proofs.YtkiagnlpnphghaaDoor
