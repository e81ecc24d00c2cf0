/- What WireBack wants beside the readers: how many eighths of bytes entries have, two parts joined, a beginning of bytes, two readers side by side. -/
import Derived.Test.YtggbpdkejkmakaaOpenEs
import Derived.Test.YtggbpdkejkmakaaLoop
import Derived.Test.YtggbpdkejkmakaaSameEnt
namespace Go.Proofs.Ytggbpdkejkmakaa
open Go.RowKit
set_option linter.unusedVariables false
set_option linter.unusedSimpArgs false

theorem joinTwo {w : World} {v1 v2 : Value} {x y : List Int} (h1 : Bs w v1 x) (h2 : Bs w v2 y) (hlen : x.length + y.length ≤ 140737488355328) :
    Calls Try.prog 16 #[.slice (some ⟨w.heap.size, 0, none⟩) 2 2] (w.alloc (.cells #[v1, v2] 22)) fun e w' =>
      ∃ v, e = .returned v ∧ Own w' w.heap.size v (x ++ y) ∧ Below w.heap.size w w' := by
  have e : [x, y].flatten = x ++ y := by simp
  have := join (.slice (some ⟨w.heap.size, 0, none⟩) 2 2) [v1, v2] [x, y] (w.alloc (.cells #[v1, v2] 22)) (vals_lit w [v1, v2] (by simp)) (all_two (h1.alloc _) (h2.alloc _)) (by rw [e, List.length_append]; omega)
  rw [e] at this
  refine this.mono fun e w' h => ?_
  obtain ⟨v, he, ho, hb⟩ := h
  exact ⟨v, he, ho.mono (by simp), below_alloc hb⟩

/-- Eighths of bytes. -/
def eig (xs : List Ent) : Nat := (xs.map fun x => x.d.length / 8).sum
theorem eig_snoc (xs : List Ent) (x : Ent) : eig (xs ++ [x]) = eig xs + x.d.length / 8 := by simp [eig]
theorem eth_of {xs : List Ent} {j : Nat} (h : j < xs.length) : eth xs j = xs[j] := by simp [eth, List.getD, h]
theorem take_eth {xs : List Ent} {k : Nat} (h : k < xs.length) : xs.take (k + 1) = xs.take k ++ [eth xs k] := by
  rw [List.take_succ_eq_append_getElem h, eth_of h]
theorem drop_eth {xs : List Ent} {k : Nat} (h : k < xs.length) : xs.drop k = eth xs k :: xs.drop (k + 1) := by
  rw [eth_of h]; exact List.drop_eq_getElem_cons h
theorem eig_take {xs : List Ent} {k : Nat} (h : k < xs.length) : eig (xs.take (k + 1)) = eig (xs.take k) + (eth xs k).d.length / 8 := by rw [take_eth h, eig_snoc]
theorem eig_le (xs : List Ent) (k : Nat) : eig (xs.take k) ≤ eig xs := by
  have : eig xs = eig (xs.take k) + eig (xs.drop k) := by
    unfold eig
    rw [← List.sum_append, ← List.map_append, List.take_append_drop]
  omega
theorem eig_each {xs : List Ent} {k : Nat} (h : k < xs.length) : (eth xs k).d.length / 8 ≤ eig xs := by
  have := eig_take h
  have := eig_le xs (k + 1)
  omega
theorem entB_length (x : Ent) : (entB x).length = 48 + x.d.length := ent8_length _ _ _ _ _ _
theorem flatE_length (xs : List Ent) : (flatE xs).length ≤ 56 * xs.length + 8 * eig xs := by
  induction xs with
  | nil => simp [flatE]
  | cons x xs ih =>
    rw [flatE_cons, List.length_append, entB_length]
    have : eig (x :: xs) = x.d.length / 8 + eig xs := by simp [eig]
    simp only [List.length_cons]
    omega
theorem flatE_pos {xs : List Ent} {k : Nat} (h : k < xs.length) : 0 < (flatE (xs.drop k)).length := by
  rw [drop_eth h, flatE_cons, List.length_append, entB_length]; omega

set_option maxHeartbeats 1000000 in
set_option maxRecDepth 100000 in
theorem entriesOf (v : Value) (xs : List Ent) (w : World) (h : Es w v xs) :
    Calls Try.prog 36 #[v, .int .i64 2500] w fun e w' => (∃ n : Nat, e = .returned (.int .i64 n) ∧ (n ≤ 2500 → xs.length + eig xs = n)) ∧ Still w w' := by
  obtain ⟨ao, cap, hsh⟩ := h.shape
  have hlen := h.len
  have H := Lib.hid h
  subst hsh
  clear h
  go_enter Try.func36, Try.ntmps36
  go_wp2
  go_loopw [5, 6] (fun n i wr => ∃ k m : Nat, k ≤ xs.length ∧ n = .int .i64 m ∧ i = .int .i64 k ∧ Hid (m = xs.length + eig (xs.take k)) ∧ m ≤ 9223372036854775807 ∧ Still w wr) (fun _ i _ => xs.length - (intOf i).toNat)
  case atStart => exact ⟨0, xs.length, Nat.zero_le _, rfl, rfl, Lib.hid (by simp [eig]), hlen, Still.refl _⟩
  case round =>
    obtain ⟨k, m, hk, rfl, rfl, HM, hm, hst⟩ := hrel
    obtain ⟨d, rfl⟩ := hst
    by_cases hlt : k < xs.length
    · have hd : decide (k < xs.length) = true := by simpa using hlt
      by_cases hle : m ≤ 2500
      · have hd2 : decide ((m : Int) ≤ 2500) = true := by simp; omega
        obtain ⟨b, off, c, u, hs, -, hE⟩ := (H.out).at hlt
        obtain ⟨au, cu, hu⟩ := hE.bs.shape
        have hao : ao = some ⟨b, off, none⟩ := by cases hs; rfl
        subst hao
        have c5 := hE.c5
        subst hu
        have hdl := hE.bs.len
        have HT := Lib.hid (eig_take hlt)
        generalize (eth xs k).d.length = dl at *
        clear hE hs
        go_wp2
        go_roundw
        case rel => exact ⟨k + 1, m + dl / 8, by omega, by go_num, by go_num, Lib.hid (by have := HM.out; have := HT.out; omega), by omega, ⟨_, rfl⟩⟩
        case measure => simp [intOf]; omega
      · have hd2 : decide ((m : Int) ≤ 2500) = false := by simp; omega
        go_wp2
        go_ret
        exact ⟨⟨m, rfl, fun h => absurd h hle⟩, ⟨_, rfl⟩⟩
    · have hd : decide (k < xs.length) = false := by simpa using hlt
      go_wp2
      go_ret
      refine ⟨⟨m, rfl, fun h => ?_⟩, ⟨_, rfl⟩⟩
      rw [HM.out, List.take_of_length_le (by omega)]

theorem len8_oct {l : List Int} (h : Oct l) : Oct (len8 l) := (num8_oct _).append h
theorem entB_oct {x : Ent} (h : Oct x.d) : Oct (entB x) := (((((num8_oct _).append (num8_oct _)).append (num8_oct _)).append (num8_oct _)).append (num8_oct _)).append (len8_oct h)

/-- Two readers side by side. -/
structure WB (w0 w : World) (R S : Nat) (s1 s2 : Option (List Int)) : Prop where
  r : Rdr w R s1
  s : Rdr w S s2
  ne : R ≠ S
  rR : w0.heap.size ≤ R
  rS : w0.heap.size ≤ S
  below : Below w0.heap.size w0 w
theorem WB.left {w0 w w' : World} {R S : Nat} {s1 s2 t : Option (List Int)} (h : WB w0 w R S s1 s2) (hg : w.grownBy w' (some R)) (hr : Rdr w' R t) : WB w0 w' R S t s2 :=
  ⟨hr, h.s.keep hg (fun k hk => by cases hk; exact ⟨h.ne, h.r.noBytes⟩), h.ne, h.rR, h.rS, h.below.grown hg h.below.size (fun k hk => by cases hk; exact h.rR)⟩
theorem WB.right {w0 w w' : World} {R S : Nat} {s1 s2 t : Option (List Int)} (h : WB w0 w R S s1 s2) (hg : w.grownBy w' (some S)) (hr : Rdr w' S t) : WB w0 w' R S s1 t :=
  ⟨h.r.keep hg (fun k hk => by cases hk; exact ⟨fun e => h.ne e.symm, h.s.noBytes⟩), hr, h.ne, h.rR, h.rS, h.below.grown hg h.below.size (fun k hk => by cases hk; exact h.rS)⟩
theorem WB.past {w0 w w' : World} {R S : Nat} {s1 s2 : Option (List Int)} (h : WB w0 w R S s1 s2) (hb : Below w.heap.size w w') : WB w0 w' R S s1 s2 :=
  ⟨h.r.keep (below_grownBy hb none) (fun k hk => by cases hk), h.s.keep (below_grownBy hb none) (fun k hk => by cases hk), h.ne, h.rR, h.rS, h.below.trans (hb.mono h.below.size)⟩

/-- A beginning of a slice, as the walk takes it. -/
theorem slice_to (ao : Option Addr) (n cap c : Nat) (h2 : c ≤ cap) (W : World) :
    (Instr.slice 22 (.slice ao n cap) none (some (.int .i64 (c : Nat))) none).run Try.prog W = .ok (.slice ao c cap) W := by
  have he : Try.prog.underlying 22 = some (.slice (Try.prog.elem 22)) := by kernel_rfl
  obtain ⟨i, hi, _, hs1, _⟩ := u8info
  have hel : Try.prog.elem 22 = 5 := by kernel_rfl
  rw [run_slice_h (w := W) 22 ao n cap he .i64 (c : Nat) (by omega) (by omega)]
  rw [hel]
  have hsz : (sizeOf 5).run Try.prog W = .ok 1 W := by simp [sizeOf, typeInfo, hi, hs1]
  rw [hsz]
  simp only [Result.andThen, sliced, Int.toNat_natCast]
  by_cases h : cap = 0
  · rw [if_pos h]; simp
  · rw [if_neg h]
    cases ao with
    | none => simp
    | some a => simp [Addr.add]
theorem step_slice_to {w : World} {ops : Array Oper} {o : Oper} {a : Act} {K : Act → World → Prop} {Q : Exit → Act → World → Prop} {E : Prop} (hgd : o.guard = none) (s hi : Operand)
    (ho : o.op = .slice 22 s none (some hi) none) (v h u : Value) (hs : a.eval s = v) (hh : a.eval hi = h)
    (hrun : ∀ W, (Instr.slice 22 v none (some h) none).run Try.prog W = .ok u W) (k : K (a.put o.dst u) w) :
    if Region.wanted o (yielded ops a.tmps) = true then Oper.wp Try.prog o a w K Q else E := by
  have hw : Region.wanted o (yielded ops a.tmps) = true := by simp [Region.wanted, hgd]
  rw [if_pos hw]
  have he : Try.prog.underlying 22 = some (.slice (Try.prog.elem 22)) := by kernel_rfl
  have h2 := run_sliceAt_slice (P := Try.prog) w 22 v none (some h) none he
  rw [hrun] at h2
  unfold Oper.wp
  simp [execOp, ho, hs, hh, h2, Result.andThen]
  exact k
end Go.Proofs.Ytggbpdkejkmakaa
