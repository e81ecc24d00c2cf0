/- Contracts of what is lent: bytes with marks behind them, whether they and the marks are kept, and written over. -/
import Derived.Test.YtmkhcgfbeeimaaaDoorBase
import Derived.Tactics2
import Derived.Deep.QuietTactic
import Derived.BigQuiet
namespace Go.Proofs.YtmkhcgfbeeimaaaDoor
open Go.RowKit
set_option linter.unusedVariables false

/-- The first n marks of kind k. -/
def marks (k : Int) (n : Nat) : List Int := (List.range n).map fun i : Nat => mkb k (i : Int)
theorem marks_length (k : Int) (n : Nat) : (marks k n).length = n := by simp [marks]
theorem marks_succ (k : Int) (n : Nat) : marks k (n + 1) = marks k n ++ [mkb k n] := by simp [marks, List.range_succ]
theorem marks_oct (k : Int) (n : Nat) : Oct (marks k n) := by
  intro x hx
  simp only [marks, List.mem_map] at hx
  obtain ⟨i, _, rfl⟩ := hx
  exact mkb_oct k i
theorem nth_marks {k : Int} {n j : Nat} (h : j < n) : nth (marks k n) j = mkb k j := by
  rw [nth_of (by rw [marks_length]; exact h)]; simp [marks]

/-- v is the bytes l, lent: in a block of their own from base on, with twelve marks behind them. -/
def Lent (w : World) (base : Nat) (v : Value) (l : List Int) : Prop :=
  ∃ g, v = .slice (some ⟨g, 0, none⟩) l.length (l.length + 12) ∧ base ≤ g ∧ l.length + 12 ≤ maxLen ∧ w.heap[g]? = some (.cells (bv (l ++ marks 1 12)).toArray 5 (0, 0))

theorem row_cell {w : World} {g : Nat} {l : List Int} {e : Nat} {fr : Nat × Nat} (h : w.heap[g]? = some (.cells (bv l).toArray e fr)) {j : Nat} (hj : j < l.length) : w.cell? ⟨g, j, none⟩ = some (.int .u8 (nth l j)) := by
  rw [cell_of_row w g j _ _ _ h]
  have := bv_get hj
  simpa using this
theorem Lent.bs {w : World} {base : Nat} {v : Value} {l : List Int} (h : Lent w base v l) : Bs w v l := by
  obtain ⟨g, rfl, _, hm, hg⟩ := h
  refine Bs.mk (by omega) hm fun j hj => ?_
  rw [Nat.zero_add, row_cell hg (by simp; omega), nth_append_left hj]
theorem Lent.below {w w' : World} {base B : Nat} {v : Value} {l : List Int} (h : Lent w base v l) (hb : Below B w w') (hB : w.heap.size ≤ B) : Lent w' base v l := by
  obtain ⟨g, hv, h1, h2, hg⟩ := h
  have := (Array.getElem?_eq_some_iff.1 hg).1
  exact ⟨g, hv, h1, h2, (hb.block g (by omega)).trans hg⟩
theorem Lent.past {w w' : World} {base : Nat} {v : Value} {l : List Int} (h : Lent w base v l) (hb : Below w.heap.size w w') : Lent w' base v l := h.below hb (Nat.le_refl _)
theorem own_full {w : World} {base g n : Nat} {l : List Int} (h : Own w base (.slice (some ⟨g, 0, none⟩) n l.length) l) : base ≤ g ∧ w.heap[g]? = some (.cells (bv l).toArray 5 (0, 0)) := by
  rcases h.2 with ⟨h1, _⟩ | ⟨g', cap, cur, h1, hb, hg, hn, hc, hs, ht⟩
  · cases h1
  · cases h1
    refine ⟨hb, ?_⟩
    have : cur = (bv l).toArray := by
      rw [← ht, List.take_of_length_le (by simp; omega)]
    rw [← this]; exact hg

/-- e returns them lent; what was there is as it was. -/
def Lends (l : List Int) (w : World) (e : Ending) (w' : World) : Prop := ∃ v, e = .returned v ∧ Lent w' w.heap.size v l ∧ Below w.heap.size w w'

set_option maxHeartbeats 1000000 in
set_option maxRecDepth 100000 in
theorem lentBytes (v : Value) (l : List Int) (w : World) (h : Bs w v l) (hlen : l.length ≤ 140737488351232) :
    Calls Tryd.prog 18 #[v] w fun e w' => Lends l w e w' := by
  obtain ⟨i0, hi, hz, hs1, hb1⟩ := u8info
  obtain ⟨ao, cap, hsh⟩ := h.shape
  have H := Lib.hid h
  subst hsh
  clear h
  generalize hn : l.length = n at *
  have hN := Lib.hid hn
  clear hn
  have HI := Lib.hid hi
  have HZ := Lib.hid hz
  have HS1 := Lib.hid hs1
  have HB1 := Lib.hid hb1
  clear hi hz hs1 hb1
  go_enter Tryd.func18, Tryd.ntmps18
  go_wp2_with (at_make; refine wpList_make_own _ rfl _ _ 34 rfl w.heap.size 5 i0 (.int .u8 0) 1 Tryd.underlying34 HI.out HZ.out HS1.out _ _ _ (n + 12) rfl rfl (by omega) (by have := HB1.out; rw [this]; omega) (by unfold maxLen; omega) (Nat.le_refl _) ?_)
  intro w0 hown0 hgrow0
  have O0 : Own w0 w.heap.size (.slice (some ⟨w.heap.size, 0, none⟩) ([] : List Int).length (n + 12)) [] := hown0
  have HO0 := Lib.hid O0
  have B0 := Lib.hid ((Below.refl w.heap.size w).grown hgrow0 (Nat.le_refl _) (fun k h => by cases h))
  have HB0 := Lib.hid ((H.out).past B0.out)
  clear hown0 hgrow0 O0
  go_wp2_with (at_builtin; refine wpList_append_bs_fits _ rfl _ _ rfl w.heap.size w.heap.size (n + 12) 0 n [] rfl rfl HO0.out _ _ hN.out rfl HB0.out (by omega) ?_)
  intro w1 ho1 hg1
  have B1 := Lib.hid ((B0.out).grown hg1 (B0.out).size (fun k h => by cases h; exact Nat.le_refl _))
  have HO1 := Lib.hid ho1
  clear ho1 hg1
  go_wp2_with fail
  go_loopw [3, 4] (fun s i wr => ∃ (k : Nat) (xs : List Int), k ≤ 12 ∧ Hid (xs = l ++ marks 1 k) ∧ i = .int .i64 k ∧ s = .slice (some ⟨w.heap.size, 0, none⟩) (n + k) (n + 12) ∧ Own wr w.heap.size (.slice (some ⟨w.heap.size, 0, none⟩) (n + k) (n + 12)) xs ∧ Below w.heap.size w wr) (fun _ i _ => 12 - (intOf i).toNat)
  case atStart => exact ⟨0, l, Nat.zero_le _, Lib.hid (by simp [marks]), rfl, by go_num, by simpa using HO1.out, B1.out⟩
  case round =>
    obtain ⟨k, xs, hk, HX, rfl, rfl, ho, hb⟩ := hrel
    have HO := Lib.hid ho
    have HB := Lib.hid hb
    have hxl := Lib.hid (show xs.length = n + k by rw [HX.out, List.length_append, marks_length]; have := hN.out; omega)
    clear ho hb
    by_cases hlt : k < 12
    · have hd : decide ((k : Int) < 12) = true := by simp; omega
      have M := Lib.hid (markByte 1 k (by decide) (by decide) (by omega) (by omega))
      go_wp2_with fail
      refine (M.out _).mono ?_; rintro e w' ⟨rfl, rfl⟩
      go_wp2_with (at_builtin; refine wpList_append_bs_fits _ rfl _ _ rfl w.heap.size w.heap.size (n + 12) (n + k) 1 xs hxl.out rfl ((HO.out).alloc _) _ [_] rfl rfl (bs_lit _ _) (by omega) ?_)
      intro w2 ho2 hg2
      have hb2 := ((HB.out).alloc (HB.out).size _).grown hg2 (by have := (HB.out).size; simp; omega) (fun k h => by cases h; exact Nat.le_refl _)
      clear hg2
      go_wp2_with fail
      go_roundw
      case rel => exact ⟨k + 1, _, by omega, Lib.hid (by rw [HX.out, marks_succ, List.append_assoc]), by go_num, by go_num, ho2, hb2⟩
      case measure => simp [intOf]; omega
    · have hk12 : k = 12 := by omega
      subst hk12
      go_wp2_with fail
      go_ret
      have e1 : xs.length = n + 12 := hxl.out
      have hof := own_full (l := xs) (n := n + 12) (by rw [e1]; exact HO.out)
      rw [HX.out] at hof
      refine ⟨_, rfl, ⟨w.heap.size, ?_, hof.1, ?_, hof.2⟩, HB.out⟩
      · rw [hN.out]; rfl
      · have := hN.out; unfold maxLen; omega

set_option maxHeartbeats 2000000 in
set_option maxRecDepth 100000 in
theorem keptBytes (u v : Value) (base : Nat) (l : List Int) (w : World) (hu : Lent w base u l) (hv : Bs w v l) (hlen : l.length ≤ 140737488351232) :
    Calls Tryd.prog 25 #[u, v] w fun e w' => Tells (.bool true) w e w' := by
  obtain ⟨g, rfl, -, -, hg⟩ := hu
  obtain ⟨ao, cap, hsh⟩ := hv.shape
  have CG := Lib.hid (fun j (hj : j < (l ++ marks 1 12).length) => row_cell hg hj)
  have HV := Lib.hid hv
  subst hsh
  clear hv hg
  generalize hn : l.length = n at *
  have hN := Lib.hid hn
  clear hn
  go_enter Tryd.func25, Tryd.ntmps25
  go_wp2_with fail
  go_loopw [6] (fun i wr => ∃ k : Nat, k ≤ n + 12 ∧ i = .int .i64 k ∧ Still w wr) (fun i _ => n + 12 - (intOf i).toNat)
  case atStart => exact ⟨0, Nat.zero_le _, rfl, Still.refl _⟩
  case round =>
    obtain ⟨k, hk, rfl, hst⟩ := hrel
    by_cases hlt : k < n + 12
    · have hd : decide (k < n + 12) = true := by simpa using hlt
      have cg := (hst.cell ⟨g, k, none⟩).trans (CG.out k (by rw [List.length_append, marks_length]; have := hN.out; omega))
      by_cases hkn : k < n
      · have hd2 : decide (k < n) = true := by simpa using hkn
        rw [nth_append_left (by rw [hN.out]; exact hkn)] at cg
        obtain ⟨b, off, c, hsh, -, -, -, cells⟩ := (HV.out).at (by have := hN.out; omega)
        have hao : ao = some ⟨b, off, none⟩ := by cases hsh; rfl
        subst hao
        have cv := (hst.cell ⟨b, off + k, none⟩).trans (cells k (by have := hN.out; omega))
        have hge : decide (n ≤ k) = false := by simpa using hkn
        clear cells hsh
        go_wp2_with fail
        go_quiet (fail)
        go_wp2_with fail
        go_roundw
        case rel => exact ⟨k + 1, by omega, by go_num, hst.drewN _⟩
        case measure => simp [intOf]; omega
      · have hd2 : decide (k < n) = false := by simpa using hkn
        have hge : decide (n ≤ k) = true := by simp; omega
        rw [nth_append_right (by rw [hN.out]; omega), hN.out, nth_marks (by omega)] at cg
        rw [show ((k - n : Nat) : Int) = (k : Int) - n from by omega] at cg
        have M := fun W => Lib.hid ((markByte 1 ((k : Int) - n) (by decide) (by decide) (by omega) (by omega) W).mono fun e w' ⟨h1, h2⟩ => (show e = _ ∧ w' = W from ⟨h2, h1.symm⟩))
        generalize mkb 1 ((k : Int) - (n : Int)) = z at cg M
        go_wp2_with fail
        go_quiet ((go_at_call 37; exact Calls.quiet_of_same (M _).out))
        go_wp2_with fail
        go_roundw
        case rel => exact ⟨k + 1, by omega, by go_num, hst.drewN _⟩
        case measure => simp [intOf]; omega
    · have hd : decide (k < n + 12) = false := by simpa using hlt
      go_wp2_with fail
      go_ret
      exact ⟨rfl, hst⟩

/-- Block g is a row of n bytes. -/
def RowOf (w : World) (g n : Nat) : Prop := ∃ cur, w.heap[g]? = some (.cells cur 5 (0, 0)) ∧ cur.size = n
theorem RowOf.cell {w : World} {g n j : Nat} (h : RowOf w g n) (hj : j < n) : ∃ x, w.cell? ⟨g, j, none⟩ = some x := by
  obtain ⟨cur, hg, hs⟩ := h
  exact ⟨cur[j]'(by omega), by rw [cell_of_row w g j _ _ _ hg]; simp [hs, hj]⟩
theorem RowOf.free {w : World} {g n : Nat} (h : RowOf w g n) (j : Nat) : w.frozen? ⟨g, j, none⟩ = false := by
  obtain ⟨cur, hg, hs⟩ := h
  simp [World.frozen?, hg]
theorem RowOf.set {w : World} {g n : Nat} (h : RowOf w g n) (j : Nat) (u : Value) : RowOf (w.setCell ⟨g, j, none⟩ u) g n := by
  obtain ⟨cur, hg, hs⟩ := h
  refine ⟨cur.setIfInBounds j u, ?_, by simp [hs]⟩
  simp only [World.setCell, Array.getElem?_modify, hg]
  simp

theorem Lent.row {w : World} {base : Nat} {v : Value} {l : List Int} (h : Lent w base v l) : ∃ g, v = .slice (some ⟨g, 0, none⟩) l.length (l.length + 12) ∧ base ≤ g ∧ g < w.heap.size ∧ RowOf w g (l.length + 12) := by
  obtain ⟨g, hv, hb, _, hg⟩ := h
  exact ⟨g, hv, hb, (Array.getElem?_eq_some_iff.1 hg).1, _, hg, by simp [length_bv, marks_length]⟩
end Go.Proofs.YtmkhcgfbeeimaaaDoor
