/- The chapter's examples hold. -/
import Derived.Test.YtggbpdkejkmakaaGreatRdr
namespace Go.Proofs.YtggbpdkejkmakaaGreat
open Go.RowKit
set_option linter.unusedVariables false

/-- A literal of bytes. -/
theorem bs_list (w : World) (l : List Int) (h : l.length ≤ 1000) : Bs (w.alloc (.cells (bv l).toArray 5)) (.slice (some ⟨w.heap.size, 0, none⟩) l.length l.length) l :=
  Bs.mk (Nat.le_refl _) (by unfold maxLen; omega) fun j hj => by
    rw [cell_of_row _ w.heap.size (0 + j) (bv l).toArray 5 (0, 0) (heap_alloc_new w _)]
    have := bv_get hj
    simpa using this
theorem alloc_below (w : World) (o : Obj) : Below w.heap.size w (w.alloc o) := (Below.refl _ _).alloc (Nat.le_refl _) o
theorem bel_trans {w a b : World} (h : Below w.heap.size w a) (k : Below a.heap.size a b) : Below w.heap.size w b := h.trans (k.mono h.size)
theorem sameBytes_yes {u v : Value} {x y : List Int} {w : World} (hu : Bs w u x) (hv : Bs w v y) (h : x = y) :
    Calls Tryz.prog 16 #[u, v] w fun e w' => e = .returned (.bool true) ∧ Below w.heap.size w w' := by
  refine (sameBytes u v x y w hu hv).mono fun e w' ⟨he, hs⟩ => ⟨?_, hs.below _⟩
  rw [he]; simp [h]

/-- v (some bytes' answer) is as the literal l says, which is made behind it. -/
theorem same_lit {w0 w : World} {v : Value} {x : List Int} (hv : Own w w0.heap.size v x) (l : List Int) (hl : l.length ≤ 1000) (h : x = l) :
    Calls Tryz.prog 16 #[v, .slice (some ⟨w.heap.size, 0, none⟩) l.length l.length] (w.alloc (.cells (bv l).toArray 5)) fun e w' => e = .returned (.bool true) ∧ Below w.heap.size w w' :=
  (sameBytes_yes (hv.bs.alloc _) (bs_list w l hl) h).mono fun e w' ⟨he, hb⟩ => ⟨he, below_alloc hb⟩

theorem num8_258 : num8 258 = [0, 0, 0, 0, 0, 0, 1, 2] := by decide
theorem num8_m1 : num8 (-1) = [255, 255, 255, 255, 255, 255, 255, 255] := by decide
theorem len8_7 : len8 [7] = [0, 0, 0, 0, 0, 0, 0, 1, 7] := by decide
theorem same_258 {w0 w : World} {v : Value} (hv : Own w w0.heap.size v (num8 258)) :
    Calls Tryz.prog 16 #[v, .slice (some ⟨w.heap.size, 0, none⟩) 8 8] (w.alloc (.cells #[.int .u8 0, .int .u8 0, .int .u8 0, .int .u8 0, .int .u8 0, .int .u8 0, .int .u8 1, .int .u8 2] 5)) fun e w' => e = .returned (.bool true) ∧ Below w.heap.size w w' :=
  same_lit hv [0, 0, 0, 0, 0, 0, 1, 2] (by decide) num8_258
theorem same_m1 {w0 w : World} {v : Value} (hv : Own w w0.heap.size v (num8 (-1))) :
    Calls Tryz.prog 16 #[v, .slice (some ⟨w.heap.size, 0, none⟩) 8 8] (w.alloc (.cells #[.int .u8 255, .int .u8 255, .int .u8 255, .int .u8 255, .int .u8 255, .int .u8 255, .int .u8 255, .int .u8 255] 5)) fun e w' => e = .returned (.bool true) ∧ Below w.heap.size w w' :=
  same_lit hv [255, 255, 255, 255, 255, 255, 255, 255] (by decide) num8_m1
theorem same_7 {w0 w : World} {v : Value} (hv : Own w w0.heap.size v (len8 [7])) :
    Calls Tryz.prog 16 #[v, .slice (some ⟨w.heap.size, 0, none⟩) 9 9] (w.alloc (.cells #[.int .u8 0, .int .u8 0, .int .u8 0, .int .u8 0, .int .u8 0, .int .u8 0, .int .u8 0, .int .u8 1, .int .u8 7] 5)) fun e w' => e = .returned (.bool true) ∧ Below w.heap.size w w' :=
  same_lit hv [0, 0, 0, 0, 0, 0, 0, 1, 7] (by decide) len8_7
theorem bytes_7 (w : World) : Calls Tryz.prog 12 #[.slice (some ⟨w.heap.size, 0, none⟩) 1 1] (w.alloc (.cells #[.int .u8 7] 5)) fun e w' => Fresh (len8 [7]) (w.alloc (.cells #[.int .u8 7] 5)) e w' :=
  wireBytes _ [7] _ (bs_lit w 7) (by decide)
theorem new_5 (w : World) : Calls Tryz.prog 20 #[.slice (some ⟨w.heap.size, 0, none⟩) 5 5] (w.alloc (.cells #[.int .u8 1, .int .u8 2, .int .u8 3, .int .u8 4, .int .u8 5] 5)) fun e w' => NewRdr [1, 2, 3, 4, 5] (w.alloc (.cells #[.int .u8 1, .int .u8 2, .int .u8 3, .int .u8 4, .int .u8 5] 5)) e w' :=
  newReader _ [1, 2, 3, 4, 5] _ (bs_list w [1, 2, 3, 4, 5] (by decide)) (by intro n hn; simp at hn; omega) (by decide)
theorem num_5 (R : Nat) (w : World) (h : Rdr w R (some [1, 2, 3, 4, 5])) : Calls Tryz.prog 24 #[.pointer (some ⟨R, 0, none⟩)] w (Answers R (.int .i64 0) none w) := rdrNumber R _ w h

set_option maxHeartbeats 4000000 in
set_option maxRecDepth 100000 in
theorem awake (w : World) : Calls Tryz.prog 8 #[] w fun e w' => e = .returned (.bool true) ∧ Below w.heap.size w w' := by
  go_enter Tryz.func8, Tryz.ntmps8
  go_wp2_with fail
  refine (new_5 _).mono ?_; rintro e w1 ⟨R, rfl, hR, rd, b1⟩
  have r1 := Lib.hid (num_5 R w1 rd)
  have B1 := Lib.hid (below_alloc b1)
  have hR1 : w.heap.size ≤ R := by simp at hR; omega
  clear rd b1 hR
  go_wp2_with fail
  refine (r1.out).mono ?_; rintro e w2 ⟨rfl, rd2, g2⟩
  have B2 := Lib.hid ((B1.out).grown g2 (B1.out).size (fun k hk => by cases hk; exact hR1))
  have R2 := Lib.hid rd2
  clear rd2 g2 r1 B1
  go_wp2_with fail
  refine (wireNumber 258 _).mono ?_; rintro e w3 ⟨v3, rfl, o3, b3⟩
  obtain ⟨a3, c3, rfl⟩ := o3.bs.shape
  have s3 := Lib.hid (same_258 o3)
  have B3 := Lib.hid (bel_trans B2.out b3)
  have R3 := Lib.hid (R2.out.grown (below_grownBy b3 none))
  clear o3 b3 B2 R2
  go_wp2_with fail
  refine (s3.out).mono ?_; rintro e w4 ⟨rfl, b4⟩
  have B4 := Lib.hid (bel_trans B3.out b4)
  have R4 := Lib.hid (R3.out.grown (below_grownBy b4 none))
  clear b4 B3 R3 s3
  go_wp2_with fail
  refine (wireNumber (-1) _).mono ?_; rintro e w5 ⟨v5, rfl, o5, b5⟩
  obtain ⟨a5, c5, rfl⟩ := o5.bs.shape
  have s5 := Lib.hid (same_m1 o5)
  have B5 := Lib.hid (bel_trans B4.out b5)
  have R5 := Lib.hid (R4.out.grown (below_grownBy b5 none))
  clear o5 b5 B4 R4
  go_wp2_with fail
  refine (s5.out).mono ?_; rintro e w6 ⟨rfl, b6⟩
  have B6 := Lib.hid (bel_trans B5.out b6)
  have R6 := Lib.hid (R5.out.grown (below_grownBy b6 none))
  clear b6 B5 R5 s5
  go_wp2_with fail
  refine (bytes_7 _).mono ?_; rintro e w7 ⟨v7, rfl, o7, b7⟩
  obtain ⟨a7, c7, rfl⟩ := o7.bs.shape
  have s7 := Lib.hid (same_7 o7)
  have B7 := Lib.hid (bel_trans B6.out (below_alloc b7))
  have R7 := Lib.hid (R6.out.grown (below_grownBy (below_alloc b7) none))
  clear o7 b7 B6 R6
  go_wp2_with fail
  refine (s7.out).mono ?_; rintro e w8 ⟨rfl, b8⟩
  have B8 := Lib.hid (bel_trans B7.out b8)
  have R8 := Lib.hid (R7.out.grown (below_grownBy b8 none))
  have d8 := Lib.hid (bad R none w8 R8.out)
  have e8 := Lib.hid (done R none w8 R8.out)
  clear b8 B7 R7 s7
  go_wp2_with fail
  refine (d8.out).mono ?_; rintro e w' ⟨rfl, rfl⟩
  go_wp2_with fail
  refine (e8.out).mono ?_; rintro e w' ⟨rfl, rfl⟩
  go_wp2_with fail
  go_ret
  exact ⟨rfl, B8.out⟩
end Go.Proofs.YtggbpdkejkmakaaGreat
