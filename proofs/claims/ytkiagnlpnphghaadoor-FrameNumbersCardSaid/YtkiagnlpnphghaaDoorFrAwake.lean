/- Contract of awake: the chapter's examples are told as the chapter says. -/
import Derived.Test.YtkiagnlpnphghaaDoorFrLaw2
import Derived.Lib.SlBytesConst
namespace Go.Proofs.YtkiagnlpnphghaaDoor
open Go.RowKit
set_option linter.unusedVariables false
set_option linter.unusedSimpArgs false

/-- The chapter's frame. -/
def exF : Fr := (7, [97])
theorem exF_ok : OkFr exF ∧ Oct exF.2 := ⟨⟨by decide, by decide, by decide⟩, fun x hx => by simp [exF] at hx; omega⟩
theorem exF_all : OkFrs [exF] := fun f hf => by simp at hf; subst hf; exact exF_ok
theorem frms_ex : frms [exF] = frm exF := frms_one _
theorem ex_length : (frm exF).length = 10 := rfl
theorem ex_scan : scan (frm exF) = ([exF], 10, false) := by
  have := scan_put exF_all
  rw [frms_ex, ex_length] at this
  exact this
theorem ex_cut : scan ((frm exF).take 9) = ([], 0, false) := scan_short exF_ok.1 (by decide)
theorem ex_ne : crc (head5 exF ++ [98]) ≠ crc (head5 exF ++ exF.2) := by
  have h : crc ([7, 0, 0, 0, 1] ++ [98]) ≠ crc ([7, 0, 0, 0, 1] ++ [97]) := by decide +kernel
  have e : head5 exF = [7, 0, 0, 0, 1] := rfl
  have e2 : exF.2 = [97] := rfl
  rw [e, e2]
  exact h
theorem ex_bytes : frm exF = head9 exF ++ [97] := rfl
theorem ex_head : (head9 exF).length = 9 := rfl
theorem ex_set : (frm exF).set 9 98 = frms [] ++ (head9 exF ++ ([98] ++ [])) := by
  rw [ex_bytes, List.set_append_right _ _ (by rw [ex_head]; exact Nat.le_refl _), ex_head]
  simp [frms]
set_option maxRecDepth 100000 in
theorem ex_worse : scan ((frm exF).set 9 98) = ([], 0, true) := by
  rw [ex_set]
  exact scan_spoilt (fs := []) (d := [98]) (fun f hf => by cases hf) exF_ok.1 exF_ok.2 rfl ex_ne []
theorem ex_sum : crc [49, 50, 51, 52, 53, 54, 55, 56, 57] = 3808858755 := by decide +kernel
theorem ex_oct : Oct (frm exF) := frm_oct exF_ok.1 exF_ok.2

/-- One frame that is built. -/
theorem frs_one {w : World} {u : Value} {k : Int} {d : List Int} (h : Bs w u d) : Frs (w.alloc (.cells #[.int .i64 k, u] 36)) (.slice (some ⟨w.heap.size, 0, none⟩) 1 1) [u] [(k, d)] := by
  obtain ⟨c0, c1⟩ := (FrBox.new 36 w k u).cells
  refine ⟨rfl, Or.inr ⟨w.heap.size, 0, 1, rfl, Nat.le_refl _, by unfold maxLen; omega, by simp, fun j hj => ?_⟩⟩
  obtain rfl : j = 0 := by simpa using hj
  exact ⟨c0, c1, h.alloc _⟩

/-- A literal of one byte, made of a text. -/
theorem bs_lit1 (w : World) (x : Int) : Bs (w.alloc (.cells #[.int .u8 x] 5 (1, 2))) (.slice (some ⟨w.heap.size, 0, none⟩) 1 1) [x] :=
  Bs.mk (l := [x]) (b := w.heap.size) (off := 0) (cap := 1) (Nat.le_refl _) (by unfold maxLen; omega) fun j hj => by
    obtain rfl : j = 0 := by simpa using hj
    exact World.cell?_alloc_mark w _ _ _ 0
theorem bs_text (w : World) (l : List Int) (h : l.length ≤ 1000) (fr : Nat × Nat) : Bs (w.alloc (.cells (bv l).toArray 5 fr)) (.slice (some ⟨w.heap.size, 0, none⟩) l.length l.length) l :=
  Bs.mk (Nat.le_refl _) (by unfold maxLen; omega) fun j hj => by
    rw [cell_of_row _ w.heap.size (0 + j) (bv l).toArray 5 fr (heap_alloc_new w _)]
    have := bv_get hj
    simpa using this

set_option maxHeartbeats 4000000 in
set_option maxRecDepth 100000 in
theorem awakeOf (w : World) (T : Tab w) :
    Calls Tryd.prog 9 #[] w (Gives (.bool true) w) := by
  have HT := Lib.hid T
  have P := put _ _ [exF] _ ((T.alloc (.cells #[.int .u8 97] 5 (1, 2))).alloc (.cells #[.int .i64 7, .slice (some ⟨w.heap.size, 0, none⟩) 1 1] 36)) (frs_one (bs_lit1 w 97)) (fun f hf => (exF_all f hf).2) (by decide)
  rw [World.size_alloc] at P
  have HP := Lib.hid P
  clear T P
  have kc := fun (W : World) (C : Array Value) (n c : Nat) => Lib.run_convert_bytes_const (P := Tryd.prog) W 27 5 C n c Tryd.underlying27 Tryd.underlying5
  go_enter Tryd.func9, Tryd.ntmps9
  go_wp2_with fail
  refine (HP.out).mono ?_; rintro e w1 ⟨a, n, c, rfl, o1, b1⟩
  have he : putErr [exF] = 0 := putErr_of_ok fun f hf => (exF_all f hf).1
  rw [if_pos he, frms_ex] at o1
  have hn : n = 10 := o1.slen'
  subst hn
  have HE := Lib.hid he
  have B1 := Lib.hid (bel_trans (bel_trans (alloc_below w (.cells #[.int .u8 97] 5 (1, 2))) (alloc_below _ (.cells #[.int .i64 7, .slice (some ⟨w.heap.size, 0, none⟩) 1 1] 36))) b1)
  obtain ⟨b, off, c', hsh, h10, hcm, hbl, cells⟩ := o1.bs.at (by decide)
  have ha : a = some ⟨b, off, none⟩ := by cases hsh; rfl
  have hc : c' = c := by cases hsh; rfl
  subst ha hc
  have k0 : w1.cell? ⟨b, off, none⟩ = some (.int .u8 7) := cells 0 (by decide)
  have k4 : w1.cell? ⟨b, off + 4, none⟩ = some (.int .u8 1) := cells 4 (by decide)
  have k9 : w1.cell? ⟨b, off + 9, none⟩ = some (.int .u8 97) := cells 9 (by decide)
  have SC1 := Lib.hid (scanOf _ (frm exF) w1 ((HT.out).past B1.out) o1.bs ex_oct (by decide))
  have HO1 := Lib.hid o1
  have h10 : 10 ≤ c' := h10
  have h9 : 9 ≤ c' := by omega
  have hcc : c' ≤ 9223372036854775807 := by unfold maxLen at hcm; omega
  clear hsh cells o1 b1 hcm
  rw [he]
  clear he
  go_wp2_with fail
  refine (SC1.out).mono ?_; rintro e w2 ⟨a2, n2, c2, vs2, rfl, -, -, g2, l2⟩
  rw [ex_scan] at l2 ⊢
  have l2 : n2 = 1 := l2.symm
  subst l2
  have B2 := Lib.hid (bel_trans B1.out g2)
  have X2 := Lib.hid ((HO1.out).bs.past g2)
  have SC2 := Lib.hid (scanOf _ ((frm exF).take 9) w2 ((HT.out).past B2.out) ((X2.out).take (n := 9) (by decide)) (fun x hx => ex_oct x (List.mem_of_mem_take hx)) (by decide))
  clear g2 k0 k4 k9
  go_wp2_with fail
  refine (SC2.out).mono ?_; rintro e w3 ⟨a3, n3, c3, vs3, rfl, -, -, g3, l3⟩
  rw [ex_cut] at l3 ⊢
  have l3 : n3 = 0 := l3.symm
  subst l3
  have B3 := Lib.hid (bel_trans B2.out g3)
  have X3 := Lib.hid ((X2.out).past g3)
  clear g3
  go_wp2_with (at_builtin; refine wpList_append_bs _ rfl _ _ rfl w.heap.size _ _ rfl (made_now _ _ (B3.out).size) _ (frm exF) rfl ((X3.out).alloc _) (by rw [ex_length]; decide) (by have := (B3.out).size; simp; omega) ?_)
  intro v4 wd o4 g4
  have B4 := Lib.hid (((B3.out).alloc (B3.out).size (.cells #[] 5)).grown g4 ((B3.out).alloc (B3.out).size (.cells #[] 5)).size (fun k e => by cases e; exact (B3.out).size))
  obtain ⟨g, c4, hv4, hg4⟩ := own_pos o4 (by decide)
  have hv4 : v4 = .slice (some ⟨g, 0, none⟩) 10 c4 := hv4
  subst hv4
  obtain ⟨cg, fg⟩ := own_cells o4
  have cg9 := cg 9 (by decide)
  have fg9 := fg 9
  have O5 := Lib.hid (o4.stored 9 98)
  have B5 := Lib.hid ((B4.out).setCell (p := ⟨g, 9, none⟩) (o4.lt g rfl).1 (.int .u8 98))
  clear g4 o4 cg fg
  go_wp2_with fail
  have SC3 := Lib.hid (scanOf _ ((frm exF).set 9 98) _ ((HT.out).past (B5.out)) (O5.out).bs (fun x hx => (List.mem_or_eq_of_mem_set hx).elim (fun h => ex_oct x h) (fun h => by omega)) (by rw [List.length_set]; decide))
  refine (SC3.out).mono ?_; rintro e w6 ⟨a6, n6, c6, vs6, rfl, -, -, g6, -⟩
  rw [ex_worse]
  have B6 := Lib.hid (bel_trans (B5.out) g6)
  have SM := Lib.hid (sumOne _ [49, 50, 51, 52, 53, 54, 55, 56, 57] _ ((HT.out).past ((B6.out).alloc (B6.out).size (.cells (bv [49, 50, 51, 52, 53, 54, 55, 56, 57]).toArray 5 (9, 10)))) (bs_text w6 [49, 50, 51, 52, 53, 54, 55, 56, 57] (by decide) (9, 10)) (fun x hx => by simp at hx; omega))
  rw [ex_sum] at SM
  have B7 := Lib.hid ((B6.out).alloc (B6.out).size (.cells (bv [49, 50, 51, 52, 53, 54, 55, 56, 57]).toArray 5 (9, 10)))
  go_wp2_with fail
  refine (SM.out).mono ?_; rintro e w7 ⟨rfl, b7⟩
  go_wp2_with fail
  go_ret
  exact ⟨rfl, bel_trans (B7.out) b7⟩
end Go.Proofs.YtkiagnlpnphghaaDoor
