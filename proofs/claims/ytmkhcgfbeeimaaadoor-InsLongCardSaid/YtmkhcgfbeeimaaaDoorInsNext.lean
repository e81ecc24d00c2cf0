/- What may come behind: the program's and the document's. -/
import Derived.Test.YtmkhcgfbeeimaaaDoorInsRow
import Derived.Test.YtmkhcgfbeeimaaaDoorInsRef
import Derived.BigQuiet
namespace Go.Proofs.YtmkhcgfbeeimaaaDoor
open Go.RowKit
set_option linter.unusedVariables false
set_option linter.unusedSimpArgs false
set_option maxRecDepth 100000

theorem Is.nil (w : World) : Is w (.slice none 0 0) [] := ⟨none, 0, rfl, Nat.le_refl _, by unfold maxLen; decide, fun _ => rfl, fun _ h => by cases h⟩
theorem is_lit2 (w : World) (o : Obj) (ops : List Int) (h : ops.length ≤ 1000) : Is ((w.alloc o).alloc (.cells (ops.map (Value.int .i64)).toArray 3)) (.slice (some ⟨w.heap.size + 1, 0, none⟩) ops.length ops.length) ops := by
  have e : (w.alloc o).heap.size = w.heap.size + 1 := by simp
  rw [← e]; exact is_lit (w.alloc o) ops h
/-- e returns these numbers; what was there is as it was. -/
def Nums (l : List Int) (w : World) (e : Ending) (w' : World) : Prop := ∃ v, e = .returned v ∧ Is w' v l ∧ Below w.heap.size w w'

set_option maxHeartbeats 4000000 in
theorem sameInts (u v : Value) (l : List Int) (w : World) (hu : Is w u l) (hv : Is w v l) :
    Calls Tryd.prog 13 #[u, v] w fun e w' => Tells (.bool true) w e w' := by
  have lx := hu.len
  obtain ⟨au, cu, e1⟩ := hu.shape
  obtain ⟨av, cv, e2⟩ := hv.shape
  have HU := Lib.hid hu
  have HV := Lib.hid hv
  subst e1 e2
  clear hu hv
  generalize hn : l.length = n at *
  have hN := Lib.hid hn
  clear hn
  go_enter Tryd.func13, Tryd.ntmps13
  go_wp2_with fail
  go_loopw [4, 5] (fun r i wr => ∃ k : Nat, k ≤ n ∧ r = .bool false ∧ i = .int .i64 k ∧ Still w wr) (fun _ i _ => n - (intOf i).toNat)
  case atStart => exact ⟨0, Nat.zero_le _, rfl, rfl, Still.refl _⟩
  case round =>
    obtain ⟨k, hk, rfl, rfl, hst⟩ := hrel
    by_cases hlt : k < n
    · have hd : decide (k < n) = true := by simpa using hlt
      obtain ⟨b, off, c, hsh, -, cells⟩ := (HU.out).at (by have := hN.out; omega)
      obtain ⟨b', off', c', hsh', -, cells'⟩ := (HV.out).at (by have := hN.out; omega)
      have hao : au = some ⟨b, off, none⟩ := by cases hsh; rfl
      have hao' : av = some ⟨b', off', none⟩ := by cases hsh'; rfl
      subst hao hao'
      have x0 := cellP (cells k (by have := hN.out; omega)) (hst.below _)
      have y0 := cellP (cells' k (by have := hN.out; omega)) (hst.below _)
      clear cells cells' hsh hsh'
      have hge : decide (n ≤ k) = false := by simpa using hlt
      go_wp2_with fail
      go_quiet (fail)
      go_wp2_with fail
      go_roundw
      case rel => exact ⟨k + 1, by omega, rfl, by go_num, hst.drewN _⟩
      case measure => simp [intOf]; omega
    · have hd : decide (k < n) = false := by simpa using hlt
      go_wp2_with fail
      go_ret
      exact ⟨rfl, hst⟩

theorem nextI_out {l : List Ins} {n : Int} (h : n < 0 ∨ (l.length : Int) ≤ n) : nextI l n = [] := by unfold nextI; rw [if_pos h]
theorem nextI_in {l : List Ins} {k : Nat} (h : k < l.length) : nextI l (k : Int) = if right (ith l k) = false then [] else if (ith l k).op = 28 then [] else if (ith l k).op = 16 then [(k : Int) + 1 + (ith l k).off] else if jumpsI (ith l k) = true then
    (if (ith l k).off < 0 then [(k : Int) + 1 + (ith l k).off, (k : Int) + 1] else if 0 < (ith l k).off then [(k : Int) + 1, (k : Int) + 1 + (ith l k).off] else [(k : Int) + 1]) else [(k : Int) + 1] := by
  unfold nextI
  rw [if_neg (by omega)]
  simp

set_option maxHeartbeats 4000000 in
theorem nextP_out (v : Value) (l : List Ins) (n : Int) (w : World) (h : Inss w v l) (ho : n < 0 ∨ (l.length : Int) ≤ n) : Calls Tryd.prog 14 #[v, .int .i64 n] w (Nums (nextI l n) w) := by
  rw [nextI_out ho]
  obtain ⟨ao, cap, hsh⟩ := h.shape
  subst hsh
  clear h
  generalize l.length = m at *
  go_enter Tryd.func14, Tryd.ntmps14
  by_cases c : n < 0
  · have d : decide (n < 0) = true := by simpa using c
    go_wp2_with fail
    go_ret
    exact ⟨_, rfl, Is.nil _, Below.refl _ _⟩
  · have d : decide (n < 0) = false := by simpa using c
    have d2 : decide ((m : Int) ≤ n) = true := by simp; omega
    go_wp2_with fail
    go_ret
    exact ⟨_, rfl, Is.nil _, Below.refl _ _⟩

set_option maxHeartbeats 8000000 in
theorem nextP_in (v : Value) (l : List Ins) (k : Nat) (w : World) (h : Inss w v l) (hk : k < l.length) (hlen : l.length ≤ 1000000) (hw : InsWf (ith l k)) : Calls Tryd.prog 14 #[v, .int .i64 k] w (Nums (nextI l k) w) := by
  obtain ⟨b, off, cap, hsh, -, -, hbs, cells⟩ := h.at (by omega)
  subst hsh
  have C := cells k hk
  obtain ⟨R, hR⟩ : ∃ R, R = nextI l (k : Int) := ⟨_, rfl⟩
  rw [← hR]
  rw [nextI_in hk] at hR
  clear cells h
  generalize hm : l.length = m at *
  generalize ith l k = i at *
  have RI := Lib.hid (rightP i hw.op0 hw.op1)
  have JI := Lib.hid (jumpsP i)
  have k0 : 0 ≤ (k : Int) := by omega
  have k1 : (k : Int) < (m : Int) := by omega
  have d0 : decide ((k : Int) < 0) = false := by simp
  have d1 : decide ((m : Int) ≤ (k : Int)) = false := by simp; omega
  have d1' : decide (m ≤ k) = false := by simp; omega
  have HT := Lib.hid (fun (h : right i = true) => tame h)
  have HKM := Lib.hid (show k + 1 ≤ m ∧ m ≤ 1000000 from ⟨hk, hlen⟩)
  clear hw hm hlen hk
  obtain ⟨op, nw, dst, src, ui, f, im, sz⟩ := i
  unfold agg at RI JI
  simp only at RI JI HT hR
  have HR := Lib.hid hR
  clear hR
  have HC := Lib.hid C
  obtain ⟨c0, c1, c2, c3, c4, c5, c6, c7⟩ := C
  simp only at c0 c1 c2 c3 c4 c5 c6 c7
  go_enter Tryd.func14, Tryd.ntmps14
  go_wp2_with fail
  refine ((RI.out) _).mono ?_; rintro e w1 ⟨rfl, b1⟩
  obtain ⟨x0, x1, x2, x3, x4, x5, x6, x7⟩ := (HC.out).past b1
  have B1 := Lib.hid b1
  clear b1 c0 c1 c2 c3 c4 c5 c6 c7
  cases hr : right ⟨op, nw, dst, src, ui, f, im, sz⟩ with
  | false =>
    go_wp2_with fail
    go_ret
    exact ⟨_, rfl, by rw [HR.out, hr]; exact Is.nil _, B1.out⟩
  | true =>
    have hR2 := HR.out
    rw [hr, if_neg (by decide)] at hR2
    have HR2 := Lib.hid hR2
    clear hR2 HR
    have t := HT.out hr
    have hf0 := t.off0
    have hf1 := t.off1
    simp only at hf0 hf1
    obtain ⟨z, hz⟩ : ∃ z : Int, z = (k : Int) + 1 := ⟨_, rfl⟩
    obtain ⟨y, hy⟩ : ∃ y : Int, y = z + f := ⟨_, rfl⟩
    have W1 : IntKind.i64.wrap ((k : Int) + 1) = z := by rw [IntKind.wrap_i64]; have := HKM.out; omega
    have W2 : IntKind.i64.wrap (z + f) = y := by rw [IntKind.wrap_i64]; have := HKM.out; omega
    have HR3 := Lib.hid (show R = if op = 28 then [] else if op = 16 then [y] else if jumpsI ⟨op, nw, dst, src, ui, f, im, sz⟩ = true then (if f < 0 then [y, z] else if 0 < f then [z, y] else [z]) else [z] by rw [HR2.out, hy, hz])
    have HY := Lib.hid (And.intro hz hy)
    clear t hf0 hf1 HR2 hz hy
    by_cases c1 : op = 28
    · subst c1
      go_wp2_with fail
      go_quiet (fail)
      go_wp2_with fail
      go_ret
      exact ⟨_, rfl, by rw [show R = [] from by rw [HR3.out]; simp]; exact Is.nil _, (B1.out).trans (((Still.refl w1).drewN nq).below _)⟩
    have d3 : (op == 28) = false := by simpa using c1
    by_cases c2 : op = 16
    · subst c2
      go_wp2_with fail
      go_quiet (fail)
      go_wp2_with fail
      go_ret
      exact ⟨_, rfl, by rw [show R = [y] from by rw [HR3.out]; simp]; exact is_lit (w1.drewN nq) [y] (by simp), ((B1.out).trans (((Still.refl w1).drewN nq).below _)).trans ((alloc_below _ _).mono (B1.out).size)⟩
    have d4 : (op == 16) = false := by simpa using c2
    go_wp2_with fail
    go_quiet (fail)
    go_wp2_with fail
    refine ((JI.out) _).mono ?_; rintro e w2 ⟨rfl, b2⟩
    have B2 := Lib.hid ((B1.out).trans ((((Still.refl w1).drewN nq).below w.heap.size).trans (b2.mono (B1.out).size)))
    clear b2
    cases hj : jumpsI ⟨op, nw, dst, src, ui, f, im, sz⟩ with
    | false =>
      go_wp2_with fail
      go_ret
      exact ⟨_, rfl, by rw [HR3.out, if_neg c1, if_neg c2, hj, if_neg (by decide)]; exact is_lit w2 [z] (by simp), (B2.out).trans ((alloc_below _ _).mono (B2.out).size)⟩
    | true =>
      by_cases c3 : f = 0
      · have hyz : y = z := by have := (HY.out).2; omega
        have d5 : (y == z) = true := by simpa using hyz
        go_wp2_with fail
        go_ret
        exact ⟨_, rfl, by rw [HR3.out, if_neg c1, if_neg c2, hj, if_pos rfl, if_neg (by omega), if_neg (by omega)]; exact is_lit w2 [z] (by simp), (B2.out).trans ((alloc_below _ _).mono (B2.out).size)⟩
      · have d5 : (y == z) = false := by simp; have := (HY.out).2; omega
        by_cases c4 : f < 0
        · have hRR : R = [y, z] := by rw [HR3.out, if_neg c1, if_neg c2, hj, if_pos rfl, if_pos c4]
          have g0 := (HY.out).2
          have g1 : decide (y ≤ z) = true := by simp; omega
          have g2 : decide (z ≤ y) = false := by simp; omega
          have g3 : decide (y < z) = true := by simp; omega
          have g4 : decide (z < y) = false := by simp; omega
          have g5 : ¬ z < y := by omega
          have g6 : y < z := by omega
          have g7 : ¬ z ≤ y := by omega
          have g8 : y ≤ z := by omega
          clear g0
          go_wp2_with fail
          go_ret
          exact ⟨_, rfl, by rw [hRR]; exact is_lit w2 [y, z] (by simp), (B2.out).trans ((alloc_below _ _).mono (B2.out).size)⟩
        · have hRR : R = [z, y] := by rw [HR3.out, if_neg c1, if_neg c2, hj, if_pos rfl, if_neg c4, if_pos (by omega)]
          have g0 := (HY.out).2
          have g1 : decide (y ≤ z) = false := by simp; omega
          have g2 : decide (z ≤ y) = true := by simp; omega
          have g3 : decide (y < z) = false := by simp; omega
          have g4 : decide (z < y) = true := by simp; omega
          have g5 : ¬ y < z := by omega
          have g6 : z < y := by omega
          have g7 : ¬ y ≤ z := by omega
          have g8 : z ≤ y := by omega
          clear g0
          go_wp2_with fail
          go_ret
          exact ⟨_, rfl, by rw [hRR]; exact is_lit w2 [z, y] (by simp), (B2.out).trans ((alloc_below _ _).mono (B2.out).size)⟩
theorem nextP (v : Value) (l : List Ins) (n : Int) (w : World) (h : Inss w v l) (hlen : l.length ≤ 1000000) (hw : ∀ j, j < l.length → InsWf (ith l j)) : Calls Tryd.prog 14 #[v, .int .i64 n] w (Nums (nextI l n) w) := by
  by_cases ho : n < 0 ∨ (l.length : Int) ≤ n
  · exact nextP_out v l n w h ho
  · have e : n = ((n.toNat : Nat) : Int) := by omega
    rw [e]
    exact nextP_in v l n.toNat w h (by omega) hlen (hw _ (by omega))
set_option maxHeartbeats 4000000 in
theorem refNext_out (v : Value) (l : List Ins) (n : Int) (w : World) (h : Inss w v l) (ho : n < 0 ∨ (l.length : Int) ≤ n) : Calls Tryd.prog 15 #[v, .int .i64 n] w (Nums (nextI l n) w) := by
  rw [nextI_out ho]
  obtain ⟨ao, cap, hsh⟩ := h.shape
  subst hsh
  clear h
  generalize l.length = m at *
  go_enter Tryd.func15, Tryd.ntmps15
  by_cases c : n < 0
  · have d : decide (n < 0) = true := by simpa using c
    go_wp2_with fail
    go_ret
    exact ⟨_, rfl, Is.nil _, Below.refl _ _⟩
  · have d : decide (n < 0) = false := by simpa using c
    have d2 : decide ((m : Int) ≤ n) = true := by simp; omega
    go_wp2_with fail
    go_ret
    exact ⟨_, rfl, Is.nil _, Below.refl _ _⟩

set_option maxHeartbeats 8000000 in
theorem refNext_in (v : Value) (l : List Ins) (k : Nat) (w : World) (h : Inss w v l) (hk : k < l.length) (hlen : l.length ≤ 1000000) (hw : InsWf (ith l k)) : Calls Tryd.prog 15 #[v, .int .i64 k] w (Nums (nextI l k) w) := by
  obtain ⟨b, off, cap, hsh, -, -, hbs, cells⟩ := h.at (by omega)
  subst hsh
  have C := cells k hk
  obtain ⟨R, hR⟩ : ∃ R, R = nextI l (k : Int) := ⟨_, rfl⟩
  rw [← hR]
  rw [nextI_in hk] at hR
  clear cells h
  generalize hm : l.length = m at *
  generalize ith l k = i at *
  have RI := Lib.hid (refRight i)
  have JI := Lib.hid (refCond i)
  have HJC : i.op ≠ 16 → jumpsI i = condI i := fun h => by rw [Bool.eq_iff_iff]; simp [jumpsI, condI]; omega
  have k0 : 0 ≤ (k : Int) := by omega
  have k1 : (k : Int) < (m : Int) := by omega
  have d0 : decide ((k : Int) < 0) = false := by simp
  have d1 : decide ((m : Int) ≤ (k : Int)) = false := by simp; omega
  have d1' : decide (m ≤ k) = false := by simp; omega
  have HT := Lib.hid (fun (h : right i = true) => tame h)
  have HKM := Lib.hid (show k + 1 ≤ m ∧ m ≤ 1000000 from ⟨hk, hlen⟩)
  clear hw hm hlen hk
  obtain ⟨op, nw, dst, src, ui, f, im, sz⟩ := i
  unfold agg at RI JI
  simp only at RI JI HT HJC hR
  have HJC := Lib.hid HJC
  have HR := Lib.hid hR
  clear hR
  have HC := Lib.hid C
  obtain ⟨c0, c1, c2, c3, c4, c5, c6, c7⟩ := C
  simp only at c0 c1 c2 c3 c4 c5 c6 c7
  go_enter Tryd.func15, Tryd.ntmps15
  go_wp2_with fail
  refine ((RI.out) _).mono ?_; rintro e w1 ⟨rfl, b1⟩
  obtain ⟨x0, x1, x2, x3, x4, x5, x6, x7⟩ := (HC.out).past b1
  have B1 := Lib.hid b1
  clear b1 c0 c1 c2 c3 c4 c5 c6 c7
  cases hr : right ⟨op, nw, dst, src, ui, f, im, sz⟩ with
  | false =>
    go_wp2_with fail
    go_ret
    exact ⟨_, rfl, by rw [HR.out, hr]; exact Is.nil _, B1.out⟩
  | true =>
    have hR2 := HR.out
    rw [hr, if_neg (by decide)] at hR2
    have HR2 := Lib.hid hR2
    clear hR2 HR
    have t := HT.out hr
    have hf0 := t.off0
    have hf1 := t.off1
    simp only at hf0 hf1
    obtain ⟨z, hz⟩ : ∃ z : Int, z = (k : Int) + 1 := ⟨_, rfl⟩
    obtain ⟨y, hy⟩ : ∃ y : Int, y = z + f := ⟨_, rfl⟩
    have W1 : IntKind.i64.wrap ((k : Int) + 1) = z := by rw [IntKind.wrap_i64]; have := HKM.out; omega
    have W2 : IntKind.i64.wrap (z + f) = y := by rw [IntKind.wrap_i64]; have := HKM.out; omega
    have HR3 := Lib.hid (show R = if op = 28 then [] else if op = 16 then [y] else if jumpsI ⟨op, nw, dst, src, ui, f, im, sz⟩ = true then (if f < 0 then [y, z] else if 0 < f then [z, y] else [z]) else [z] by rw [HR2.out, hy, hz])
    have HY := Lib.hid (And.intro hz hy)
    clear t hf0 hf1 HR2 hz hy
    by_cases c1 : op = 28
    · subst c1
      go_wp2_with fail
      go_ret
      exact ⟨_, rfl, by rw [show R = [] from by rw [HR3.out]; simp]; exact Is.nil _, (B1.out).trans ((alloc_below _ _).mono (B1.out).size)⟩
    have d3 : (op == 28) = false := by simpa using c1
    by_cases c2 : op = 16
    · subst c2
      go_wp2_with fail
      go_ret
      exact ⟨_, rfl, by rw [show R = [y] from by rw [HR3.out]; simp]; exact is_lit2 w1 _ [y] (by simp), ((B1.out).trans ((alloc_below _ _).mono (B1.out).size)).trans ((alloc_below _ _).mono (Nat.le_trans (B1.out).size (alloc_below _ _).size))⟩
    have d4 : (op == 16) = false := by simpa using c2
    have hj := HJC.out c2
    have HR4 := Lib.hid (show R = if condI ⟨op, nw, dst, src, ui, f, im, sz⟩ = true then (if f < 0 then [y, z] else if 0 < f then [z, y] else [z]) else [z] by rw [HR3.out, if_neg c1, if_neg c2, hj])
    clear HR3 hj HJC
    have O2 := Lib.hid (oc_new w1 27 (.int .u8 op) (.bool nw) (.int .i64 dst) (.int .i64 src) (.bool ui) (.int .i64 f) (.int .i64 im) (.int .i64 sz))
    have B2 := Lib.hid ((B1.out).trans ((alloc_below w1 (Obj.cells #[.int .u8 op, .bool nw, .int .i64 dst, .int .i64 src, .bool ui, .int .i64 f, .int .i64 im, .int .i64 sz] 27)).mono (B1.out).size))
    go_wp2_with fail
    refine ((JI.out) _).mono ?_; rintro e w3 ⟨rfl, b3⟩
    have O3 := Lib.hid ((O2.out).past b3)
    have B3 := Lib.hid ((B2.out).trans (b3.mono (B2.out).size))
    obtain ⟨y0, y1, y2, y3, y4, y5, y6, y7⟩ := (O3.out).cells
    clear b3
    cases hj : condI ⟨op, nw, dst, src, ui, f, im, sz⟩ with
    | false =>
      go_wp2_with fail
      refine ((JI.out) _).mono ?_; rintro e w4 ⟨rfl, b4⟩
      have B4 := Lib.hid ((B3.out).trans (b4.mono (B3.out).size))
      clear b4
      rw [hj]
      go_wp2_with fail
      go_ret
      exact ⟨_, rfl, by rw [show R = [z] from by rw [HR4.out, hj, if_neg (by decide)]]; exact is_lit w4 [z] (by simp), (B4.out).trans ((alloc_below _ _).mono (B4.out).size)⟩
    | true =>
      by_cases c3 : f < 0
      · have g3 : decide (y < z) = true := by simp; have := (HY.out).2; omega
        go_wp2_with fail
        go_ret
        exact ⟨_, rfl, by rw [show R = [y, z] from by rw [HR4.out, hj, if_pos rfl, if_pos c3]]; exact is_lit w3 [y, z] (by simp), (B3.out).trans ((alloc_below _ _).mono (B3.out).size)⟩
      · have g3 : decide (y < z) = false := by simp; have := (HY.out).2; omega
        go_wp2_with fail
        refine ((JI.out) _).mono ?_; rintro e w4 ⟨rfl, b4⟩
        have B4 := Lib.hid ((B3.out).trans (b4.mono (B3.out).size))
        clear b4
        rw [hj]
        by_cases c4 : 0 < f
        · have g4 : decide (z < y) = true := by simp; have := (HY.out).2; omega
          go_wp2_with fail
          go_ret
          exact ⟨_, rfl, by rw [show R = [z, y] from by rw [HR4.out, hj, if_pos rfl, if_neg (by omega), if_pos (by omega)]]; exact is_lit w4 [z, y] (by simp), (B4.out).trans ((alloc_below _ _).mono (B4.out).size)⟩
        · have g4 : decide (z < y) = false := by simp; have := (HY.out).2; omega
          go_wp2_with fail
          go_ret
          exact ⟨_, rfl, by rw [show R = [z] from by rw [HR4.out, hj, if_pos rfl, if_neg (by omega), if_neg (by omega)]]; exact is_lit w4 [z] (by simp), (B4.out).trans ((alloc_below _ _).mono (B4.out).size)⟩
theorem refNext (v : Value) (l : List Ins) (n : Int) (w : World) (h : Inss w v l) (hlen : l.length ≤ 1000000) (hw : ∀ j, j < l.length → InsWf (ith l j)) : Calls Tryd.prog 15 #[v, .int .i64 n] w (Nums (nextI l n) w) := by
  by_cases ho : n < 0 ∨ (l.length : Int) ≤ n
  · exact refNext_out v l n w h ho
  · have e : n = ((n.toNat : Nat) : Int) := by omega
    rw [e]
    exact refNext_in v l n.toNat w h (by omega) hlen (hw _ (by omega))
end Go.Proofs.YtmkhcgfbeeimaaaDoor
