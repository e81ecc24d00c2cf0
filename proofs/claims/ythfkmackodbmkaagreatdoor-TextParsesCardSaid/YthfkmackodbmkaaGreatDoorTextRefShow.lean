/- The document's own text of an instruction. -/
import Derived.Test.YthfkmackodbmkaaGreatDoorTextRef
import Derived.Test.YthfkmackodbmkaaGreatDoorTextBuild
import Derived.Test.YthfkmackodbmkaaGreatDoorInsRef
namespace Go.Proofs.YthfkmackodbmkaaGreatDoor
open Go.RowKit
set_option linter.unusedVariables false
set_option linter.unusedSimpArgs false
set_option maxRecDepth 100000
set_option maxHeartbeats 2000000

theorem regD (n : Nat) (hn : n ≤ 10) (w : World) (L : Lay w) : Calls Tryz.prog 106 #[.int .i64 n] w fun e w' => e = .returned (str (regs.getD n [])) ∧ Below w.heap.size w w' := by
  have I := itoaP (n : Int) (by omega) (by omega) w L
  have il := itoa_short (n : Int) (by omega) (by omega)
  have C1 := run_cat (P := Tryz.prog) [114] (Lib.itoa (n : Int)) (by simp; omega)
  have rn := reg_name ⟨n, by omega⟩
  simp only at rn
  simp only [List.cons_append, List.nil_append] at C1
  rw [rn] at C1
  generalize regs.getD n [] = rk at C1
  clear il rn
  go_enter Tryz.func106, Tryz.ntmps106
  go_wp2_with fail
  refine I.mono ?_; rintro e w2 ⟨rfl, b2⟩
  go_wp2_with fail
  go_ret
  exact ⟨rfl, b2⟩
theorem secondD (op : Int) (nw : Bool) (d : Int) (src : Nat) (hs : src ≤ 10) (ui : Bool) (off im sz : Int) (h2 : -9223372036854775808 ≤ im) (h3 : im ≤ 9223372036854775807) (w : World) (L : Lay w) :
    Calls Tryz.prog 108 #[.agg #[.int .u8 op, .bool nw, .int .i64 d, .int .i64 src, .bool ui, .int .i64 off, .int .i64 im, .int .i64 sz]] w fun e w' => e = .returned (str (secondS ⟨op, nw, d, src, ui, off, im, sz⟩)) ∧ Below w.heap.size w w' := by
  have O := oc_new w 47 (.int .u8 op) (.bool nw) (.int .i64 d) (.int .i64 src) (.bool ui) (.int .i64 off) (.int .i64 im) (.int .i64 sz)
  have B := alloc_below w (.cells #[.int .u8 op, .bool nw, .int .i64 d, .int .i64 src, .bool ui, .int .i64 off, .int .i64 im, .int .i64 sz] 47)
  obtain ⟨z0, z1, z2, z3, z4, z5, z6, z7⟩ := O.cells
  cases ui with
  | true =>
    have I := itoaP im h2 h3 _ (L.past B)
    have hs : secondS ⟨op, nw, d, src, true, off, im, sz⟩ = Lib.itoa im := rfl
    rw [hs]
    clear O L hs
    go_enter Tryz.func108, Tryz.ntmps108
    go_wp2_with fail
    refine I.mono ?_; rintro e w' ⟨rfl, hb⟩
    have B' := B.trans (hb.mono B.size)
    go_wp2_with fail
    go_ret
    exact ⟨rfl, B'⟩
  | false =>
    have I := regD src hs _ (L.past B)
    have hs : secondS ⟨op, nw, d, src, false, off, im, sz⟩ = regs.getD src [] := regS_nat src hs
    rw [hs]
    clear O L hs
    go_enter Tryz.func108, Tryz.ntmps108
    go_wp2_with fail
    refine I.mono ?_; rintro e w' ⟨rfl, hb⟩
    have B' := B.trans (hb.mono B.size)
    go_wp2_with fail
    go_ret
    exact ⟨rfl, B'⟩
theorem itoa_neg (n : Int) (h : n < 0) : Lib.itoa n = 45 :: Lib.itoa (-n) := by
  unfold Lib.itoa
  rw [if_pos h, if_neg (by omega)]
  congr 2
  omega
theorem farD (off : Int) (h0 : -32768 ≤ off) (h1 : off < 32768) (w : World) (L : Lay w) :
    Calls Tryz.prog 104 #[.int .i64 off] w fun e w' => e = .returned (str (farS off [])) ∧ Below w.heap.size w w' := by
  have I := itoaP off (by omega) (by omega) w L
  have hl := itoa_short off (by omega) (by omega)
  by_cases hn : off < 0
  · have hd : decide (off < 0) = true := by simpa using hn
    have hf : farS off [] = Lib.itoa off := by unfold farS; rw [if_pos hn, itoa_neg off hn]; rfl
    rw [hf]
    clear hf L
    go_enter Tryz.func104, Tryz.ntmps104
    go_wp2_with fail
    refine I.mono ?_; rintro e w' ⟨rfl, hb⟩
    go_wp2_with fail
    go_ret
    exact ⟨rfl, hb⟩
  · have hd : decide (off < 0) = false := by simpa using hn
    have hf : farS off [] = 43 :: Lib.itoa off := by unfold farS; rw [if_neg hn]; rfl
    rw [hf]
    have C1 := run_cat (P := Tryz.prog) [43] (Lib.itoa off) (by simp; omega)
    clear hf L
    go_enter Tryz.func104, Tryz.ntmps104
    go_wp2_with fail
    refine I.mono ?_; rintro e w' ⟨rfl, hb⟩
    go_wp2_with fail
    go_ret
    exact ⟨rfl, hb⟩
theorem cellD (n : Nat) (off : Int) (hn : n ≤ 10) (h0 : -32768 ≤ off) (h1 : off < 32768) (w : World) (L : Lay w) :
    Calls Tryz.prog 107 #[.int .i64 n, .int .i64 off] w fun e w' => e = .returned (str (cellS n off)) ∧ Below w.heap.size w w' := by
  obtain ⟨rs, hrs⟩ : ∃ rs, rs = regs.getD n [] := ⟨_, rfl⟩
  have hrl : rs.length ≤ 3 := by have := regs_get (n : Int) (by omega) (by omega); rw [hrs]; rw [Int.toNat_natCast] at this; rw [this]; exact regS_len n
  have RR := Lib.hid (regD n hn w L)
  rw [← hrs] at RR
  have HL := Lib.hid L
  by_cases hneg : off < 0
  · have hd : decide (off < 0) = true := by simpa using hneg
    have hs : cellS n off = 91 :: (rs ++ (32 :: 45 :: 32 :: (Lib.itoa (-off) ++ [93]))) := by
      unfold cellS farS
      rw [if_pos hneg, ← regs_get n (by omega) (by omega), hrs]
      simp
    rw [hs]
    have hw : wrap64 (-off) = -off := IntWalk.wrap64_in _ ⟨by omega, by omega⟩
    have hw2 : IntKind.i64.wrap (-off) = -off := by rw [IntKind.wrap_i64]; omega
    have IT := Lib.hid (fun W (LW : Lay W) => itoaP (-off) (by omega) (by omega) W LW)
    have il := itoa_short (-off) (by omega) (by omega)
    have HW := Lib.hid (And.intro hw hw2)
    generalize Lib.itoa (-off) = it at IT il
    have C1 := run_cat (P := Tryz.prog) [91] rs (by simp; omega)
    have C2 := run_cat (P := Tryz.prog) (91 :: rs) [32, 45, 32] (by simp; omega)
    have C3 := run_cat (P := Tryz.prog) (91 :: (rs ++ [32, 45, 32])) it (by simp; omega)
    have C4 := run_cat (P := Tryz.prog) (91 :: (rs ++ 32 :: 45 :: 32 :: it)) [93] (by simp; omega)
    simp only [List.cons_append, List.append_assoc, List.nil_append] at C1 C2 C3 C4
    clear hs hrs hn L h0 h1 il hrl
    go_enter Tryz.func107, Tryz.ntmps107
    go_wp2_with fail
    refine (RR.out).mono ?_; rintro e w2 ⟨rfl, b2⟩
    have I2 := (IT.out) w2 ((HL.out).past b2)
    have HB2 := Lib.hid b2
    clear b2
    go_wp2_with fail
    refine I2.mono ?_; rintro e w3 ⟨rfl, b3⟩
    have B3 := Lib.hid ((HB2.out).trans (b3.mono (HB2.out).size))
    clear b3
    go_wp2_with fail
    go_ret
    exact ⟨rfl, B3.out⟩
  · have hd : decide (off < 0) = false := by simpa using hneg
    have hs : cellS n off = 91 :: (rs ++ (32 :: 43 :: 32 :: (Lib.itoa off ++ [93]))) := by
      unfold cellS farS
      rw [if_neg hneg, ← regs_get n (by omega) (by omega), hrs]
      simp
    rw [hs]
    have IT := Lib.hid (fun W (LW : Lay W) => itoaP off (by omega) (by omega) W LW)
    have il := itoa_short off (by omega) (by omega)
    generalize Lib.itoa off = it at IT il
    have C1 := run_cat (P := Tryz.prog) [91] rs (by simp; omega)
    have C2 := run_cat (P := Tryz.prog) (91 :: rs) [32, 43, 32] (by simp; omega)
    have C3 := run_cat (P := Tryz.prog) (91 :: (rs ++ [32, 43, 32])) it (by simp; omega)
    have C4 := run_cat (P := Tryz.prog) (91 :: (rs ++ 32 :: 43 :: 32 :: it)) [93] (by simp; omega)
    simp only [List.cons_append, List.append_assoc, List.nil_append] at C1 C2 C3 C4
    clear hs hrs hn L h0 h1 il hrl
    go_enter Tryz.func107, Tryz.ntmps107
    go_wp2_with fail
    refine (RR.out).mono ?_; rintro e w2 ⟨rfl, b2⟩
    have I2 := (IT.out) w2 ((HL.out).past b2)
    have HB2 := Lib.hid b2
    clear b2
    go_wp2_with fail
    refine I2.mono ?_; rintro e w3 ⟨rfl, b3⟩
    have B3 := Lib.hid ((HB2.out).trans (b3.mono (HB2.out).size))
    clear b3
    go_wp2_with fail
    go_ret
    exact ⟨rfl, B3.out⟩
/-- The words, from Add on. -/
def wordsL : List Str := [[97, 100, 100], [115, 117, 98], [109, 117, 108], [100, 105, 118], [109, 111, 100], [97, 110, 100], [111, 114], [120, 111, 114], [115, 104, 108], [115, 104, 114], [115, 97, 114], [109, 111, 118], [110, 101, 103], [], [], [], [106, 101, 113], [106, 110, 101], [106, 103, 116], [106, 103, 101], [106, 108, 116], [106, 108, 101], [106, 115, 103, 116], [106, 115, 103, 101], [106, 115, 108, 116], [106, 115, 108, 101], [106, 115, 101, 116]]
theorem wordsD (w : World) : Calls Tryz.prog 103 #[] w fun e w' => ∃ v, e = .returned v ∧ Ss w' v wordsL ∧ Below w.heap.size w w' := by
  have S := Lib.hid (ss_new w wordsL (by decide))
  have B := Lib.hid (alloc_below w (.cells (wordsL.map str).toArray 9))
  go_enter Tryz.func103, Tryz.ntmps103
  go_wp2_with fail
  go_ret
  exact ⟨_, rfl, S.out, B.out⟩
theorem block8 {w : World} {b : Nat} {v0 v1 v2 v3 v4 v5 v6 v7 : Value} {t : TypeId} {fr : Nat × Nat} (h : w.heap[b]? = some (.cells #[v0, v1, v2, v3, v4, v5, v6, v7] t fr)) :
    w.cell? ⟨b, 0, none⟩ = some v0 ∧ w.cell? ⟨b, 1, none⟩ = some v1 ∧ w.cell? ⟨b, 2, none⟩ = some v2 ∧ w.cell? ⟨b, 3, none⟩ = some v3 ∧ w.cell? ⟨b, 4, none⟩ = some v4 ∧ w.cell? ⟨b, 5, none⟩ = some v5 ∧ w.cell? ⟨b, 6, none⟩ = some v6 ∧ w.cell? ⟨b, 7, none⟩ = some v7 := by
  simp [World.cell?, h]
theorem oneD_exit (op : Int) (nw : Bool) (d : Nat) (hd : d ≤ 10) (src : Nat) (hs : src ≤ 10) (ui : Bool) (off im sz : Int) (f0 : -32768 ≤ off) (f1 : off < 32768) (m0 : -9223372036854775808 ≤ im) (m1 : im ≤ 9223372036854775807) (z0 : 0 ≤ sz) (z1 : sz ≤ 8) (hlo : decide (op ≤ 27) = false) (c28 : (op == 28) = true) (hnw : nw = false) (w : World) (L : Lay w) :
    Calls Tryz.prog 38 #[.agg #[.int .u8 op, .bool nw, .int .i64 d, .int .i64 src, .bool ui, .int .i64 off, .int .i64 im, .int .i64 sz]] w fun e w' => e = .returned (str [101, 120, 105, 116]) ∧ Below w.heap.size w w' := by
  have B := alloc_below w (.cells #[.int .u8 op, .bool nw, .int .i64 d, .int .i64 src, .bool ui, .int .i64 off, .int .i64 im, .int .i64 sz] 47)
  have hb := heap_alloc_new w (.cells #[.int .u8 op, .bool nw, .int .i64 d, .int .i64 src, .bool ui, .int .i64 off, .int .i64 im, .int .i64 sz] 47)
  have HL := Lib.hid (L.past B)
  have HB := Lib.hid B
  have RD := Lib.hid (fun W (LW : Lay W) => regD d hd W LW)
  have SE := Lib.hid (fun W (LW : Lay W) => secondD op nw d src hs ui off im sz m0 m1 W LW)
  have FA := Lib.hid (fun W (LW : Lay W) => farD off f0 f1 W LW)
  have CD := Lib.hid (fun W (LW : Lay W) => cellD d off hd f0 f1 W LW)
  have CS := Lib.hid (fun W (LW : Lay W) => cellD src off hs f0 f1 W LW)
  have IT := Lib.hid (fun W (LW : Lay W) => itoaP sz (by omega) (by omega) W LW)
  have lr : (regs.getD d []).length ≤ 3 := by rw [← regS_nat d hd]; exact regS_len d
  have ls : (secondS ⟨op, nw, d, src, ui, off, im, sz⟩).length ≤ 20 := by
    unfold secondS
    cases ui
    · show (regS src).length ≤ 20; have := regS_len src; omega
    · exact itoa_short im m0 m1
  have lf := farS_len off [] f0 f1 (by decide)
  have lc : ∀ n, (cellS n off).length ≤ 50 := by
    intro n
    have := regS_len n
    have := farS_len off [32] f0 f1 (by decide)
    simp [cellS]; omega
  have lcd := lc d
  have lcs := lc src
  have li := itoa_short sz (by omega) (by omega)
  clear lc
  generalize regs.getD d [] = rs at RD lr ⊢
  generalize secondS ⟨op, nw, d, src, ui, off, im, sz⟩ = ss at SE ls ⊢
  generalize farS off [] = fs at FA lf ⊢
  generalize cellS d off = cd at CD lcd ⊢
  generalize cellS src off = cs at CS lcs ⊢
  generalize Lib.itoa sz = it at IT li ⊢
  have HNW := Lib.hid hnw
  clear hnw
  clear B hd hs f0 f1 m0 m1 z0 z1 L
  obtain rfl := HNW.out
  obtain ⟨q0, q1, q2, q3, q4, q5, q6, q7⟩ := block8 hb
  clear hb
  go_enter Tryz.func38, Tryz.ntmps38
  go_wp2_with fail
  go_ret
  exact ⟨rfl, HB.out⟩
theorem oneD_jump (op : Int) (nw : Bool) (d : Nat) (hd : d ≤ 10) (src : Nat) (hs : src ≤ 10) (ui : Bool) (off im sz : Int) (f0 : -32768 ≤ off) (f1 : off < 32768) (m0 : -9223372036854775808 ≤ im) (m1 : im ≤ 9223372036854775807) (z0 : 0 ≤ sz) (z1 : sz ≤ 8) (k : Nat) (hk : k < 27) (wd : Str) (hwd : wordsL.getD k [] = wd) (hwl : wd.length ≤ 4) (hlo : decide (op ≤ 27) = true) (hsub : IntKind.u8.wrap (op - 1) = (k : Int)) (c28 : (op == 28) = false) (c16 : (op == 16) = true) (hnw : nw = false) (w : World) (L : Lay w) :
    Calls Tryz.prog 38 #[.agg #[.int .u8 op, .bool nw, .int .i64 d, .int .i64 src, .bool ui, .int .i64 off, .int .i64 im, .int .i64 sz]] w fun e w' => e = .returned (str (106 :: 117 :: 109 :: 112 :: 32 :: farS off [])) ∧ Below w.heap.size w w' := by
  have B := alloc_below w (.cells #[.int .u8 op, .bool nw, .int .i64 d, .int .i64 src, .bool ui, .int .i64 off, .int .i64 im, .int .i64 sz] 47)
  have hb := heap_alloc_new w (.cells #[.int .u8 op, .bool nw, .int .i64 d, .int .i64 src, .bool ui, .int .i64 off, .int .i64 im, .int .i64 sz] 47)
  have HL := Lib.hid (L.past B)
  have HB := Lib.hid B
  have RD := Lib.hid (fun W (LW : Lay W) => regD d hd W LW)
  have SE := Lib.hid (fun W (LW : Lay W) => secondD op nw d src hs ui off im sz m0 m1 W LW)
  have FA := Lib.hid (fun W (LW : Lay W) => farD off f0 f1 W LW)
  have CD := Lib.hid (fun W (LW : Lay W) => cellD d off hd f0 f1 W LW)
  have CS := Lib.hid (fun W (LW : Lay W) => cellD src off hs f0 f1 W LW)
  have IT := Lib.hid (fun W (LW : Lay W) => itoaP sz (by omega) (by omega) W LW)
  have lr : (regs.getD d []).length ≤ 3 := by rw [← regS_nat d hd]; exact regS_len d
  have ls : (secondS ⟨op, nw, d, src, ui, off, im, sz⟩).length ≤ 20 := by
    unfold secondS
    cases ui
    · show (regS src).length ≤ 20; have := regS_len src; omega
    · exact itoa_short im m0 m1
  have lf := farS_len off [] f0 f1 (by decide)
  have lc : ∀ n, (cellS n off).length ≤ 50 := by
    intro n
    have := regS_len n
    have := farS_len off [32] f0 f1 (by decide)
    simp [cellS]; omega
  have lcd := lc d
  have lcs := lc src
  have li := itoa_short sz (by omega) (by omega)
  clear lc
  generalize regs.getD d [] = rs at RD lr ⊢
  generalize secondS ⟨op, nw, d, src, ui, off, im, sz⟩ = ss at SE ls ⊢
  generalize farS off [] = fs at FA lf ⊢
  generalize cellS d off = cd at CD lcd ⊢
  generalize cellS src off = cs at CS lcs ⊢
  generalize Lib.itoa sz = it at IT li ⊢
  have HNW := Lib.hid hnw
  clear hnw
  have C1 := run_cat (P := Tryz.prog) ([106, 117, 109, 112, 32]) fs (by simp; omega)
  try simp only [List.cons_append, List.append_assoc, List.nil_append] at C1
  clear B hd hs f0 f1 m0 m1 z0 z1 L
  go_enter Tryz.func38, Tryz.ntmps38
  go_wp2_with fail
  generalize w.alloc (.cells #[.int .u8 op, .bool nw, .int .i64 d, .int .i64 src, .bool ui, .int .i64 off, .int .i64 im, .int .i64 sz] 47) = w1 at *
  have hk0 : w.heap.size < w1.heap.size := (Array.getElem?_eq_some_iff.1 hb).1
  have HK := Lib.hid hk
  have HWD := Lib.hid hwd
  clear hk hwd
  refine wp_region_held_drew (S := fun w' => w'.heap[w.heap.size]? = some (.cells #[.int .u8 op, .bool nw, .int .i64 d, .int .i64 src, .bool ui, .int .i64 off, .int .i64 im, .int .i64 sz] 47 (0, 0))) (by kernel_rfl) hb (fun S0 => ?_)
  refine wpAnyH_take (i := 1) (v := ?v1t1) rfl (by kernel_rfl) (by kernel_rfl) (by kernel_rfl) (fun _ _ _ h => h) (Or.inl ⟨by rfl, ?y1t1⟩) S0 ?z1t1
  case y1t1 => intro w_ hSw; go_simp; with_reducible rfl
  try simp only [List.getElem_toArray, List.getElem_cons_zero, List.getElem_cons_succ, Act.put, List.setIfInBounds_toArray, List.set_cons_zero, List.set_cons_succ]
  refine wpAnyH_take (i := 2) (v := ?v2t2) rfl (by kernel_rfl) (by kernel_rfl) (by kernel_rfl) (fun _ _ _ h => h) (Or.inl ⟨by rfl, ?y2t2⟩) S0 ?z2t2
  case y2t2 => intro w_ hSw; (try dsimp only at hSw); obtain ⟨g0, g1, g2, g3, g4, g5, g6, g7⟩ := block8 hSw; go_simp; with_reducible rfl
  try simp only [List.getElem_toArray, List.getElem_cons_zero, List.getElem_cons_succ, Act.put, List.setIfInBounds_toArray, List.set_cons_zero, List.set_cons_succ]
  refine wpAnyH_take (i := 3) (v := ?v3t3) rfl (by kernel_rfl) (by kernel_rfl) (by kernel_rfl) (fun _ _ _ h => h) (Or.inl ⟨by rfl, ?y3t3⟩) S0 ?z3t3
  case y3t3 => intro w_ hSw; go_simp; with_reducible rfl
  try simp only [List.getElem_toArray, List.getElem_cons_zero, List.getElem_cons_succ, Act.put, List.setIfInBounds_toArray, List.set_cons_zero, List.set_cons_succ]
  refine wpAnyH_ready (rs := [0]) (by kernel_rfl) (by simp) ?_
  refine AllReadyH.cons rfl (fun K hK => ?_) AllReadyH.nil
  go_simp
  refine (wordsD w1.drew).mono ?_; rintro e w2 ⟨v, rfl, hv, hbl⟩
  have b12 : Below w1.heap.size w1 w2 := ⟨hbl.os, hbl.tape, hbl.output, hbl.size, fun k h => hbl.block k h⟩
  have HB2 := Lib.hid ((HB.out).trans (b12.mono (HB.out).size))
  have HL2 := Lib.hid ((HL.out).past b12)
  have hb2 := (b12.block _ hk0).trans hb
  obtain ⟨ao, cap, hsh⟩ := hv.shape
  have e11 : wordsL.length = 27 := rfl
  rw [e11] at hsh
  subst hsh
  obtain ⟨g, o, rfl, y0, y1, y2, y3, y4⟩ := hv.at (by decide)
  have y5 := y4 k (by have : wordsL.length = 27 := rfl; have := HK.out; omega)
  rw [HWD.out] at y5
  have p2 : (k : Int) < 27 := by have := HK.out; omega
  clear hbl hv y4 S0 y0 y1 y2 y3 e11 b12 hb
  try go_wp2_with fail
  refine hK.out _ _ hb2 (fun _ => ?_)
  clear hK K
  try simp only [List.getElem_toArray, List.getElem_cons_zero, List.getElem_cons_succ, Act.put, List.setIfInBounds_toArray, List.set_cons_zero, List.set_cons_succ]
  refine wpAnyH_ready (rs := [4]) (by kernel_rfl) (by simp) ?_
  refine AllReadyH.cons rfl (fun K hK => ?_) AllReadyH.nil
  go_simp
  refine hK.out _ _ hb2 (fun _ => ?_)
  clear hK K
  try simp only [List.getElem_toArray, List.getElem_cons_zero, List.getElem_cons_succ, Act.put, List.setIfInBounds_toArray, List.set_cons_zero, List.set_cons_succ]
  refine wpAnyH_ready (rs := [5]) (by kernel_rfl) (by simp) ?_
  refine AllReadyH.cons rfl (fun K hK => ?_) AllReadyH.nil
  go_simp
  refine hK.out _ _ hb2 (fun _ => ?_)
  clear hK K
  try simp only [List.getElem_toArray, List.getElem_cons_zero, List.getElem_cons_succ, Act.put, List.setIfInBounds_toArray, List.set_cons_zero, List.set_cons_succ]
  refine wpAnyH_take (i := 6) (v := ?v6t4) rfl (by kernel_rfl) (by kernel_rfl) (by kernel_rfl) (fun _ _ _ h => h) (Or.inl ⟨by rfl, ?y6t4⟩) hb2 ?z6t4
  case y6t4 => intro w_ hSw; go_simp; with_reducible rfl
  try simp only [List.getElem_toArray, List.getElem_cons_zero, List.getElem_cons_succ, Act.put, List.setIfInBounds_toArray, List.set_cons_zero, List.set_cons_succ]
  refine wpAnyH_done (by kernel_rfl) ?_ _
  clear p2 y5
  obtain ⟨q0, q1, q2, q3, q4, q5, q6, q7⟩ := block8 hb2
  have hk2 : w.heap.size < w2.heap.size := (Array.getElem?_eq_some_iff.1 hb2).1
  obtain rfl := HNW.out
  clear hb2
  go_wp2_with fail
  refine ((FA.out) _ HL2.out).mono ?_; rintro e w3 ⟨rfl, b3⟩
  have HB3 := Lib.hid ((HB2.out).trans (b3.mono (HB2.out).size))
  clear b3
  go_wp2_with fail
  go_ret
  exact ⟨rfl, HB3.out⟩
theorem oneD_neg (op : Int) (nw : Bool) (d : Nat) (hd : d ≤ 10) (src : Nat) (hs : src ≤ 10) (ui : Bool) (off im sz : Int) (f0 : -32768 ≤ off) (f1 : off < 32768) (m0 : -9223372036854775808 ≤ im) (m1 : im ≤ 9223372036854775807) (z0 : 0 ≤ sz) (z1 : sz ≤ 8) (k : Nat) (hk : k < 27) (wd : Str) (hwd : wordsL.getD k [] = wd) (hwl : wd.length ≤ 4) (hlo : decide (op ≤ 27) = true) (hsub : IntKind.u8.wrap (op - 1) = (k : Int)) (c28 : (op == 28) = false) (c16 : (op == 16) = false) (c14 : (op == 14) = false) (c15 : (op == 15) = false) (c13 : (op == 13) = true) (nm : Str) (hnm : nm = if nw then wd ++ [51, 50] else wd) (w : World) (L : Lay w) :
    Calls Tryz.prog 38 #[.agg #[.int .u8 op, .bool nw, .int .i64 d, .int .i64 src, .bool ui, .int .i64 off, .int .i64 im, .int .i64 sz]] w fun e w' => e = .returned (str (nm ++ 32 :: regs.getD d [])) ∧ Below w.heap.size w w' := by
  have B := alloc_below w (.cells #[.int .u8 op, .bool nw, .int .i64 d, .int .i64 src, .bool ui, .int .i64 off, .int .i64 im, .int .i64 sz] 47)
  have hb := heap_alloc_new w (.cells #[.int .u8 op, .bool nw, .int .i64 d, .int .i64 src, .bool ui, .int .i64 off, .int .i64 im, .int .i64 sz] 47)
  have HL := Lib.hid (L.past B)
  have HB := Lib.hid B
  have RD := Lib.hid (fun W (LW : Lay W) => regD d hd W LW)
  have SE := Lib.hid (fun W (LW : Lay W) => secondD op nw d src hs ui off im sz m0 m1 W LW)
  have FA := Lib.hid (fun W (LW : Lay W) => farD off f0 f1 W LW)
  have CD := Lib.hid (fun W (LW : Lay W) => cellD d off hd f0 f1 W LW)
  have CS := Lib.hid (fun W (LW : Lay W) => cellD src off hs f0 f1 W LW)
  have IT := Lib.hid (fun W (LW : Lay W) => itoaP sz (by omega) (by omega) W LW)
  have lr : (regs.getD d []).length ≤ 3 := by rw [← regS_nat d hd]; exact regS_len d
  have ls : (secondS ⟨op, nw, d, src, ui, off, im, sz⟩).length ≤ 20 := by
    unfold secondS
    cases ui
    · show (regS src).length ≤ 20; have := regS_len src; omega
    · exact itoa_short im m0 m1
  have lf := farS_len off [] f0 f1 (by decide)
  have lc : ∀ n, (cellS n off).length ≤ 50 := by
    intro n
    have := regS_len n
    have := farS_len off [32] f0 f1 (by decide)
    simp [cellS]; omega
  have lcd := lc d
  have lcs := lc src
  have li := itoa_short sz (by omega) (by omega)
  clear lc
  generalize regs.getD d [] = rs at RD lr ⊢
  generalize secondS ⟨op, nw, d, src, ui, off, im, sz⟩ = ss at SE ls ⊢
  generalize farS off [] = fs at FA lf ⊢
  generalize cellS d off = cd at CD lcd ⊢
  generalize cellS src off = cs at CS lcs ⊢
  generalize Lib.itoa sz = it at IT li ⊢
  have lm : nm.length ≤ 6 := by rw [hnm]; split <;> (try simp) <;> omega
  have CN := run_cat (P := Tryz.prog) wd [51, 50] (by simp; omega)
  have C1 := run_cat (P := Tryz.prog) (nm) [32] (by simp; omega)
  have C2 := run_cat (P := Tryz.prog) ((nm) ++ [32]) rs (by simp; omega)
  try simp only [List.cons_append, List.append_assoc, List.nil_append] at C1
  try simp only [List.cons_append, List.append_assoc, List.nil_append] at C2
  clear B hd hs f0 f1 m0 m1 z0 z1 L
  go_enter Tryz.func38, Tryz.ntmps38
  go_wp2_with fail
  generalize w.alloc (.cells #[.int .u8 op, .bool nw, .int .i64 d, .int .i64 src, .bool ui, .int .i64 off, .int .i64 im, .int .i64 sz] 47) = w1 at *
  have hk0 : w.heap.size < w1.heap.size := (Array.getElem?_eq_some_iff.1 hb).1
  have HK := Lib.hid hk
  have HWD := Lib.hid hwd
  clear hk hwd
  refine wp_region_held_drew (S := fun w' => w'.heap[w.heap.size]? = some (.cells #[.int .u8 op, .bool nw, .int .i64 d, .int .i64 src, .bool ui, .int .i64 off, .int .i64 im, .int .i64 sz] 47 (0, 0))) (by kernel_rfl) hb (fun S0 => ?_)
  refine wpAnyH_take (i := 1) (v := ?v1t5) rfl (by kernel_rfl) (by kernel_rfl) (by kernel_rfl) (fun _ _ _ h => h) (Or.inl ⟨by rfl, ?y1t5⟩) S0 ?z1t5
  case y1t5 => intro w_ hSw; go_simp; with_reducible rfl
  try simp only [List.getElem_toArray, List.getElem_cons_zero, List.getElem_cons_succ, Act.put, List.setIfInBounds_toArray, List.set_cons_zero, List.set_cons_succ]
  refine wpAnyH_take (i := 2) (v := ?v2t6) rfl (by kernel_rfl) (by kernel_rfl) (by kernel_rfl) (fun _ _ _ h => h) (Or.inl ⟨by rfl, ?y2t6⟩) S0 ?z2t6
  case y2t6 => intro w_ hSw; (try dsimp only at hSw); obtain ⟨g0, g1, g2, g3, g4, g5, g6, g7⟩ := block8 hSw; go_simp; with_reducible rfl
  try simp only [List.getElem_toArray, List.getElem_cons_zero, List.getElem_cons_succ, Act.put, List.setIfInBounds_toArray, List.set_cons_zero, List.set_cons_succ]
  refine wpAnyH_take (i := 3) (v := ?v3t7) rfl (by kernel_rfl) (by kernel_rfl) (by kernel_rfl) (fun _ _ _ h => h) (Or.inl ⟨by rfl, ?y3t7⟩) S0 ?z3t7
  case y3t7 => intro w_ hSw; go_simp; with_reducible rfl
  try simp only [List.getElem_toArray, List.getElem_cons_zero, List.getElem_cons_succ, Act.put, List.setIfInBounds_toArray, List.set_cons_zero, List.set_cons_succ]
  refine wpAnyH_ready (rs := [0]) (by kernel_rfl) (by simp) ?_
  refine AllReadyH.cons rfl (fun K hK => ?_) AllReadyH.nil
  go_simp
  refine (wordsD w1.drew).mono ?_; rintro e w2 ⟨v, rfl, hv, hbl⟩
  have b12 : Below w1.heap.size w1 w2 := ⟨hbl.os, hbl.tape, hbl.output, hbl.size, fun k h => hbl.block k h⟩
  have HB2 := Lib.hid ((HB.out).trans (b12.mono (HB.out).size))
  have HL2 := Lib.hid ((HL.out).past b12)
  have hb2 := (b12.block _ hk0).trans hb
  obtain ⟨ao, cap, hsh⟩ := hv.shape
  have e11 : wordsL.length = 27 := rfl
  rw [e11] at hsh
  subst hsh
  obtain ⟨g, o, rfl, y0, y1, y2, y3, y4⟩ := hv.at (by decide)
  have y5 := y4 k (by have : wordsL.length = 27 := rfl; have := HK.out; omega)
  rw [HWD.out] at y5
  have p2 : (k : Int) < 27 := by have := HK.out; omega
  clear hbl hv y4 S0 y0 y1 y2 y3 e11 b12 hb
  try go_wp2_with fail
  refine hK.out _ _ hb2 (fun _ => ?_)
  clear hK K
  try simp only [List.getElem_toArray, List.getElem_cons_zero, List.getElem_cons_succ, Act.put, List.setIfInBounds_toArray, List.set_cons_zero, List.set_cons_succ]
  refine wpAnyH_ready (rs := [4]) (by kernel_rfl) (by simp) ?_
  refine AllReadyH.cons rfl (fun K hK => ?_) AllReadyH.nil
  go_simp
  refine hK.out _ _ hb2 (fun _ => ?_)
  clear hK K
  try simp only [List.getElem_toArray, List.getElem_cons_zero, List.getElem_cons_succ, Act.put, List.setIfInBounds_toArray, List.set_cons_zero, List.set_cons_succ]
  refine wpAnyH_ready (rs := [5]) (by kernel_rfl) (by simp) ?_
  refine AllReadyH.cons rfl (fun K hK => ?_) AllReadyH.nil
  go_simp
  refine hK.out _ _ hb2 (fun _ => ?_)
  clear hK K
  try simp only [List.getElem_toArray, List.getElem_cons_zero, List.getElem_cons_succ, Act.put, List.setIfInBounds_toArray, List.set_cons_zero, List.set_cons_succ]
  refine wpAnyH_take (i := 6) (v := ?v6t8) rfl (by kernel_rfl) (by kernel_rfl) (by kernel_rfl) (fun _ _ _ h => h) (Or.inl ⟨by rfl, ?y6t8⟩) hb2 ?z6t8
  case y6t8 => intro w_ hSw; go_simp; with_reducible rfl
  try simp only [List.getElem_toArray, List.getElem_cons_zero, List.getElem_cons_succ, Act.put, List.setIfInBounds_toArray, List.set_cons_zero, List.set_cons_succ]
  refine wpAnyH_done (by kernel_rfl) ?_ _
  clear p2 y5
  obtain ⟨q0, q1, q2, q3, q4, q5, q6, q7⟩ := block8 hb2
  have hk2 : w.heap.size < w2.heap.size := (Array.getElem?_eq_some_iff.1 hb2).1
  have HNM := Lib.hid hnm
  clear hnm
  cases nw with
  | true =>
    have e0 : nm = wd ++ [51, 50] := HNM.out
    rw [← e0] at CN
    clear e0
    clear hb2
    go_wp2_with fail
    refine ((RD.out) _ HL2.out).mono ?_; rintro e w3 ⟨rfl, b3⟩
    have HB3 := Lib.hid ((HB2.out).trans (b3.mono (HB2.out).size))
    clear b3
    go_wp2_with fail
    go_ret
    exact ⟨rfl, HB3.out⟩
  | false =>
    have e0 : nm = wd := HNM.out
    subst e0
    clear CN
    clear hb2
    go_wp2_with fail
    refine ((RD.out) _ HL2.out).mono ?_; rintro e w3 ⟨rfl, b3⟩
    have HB3 := Lib.hid ((HB2.out).trans (b3.mono (HB2.out).size))
    clear b3
    go_wp2_with fail
    go_ret
    exact ⟨rfl, HB3.out⟩
theorem oneD_load (op : Int) (nw : Bool) (d : Nat) (hd : d ≤ 10) (src : Nat) (hs : src ≤ 10) (ui : Bool) (off im sz : Int) (f0 : -32768 ≤ off) (f1 : off < 32768) (m0 : -9223372036854775808 ≤ im) (m1 : im ≤ 9223372036854775807) (z0 : 0 ≤ sz) (z1 : sz ≤ 8) (k : Nat) (hk : k < 27) (wd : Str) (hwd : wordsL.getD k [] = wd) (hwl : wd.length ≤ 4) (hlo : decide (op ≤ 27) = true) (hsub : IntKind.u8.wrap (op - 1) = (k : Int)) (c28 : (op == 28) = false) (c16 : (op == 16) = false) (c14 : (op == 14) = true) (hnw : nw = false) (w : World) (L : Lay w) :
    Calls Tryz.prog 38 #[.agg #[.int .u8 op, .bool nw, .int .i64 d, .int .i64 src, .bool ui, .int .i64 off, .int .i64 im, .int .i64 sz]] w fun e w' => e = .returned (str (108 :: 111 :: 97 :: 100 :: (Lib.itoa sz ++ 32 :: (regs.getD d [] ++ 44 :: 32 :: cellS src off)))) ∧ Below w.heap.size w w' := by
  have B := alloc_below w (.cells #[.int .u8 op, .bool nw, .int .i64 d, .int .i64 src, .bool ui, .int .i64 off, .int .i64 im, .int .i64 sz] 47)
  have hb := heap_alloc_new w (.cells #[.int .u8 op, .bool nw, .int .i64 d, .int .i64 src, .bool ui, .int .i64 off, .int .i64 im, .int .i64 sz] 47)
  have HL := Lib.hid (L.past B)
  have HB := Lib.hid B
  have RD := Lib.hid (fun W (LW : Lay W) => regD d hd W LW)
  have SE := Lib.hid (fun W (LW : Lay W) => secondD op nw d src hs ui off im sz m0 m1 W LW)
  have FA := Lib.hid (fun W (LW : Lay W) => farD off f0 f1 W LW)
  have CD := Lib.hid (fun W (LW : Lay W) => cellD d off hd f0 f1 W LW)
  have CS := Lib.hid (fun W (LW : Lay W) => cellD src off hs f0 f1 W LW)
  have IT := Lib.hid (fun W (LW : Lay W) => itoaP sz (by omega) (by omega) W LW)
  have lr : (regs.getD d []).length ≤ 3 := by rw [← regS_nat d hd]; exact regS_len d
  have ls : (secondS ⟨op, nw, d, src, ui, off, im, sz⟩).length ≤ 20 := by
    unfold secondS
    cases ui
    · show (regS src).length ≤ 20; have := regS_len src; omega
    · exact itoa_short im m0 m1
  have lf := farS_len off [] f0 f1 (by decide)
  have lc : ∀ n, (cellS n off).length ≤ 50 := by
    intro n
    have := regS_len n
    have := farS_len off [32] f0 f1 (by decide)
    simp [cellS]; omega
  have lcd := lc d
  have lcs := lc src
  have li := itoa_short sz (by omega) (by omega)
  clear lc
  generalize regs.getD d [] = rs at RD lr ⊢
  generalize secondS ⟨op, nw, d, src, ui, off, im, sz⟩ = ss at SE ls ⊢
  generalize farS off [] = fs at FA lf ⊢
  generalize cellS d off = cd at CD lcd ⊢
  generalize cellS src off = cs at CS lcs ⊢
  generalize Lib.itoa sz = it at IT li ⊢
  have HNW := Lib.hid hnw
  clear hnw
  have C1 := run_cat (P := Tryz.prog) ([108, 111, 97, 100]) it (by simp; omega)
  have C2 := run_cat (P := Tryz.prog) (([108, 111, 97, 100]) ++ it) [32] (by simp; omega)
  have C3 := run_cat (P := Tryz.prog) ((([108, 111, 97, 100]) ++ it) ++ [32]) rs (by simp; omega)
  have C4 := run_cat (P := Tryz.prog) (((([108, 111, 97, 100]) ++ it) ++ [32]) ++ rs) [44, 32] (by simp; omega)
  have C5 := run_cat (P := Tryz.prog) ((((([108, 111, 97, 100]) ++ it) ++ [32]) ++ rs) ++ [44, 32]) cs (by simp; omega)
  try simp only [List.cons_append, List.append_assoc, List.nil_append] at C1
  try simp only [List.cons_append, List.append_assoc, List.nil_append] at C2
  try simp only [List.cons_append, List.append_assoc, List.nil_append] at C3
  try simp only [List.cons_append, List.append_assoc, List.nil_append] at C4
  try simp only [List.cons_append, List.append_assoc, List.nil_append] at C5
  clear B hd hs f0 f1 m0 m1 z0 z1 L
  go_enter Tryz.func38, Tryz.ntmps38
  go_wp2_with fail
  generalize w.alloc (.cells #[.int .u8 op, .bool nw, .int .i64 d, .int .i64 src, .bool ui, .int .i64 off, .int .i64 im, .int .i64 sz] 47) = w1 at *
  have hk0 : w.heap.size < w1.heap.size := (Array.getElem?_eq_some_iff.1 hb).1
  have HK := Lib.hid hk
  have HWD := Lib.hid hwd
  clear hk hwd
  refine wp_region_held_drew (S := fun w' => w'.heap[w.heap.size]? = some (.cells #[.int .u8 op, .bool nw, .int .i64 d, .int .i64 src, .bool ui, .int .i64 off, .int .i64 im, .int .i64 sz] 47 (0, 0))) (by kernel_rfl) hb (fun S0 => ?_)
  refine wpAnyH_take (i := 1) (v := ?v1t9) rfl (by kernel_rfl) (by kernel_rfl) (by kernel_rfl) (fun _ _ _ h => h) (Or.inl ⟨by rfl, ?y1t9⟩) S0 ?z1t9
  case y1t9 => intro w_ hSw; go_simp; with_reducible rfl
  try simp only [List.getElem_toArray, List.getElem_cons_zero, List.getElem_cons_succ, Act.put, List.setIfInBounds_toArray, List.set_cons_zero, List.set_cons_succ]
  refine wpAnyH_take (i := 2) (v := ?v2t10) rfl (by kernel_rfl) (by kernel_rfl) (by kernel_rfl) (fun _ _ _ h => h) (Or.inl ⟨by rfl, ?y2t10⟩) S0 ?z2t10
  case y2t10 => intro w_ hSw; (try dsimp only at hSw); obtain ⟨g0, g1, g2, g3, g4, g5, g6, g7⟩ := block8 hSw; go_simp; with_reducible rfl
  try simp only [List.getElem_toArray, List.getElem_cons_zero, List.getElem_cons_succ, Act.put, List.setIfInBounds_toArray, List.set_cons_zero, List.set_cons_succ]
  refine wpAnyH_take (i := 3) (v := ?v3t11) rfl (by kernel_rfl) (by kernel_rfl) (by kernel_rfl) (fun _ _ _ h => h) (Or.inl ⟨by rfl, ?y3t11⟩) S0 ?z3t11
  case y3t11 => intro w_ hSw; go_simp; with_reducible rfl
  try simp only [List.getElem_toArray, List.getElem_cons_zero, List.getElem_cons_succ, Act.put, List.setIfInBounds_toArray, List.set_cons_zero, List.set_cons_succ]
  refine wpAnyH_ready (rs := [0]) (by kernel_rfl) (by simp) ?_
  refine AllReadyH.cons rfl (fun K hK => ?_) AllReadyH.nil
  go_simp
  refine (wordsD w1.drew).mono ?_; rintro e w2 ⟨v, rfl, hv, hbl⟩
  have b12 : Below w1.heap.size w1 w2 := ⟨hbl.os, hbl.tape, hbl.output, hbl.size, fun k h => hbl.block k h⟩
  have HB2 := Lib.hid ((HB.out).trans (b12.mono (HB.out).size))
  have HL2 := Lib.hid ((HL.out).past b12)
  have hb2 := (b12.block _ hk0).trans hb
  obtain ⟨ao, cap, hsh⟩ := hv.shape
  have e11 : wordsL.length = 27 := rfl
  rw [e11] at hsh
  subst hsh
  obtain ⟨g, o, rfl, y0, y1, y2, y3, y4⟩ := hv.at (by decide)
  have y5 := y4 k (by have : wordsL.length = 27 := rfl; have := HK.out; omega)
  rw [HWD.out] at y5
  have p2 : (k : Int) < 27 := by have := HK.out; omega
  clear hbl hv y4 S0 y0 y1 y2 y3 e11 b12 hb
  try go_wp2_with fail
  refine hK.out _ _ hb2 (fun _ => ?_)
  clear hK K
  try simp only [List.getElem_toArray, List.getElem_cons_zero, List.getElem_cons_succ, Act.put, List.setIfInBounds_toArray, List.set_cons_zero, List.set_cons_succ]
  refine wpAnyH_ready (rs := [4]) (by kernel_rfl) (by simp) ?_
  refine AllReadyH.cons rfl (fun K hK => ?_) AllReadyH.nil
  go_simp
  refine hK.out _ _ hb2 (fun _ => ?_)
  clear hK K
  try simp only [List.getElem_toArray, List.getElem_cons_zero, List.getElem_cons_succ, Act.put, List.setIfInBounds_toArray, List.set_cons_zero, List.set_cons_succ]
  refine wpAnyH_ready (rs := [5]) (by kernel_rfl) (by simp) ?_
  refine AllReadyH.cons rfl (fun K hK => ?_) AllReadyH.nil
  go_simp
  refine hK.out _ _ hb2 (fun _ => ?_)
  clear hK K
  try simp only [List.getElem_toArray, List.getElem_cons_zero, List.getElem_cons_succ, Act.put, List.setIfInBounds_toArray, List.set_cons_zero, List.set_cons_succ]
  refine wpAnyH_take (i := 6) (v := ?v6t12) rfl (by kernel_rfl) (by kernel_rfl) (by kernel_rfl) (fun _ _ _ h => h) (Or.inl ⟨by rfl, ?y6t12⟩) hb2 ?z6t12
  case y6t12 => intro w_ hSw; go_simp; with_reducible rfl
  try simp only [List.getElem_toArray, List.getElem_cons_zero, List.getElem_cons_succ, Act.put, List.setIfInBounds_toArray, List.set_cons_zero, List.set_cons_succ]
  refine wpAnyH_done (by kernel_rfl) ?_ _
  clear p2 y5
  obtain ⟨q0, q1, q2, q3, q4, q5, q6, q7⟩ := block8 hb2
  have hk2 : w.heap.size < w2.heap.size := (Array.getElem?_eq_some_iff.1 hb2).1
  obtain rfl := HNW.out
  go_wp2_with fail
  refine wp_region_held_drew (S := fun w' => w'.heap[w.heap.size]? = some (.cells #[.int .u8 op, .bool false, .int .i64 d, .int .i64 src, .bool ui, .int .i64 off, .int .i64 im, .int .i64 sz] 47 (0, 0))) (by kernel_rfl) hb2 (fun S0 => ?_)
  refine wpAnyH_take (i := 0) (v := ?v0t13) rfl (by kernel_rfl) (by kernel_rfl) (by kernel_rfl) (fun _ _ _ h => h) (Or.inl ⟨by rfl, ?y0t13⟩) S0 ?z0t13
  case y0t13 => intro w_ hSw; go_simp; with_reducible rfl
  try simp only [List.getElem_toArray, List.getElem_cons_zero, List.getElem_cons_succ, Act.put, List.setIfInBounds_toArray, List.set_cons_zero, List.set_cons_succ]
  refine wpAnyH_take (i := 1) (v := ?v1t14) rfl (by kernel_rfl) (by kernel_rfl) (by kernel_rfl) (fun _ _ _ h => h) (Or.inl ⟨by rfl, ?y1t14⟩) S0 ?z1t14
  case y1t14 => intro w_ hSw; (try dsimp only at hSw); obtain ⟨g0, g1, g2, g3, g4, g5, g6, g7⟩ := block8 hSw; go_simp; with_reducible rfl
  try simp only [List.getElem_toArray, List.getElem_cons_zero, List.getElem_cons_succ, Act.put, List.setIfInBounds_toArray, List.set_cons_zero, List.set_cons_succ]
  refine wpAnyH_take (i := 5) (v := ?v5t15) rfl (by kernel_rfl) (by kernel_rfl) (by kernel_rfl) (fun _ _ _ h => h) (Or.inl ⟨by rfl, ?y5t15⟩) S0 ?z5t15
  case y5t15 => intro w_ hSw; go_simp; with_reducible rfl
  try simp only [List.getElem_toArray, List.getElem_cons_zero, List.getElem_cons_succ, Act.put, List.setIfInBounds_toArray, List.set_cons_zero, List.set_cons_succ]
  refine wpAnyH_take (i := 6) (v := ?v6t16) rfl (by kernel_rfl) (by kernel_rfl) (by kernel_rfl) (fun _ _ _ h => h) (Or.inl ⟨by rfl, ?y6t16⟩) S0 ?z6t16
  case y6t16 => intro w_ hSw; (try dsimp only at hSw); obtain ⟨g0, g1, g2, g3, g4, g5, g6, g7⟩ := block8 hSw; go_simp; with_reducible rfl
  try simp only [List.getElem_toArray, List.getElem_cons_zero, List.getElem_cons_succ, Act.put, List.setIfInBounds_toArray, List.set_cons_zero, List.set_cons_succ]
  refine wpAnyH_take (i := 10) (v := ?v10t17) rfl (by kernel_rfl) (by kernel_rfl) (by kernel_rfl) (fun _ _ _ h => h) (Or.inl ⟨by rfl, ?y10t17⟩) S0 ?z10t17
  case y10t17 => intro w_ hSw; go_simp; with_reducible rfl
  try simp only [List.getElem_toArray, List.getElem_cons_zero, List.getElem_cons_succ, Act.put, List.setIfInBounds_toArray, List.set_cons_zero, List.set_cons_succ]
  refine wpAnyH_take (i := 11) (v := ?v11t18) rfl (by kernel_rfl) (by kernel_rfl) (by kernel_rfl) (fun _ _ _ h => h) (Or.inl ⟨by rfl, ?y11t18⟩) S0 ?z11t18
  case y11t18 => intro w_ hSw; (try dsimp only at hSw); obtain ⟨g0, g1, g2, g3, g4, g5, g6, g7⟩ := block8 hSw; go_simp; with_reducible rfl
  try simp only [List.getElem_toArray, List.getElem_cons_zero, List.getElem_cons_succ, Act.put, List.setIfInBounds_toArray, List.set_cons_zero, List.set_cons_succ]
  refine wpAnyH_take (i := 12) (v := ?v12t19) rfl (by kernel_rfl) (by kernel_rfl) (by kernel_rfl) (fun _ _ _ h => h) (Or.inl ⟨by rfl, ?y12t19⟩) S0 ?z12t19
  case y12t19 => intro w_ hSw; go_simp; with_reducible rfl
  try simp only [List.getElem_toArray, List.getElem_cons_zero, List.getElem_cons_succ, Act.put, List.setIfInBounds_toArray, List.set_cons_zero, List.set_cons_succ]
  refine wpAnyH_take (i := 13) (v := ?v13t20) rfl (by kernel_rfl) (by kernel_rfl) (by kernel_rfl) (fun _ _ _ h => h) (Or.inl ⟨by rfl, ?y13t20⟩) S0 ?z13t20
  case y13t20 => intro w_ hSw; (try dsimp only at hSw); obtain ⟨g0, g1, g2, g3, g4, g5, g6, g7⟩ := block8 hSw; go_simp; with_reducible rfl
  try simp only [List.getElem_toArray, List.getElem_cons_zero, List.getElem_cons_succ, Act.put, List.setIfInBounds_toArray, List.set_cons_zero, List.set_cons_succ]
  refine wpAnyH_ready (rs := [2]) (by kernel_rfl) (by simp) ?_
  refine AllReadyH.cons rfl (fun K hK => ?_) AllReadyH.nil
  go_simp
  refine ((IT.out) w2.drew ((HL2.out).past (below_drewN (Below.refl _ _) 1))).mono ?_; rintro e w3 ⟨rfl, b3⟩
  have b3' : Below w2.heap.size w2 w3 := ⟨b3.os, b3.tape, b3.output, b3.size, fun k h => b3.block k h⟩
  have S3 := (b3'.block _ hk2).trans hb2
  have HB3 := Lib.hid ((HB2.out).trans (b3'.mono (HB2.out).size))
  have HL3 := Lib.hid ((HL2.out).past b3')
  have hk3 : w.heap.size < w3.heap.size := Nat.lt_of_lt_of_le hk2 b3'.size
  clear b3 b3'
  try go_wp2_with fail
  refine hK.out _ _ S3 (fun _ => ?_)
  clear hK K
  try simp only [List.getElem_toArray, List.getElem_cons_zero, List.getElem_cons_succ, Act.put, List.setIfInBounds_toArray, List.set_cons_zero, List.set_cons_succ]
  refine wpAnyH_take (i := 3) (v := ?v3t21) rfl (by kernel_rfl) (by kernel_rfl) (by kernel_rfl) (fun _ _ _ h => h) (Or.inl ⟨by rfl, ?y3t21⟩) S3 ?z3t21
  case y3t21 => intro w_ hSw; go_simp; with_reducible rfl
  try simp only [List.getElem_toArray, List.getElem_cons_zero, List.getElem_cons_succ, Act.put, List.setIfInBounds_toArray, List.set_cons_zero, List.set_cons_succ]
  refine wpAnyH_take (i := 4) (v := ?v4t22) rfl (by kernel_rfl) (by kernel_rfl) (by kernel_rfl) (fun _ _ _ h => h) (Or.inl ⟨by rfl, ?y4t22⟩) S3 ?z4t22
  case y4t22 => intro w_ hSw; go_simp; with_reducible rfl
  try simp only [List.getElem_toArray, List.getElem_cons_zero, List.getElem_cons_succ, Act.put, List.setIfInBounds_toArray, List.set_cons_zero, List.set_cons_succ]
  refine wpAnyH_ready (rs := [7]) (by kernel_rfl) (by simp) ?_
  refine AllReadyH.cons rfl (fun K hK => ?_) AllReadyH.nil
  go_simp
  refine ((RD.out) w3 HL3.out).mono ?_; rintro e w4 ⟨rfl, b4⟩
  have b4' := b4
  have S4 := (b4'.block _ hk3).trans S3
  have HB4 := Lib.hid ((HB3.out).trans (b4'.mono (HB3.out).size))
  have HL4 := Lib.hid ((HL3.out).past b4')
  have hk4 : w.heap.size < w4.heap.size := Nat.lt_of_lt_of_le hk3 b4'.size
  clear b4 b4'
  try go_wp2_with fail
  refine hK.out _ _ S4 (fun _ => ?_)
  clear hK K
  try simp only [List.getElem_toArray, List.getElem_cons_zero, List.getElem_cons_succ, Act.put, List.setIfInBounds_toArray, List.set_cons_zero, List.set_cons_succ]
  refine wpAnyH_take (i := 8) (v := ?v8t23) rfl (by kernel_rfl) (by kernel_rfl) (by kernel_rfl) (fun _ _ _ h => h) (Or.inl ⟨by rfl, ?y8t23⟩) S4 ?z8t23
  case y8t23 => intro w_ hSw; go_simp; with_reducible rfl
  try simp only [List.getElem_toArray, List.getElem_cons_zero, List.getElem_cons_succ, Act.put, List.setIfInBounds_toArray, List.set_cons_zero, List.set_cons_succ]
  refine wpAnyH_take (i := 9) (v := ?v9t24) rfl (by kernel_rfl) (by kernel_rfl) (by kernel_rfl) (fun _ _ _ h => h) (Or.inl ⟨by rfl, ?y9t24⟩) S4 ?z9t24
  case y9t24 => intro w_ hSw; go_simp; with_reducible rfl
  try simp only [List.getElem_toArray, List.getElem_cons_zero, List.getElem_cons_succ, Act.put, List.setIfInBounds_toArray, List.set_cons_zero, List.set_cons_succ]
  refine wpAnyH_ready (rs := [14]) (by kernel_rfl) (by simp) ?_
  refine AllReadyH.cons rfl (fun K hK => ?_) AllReadyH.nil
  go_simp
  refine ((CS.out) w4 HL4.out).mono ?_; rintro e w5 ⟨rfl, b5⟩
  have b5' := b5
  have S5 := (b5'.block _ hk4).trans S4
  have HB5 := Lib.hid ((HB4.out).trans (b5'.mono (HB4.out).size))
  have HL5 := Lib.hid ((HL4.out).past b5')
  have hk5 : w.heap.size < w5.heap.size := Nat.lt_of_lt_of_le hk4 b5'.size
  clear b5 b5'
  try go_wp2_with fail
  refine hK.out _ _ S5 (fun _ => ?_)
  clear hK K
  try simp only [List.getElem_toArray, List.getElem_cons_zero, List.getElem_cons_succ, Act.put, List.setIfInBounds_toArray, List.set_cons_zero, List.set_cons_succ]
  refine wpAnyH_take (i := 15) (v := ?v15t25) rfl (by kernel_rfl) (by kernel_rfl) (by kernel_rfl) (fun _ _ _ h => h) (Or.inl ⟨by rfl, ?y15t25⟩) S5 ?z15t25
  case y15t25 => intro w_ hSw; go_simp; with_reducible rfl
  try simp only [List.getElem_toArray, List.getElem_cons_zero, List.getElem_cons_succ, Act.put, List.setIfInBounds_toArray, List.set_cons_zero, List.set_cons_succ]
  refine wpAnyH_take (i := 16) (v := ?v16t26) rfl (by kernel_rfl) (by kernel_rfl) (by kernel_rfl) (fun _ _ _ h => h) (Or.inl ⟨by rfl, ?y16t26⟩) S5 ?z16t26
  case y16t26 => intro w_ hSw; go_simp; with_reducible rfl
  try simp only [List.getElem_toArray, List.getElem_cons_zero, List.getElem_cons_succ, Act.put, List.setIfInBounds_toArray, List.set_cons_zero, List.set_cons_succ]
  refine wpAnyH_done (by kernel_rfl) ?_ _
  go_wp2_with fail
  go_ret
  exact ⟨rfl, HB5.out⟩
theorem oneD_put (op : Int) (nw : Bool) (d : Nat) (hd : d ≤ 10) (src : Nat) (hs : src ≤ 10) (ui : Bool) (off im sz : Int) (f0 : -32768 ≤ off) (f1 : off < 32768) (m0 : -9223372036854775808 ≤ im) (m1 : im ≤ 9223372036854775807) (z0 : 0 ≤ sz) (z1 : sz ≤ 8) (k : Nat) (hk : k < 27) (wd : Str) (hwd : wordsL.getD k [] = wd) (hwl : wd.length ≤ 4) (hlo : decide (op ≤ 27) = true) (hsub : IntKind.u8.wrap (op - 1) = (k : Int)) (c28 : (op == 28) = false) (c16 : (op == 16) = false) (c14 : (op == 14) = false) (c15 : (op == 15) = true) (hnw : nw = false) (w : World) (L : Lay w) :
    Calls Tryz.prog 38 #[.agg #[.int .u8 op, .bool nw, .int .i64 d, .int .i64 src, .bool ui, .int .i64 off, .int .i64 im, .int .i64 sz]] w fun e w' => e = .returned (str (112 :: 117 :: 116 :: (Lib.itoa sz ++ 32 :: (cellS d off ++ 44 :: 32 :: secondS ⟨op, nw, d, src, ui, off, im, sz⟩)))) ∧ Below w.heap.size w w' := by
  have B := alloc_below w (.cells #[.int .u8 op, .bool nw, .int .i64 d, .int .i64 src, .bool ui, .int .i64 off, .int .i64 im, .int .i64 sz] 47)
  have hb := heap_alloc_new w (.cells #[.int .u8 op, .bool nw, .int .i64 d, .int .i64 src, .bool ui, .int .i64 off, .int .i64 im, .int .i64 sz] 47)
  have HL := Lib.hid (L.past B)
  have HB := Lib.hid B
  have RD := Lib.hid (fun W (LW : Lay W) => regD d hd W LW)
  have SE := Lib.hid (fun W (LW : Lay W) => secondD op nw d src hs ui off im sz m0 m1 W LW)
  have FA := Lib.hid (fun W (LW : Lay W) => farD off f0 f1 W LW)
  have CD := Lib.hid (fun W (LW : Lay W) => cellD d off hd f0 f1 W LW)
  have CS := Lib.hid (fun W (LW : Lay W) => cellD src off hs f0 f1 W LW)
  have IT := Lib.hid (fun W (LW : Lay W) => itoaP sz (by omega) (by omega) W LW)
  have lr : (regs.getD d []).length ≤ 3 := by rw [← regS_nat d hd]; exact regS_len d
  have ls : (secondS ⟨op, nw, d, src, ui, off, im, sz⟩).length ≤ 20 := by
    unfold secondS
    cases ui
    · show (regS src).length ≤ 20; have := regS_len src; omega
    · exact itoa_short im m0 m1
  have lf := farS_len off [] f0 f1 (by decide)
  have lc : ∀ n, (cellS n off).length ≤ 50 := by
    intro n
    have := regS_len n
    have := farS_len off [32] f0 f1 (by decide)
    simp [cellS]; omega
  have lcd := lc d
  have lcs := lc src
  have li := itoa_short sz (by omega) (by omega)
  clear lc
  generalize regs.getD d [] = rs at RD lr ⊢
  generalize secondS ⟨op, nw, d, src, ui, off, im, sz⟩ = ss at SE ls ⊢
  generalize farS off [] = fs at FA lf ⊢
  generalize cellS d off = cd at CD lcd ⊢
  generalize cellS src off = cs at CS lcs ⊢
  generalize Lib.itoa sz = it at IT li ⊢
  have HNW := Lib.hid hnw
  clear hnw
  have C1 := run_cat (P := Tryz.prog) ([112, 117, 116]) it (by simp; omega)
  have C2 := run_cat (P := Tryz.prog) (([112, 117, 116]) ++ it) [32] (by simp; omega)
  have C3 := run_cat (P := Tryz.prog) ((([112, 117, 116]) ++ it) ++ [32]) cd (by simp; omega)
  have C4 := run_cat (P := Tryz.prog) (((([112, 117, 116]) ++ it) ++ [32]) ++ cd) [44, 32] (by simp; omega)
  have C5 := run_cat (P := Tryz.prog) ((((([112, 117, 116]) ++ it) ++ [32]) ++ cd) ++ [44, 32]) ss (by simp; omega)
  try simp only [List.cons_append, List.append_assoc, List.nil_append] at C1
  try simp only [List.cons_append, List.append_assoc, List.nil_append] at C2
  try simp only [List.cons_append, List.append_assoc, List.nil_append] at C3
  try simp only [List.cons_append, List.append_assoc, List.nil_append] at C4
  try simp only [List.cons_append, List.append_assoc, List.nil_append] at C5
  clear B hd hs f0 f1 m0 m1 z0 z1 L
  go_enter Tryz.func38, Tryz.ntmps38
  go_wp2_with fail
  generalize w.alloc (.cells #[.int .u8 op, .bool nw, .int .i64 d, .int .i64 src, .bool ui, .int .i64 off, .int .i64 im, .int .i64 sz] 47) = w1 at *
  have hk0 : w.heap.size < w1.heap.size := (Array.getElem?_eq_some_iff.1 hb).1
  have HK := Lib.hid hk
  have HWD := Lib.hid hwd
  clear hk hwd
  refine wp_region_held_drew (S := fun w' => w'.heap[w.heap.size]? = some (.cells #[.int .u8 op, .bool nw, .int .i64 d, .int .i64 src, .bool ui, .int .i64 off, .int .i64 im, .int .i64 sz] 47 (0, 0))) (by kernel_rfl) hb (fun S0 => ?_)
  refine wpAnyH_take (i := 1) (v := ?v1t27) rfl (by kernel_rfl) (by kernel_rfl) (by kernel_rfl) (fun _ _ _ h => h) (Or.inl ⟨by rfl, ?y1t27⟩) S0 ?z1t27
  case y1t27 => intro w_ hSw; go_simp; with_reducible rfl
  try simp only [List.getElem_toArray, List.getElem_cons_zero, List.getElem_cons_succ, Act.put, List.setIfInBounds_toArray, List.set_cons_zero, List.set_cons_succ]
  refine wpAnyH_take (i := 2) (v := ?v2t28) rfl (by kernel_rfl) (by kernel_rfl) (by kernel_rfl) (fun _ _ _ h => h) (Or.inl ⟨by rfl, ?y2t28⟩) S0 ?z2t28
  case y2t28 => intro w_ hSw; (try dsimp only at hSw); obtain ⟨g0, g1, g2, g3, g4, g5, g6, g7⟩ := block8 hSw; go_simp; with_reducible rfl
  try simp only [List.getElem_toArray, List.getElem_cons_zero, List.getElem_cons_succ, Act.put, List.setIfInBounds_toArray, List.set_cons_zero, List.set_cons_succ]
  refine wpAnyH_take (i := 3) (v := ?v3t29) rfl (by kernel_rfl) (by kernel_rfl) (by kernel_rfl) (fun _ _ _ h => h) (Or.inl ⟨by rfl, ?y3t29⟩) S0 ?z3t29
  case y3t29 => intro w_ hSw; go_simp; with_reducible rfl
  try simp only [List.getElem_toArray, List.getElem_cons_zero, List.getElem_cons_succ, Act.put, List.setIfInBounds_toArray, List.set_cons_zero, List.set_cons_succ]
  refine wpAnyH_ready (rs := [0]) (by kernel_rfl) (by simp) ?_
  refine AllReadyH.cons rfl (fun K hK => ?_) AllReadyH.nil
  go_simp
  refine (wordsD w1.drew).mono ?_; rintro e w2 ⟨v, rfl, hv, hbl⟩
  have b12 : Below w1.heap.size w1 w2 := ⟨hbl.os, hbl.tape, hbl.output, hbl.size, fun k h => hbl.block k h⟩
  have HB2 := Lib.hid ((HB.out).trans (b12.mono (HB.out).size))
  have HL2 := Lib.hid ((HL.out).past b12)
  have hb2 := (b12.block _ hk0).trans hb
  obtain ⟨ao, cap, hsh⟩ := hv.shape
  have e11 : wordsL.length = 27 := rfl
  rw [e11] at hsh
  subst hsh
  obtain ⟨g, o, rfl, y0, y1, y2, y3, y4⟩ := hv.at (by decide)
  have y5 := y4 k (by have : wordsL.length = 27 := rfl; have := HK.out; omega)
  rw [HWD.out] at y5
  have p2 : (k : Int) < 27 := by have := HK.out; omega
  clear hbl hv y4 S0 y0 y1 y2 y3 e11 b12 hb
  try go_wp2_with fail
  refine hK.out _ _ hb2 (fun _ => ?_)
  clear hK K
  try simp only [List.getElem_toArray, List.getElem_cons_zero, List.getElem_cons_succ, Act.put, List.setIfInBounds_toArray, List.set_cons_zero, List.set_cons_succ]
  refine wpAnyH_ready (rs := [4]) (by kernel_rfl) (by simp) ?_
  refine AllReadyH.cons rfl (fun K hK => ?_) AllReadyH.nil
  go_simp
  refine hK.out _ _ hb2 (fun _ => ?_)
  clear hK K
  try simp only [List.getElem_toArray, List.getElem_cons_zero, List.getElem_cons_succ, Act.put, List.setIfInBounds_toArray, List.set_cons_zero, List.set_cons_succ]
  refine wpAnyH_ready (rs := [5]) (by kernel_rfl) (by simp) ?_
  refine AllReadyH.cons rfl (fun K hK => ?_) AllReadyH.nil
  go_simp
  refine hK.out _ _ hb2 (fun _ => ?_)
  clear hK K
  try simp only [List.getElem_toArray, List.getElem_cons_zero, List.getElem_cons_succ, Act.put, List.setIfInBounds_toArray, List.set_cons_zero, List.set_cons_succ]
  refine wpAnyH_take (i := 6) (v := ?v6t30) rfl (by kernel_rfl) (by kernel_rfl) (by kernel_rfl) (fun _ _ _ h => h) (Or.inl ⟨by rfl, ?y6t30⟩) hb2 ?z6t30
  case y6t30 => intro w_ hSw; go_simp; with_reducible rfl
  try simp only [List.getElem_toArray, List.getElem_cons_zero, List.getElem_cons_succ, Act.put, List.setIfInBounds_toArray, List.set_cons_zero, List.set_cons_succ]
  refine wpAnyH_done (by kernel_rfl) ?_ _
  clear p2 y5
  obtain ⟨q0, q1, q2, q3, q4, q5, q6, q7⟩ := block8 hb2
  have hk2 : w.heap.size < w2.heap.size := (Array.getElem?_eq_some_iff.1 hb2).1
  obtain rfl := HNW.out
  go_wp2_with fail
  refine wp_region_held_drew (S := fun w' => w'.heap[w.heap.size]? = some (.cells #[.int .u8 op, .bool false, .int .i64 d, .int .i64 src, .bool ui, .int .i64 off, .int .i64 im, .int .i64 sz] 47 (0, 0))) (by kernel_rfl) hb2 (fun S0 => ?_)
  refine wpAnyH_take (i := 0) (v := ?v0t31) rfl (by kernel_rfl) (by kernel_rfl) (by kernel_rfl) (fun _ _ _ h => h) (Or.inl ⟨by rfl, ?y0t31⟩) S0 ?z0t31
  case y0t31 => intro w_ hSw; go_simp; with_reducible rfl
  try simp only [List.getElem_toArray, List.getElem_cons_zero, List.getElem_cons_succ, Act.put, List.setIfInBounds_toArray, List.set_cons_zero, List.set_cons_succ]
  refine wpAnyH_take (i := 1) (v := ?v1t32) rfl (by kernel_rfl) (by kernel_rfl) (by kernel_rfl) (fun _ _ _ h => h) (Or.inl ⟨by rfl, ?y1t32⟩) S0 ?z1t32
  case y1t32 => intro w_ hSw; (try dsimp only at hSw); obtain ⟨g0, g1, g2, g3, g4, g5, g6, g7⟩ := block8 hSw; go_simp; with_reducible rfl
  try simp only [List.getElem_toArray, List.getElem_cons_zero, List.getElem_cons_succ, Act.put, List.setIfInBounds_toArray, List.set_cons_zero, List.set_cons_succ]
  refine wpAnyH_take (i := 5) (v := ?v5t33) rfl (by kernel_rfl) (by kernel_rfl) (by kernel_rfl) (fun _ _ _ h => h) (Or.inl ⟨by rfl, ?y5t33⟩) S0 ?z5t33
  case y5t33 => intro w_ hSw; go_simp; with_reducible rfl
  try simp only [List.getElem_toArray, List.getElem_cons_zero, List.getElem_cons_succ, Act.put, List.setIfInBounds_toArray, List.set_cons_zero, List.set_cons_succ]
  refine wpAnyH_take (i := 6) (v := ?v6t34) rfl (by kernel_rfl) (by kernel_rfl) (by kernel_rfl) (fun _ _ _ h => h) (Or.inl ⟨by rfl, ?y6t34⟩) S0 ?z6t34
  case y6t34 => intro w_ hSw; (try dsimp only at hSw); obtain ⟨g0, g1, g2, g3, g4, g5, g6, g7⟩ := block8 hSw; go_simp; with_reducible rfl
  try simp only [List.getElem_toArray, List.getElem_cons_zero, List.getElem_cons_succ, Act.put, List.setIfInBounds_toArray, List.set_cons_zero, List.set_cons_succ]
  refine wpAnyH_take (i := 7) (v := ?v7t35) rfl (by kernel_rfl) (by kernel_rfl) (by kernel_rfl) (fun _ _ _ h => h) (Or.inl ⟨by rfl, ?y7t35⟩) S0 ?z7t35
  case y7t35 => intro w_ hSw; go_simp; with_reducible rfl
  try simp only [List.getElem_toArray, List.getElem_cons_zero, List.getElem_cons_succ, Act.put, List.setIfInBounds_toArray, List.set_cons_zero, List.set_cons_succ]
  refine wpAnyH_take (i := 8) (v := ?v8t36) rfl (by kernel_rfl) (by kernel_rfl) (by kernel_rfl) (fun _ _ _ h => h) (Or.inl ⟨by rfl, ?y8t36⟩) S0 ?z8t36
  case y8t36 => intro w_ hSw; (try dsimp only at hSw); obtain ⟨g0, g1, g2, g3, g4, g5, g6, g7⟩ := block8 hSw; go_simp; with_reducible rfl
  try simp only [List.getElem_toArray, List.getElem_cons_zero, List.getElem_cons_succ, Act.put, List.setIfInBounds_toArray, List.set_cons_zero, List.set_cons_succ]
  refine wpAnyH_take (i := 12) (v := ?v12t37) rfl (by kernel_rfl) (by kernel_rfl) (by kernel_rfl) (fun _ _ _ h => h) (Or.inl ⟨by rfl, ?y12t37⟩) S0 ?z12t37
  case y12t37 => intro w_ hSw; (try dsimp only at hSw); obtain ⟨g0, g1, g2, g3, g4, g5, g6, g7⟩ := block8 hSw; go_simp; with_reducible rfl
  try simp only [List.getElem_toArray, List.getElem_cons_zero, List.getElem_cons_succ, Act.put, List.setIfInBounds_toArray, List.set_cons_zero, List.set_cons_succ]
  refine wpAnyH_ready (rs := [2]) (by kernel_rfl) (by simp) ?_
  refine AllReadyH.cons rfl (fun K hK => ?_) AllReadyH.nil
  go_simp
  refine ((IT.out) w2.drew ((HL2.out).past (below_drewN (Below.refl _ _) 1))).mono ?_; rintro e w3 ⟨rfl, b3⟩
  have b3' : Below w2.heap.size w2 w3 := ⟨b3.os, b3.tape, b3.output, b3.size, fun k h => b3.block k h⟩
  have S3 := (b3'.block _ hk2).trans hb2
  have HB3 := Lib.hid ((HB2.out).trans (b3'.mono (HB2.out).size))
  have HL3 := Lib.hid ((HL2.out).past b3')
  have hk3 : w.heap.size < w3.heap.size := Nat.lt_of_lt_of_le hk2 b3'.size
  clear b3 b3'
  try go_wp2_with fail
  refine hK.out _ _ S3 (fun _ => ?_)
  clear hK K
  try simp only [List.getElem_toArray, List.getElem_cons_zero, List.getElem_cons_succ, Act.put, List.setIfInBounds_toArray, List.set_cons_zero, List.set_cons_succ]
  refine wpAnyH_take (i := 3) (v := ?v3t38) rfl (by kernel_rfl) (by kernel_rfl) (by kernel_rfl) (fun _ _ _ h => h) (Or.inl ⟨by rfl, ?y3t38⟩) S3 ?z3t38
  case y3t38 => intro w_ hSw; go_simp; with_reducible rfl
  try simp only [List.getElem_toArray, List.getElem_cons_zero, List.getElem_cons_succ, Act.put, List.setIfInBounds_toArray, List.set_cons_zero, List.set_cons_succ]
  refine wpAnyH_take (i := 4) (v := ?v4t39) rfl (by kernel_rfl) (by kernel_rfl) (by kernel_rfl) (fun _ _ _ h => h) (Or.inl ⟨by rfl, ?y4t39⟩) S3 ?z4t39
  case y4t39 => intro w_ hSw; go_simp; with_reducible rfl
  try simp only [List.getElem_toArray, List.getElem_cons_zero, List.getElem_cons_succ, Act.put, List.setIfInBounds_toArray, List.set_cons_zero, List.set_cons_succ]
  refine wpAnyH_ready (rs := [9]) (by kernel_rfl) (by simp) ?_
  refine AllReadyH.cons rfl (fun K hK => ?_) AllReadyH.nil
  go_simp
  refine ((CD.out) w3 HL3.out).mono ?_; rintro e w4 ⟨rfl, b4⟩
  have b4' := b4
  have S4 := (b4'.block _ hk3).trans S3
  have HB4 := Lib.hid ((HB3.out).trans (b4'.mono (HB3.out).size))
  have HL4 := Lib.hid ((HL3.out).past b4')
  have hk4 : w.heap.size < w4.heap.size := Nat.lt_of_lt_of_le hk3 b4'.size
  clear b4 b4'
  try go_wp2_with fail
  refine hK.out _ _ S4 (fun _ => ?_)
  clear hK K
  try simp only [List.getElem_toArray, List.getElem_cons_zero, List.getElem_cons_succ, Act.put, List.setIfInBounds_toArray, List.set_cons_zero, List.set_cons_succ]
  refine wpAnyH_take (i := 10) (v := ?v10t40) rfl (by kernel_rfl) (by kernel_rfl) (by kernel_rfl) (fun _ _ _ h => h) (Or.inl ⟨by rfl, ?y10t40⟩) S4 ?z10t40
  case y10t40 => intro w_ hSw; go_simp; with_reducible rfl
  try simp only [List.getElem_toArray, List.getElem_cons_zero, List.getElem_cons_succ, Act.put, List.setIfInBounds_toArray, List.set_cons_zero, List.set_cons_succ]
  refine wpAnyH_take (i := 11) (v := ?v11t41) rfl (by kernel_rfl) (by kernel_rfl) (by kernel_rfl) (fun _ _ _ h => h) (Or.inl ⟨by rfl, ?y11t41⟩) S4 ?z11t41
  case y11t41 => intro w_ hSw; go_simp; with_reducible rfl
  try simp only [List.getElem_toArray, List.getElem_cons_zero, List.getElem_cons_succ, Act.put, List.setIfInBounds_toArray, List.set_cons_zero, List.set_cons_succ]
  refine wpAnyH_ready (rs := [13]) (by kernel_rfl) (by simp) ?_
  refine AllReadyH.cons rfl (fun K hK => ?_) AllReadyH.nil
  go_simp
  refine ((SE.out) w4 HL4.out).mono ?_; rintro e w5 ⟨rfl, b5⟩
  have b5' := b5
  have S5 := (b5'.block _ hk4).trans S4
  have HB5 := Lib.hid ((HB4.out).trans (b5'.mono (HB4.out).size))
  have HL5 := Lib.hid ((HL4.out).past b5')
  have hk5 : w.heap.size < w5.heap.size := Nat.lt_of_lt_of_le hk4 b5'.size
  clear b5 b5'
  try go_wp2_with fail
  refine hK.out _ _ S5 (fun _ => ?_)
  clear hK K
  try simp only [List.getElem_toArray, List.getElem_cons_zero, List.getElem_cons_succ, Act.put, List.setIfInBounds_toArray, List.set_cons_zero, List.set_cons_succ]
  refine wpAnyH_take (i := 14) (v := ?v14t42) rfl (by kernel_rfl) (by kernel_rfl) (by kernel_rfl) (fun _ _ _ h => h) (Or.inl ⟨by rfl, ?y14t42⟩) S5 ?z14t42
  case y14t42 => intro w_ hSw; go_simp; with_reducible rfl
  try simp only [List.getElem_toArray, List.getElem_cons_zero, List.getElem_cons_succ, Act.put, List.setIfInBounds_toArray, List.set_cons_zero, List.set_cons_succ]
  refine wpAnyH_take (i := 15) (v := ?v15t43) rfl (by kernel_rfl) (by kernel_rfl) (by kernel_rfl) (fun _ _ _ h => h) (Or.inl ⟨by rfl, ?y15t43⟩) S5 ?z15t43
  case y15t43 => intro w_ hSw; go_simp; with_reducible rfl
  try simp only [List.getElem_toArray, List.getElem_cons_zero, List.getElem_cons_succ, Act.put, List.setIfInBounds_toArray, List.set_cons_zero, List.set_cons_succ]
  refine wpAnyH_done (by kernel_rfl) ?_ _
  go_wp2_with fail
  go_ret
  exact ⟨rfl, HB5.out⟩
theorem oneD_ask (op : Int) (nw : Bool) (d : Nat) (hd : d ≤ 10) (src : Nat) (hs : src ≤ 10) (ui : Bool) (off im sz : Int) (f0 : -32768 ≤ off) (f1 : off < 32768) (m0 : -9223372036854775808 ≤ im) (m1 : im ≤ 9223372036854775807) (z0 : 0 ≤ sz) (z1 : sz ≤ 8) (k : Nat) (hk : k < 27) (wd : Str) (hwd : wordsL.getD k [] = wd) (hwl : wd.length ≤ 4) (hlo : decide (op ≤ 27) = true) (hsub : IntKind.u8.wrap (op - 1) = (k : Int)) (c28 : (op == 28) = false) (c16 : (op == 16) = false) (c14 : (op == 14) = false) (c15 : (op == 15) = false) (c13 : (op == 13) = false) (c17 : decide (17 ≤ op) = true) (nm : Str) (hnm : nm = if nw then wd ++ [51, 50] else wd) (w : World) (L : Lay w) :
    Calls Tryz.prog 38 #[.agg #[.int .u8 op, .bool nw, .int .i64 d, .int .i64 src, .bool ui, .int .i64 off, .int .i64 im, .int .i64 sz]] w fun e w' => e = .returned (str (nm ++ 32 :: (regs.getD d [] ++ 44 :: 32 :: (secondS ⟨op, nw, d, src, ui, off, im, sz⟩ ++ 44 :: 32 :: farS off [])))) ∧ Below w.heap.size w w' := by
  have B := alloc_below w (.cells #[.int .u8 op, .bool nw, .int .i64 d, .int .i64 src, .bool ui, .int .i64 off, .int .i64 im, .int .i64 sz] 47)
  have hb := heap_alloc_new w (.cells #[.int .u8 op, .bool nw, .int .i64 d, .int .i64 src, .bool ui, .int .i64 off, .int .i64 im, .int .i64 sz] 47)
  have HL := Lib.hid (L.past B)
  have HB := Lib.hid B
  have RD := Lib.hid (fun W (LW : Lay W) => regD d hd W LW)
  have SE := Lib.hid (fun W (LW : Lay W) => secondD op nw d src hs ui off im sz m0 m1 W LW)
  have FA := Lib.hid (fun W (LW : Lay W) => farD off f0 f1 W LW)
  have CD := Lib.hid (fun W (LW : Lay W) => cellD d off hd f0 f1 W LW)
  have CS := Lib.hid (fun W (LW : Lay W) => cellD src off hs f0 f1 W LW)
  have IT := Lib.hid (fun W (LW : Lay W) => itoaP sz (by omega) (by omega) W LW)
  have lr : (regs.getD d []).length ≤ 3 := by rw [← regS_nat d hd]; exact regS_len d
  have ls : (secondS ⟨op, nw, d, src, ui, off, im, sz⟩).length ≤ 20 := by
    unfold secondS
    cases ui
    · show (regS src).length ≤ 20; have := regS_len src; omega
    · exact itoa_short im m0 m1
  have lf := farS_len off [] f0 f1 (by decide)
  have lc : ∀ n, (cellS n off).length ≤ 50 := by
    intro n
    have := regS_len n
    have := farS_len off [32] f0 f1 (by decide)
    simp [cellS]; omega
  have lcd := lc d
  have lcs := lc src
  have li := itoa_short sz (by omega) (by omega)
  clear lc
  generalize regs.getD d [] = rs at RD lr ⊢
  generalize secondS ⟨op, nw, d, src, ui, off, im, sz⟩ = ss at SE ls ⊢
  generalize farS off [] = fs at FA lf ⊢
  generalize cellS d off = cd at CD lcd ⊢
  generalize cellS src off = cs at CS lcs ⊢
  generalize Lib.itoa sz = it at IT li ⊢
  have lm : nm.length ≤ 6 := by rw [hnm]; split <;> (try simp) <;> omega
  have CN := run_cat (P := Tryz.prog) wd [51, 50] (by simp; omega)
  have C1 := run_cat (P := Tryz.prog) (nm) [32] (by simp; omega)
  have C2 := run_cat (P := Tryz.prog) ((nm) ++ [32]) rs (by simp; omega)
  have C3 := run_cat (P := Tryz.prog) (((nm) ++ [32]) ++ rs) [44, 32] (by simp; omega)
  have C4 := run_cat (P := Tryz.prog) ((((nm) ++ [32]) ++ rs) ++ [44, 32]) ss (by simp; omega)
  have C5 := run_cat (P := Tryz.prog) (((((nm) ++ [32]) ++ rs) ++ [44, 32]) ++ ss) [44, 32] (by simp; omega)
  have C6 := run_cat (P := Tryz.prog) ((((((nm) ++ [32]) ++ rs) ++ [44, 32]) ++ ss) ++ [44, 32]) fs (by simp; omega)
  try simp only [List.cons_append, List.append_assoc, List.nil_append] at C1
  try simp only [List.cons_append, List.append_assoc, List.nil_append] at C2
  try simp only [List.cons_append, List.append_assoc, List.nil_append] at C3
  try simp only [List.cons_append, List.append_assoc, List.nil_append] at C4
  try simp only [List.cons_append, List.append_assoc, List.nil_append] at C5
  try simp only [List.cons_append, List.append_assoc, List.nil_append] at C6
  clear B hd hs f0 f1 m0 m1 z0 z1 L
  go_enter Tryz.func38, Tryz.ntmps38
  go_wp2_with fail
  generalize w.alloc (.cells #[.int .u8 op, .bool nw, .int .i64 d, .int .i64 src, .bool ui, .int .i64 off, .int .i64 im, .int .i64 sz] 47) = w1 at *
  have hk0 : w.heap.size < w1.heap.size := (Array.getElem?_eq_some_iff.1 hb).1
  have HK := Lib.hid hk
  have HWD := Lib.hid hwd
  clear hk hwd
  refine wp_region_held_drew (S := fun w' => w'.heap[w.heap.size]? = some (.cells #[.int .u8 op, .bool nw, .int .i64 d, .int .i64 src, .bool ui, .int .i64 off, .int .i64 im, .int .i64 sz] 47 (0, 0))) (by kernel_rfl) hb (fun S0 => ?_)
  refine wpAnyH_take (i := 1) (v := ?v1t44) rfl (by kernel_rfl) (by kernel_rfl) (by kernel_rfl) (fun _ _ _ h => h) (Or.inl ⟨by rfl, ?y1t44⟩) S0 ?z1t44
  case y1t44 => intro w_ hSw; go_simp; with_reducible rfl
  try simp only [List.getElem_toArray, List.getElem_cons_zero, List.getElem_cons_succ, Act.put, List.setIfInBounds_toArray, List.set_cons_zero, List.set_cons_succ]
  refine wpAnyH_take (i := 2) (v := ?v2t45) rfl (by kernel_rfl) (by kernel_rfl) (by kernel_rfl) (fun _ _ _ h => h) (Or.inl ⟨by rfl, ?y2t45⟩) S0 ?z2t45
  case y2t45 => intro w_ hSw; (try dsimp only at hSw); obtain ⟨g0, g1, g2, g3, g4, g5, g6, g7⟩ := block8 hSw; go_simp; with_reducible rfl
  try simp only [List.getElem_toArray, List.getElem_cons_zero, List.getElem_cons_succ, Act.put, List.setIfInBounds_toArray, List.set_cons_zero, List.set_cons_succ]
  refine wpAnyH_take (i := 3) (v := ?v3t46) rfl (by kernel_rfl) (by kernel_rfl) (by kernel_rfl) (fun _ _ _ h => h) (Or.inl ⟨by rfl, ?y3t46⟩) S0 ?z3t46
  case y3t46 => intro w_ hSw; go_simp; with_reducible rfl
  try simp only [List.getElem_toArray, List.getElem_cons_zero, List.getElem_cons_succ, Act.put, List.setIfInBounds_toArray, List.set_cons_zero, List.set_cons_succ]
  refine wpAnyH_ready (rs := [0]) (by kernel_rfl) (by simp) ?_
  refine AllReadyH.cons rfl (fun K hK => ?_) AllReadyH.nil
  go_simp
  refine (wordsD w1.drew).mono ?_; rintro e w2 ⟨v, rfl, hv, hbl⟩
  have b12 : Below w1.heap.size w1 w2 := ⟨hbl.os, hbl.tape, hbl.output, hbl.size, fun k h => hbl.block k h⟩
  have HB2 := Lib.hid ((HB.out).trans (b12.mono (HB.out).size))
  have HL2 := Lib.hid ((HL.out).past b12)
  have hb2 := (b12.block _ hk0).trans hb
  obtain ⟨ao, cap, hsh⟩ := hv.shape
  have e11 : wordsL.length = 27 := rfl
  rw [e11] at hsh
  subst hsh
  obtain ⟨g, o, rfl, y0, y1, y2, y3, y4⟩ := hv.at (by decide)
  have y5 := y4 k (by have : wordsL.length = 27 := rfl; have := HK.out; omega)
  rw [HWD.out] at y5
  have p2 : (k : Int) < 27 := by have := HK.out; omega
  clear hbl hv y4 S0 y0 y1 y2 y3 e11 b12 hb
  try go_wp2_with fail
  refine hK.out _ _ hb2 (fun _ => ?_)
  clear hK K
  try simp only [List.getElem_toArray, List.getElem_cons_zero, List.getElem_cons_succ, Act.put, List.setIfInBounds_toArray, List.set_cons_zero, List.set_cons_succ]
  refine wpAnyH_ready (rs := [4]) (by kernel_rfl) (by simp) ?_
  refine AllReadyH.cons rfl (fun K hK => ?_) AllReadyH.nil
  go_simp
  refine hK.out _ _ hb2 (fun _ => ?_)
  clear hK K
  try simp only [List.getElem_toArray, List.getElem_cons_zero, List.getElem_cons_succ, Act.put, List.setIfInBounds_toArray, List.set_cons_zero, List.set_cons_succ]
  refine wpAnyH_ready (rs := [5]) (by kernel_rfl) (by simp) ?_
  refine AllReadyH.cons rfl (fun K hK => ?_) AllReadyH.nil
  go_simp
  refine hK.out _ _ hb2 (fun _ => ?_)
  clear hK K
  try simp only [List.getElem_toArray, List.getElem_cons_zero, List.getElem_cons_succ, Act.put, List.setIfInBounds_toArray, List.set_cons_zero, List.set_cons_succ]
  refine wpAnyH_take (i := 6) (v := ?v6t47) rfl (by kernel_rfl) (by kernel_rfl) (by kernel_rfl) (fun _ _ _ h => h) (Or.inl ⟨by rfl, ?y6t47⟩) hb2 ?z6t47
  case y6t47 => intro w_ hSw; go_simp; with_reducible rfl
  try simp only [List.getElem_toArray, List.getElem_cons_zero, List.getElem_cons_succ, Act.put, List.setIfInBounds_toArray, List.set_cons_zero, List.set_cons_succ]
  refine wpAnyH_done (by kernel_rfl) ?_ _
  clear p2 y5
  obtain ⟨q0, q1, q2, q3, q4, q5, q6, q7⟩ := block8 hb2
  have hk2 : w.heap.size < w2.heap.size := (Array.getElem?_eq_some_iff.1 hb2).1
  have HNM := Lib.hid hnm
  clear hnm
  cases nw with
  | true =>
    have e0 : nm = wd ++ [51, 50] := HNM.out
    rw [← e0] at CN
    clear e0
    go_wp2_with fail
    refine wp_region_held_drew (S := fun w' => w'.heap[w.heap.size]? = some (.cells #[.int .u8 op, .bool true, .int .i64 d, .int .i64 src, .bool ui, .int .i64 off, .int .i64 im, .int .i64 sz] 47 (0, 0))) (by kernel_rfl) hb2 (fun S0 => ?_)
    refine wpAnyH_take (i := 0) (v := ?v0t48) rfl (by kernel_rfl) (by kernel_rfl) (by kernel_rfl) (fun _ _ _ h => h) (Or.inl ⟨by rfl, ?y0t48⟩) S0 ?z0t48
    case y0t48 => intro w_ hSw; go_simp; with_reducible rfl
    try simp only [List.getElem_toArray, List.getElem_cons_zero, List.getElem_cons_succ, Act.put, List.setIfInBounds_toArray, List.set_cons_zero, List.set_cons_succ]
    refine wpAnyH_take (i := 1) (v := ?v1t49) rfl (by kernel_rfl) (by kernel_rfl) (by kernel_rfl) (fun _ _ _ h => h) (Or.inl ⟨by rfl, ?y1t49⟩) S0 ?z1t49
    case y1t49 => intro w_ hSw; go_simp; with_reducible rfl
    try simp only [List.getElem_toArray, List.getElem_cons_zero, List.getElem_cons_succ, Act.put, List.setIfInBounds_toArray, List.set_cons_zero, List.set_cons_succ]
    refine wpAnyH_take (i := 2) (v := ?v2t50) rfl (by kernel_rfl) (by kernel_rfl) (by kernel_rfl) (fun _ _ _ h => h) (Or.inl ⟨by rfl, ?y2t50⟩) S0 ?z2t50
    case y2t50 => intro w_ hSw; go_simp; with_reducible rfl
    try simp only [List.getElem_toArray, List.getElem_cons_zero, List.getElem_cons_succ, Act.put, List.setIfInBounds_toArray, List.set_cons_zero, List.set_cons_succ]
    refine wpAnyH_take (i := 3) (v := ?v3t51) rfl (by kernel_rfl) (by kernel_rfl) (by kernel_rfl) (fun _ _ _ h => h) (Or.inl ⟨by rfl, ?y3t51⟩) S0 ?z3t51
    case y3t51 => intro w_ hSw; (try dsimp only at hSw); obtain ⟨g0, g1, g2, g3, g4, g5, g6, g7⟩ := block8 hSw; go_simp; with_reducible rfl
    try simp only [List.getElem_toArray, List.getElem_cons_zero, List.getElem_cons_succ, Act.put, List.setIfInBounds_toArray, List.set_cons_zero, List.set_cons_succ]
    refine wpAnyH_take (i := 7) (v := ?v7t52) rfl (by kernel_rfl) (by kernel_rfl) (by kernel_rfl) (fun _ _ _ h => h) (Or.inl ⟨by rfl, ?y7t52⟩) S0 ?z7t52
    case y7t52 => intro w_ hSw; (try dsimp only at hSw); obtain ⟨g0, g1, g2, g3, g4, g5, g6, g7⟩ := block8 hSw; go_simp; with_reducible rfl
    try simp only [List.getElem_toArray, List.getElem_cons_zero, List.getElem_cons_succ, Act.put, List.setIfInBounds_toArray, List.set_cons_zero, List.set_cons_succ]
    refine wpAnyH_take (i := 11) (v := ?v11t53) rfl (by kernel_rfl) (by kernel_rfl) (by kernel_rfl) (fun _ _ _ h => h) (Or.inl ⟨by rfl, ?y11t53⟩) S0 ?z11t53
    case y11t53 => intro w_ hSw; go_simp; with_reducible rfl
    try simp only [List.getElem_toArray, List.getElem_cons_zero, List.getElem_cons_succ, Act.put, List.setIfInBounds_toArray, List.set_cons_zero, List.set_cons_succ]
    refine wpAnyH_take (i := 12) (v := ?v12t54) rfl (by kernel_rfl) (by kernel_rfl) (by kernel_rfl) (fun _ _ _ h => h) (Or.inl ⟨by rfl, ?y12t54⟩) S0 ?z12t54
    case y12t54 => intro w_ hSw; (try dsimp only at hSw); obtain ⟨g0, g1, g2, g3, g4, g5, g6, g7⟩ := block8 hSw; go_simp; with_reducible rfl
    try simp only [List.getElem_toArray, List.getElem_cons_zero, List.getElem_cons_succ, Act.put, List.setIfInBounds_toArray, List.set_cons_zero, List.set_cons_succ]
    refine wpAnyH_ready (rs := [4]) (by kernel_rfl) (by simp) ?_
    refine AllReadyH.cons rfl (fun K hK => ?_) AllReadyH.nil
    go_simp
    refine ((RD.out) w2.drew ((HL2.out).past (below_drewN (Below.refl _ _) 1))).mono ?_; rintro e w3 ⟨rfl, b3⟩
    have b3' : Below w2.heap.size w2 w3 := ⟨b3.os, b3.tape, b3.output, b3.size, fun k h => b3.block k h⟩
    have S3 := (b3'.block _ hk2).trans hb2
    have HB3 := Lib.hid ((HB2.out).trans (b3'.mono (HB2.out).size))
    have HL3 := Lib.hid ((HL2.out).past b3')
    have hk3 : w.heap.size < w3.heap.size := Nat.lt_of_lt_of_le hk2 b3'.size
    clear b3 b3'
    try go_wp2_with fail
    refine hK.out _ _ S3 (fun _ => ?_)
    clear hK K
    try simp only [List.getElem_toArray, List.getElem_cons_zero, List.getElem_cons_succ, Act.put, List.setIfInBounds_toArray, List.set_cons_zero, List.set_cons_succ]
    refine wpAnyH_take (i := 5) (v := ?v5t55) rfl (by kernel_rfl) (by kernel_rfl) (by kernel_rfl) (fun _ _ _ h => h) (Or.inl ⟨by rfl, ?y5t55⟩) S3 ?z5t55
    case y5t55 => intro w_ hSw; go_simp; with_reducible rfl
    try simp only [List.getElem_toArray, List.getElem_cons_zero, List.getElem_cons_succ, Act.put, List.setIfInBounds_toArray, List.set_cons_zero, List.set_cons_succ]
    refine wpAnyH_take (i := 6) (v := ?v6t56) rfl (by kernel_rfl) (by kernel_rfl) (by kernel_rfl) (fun _ _ _ h => h) (Or.inl ⟨by rfl, ?y6t56⟩) S3 ?z6t56
    case y6t56 => intro w_ hSw; go_simp; with_reducible rfl
    try simp only [List.getElem_toArray, List.getElem_cons_zero, List.getElem_cons_succ, Act.put, List.setIfInBounds_toArray, List.set_cons_zero, List.set_cons_succ]
    refine wpAnyH_ready (rs := [8]) (by kernel_rfl) (by simp) ?_
    refine AllReadyH.cons rfl (fun K hK => ?_) AllReadyH.nil
    go_simp
    refine ((SE.out) w3 HL3.out).mono ?_; rintro e w4 ⟨rfl, b4⟩
    have b4' := b4
    have S4 := (b4'.block _ hk3).trans S3
    have HB4 := Lib.hid ((HB3.out).trans (b4'.mono (HB3.out).size))
    have HL4 := Lib.hid ((HL3.out).past b4')
    have hk4 : w.heap.size < w4.heap.size := Nat.lt_of_lt_of_le hk3 b4'.size
    clear b4 b4'
    try go_wp2_with fail
    refine hK.out _ _ S4 (fun _ => ?_)
    clear hK K
    try simp only [List.getElem_toArray, List.getElem_cons_zero, List.getElem_cons_succ, Act.put, List.setIfInBounds_toArray, List.set_cons_zero, List.set_cons_succ]
    refine wpAnyH_take (i := 9) (v := ?v9t57) rfl (by kernel_rfl) (by kernel_rfl) (by kernel_rfl) (fun _ _ _ h => h) (Or.inl ⟨by rfl, ?y9t57⟩) S4 ?z9t57
    case y9t57 => intro w_ hSw; go_simp; with_reducible rfl
    try simp only [List.getElem_toArray, List.getElem_cons_zero, List.getElem_cons_succ, Act.put, List.setIfInBounds_toArray, List.set_cons_zero, List.set_cons_succ]
    refine wpAnyH_take (i := 10) (v := ?v10t58) rfl (by kernel_rfl) (by kernel_rfl) (by kernel_rfl) (fun _ _ _ h => h) (Or.inl ⟨by rfl, ?y10t58⟩) S4 ?z10t58
    case y10t58 => intro w_ hSw; go_simp; with_reducible rfl
    try simp only [List.getElem_toArray, List.getElem_cons_zero, List.getElem_cons_succ, Act.put, List.setIfInBounds_toArray, List.set_cons_zero, List.set_cons_succ]
    refine wpAnyH_ready (rs := [13]) (by kernel_rfl) (by simp) ?_
    refine AllReadyH.cons rfl (fun K hK => ?_) AllReadyH.nil
    go_simp
    refine ((FA.out) w4 HL4.out).mono ?_; rintro e w5 ⟨rfl, b5⟩
    have b5' := b5
    have S5 := (b5'.block _ hk4).trans S4
    have HB5 := Lib.hid ((HB4.out).trans (b5'.mono (HB4.out).size))
    have HL5 := Lib.hid ((HL4.out).past b5')
    have hk5 : w.heap.size < w5.heap.size := Nat.lt_of_lt_of_le hk4 b5'.size
    clear b5 b5'
    try go_wp2_with fail
    refine hK.out _ _ S5 (fun _ => ?_)
    clear hK K
    try simp only [List.getElem_toArray, List.getElem_cons_zero, List.getElem_cons_succ, Act.put, List.setIfInBounds_toArray, List.set_cons_zero, List.set_cons_succ]
    refine wpAnyH_take (i := 14) (v := ?v14t59) rfl (by kernel_rfl) (by kernel_rfl) (by kernel_rfl) (fun _ _ _ h => h) (Or.inl ⟨by rfl, ?y14t59⟩) S5 ?z14t59
    case y14t59 => intro w_ hSw; go_simp; with_reducible rfl
    try simp only [List.getElem_toArray, List.getElem_cons_zero, List.getElem_cons_succ, Act.put, List.setIfInBounds_toArray, List.set_cons_zero, List.set_cons_succ]
    refine wpAnyH_take (i := 15) (v := ?v15t60) rfl (by kernel_rfl) (by kernel_rfl) (by kernel_rfl) (fun _ _ _ h => h) (Or.inl ⟨by rfl, ?y15t60⟩) S5 ?z15t60
    case y15t60 => intro w_ hSw; go_simp; with_reducible rfl
    try simp only [List.getElem_toArray, List.getElem_cons_zero, List.getElem_cons_succ, Act.put, List.setIfInBounds_toArray, List.set_cons_zero, List.set_cons_succ]
    refine wpAnyH_done (by kernel_rfl) ?_ _
    go_wp2_with fail
    go_ret
    exact ⟨rfl, HB5.out⟩
  | false =>
    have e0 : nm = wd := HNM.out
    subst e0
    clear CN
    go_wp2_with fail
    refine wp_region_held_drew (S := fun w' => w'.heap[w.heap.size]? = some (.cells #[.int .u8 op, .bool false, .int .i64 d, .int .i64 src, .bool ui, .int .i64 off, .int .i64 im, .int .i64 sz] 47 (0, 0))) (by kernel_rfl) hb2 (fun S0 => ?_)
    refine wpAnyH_take (i := 0) (v := ?v0t61) rfl (by kernel_rfl) (by kernel_rfl) (by kernel_rfl) (fun _ _ _ h => h) (Or.inl ⟨by rfl, ?y0t61⟩) S0 ?z0t61
    case y0t61 => intro w_ hSw; go_simp; with_reducible rfl
    try simp only [List.getElem_toArray, List.getElem_cons_zero, List.getElem_cons_succ, Act.put, List.setIfInBounds_toArray, List.set_cons_zero, List.set_cons_succ]
    refine wpAnyH_take (i := 1) (v := ?v1t62) rfl (by kernel_rfl) (by kernel_rfl) (by kernel_rfl) (fun _ _ _ h => h) (Or.inl ⟨by rfl, ?y1t62⟩) S0 ?z1t62
    case y1t62 => intro w_ hSw; go_simp; with_reducible rfl
    try simp only [List.getElem_toArray, List.getElem_cons_zero, List.getElem_cons_succ, Act.put, List.setIfInBounds_toArray, List.set_cons_zero, List.set_cons_succ]
    refine wpAnyH_take (i := 2) (v := ?v2t63) rfl (by kernel_rfl) (by kernel_rfl) (by kernel_rfl) (fun _ _ _ h => h) (Or.inl ⟨by rfl, ?y2t63⟩) S0 ?z2t63
    case y2t63 => intro w_ hSw; go_simp; with_reducible rfl
    try simp only [List.getElem_toArray, List.getElem_cons_zero, List.getElem_cons_succ, Act.put, List.setIfInBounds_toArray, List.set_cons_zero, List.set_cons_succ]
    refine wpAnyH_take (i := 3) (v := ?v3t64) rfl (by kernel_rfl) (by kernel_rfl) (by kernel_rfl) (fun _ _ _ h => h) (Or.inl ⟨by rfl, ?y3t64⟩) S0 ?z3t64
    case y3t64 => intro w_ hSw; (try dsimp only at hSw); obtain ⟨g0, g1, g2, g3, g4, g5, g6, g7⟩ := block8 hSw; go_simp; with_reducible rfl
    try simp only [List.getElem_toArray, List.getElem_cons_zero, List.getElem_cons_succ, Act.put, List.setIfInBounds_toArray, List.set_cons_zero, List.set_cons_succ]
    refine wpAnyH_take (i := 7) (v := ?v7t65) rfl (by kernel_rfl) (by kernel_rfl) (by kernel_rfl) (fun _ _ _ h => h) (Or.inl ⟨by rfl, ?y7t65⟩) S0 ?z7t65
    case y7t65 => intro w_ hSw; (try dsimp only at hSw); obtain ⟨g0, g1, g2, g3, g4, g5, g6, g7⟩ := block8 hSw; go_simp; with_reducible rfl
    try simp only [List.getElem_toArray, List.getElem_cons_zero, List.getElem_cons_succ, Act.put, List.setIfInBounds_toArray, List.set_cons_zero, List.set_cons_succ]
    refine wpAnyH_take (i := 11) (v := ?v11t66) rfl (by kernel_rfl) (by kernel_rfl) (by kernel_rfl) (fun _ _ _ h => h) (Or.inl ⟨by rfl, ?y11t66⟩) S0 ?z11t66
    case y11t66 => intro w_ hSw; go_simp; with_reducible rfl
    try simp only [List.getElem_toArray, List.getElem_cons_zero, List.getElem_cons_succ, Act.put, List.setIfInBounds_toArray, List.set_cons_zero, List.set_cons_succ]
    refine wpAnyH_take (i := 12) (v := ?v12t67) rfl (by kernel_rfl) (by kernel_rfl) (by kernel_rfl) (fun _ _ _ h => h) (Or.inl ⟨by rfl, ?y12t67⟩) S0 ?z12t67
    case y12t67 => intro w_ hSw; (try dsimp only at hSw); obtain ⟨g0, g1, g2, g3, g4, g5, g6, g7⟩ := block8 hSw; go_simp; with_reducible rfl
    try simp only [List.getElem_toArray, List.getElem_cons_zero, List.getElem_cons_succ, Act.put, List.setIfInBounds_toArray, List.set_cons_zero, List.set_cons_succ]
    refine wpAnyH_ready (rs := [4]) (by kernel_rfl) (by simp) ?_
    refine AllReadyH.cons rfl (fun K hK => ?_) AllReadyH.nil
    go_simp
    refine ((RD.out) w2.drew ((HL2.out).past (below_drewN (Below.refl _ _) 1))).mono ?_; rintro e w3 ⟨rfl, b3⟩
    have b3' : Below w2.heap.size w2 w3 := ⟨b3.os, b3.tape, b3.output, b3.size, fun k h => b3.block k h⟩
    have S3 := (b3'.block _ hk2).trans hb2
    have HB3 := Lib.hid ((HB2.out).trans (b3'.mono (HB2.out).size))
    have HL3 := Lib.hid ((HL2.out).past b3')
    have hk3 : w.heap.size < w3.heap.size := Nat.lt_of_lt_of_le hk2 b3'.size
    clear b3 b3'
    try go_wp2_with fail
    refine hK.out _ _ S3 (fun _ => ?_)
    clear hK K
    try simp only [List.getElem_toArray, List.getElem_cons_zero, List.getElem_cons_succ, Act.put, List.setIfInBounds_toArray, List.set_cons_zero, List.set_cons_succ]
    refine wpAnyH_take (i := 5) (v := ?v5t68) rfl (by kernel_rfl) (by kernel_rfl) (by kernel_rfl) (fun _ _ _ h => h) (Or.inl ⟨by rfl, ?y5t68⟩) S3 ?z5t68
    case y5t68 => intro w_ hSw; go_simp; with_reducible rfl
    try simp only [List.getElem_toArray, List.getElem_cons_zero, List.getElem_cons_succ, Act.put, List.setIfInBounds_toArray, List.set_cons_zero, List.set_cons_succ]
    refine wpAnyH_take (i := 6) (v := ?v6t69) rfl (by kernel_rfl) (by kernel_rfl) (by kernel_rfl) (fun _ _ _ h => h) (Or.inl ⟨by rfl, ?y6t69⟩) S3 ?z6t69
    case y6t69 => intro w_ hSw; go_simp; with_reducible rfl
    try simp only [List.getElem_toArray, List.getElem_cons_zero, List.getElem_cons_succ, Act.put, List.setIfInBounds_toArray, List.set_cons_zero, List.set_cons_succ]
    refine wpAnyH_ready (rs := [8]) (by kernel_rfl) (by simp) ?_
    refine AllReadyH.cons rfl (fun K hK => ?_) AllReadyH.nil
    go_simp
    refine ((SE.out) w3 HL3.out).mono ?_; rintro e w4 ⟨rfl, b4⟩
    have b4' := b4
    have S4 := (b4'.block _ hk3).trans S3
    have HB4 := Lib.hid ((HB3.out).trans (b4'.mono (HB3.out).size))
    have HL4 := Lib.hid ((HL3.out).past b4')
    have hk4 : w.heap.size < w4.heap.size := Nat.lt_of_lt_of_le hk3 b4'.size
    clear b4 b4'
    try go_wp2_with fail
    refine hK.out _ _ S4 (fun _ => ?_)
    clear hK K
    try simp only [List.getElem_toArray, List.getElem_cons_zero, List.getElem_cons_succ, Act.put, List.setIfInBounds_toArray, List.set_cons_zero, List.set_cons_succ]
    refine wpAnyH_take (i := 9) (v := ?v9t70) rfl (by kernel_rfl) (by kernel_rfl) (by kernel_rfl) (fun _ _ _ h => h) (Or.inl ⟨by rfl, ?y9t70⟩) S4 ?z9t70
    case y9t70 => intro w_ hSw; go_simp; with_reducible rfl
    try simp only [List.getElem_toArray, List.getElem_cons_zero, List.getElem_cons_succ, Act.put, List.setIfInBounds_toArray, List.set_cons_zero, List.set_cons_succ]
    refine wpAnyH_take (i := 10) (v := ?v10t71) rfl (by kernel_rfl) (by kernel_rfl) (by kernel_rfl) (fun _ _ _ h => h) (Or.inl ⟨by rfl, ?y10t71⟩) S4 ?z10t71
    case y10t71 => intro w_ hSw; go_simp; with_reducible rfl
    try simp only [List.getElem_toArray, List.getElem_cons_zero, List.getElem_cons_succ, Act.put, List.setIfInBounds_toArray, List.set_cons_zero, List.set_cons_succ]
    refine wpAnyH_ready (rs := [13]) (by kernel_rfl) (by simp) ?_
    refine AllReadyH.cons rfl (fun K hK => ?_) AllReadyH.nil
    go_simp
    refine ((FA.out) w4 HL4.out).mono ?_; rintro e w5 ⟨rfl, b5⟩
    have b5' := b5
    have S5 := (b5'.block _ hk4).trans S4
    have HB5 := Lib.hid ((HB4.out).trans (b5'.mono (HB4.out).size))
    have HL5 := Lib.hid ((HL4.out).past b5')
    have hk5 : w.heap.size < w5.heap.size := Nat.lt_of_lt_of_le hk4 b5'.size
    clear b5 b5'
    try go_wp2_with fail
    refine hK.out _ _ S5 (fun _ => ?_)
    clear hK K
    try simp only [List.getElem_toArray, List.getElem_cons_zero, List.getElem_cons_succ, Act.put, List.setIfInBounds_toArray, List.set_cons_zero, List.set_cons_succ]
    refine wpAnyH_take (i := 14) (v := ?v14t72) rfl (by kernel_rfl) (by kernel_rfl) (by kernel_rfl) (fun _ _ _ h => h) (Or.inl ⟨by rfl, ?y14t72⟩) S5 ?z14t72
    case y14t72 => intro w_ hSw; go_simp; with_reducible rfl
    try simp only [List.getElem_toArray, List.getElem_cons_zero, List.getElem_cons_succ, Act.put, List.setIfInBounds_toArray, List.set_cons_zero, List.set_cons_succ]
    refine wpAnyH_take (i := 15) (v := ?v15t73) rfl (by kernel_rfl) (by kernel_rfl) (by kernel_rfl) (fun _ _ _ h => h) (Or.inl ⟨by rfl, ?y15t73⟩) S5 ?z15t73
    case y15t73 => intro w_ hSw; go_simp; with_reducible rfl
    try simp only [List.getElem_toArray, List.getElem_cons_zero, List.getElem_cons_succ, Act.put, List.setIfInBounds_toArray, List.set_cons_zero, List.set_cons_succ]
    refine wpAnyH_done (by kernel_rfl) ?_ _
    go_wp2_with fail
    go_ret
    exact ⟨rfl, HB5.out⟩
theorem oneD_plain (op : Int) (nw : Bool) (d : Nat) (hd : d ≤ 10) (src : Nat) (hs : src ≤ 10) (ui : Bool) (off im sz : Int) (f0 : -32768 ≤ off) (f1 : off < 32768) (m0 : -9223372036854775808 ≤ im) (m1 : im ≤ 9223372036854775807) (z0 : 0 ≤ sz) (z1 : sz ≤ 8) (k : Nat) (hk : k < 27) (wd : Str) (hwd : wordsL.getD k [] = wd) (hwl : wd.length ≤ 4) (hlo : decide (op ≤ 27) = true) (hsub : IntKind.u8.wrap (op - 1) = (k : Int)) (c28 : (op == 28) = false) (c16 : (op == 16) = false) (c14 : (op == 14) = false) (c15 : (op == 15) = false) (c13 : (op == 13) = false) (c17 : decide (17 ≤ op) = false) (nm : Str) (hnm : nm = if nw then wd ++ [51, 50] else wd) (w : World) (L : Lay w) :
    Calls Tryz.prog 38 #[.agg #[.int .u8 op, .bool nw, .int .i64 d, .int .i64 src, .bool ui, .int .i64 off, .int .i64 im, .int .i64 sz]] w fun e w' => e = .returned (str (nm ++ 32 :: (regs.getD d [] ++ 44 :: 32 :: secondS ⟨op, nw, d, src, ui, off, im, sz⟩))) ∧ Below w.heap.size w w' := by
  have B := alloc_below w (.cells #[.int .u8 op, .bool nw, .int .i64 d, .int .i64 src, .bool ui, .int .i64 off, .int .i64 im, .int .i64 sz] 47)
  have hb := heap_alloc_new w (.cells #[.int .u8 op, .bool nw, .int .i64 d, .int .i64 src, .bool ui, .int .i64 off, .int .i64 im, .int .i64 sz] 47)
  have HL := Lib.hid (L.past B)
  have HB := Lib.hid B
  have RD := Lib.hid (fun W (LW : Lay W) => regD d hd W LW)
  have SE := Lib.hid (fun W (LW : Lay W) => secondD op nw d src hs ui off im sz m0 m1 W LW)
  have FA := Lib.hid (fun W (LW : Lay W) => farD off f0 f1 W LW)
  have CD := Lib.hid (fun W (LW : Lay W) => cellD d off hd f0 f1 W LW)
  have CS := Lib.hid (fun W (LW : Lay W) => cellD src off hs f0 f1 W LW)
  have IT := Lib.hid (fun W (LW : Lay W) => itoaP sz (by omega) (by omega) W LW)
  have lr : (regs.getD d []).length ≤ 3 := by rw [← regS_nat d hd]; exact regS_len d
  have ls : (secondS ⟨op, nw, d, src, ui, off, im, sz⟩).length ≤ 20 := by
    unfold secondS
    cases ui
    · show (regS src).length ≤ 20; have := regS_len src; omega
    · exact itoa_short im m0 m1
  have lf := farS_len off [] f0 f1 (by decide)
  have lc : ∀ n, (cellS n off).length ≤ 50 := by
    intro n
    have := regS_len n
    have := farS_len off [32] f0 f1 (by decide)
    simp [cellS]; omega
  have lcd := lc d
  have lcs := lc src
  have li := itoa_short sz (by omega) (by omega)
  clear lc
  generalize regs.getD d [] = rs at RD lr ⊢
  generalize secondS ⟨op, nw, d, src, ui, off, im, sz⟩ = ss at SE ls ⊢
  generalize farS off [] = fs at FA lf ⊢
  generalize cellS d off = cd at CD lcd ⊢
  generalize cellS src off = cs at CS lcs ⊢
  generalize Lib.itoa sz = it at IT li ⊢
  have lm : nm.length ≤ 6 := by rw [hnm]; split <;> (try simp) <;> omega
  have CN := run_cat (P := Tryz.prog) wd [51, 50] (by simp; omega)
  have C1 := run_cat (P := Tryz.prog) (nm) [32] (by simp; omega)
  have C2 := run_cat (P := Tryz.prog) ((nm) ++ [32]) rs (by simp; omega)
  have C3 := run_cat (P := Tryz.prog) (((nm) ++ [32]) ++ rs) [44, 32] (by simp; omega)
  have C4 := run_cat (P := Tryz.prog) ((((nm) ++ [32]) ++ rs) ++ [44, 32]) ss (by simp; omega)
  try simp only [List.cons_append, List.append_assoc, List.nil_append] at C1
  try simp only [List.cons_append, List.append_assoc, List.nil_append] at C2
  try simp only [List.cons_append, List.append_assoc, List.nil_append] at C3
  try simp only [List.cons_append, List.append_assoc, List.nil_append] at C4
  clear B hd hs f0 f1 m0 m1 z0 z1 L
  go_enter Tryz.func38, Tryz.ntmps38
  go_wp2_with fail
  generalize w.alloc (.cells #[.int .u8 op, .bool nw, .int .i64 d, .int .i64 src, .bool ui, .int .i64 off, .int .i64 im, .int .i64 sz] 47) = w1 at *
  have hk0 : w.heap.size < w1.heap.size := (Array.getElem?_eq_some_iff.1 hb).1
  have HK := Lib.hid hk
  have HWD := Lib.hid hwd
  clear hk hwd
  refine wp_region_held_drew (S := fun w' => w'.heap[w.heap.size]? = some (.cells #[.int .u8 op, .bool nw, .int .i64 d, .int .i64 src, .bool ui, .int .i64 off, .int .i64 im, .int .i64 sz] 47 (0, 0))) (by kernel_rfl) hb (fun S0 => ?_)
  refine wpAnyH_take (i := 1) (v := ?v1t74) rfl (by kernel_rfl) (by kernel_rfl) (by kernel_rfl) (fun _ _ _ h => h) (Or.inl ⟨by rfl, ?y1t74⟩) S0 ?z1t74
  case y1t74 => intro w_ hSw; go_simp; with_reducible rfl
  try simp only [List.getElem_toArray, List.getElem_cons_zero, List.getElem_cons_succ, Act.put, List.setIfInBounds_toArray, List.set_cons_zero, List.set_cons_succ]
  refine wpAnyH_take (i := 2) (v := ?v2t75) rfl (by kernel_rfl) (by kernel_rfl) (by kernel_rfl) (fun _ _ _ h => h) (Or.inl ⟨by rfl, ?y2t75⟩) S0 ?z2t75
  case y2t75 => intro w_ hSw; (try dsimp only at hSw); obtain ⟨g0, g1, g2, g3, g4, g5, g6, g7⟩ := block8 hSw; go_simp; with_reducible rfl
  try simp only [List.getElem_toArray, List.getElem_cons_zero, List.getElem_cons_succ, Act.put, List.setIfInBounds_toArray, List.set_cons_zero, List.set_cons_succ]
  refine wpAnyH_take (i := 3) (v := ?v3t76) rfl (by kernel_rfl) (by kernel_rfl) (by kernel_rfl) (fun _ _ _ h => h) (Or.inl ⟨by rfl, ?y3t76⟩) S0 ?z3t76
  case y3t76 => intro w_ hSw; go_simp; with_reducible rfl
  try simp only [List.getElem_toArray, List.getElem_cons_zero, List.getElem_cons_succ, Act.put, List.setIfInBounds_toArray, List.set_cons_zero, List.set_cons_succ]
  refine wpAnyH_ready (rs := [0]) (by kernel_rfl) (by simp) ?_
  refine AllReadyH.cons rfl (fun K hK => ?_) AllReadyH.nil
  go_simp
  refine (wordsD w1.drew).mono ?_; rintro e w2 ⟨v, rfl, hv, hbl⟩
  have b12 : Below w1.heap.size w1 w2 := ⟨hbl.os, hbl.tape, hbl.output, hbl.size, fun k h => hbl.block k h⟩
  have HB2 := Lib.hid ((HB.out).trans (b12.mono (HB.out).size))
  have HL2 := Lib.hid ((HL.out).past b12)
  have hb2 := (b12.block _ hk0).trans hb
  obtain ⟨ao, cap, hsh⟩ := hv.shape
  have e11 : wordsL.length = 27 := rfl
  rw [e11] at hsh
  subst hsh
  obtain ⟨g, o, rfl, y0, y1, y2, y3, y4⟩ := hv.at (by decide)
  have y5 := y4 k (by have : wordsL.length = 27 := rfl; have := HK.out; omega)
  rw [HWD.out] at y5
  have p2 : (k : Int) < 27 := by have := HK.out; omega
  clear hbl hv y4 S0 y0 y1 y2 y3 e11 b12 hb
  try go_wp2_with fail
  refine hK.out _ _ hb2 (fun _ => ?_)
  clear hK K
  try simp only [List.getElem_toArray, List.getElem_cons_zero, List.getElem_cons_succ, Act.put, List.setIfInBounds_toArray, List.set_cons_zero, List.set_cons_succ]
  refine wpAnyH_ready (rs := [4]) (by kernel_rfl) (by simp) ?_
  refine AllReadyH.cons rfl (fun K hK => ?_) AllReadyH.nil
  go_simp
  refine hK.out _ _ hb2 (fun _ => ?_)
  clear hK K
  try simp only [List.getElem_toArray, List.getElem_cons_zero, List.getElem_cons_succ, Act.put, List.setIfInBounds_toArray, List.set_cons_zero, List.set_cons_succ]
  refine wpAnyH_ready (rs := [5]) (by kernel_rfl) (by simp) ?_
  refine AllReadyH.cons rfl (fun K hK => ?_) AllReadyH.nil
  go_simp
  refine hK.out _ _ hb2 (fun _ => ?_)
  clear hK K
  try simp only [List.getElem_toArray, List.getElem_cons_zero, List.getElem_cons_succ, Act.put, List.setIfInBounds_toArray, List.set_cons_zero, List.set_cons_succ]
  refine wpAnyH_take (i := 6) (v := ?v6t77) rfl (by kernel_rfl) (by kernel_rfl) (by kernel_rfl) (fun _ _ _ h => h) (Or.inl ⟨by rfl, ?y6t77⟩) hb2 ?z6t77
  case y6t77 => intro w_ hSw; go_simp; with_reducible rfl
  try simp only [List.getElem_toArray, List.getElem_cons_zero, List.getElem_cons_succ, Act.put, List.setIfInBounds_toArray, List.set_cons_zero, List.set_cons_succ]
  refine wpAnyH_done (by kernel_rfl) ?_ _
  clear p2 y5
  obtain ⟨q0, q1, q2, q3, q4, q5, q6, q7⟩ := block8 hb2
  have hk2 : w.heap.size < w2.heap.size := (Array.getElem?_eq_some_iff.1 hb2).1
  have HNM := Lib.hid hnm
  clear hnm
  cases nw with
  | true =>
    have e0 : nm = wd ++ [51, 50] := HNM.out
    rw [← e0] at CN
    clear e0
    go_wp2_with fail
    refine wp_region_held_drew (S := fun w' => w'.heap[w.heap.size]? = some (.cells #[.int .u8 op, .bool true, .int .i64 d, .int .i64 src, .bool ui, .int .i64 off, .int .i64 im, .int .i64 sz] 47 (0, 0))) (by kernel_rfl) hb2 (fun S0 => ?_)
    refine wpAnyH_take (i := 0) (v := ?v0t78) rfl (by kernel_rfl) (by kernel_rfl) (by kernel_rfl) (fun _ _ _ h => h) (Or.inl ⟨by rfl, ?y0t78⟩) S0 ?z0t78
    case y0t78 => intro w_ hSw; go_simp; with_reducible rfl
    try simp only [List.getElem_toArray, List.getElem_cons_zero, List.getElem_cons_succ, Act.put, List.setIfInBounds_toArray, List.set_cons_zero, List.set_cons_succ]
    refine wpAnyH_take (i := 1) (v := ?v1t79) rfl (by kernel_rfl) (by kernel_rfl) (by kernel_rfl) (fun _ _ _ h => h) (Or.inl ⟨by rfl, ?y1t79⟩) S0 ?z1t79
    case y1t79 => intro w_ hSw; go_simp; with_reducible rfl
    try simp only [List.getElem_toArray, List.getElem_cons_zero, List.getElem_cons_succ, Act.put, List.setIfInBounds_toArray, List.set_cons_zero, List.set_cons_succ]
    refine wpAnyH_take (i := 2) (v := ?v2t80) rfl (by kernel_rfl) (by kernel_rfl) (by kernel_rfl) (fun _ _ _ h => h) (Or.inl ⟨by rfl, ?y2t80⟩) S0 ?z2t80
    case y2t80 => intro w_ hSw; go_simp; with_reducible rfl
    try simp only [List.getElem_toArray, List.getElem_cons_zero, List.getElem_cons_succ, Act.put, List.setIfInBounds_toArray, List.set_cons_zero, List.set_cons_succ]
    refine wpAnyH_take (i := 3) (v := ?v3t81) rfl (by kernel_rfl) (by kernel_rfl) (by kernel_rfl) (fun _ _ _ h => h) (Or.inl ⟨by rfl, ?y3t81⟩) S0 ?z3t81
    case y3t81 => intro w_ hSw; (try dsimp only at hSw); obtain ⟨g0, g1, g2, g3, g4, g5, g6, g7⟩ := block8 hSw; go_simp; with_reducible rfl
    try simp only [List.getElem_toArray, List.getElem_cons_zero, List.getElem_cons_succ, Act.put, List.setIfInBounds_toArray, List.set_cons_zero, List.set_cons_succ]
    refine wpAnyH_take (i := 7) (v := ?v7t82) rfl (by kernel_rfl) (by kernel_rfl) (by kernel_rfl) (fun _ _ _ h => h) (Or.inl ⟨by rfl, ?y7t82⟩) S0 ?z7t82
    case y7t82 => intro w_ hSw; (try dsimp only at hSw); obtain ⟨g0, g1, g2, g3, g4, g5, g6, g7⟩ := block8 hSw; go_simp; with_reducible rfl
    try simp only [List.getElem_toArray, List.getElem_cons_zero, List.getElem_cons_succ, Act.put, List.setIfInBounds_toArray, List.set_cons_zero, List.set_cons_succ]
    refine wpAnyH_ready (rs := [4]) (by kernel_rfl) (by simp) ?_
    refine AllReadyH.cons rfl (fun K hK => ?_) AllReadyH.nil
    go_simp
    refine ((RD.out) w2.drew ((HL2.out).past (below_drewN (Below.refl _ _) 1))).mono ?_; rintro e w3 ⟨rfl, b3⟩
    have b3' : Below w2.heap.size w2 w3 := ⟨b3.os, b3.tape, b3.output, b3.size, fun k h => b3.block k h⟩
    have S3 := (b3'.block _ hk2).trans hb2
    have HB3 := Lib.hid ((HB2.out).trans (b3'.mono (HB2.out).size))
    have HL3 := Lib.hid ((HL2.out).past b3')
    have hk3 : w.heap.size < w3.heap.size := Nat.lt_of_lt_of_le hk2 b3'.size
    clear b3 b3'
    try go_wp2_with fail
    refine hK.out _ _ S3 (fun _ => ?_)
    clear hK K
    try simp only [List.getElem_toArray, List.getElem_cons_zero, List.getElem_cons_succ, Act.put, List.setIfInBounds_toArray, List.set_cons_zero, List.set_cons_succ]
    refine wpAnyH_take (i := 5) (v := ?v5t83) rfl (by kernel_rfl) (by kernel_rfl) (by kernel_rfl) (fun _ _ _ h => h) (Or.inl ⟨by rfl, ?y5t83⟩) S3 ?z5t83
    case y5t83 => intro w_ hSw; go_simp; with_reducible rfl
    try simp only [List.getElem_toArray, List.getElem_cons_zero, List.getElem_cons_succ, Act.put, List.setIfInBounds_toArray, List.set_cons_zero, List.set_cons_succ]
    refine wpAnyH_take (i := 6) (v := ?v6t84) rfl (by kernel_rfl) (by kernel_rfl) (by kernel_rfl) (fun _ _ _ h => h) (Or.inl ⟨by rfl, ?y6t84⟩) S3 ?z6t84
    case y6t84 => intro w_ hSw; go_simp; with_reducible rfl
    try simp only [List.getElem_toArray, List.getElem_cons_zero, List.getElem_cons_succ, Act.put, List.setIfInBounds_toArray, List.set_cons_zero, List.set_cons_succ]
    refine wpAnyH_ready (rs := [8]) (by kernel_rfl) (by simp) ?_
    refine AllReadyH.cons rfl (fun K hK => ?_) AllReadyH.nil
    go_simp
    refine ((SE.out) w3 HL3.out).mono ?_; rintro e w4 ⟨rfl, b4⟩
    have b4' := b4
    have S4 := (b4'.block _ hk3).trans S3
    have HB4 := Lib.hid ((HB3.out).trans (b4'.mono (HB3.out).size))
    have HL4 := Lib.hid ((HL3.out).past b4')
    have hk4 : w.heap.size < w4.heap.size := Nat.lt_of_lt_of_le hk3 b4'.size
    clear b4 b4'
    try go_wp2_with fail
    refine hK.out _ _ S4 (fun _ => ?_)
    clear hK K
    try simp only [List.getElem_toArray, List.getElem_cons_zero, List.getElem_cons_succ, Act.put, List.setIfInBounds_toArray, List.set_cons_zero, List.set_cons_succ]
    refine wpAnyH_take (i := 9) (v := ?v9t85) rfl (by kernel_rfl) (by kernel_rfl) (by kernel_rfl) (fun _ _ _ h => h) (Or.inl ⟨by rfl, ?y9t85⟩) S4 ?z9t85
    case y9t85 => intro w_ hSw; go_simp; with_reducible rfl
    try simp only [List.getElem_toArray, List.getElem_cons_zero, List.getElem_cons_succ, Act.put, List.setIfInBounds_toArray, List.set_cons_zero, List.set_cons_succ]
    refine wpAnyH_take (i := 10) (v := ?v10t86) rfl (by kernel_rfl) (by kernel_rfl) (by kernel_rfl) (fun _ _ _ h => h) (Or.inl ⟨by rfl, ?y10t86⟩) S4 ?z10t86
    case y10t86 => intro w_ hSw; go_simp; with_reducible rfl
    try simp only [List.getElem_toArray, List.getElem_cons_zero, List.getElem_cons_succ, Act.put, List.setIfInBounds_toArray, List.set_cons_zero, List.set_cons_succ]
    refine wpAnyH_done (by kernel_rfl) ?_ _
    go_wp2_with fail
    go_ret
    exact ⟨rfl, HB4.out⟩
  | false =>
    have e0 : nm = wd := HNM.out
    subst e0
    clear CN
    go_wp2_with fail
    refine wp_region_held_drew (S := fun w' => w'.heap[w.heap.size]? = some (.cells #[.int .u8 op, .bool false, .int .i64 d, .int .i64 src, .bool ui, .int .i64 off, .int .i64 im, .int .i64 sz] 47 (0, 0))) (by kernel_rfl) hb2 (fun S0 => ?_)
    refine wpAnyH_take (i := 0) (v := ?v0t87) rfl (by kernel_rfl) (by kernel_rfl) (by kernel_rfl) (fun _ _ _ h => h) (Or.inl ⟨by rfl, ?y0t87⟩) S0 ?z0t87
    case y0t87 => intro w_ hSw; go_simp; with_reducible rfl
    try simp only [List.getElem_toArray, List.getElem_cons_zero, List.getElem_cons_succ, Act.put, List.setIfInBounds_toArray, List.set_cons_zero, List.set_cons_succ]
    refine wpAnyH_take (i := 1) (v := ?v1t88) rfl (by kernel_rfl) (by kernel_rfl) (by kernel_rfl) (fun _ _ _ h => h) (Or.inl ⟨by rfl, ?y1t88⟩) S0 ?z1t88
    case y1t88 => intro w_ hSw; go_simp; with_reducible rfl
    try simp only [List.getElem_toArray, List.getElem_cons_zero, List.getElem_cons_succ, Act.put, List.setIfInBounds_toArray, List.set_cons_zero, List.set_cons_succ]
    refine wpAnyH_take (i := 2) (v := ?v2t89) rfl (by kernel_rfl) (by kernel_rfl) (by kernel_rfl) (fun _ _ _ h => h) (Or.inl ⟨by rfl, ?y2t89⟩) S0 ?z2t89
    case y2t89 => intro w_ hSw; go_simp; with_reducible rfl
    try simp only [List.getElem_toArray, List.getElem_cons_zero, List.getElem_cons_succ, Act.put, List.setIfInBounds_toArray, List.set_cons_zero, List.set_cons_succ]
    refine wpAnyH_take (i := 3) (v := ?v3t90) rfl (by kernel_rfl) (by kernel_rfl) (by kernel_rfl) (fun _ _ _ h => h) (Or.inl ⟨by rfl, ?y3t90⟩) S0 ?z3t90
    case y3t90 => intro w_ hSw; (try dsimp only at hSw); obtain ⟨g0, g1, g2, g3, g4, g5, g6, g7⟩ := block8 hSw; go_simp; with_reducible rfl
    try simp only [List.getElem_toArray, List.getElem_cons_zero, List.getElem_cons_succ, Act.put, List.setIfInBounds_toArray, List.set_cons_zero, List.set_cons_succ]
    refine wpAnyH_take (i := 7) (v := ?v7t91) rfl (by kernel_rfl) (by kernel_rfl) (by kernel_rfl) (fun _ _ _ h => h) (Or.inl ⟨by rfl, ?y7t91⟩) S0 ?z7t91
    case y7t91 => intro w_ hSw; (try dsimp only at hSw); obtain ⟨g0, g1, g2, g3, g4, g5, g6, g7⟩ := block8 hSw; go_simp; with_reducible rfl
    try simp only [List.getElem_toArray, List.getElem_cons_zero, List.getElem_cons_succ, Act.put, List.setIfInBounds_toArray, List.set_cons_zero, List.set_cons_succ]
    refine wpAnyH_ready (rs := [4]) (by kernel_rfl) (by simp) ?_
    refine AllReadyH.cons rfl (fun K hK => ?_) AllReadyH.nil
    go_simp
    refine ((RD.out) w2.drew ((HL2.out).past (below_drewN (Below.refl _ _) 1))).mono ?_; rintro e w3 ⟨rfl, b3⟩
    have b3' : Below w2.heap.size w2 w3 := ⟨b3.os, b3.tape, b3.output, b3.size, fun k h => b3.block k h⟩
    have S3 := (b3'.block _ hk2).trans hb2
    have HB3 := Lib.hid ((HB2.out).trans (b3'.mono (HB2.out).size))
    have HL3 := Lib.hid ((HL2.out).past b3')
    have hk3 : w.heap.size < w3.heap.size := Nat.lt_of_lt_of_le hk2 b3'.size
    clear b3 b3'
    try go_wp2_with fail
    refine hK.out _ _ S3 (fun _ => ?_)
    clear hK K
    try simp only [List.getElem_toArray, List.getElem_cons_zero, List.getElem_cons_succ, Act.put, List.setIfInBounds_toArray, List.set_cons_zero, List.set_cons_succ]
    refine wpAnyH_take (i := 5) (v := ?v5t92) rfl (by kernel_rfl) (by kernel_rfl) (by kernel_rfl) (fun _ _ _ h => h) (Or.inl ⟨by rfl, ?y5t92⟩) S3 ?z5t92
    case y5t92 => intro w_ hSw; go_simp; with_reducible rfl
    try simp only [List.getElem_toArray, List.getElem_cons_zero, List.getElem_cons_succ, Act.put, List.setIfInBounds_toArray, List.set_cons_zero, List.set_cons_succ]
    refine wpAnyH_take (i := 6) (v := ?v6t93) rfl (by kernel_rfl) (by kernel_rfl) (by kernel_rfl) (fun _ _ _ h => h) (Or.inl ⟨by rfl, ?y6t93⟩) S3 ?z6t93
    case y6t93 => intro w_ hSw; go_simp; with_reducible rfl
    try simp only [List.getElem_toArray, List.getElem_cons_zero, List.getElem_cons_succ, Act.put, List.setIfInBounds_toArray, List.set_cons_zero, List.set_cons_succ]
    refine wpAnyH_ready (rs := [8]) (by kernel_rfl) (by simp) ?_
    refine AllReadyH.cons rfl (fun K hK => ?_) AllReadyH.nil
    go_simp
    refine ((SE.out) w3 HL3.out).mono ?_; rintro e w4 ⟨rfl, b4⟩
    have b4' := b4
    have S4 := (b4'.block _ hk3).trans S3
    have HB4 := Lib.hid ((HB3.out).trans (b4'.mono (HB3.out).size))
    have HL4 := Lib.hid ((HL3.out).past b4')
    have hk4 : w.heap.size < w4.heap.size := Nat.lt_of_lt_of_le hk3 b4'.size
    clear b4 b4'
    try go_wp2_with fail
    refine hK.out _ _ S4 (fun _ => ?_)
    clear hK K
    try simp only [List.getElem_toArray, List.getElem_cons_zero, List.getElem_cons_succ, Act.put, List.setIfInBounds_toArray, List.set_cons_zero, List.set_cons_succ]
    refine wpAnyH_take (i := 9) (v := ?v9t94) rfl (by kernel_rfl) (by kernel_rfl) (by kernel_rfl) (fun _ _ _ h => h) (Or.inl ⟨by rfl, ?y9t94⟩) S4 ?z9t94
    case y9t94 => intro w_ hSw; go_simp; with_reducible rfl
    try simp only [List.getElem_toArray, List.getElem_cons_zero, List.getElem_cons_succ, Act.put, List.setIfInBounds_toArray, List.set_cons_zero, List.set_cons_succ]
    refine wpAnyH_take (i := 10) (v := ?v10t95) rfl (by kernel_rfl) (by kernel_rfl) (by kernel_rfl) (fun _ _ _ h => h) (Or.inl ⟨by rfl, ?y10t95⟩) S4 ?z10t95
    case y10t95 => intro w_ hSw; go_simp; with_reducible rfl
    try simp only [List.getElem_toArray, List.getElem_cons_zero, List.getElem_cons_succ, Act.put, List.setIfInBounds_toArray, List.set_cons_zero, List.set_cons_succ]
    refine wpAnyH_done (by kernel_rfl) ?_ _
    go_wp2_with fail
    go_ret
    exact ⟨rfl, HB4.out⟩
end Go.Proofs.YthfkmackodbmkaaGreatDoor
