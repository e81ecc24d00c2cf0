/- Contracts of awake, ShaKnown and ShaApart: they tell true. -/
import Derived.Test.YtckpjfgflbaehaaDoorShaSum
import Derived.Lib.SlBytesConst
namespace Go.Proofs.YtckpjfgflbaehaaDoor
open Go.RowKit
set_option linter.unusedVariables false
set_option linter.unusedSimpArgs false
set_option maxRecDepth 100000

/-- e returns v; nothing that was there has turned. -/
def Gives (v : Value) (w : World) (e : Ending) (w' : World) : Prop := e = .returned v ∧ Below w.heap.size w w'
/-- The digest, with its shape. -/
theorem shaSum32 (v : Value) (l : List Int) (w : World) (T : Tabs w) (h : Bs w v l) (ho : Oct l) (hl : l.length ≤ 50000) :
    Calls Tryd.prog 10 #[v] w fun e w' => Shaped 32 (digest l) w e w' :=
  (shaSum v l w T h ho hl).mono fun e w' h => h.shaped (digest_length l)

theorem bs_text (w : World) (l : List Int) (h : l.length ≤ 1000) (fr : Nat × Nat) : Bs (w.alloc (.cells (bv l).toArray 5 fr)) (.slice (some ⟨w.heap.size, 0, none⟩) l.length l.length) l :=
  Bs.mk (Nat.le_refl _) (by unfold maxLen; omega) fun j hj => by
    rw [cell_of_row _ w.heap.size (0 + j) (bv l).toArray 5 fr (heap_alloc_new w _)]
    have := bv_get hj
    simpa using this

set_option maxHeartbeats 4000000 in
theorem awakeOf (w : World) (T : Tabs w) :
    Calls Tryd.prog 7 #[] w (Gives (.bool true) w) := by
  have HT := Lib.hid T
  have SA := Lib.hid (shaSum32 (.slice (some ⟨w.heap.size, 0, none⟩) 3 3) [97, 98, 99] (w.alloc (.cells #[.int .u8 97, .int .u8 98, .int .u8 99] 5 (3, 4))) (T.past (alloc_below w _)) (bs_text w [97, 98, 99] (by decide) (3, 4)) (by unfold Oct; decide) (by decide))
  have SN := fun W T => Lib.hid (shaSum32 (.slice none 0 0) [] W T (Bs.nil W) Oct.nil (by decide))
  clear T
  have kc := fun (W : World) (C : Array Value) (n c : Nat) => Lib.run_convert_bytes_const (P := Tryd.prog) W 22 5 C n c Tryd.underlying22 Tryd.underlying5
  go_enter Tryd.func7, Tryd.ntmps7
  go_wp2_with fail
  refine (SA.out).mono ?_; rintro e w1 ⟨a1, c1, rfl, ho1, hb1⟩
  have B1 := bel_trans (alloc_below w (.cells #[.int .u8 97, .int .u8 98, .int .u8 99] 5 (3, 4))) hb1
  rw [digest_abc] at ho1
  have H1 := Lib.hid ho1.bs
  have HB1 := Lib.hid B1
  clear hb1 B1 ho1 SA
  go_wp2_with fail
  refine ((SN w1 ((HT.out).past HB1.out)).out).mono ?_; rintro e w2 ⟨a2, c2, rfl, ho2, hb2⟩
  have B2 := Lib.hid (bel_trans HB1.out hb2)
  rw [digest_nil] at ho2
  have K1 := (H1.out).past hb2
  have K2 := ho2.bs
  clear ho2 hb2 H1 HB1
  obtain ⟨g1, o1, c1', hs1, -, -, -, cells1⟩ := K1.at (by decide)
  obtain ⟨g2, o2, c2', hs2, -, -, -, cells2⟩ := K2.at (by decide)
  injection hs1 with ha1 _ hc1
  injection hs2 with ha2 _ hc2
  subst ha1 hc1 ha2 hc2
  have d0 : w2.cell? ⟨g1, o1, none⟩ = some (.int .u8 186) := cells1 0 (by decide)
  have d1 : w2.cell? ⟨g1, o1 + 1, none⟩ = some (.int .u8 120) := cells1 1 (by decide)
  have d30 : w2.cell? ⟨g1, o1 + 30, none⟩ = some (.int .u8 21) := cells1 30 (by decide)
  have d31 : w2.cell? ⟨g1, o1 + 31, none⟩ = some (.int .u8 173) := cells1 31 (by decide)
  have e0 : w2.cell? ⟨g2, o2, none⟩ = some (.int .u8 227) := cells2 0 (by decide)
  have e31 : w2.cell? ⟨g2, o2 + 31, none⟩ = some (.int .u8 85) := cells2 31 (by decide)
  clear cells1 cells2 K1 K2
  go_wp2
  go_ret
  exact ⟨rfl, B2.out⟩

theorem thousand : digest (List.replicate 1000 97) = [65, 237, 236, 228, 45, 99, 232, 217, 191, 81, 90, 155, 166, 147, 46, 28, 32, 203, 201, 245, 165, 209, 52, 100, 90, 219, 93, 177, 185, 115, 126, 163] := by decide +kernel

set_option maxHeartbeats 4000000 in
theorem shaKnownOf (w : World) (T : Tabs w) :
    Calls Tryd.prog 6 #[] w (Gives (.bool true) w) := by
  have HT := Lib.hid T
  have AW := Lib.hid (awakeOf w T)
  clear T
  go_enter Tryd.func6, Tryd.ntmps6
  go_wp2_with fail
  refine (AW.out).mono ?_; rintro e w1 ⟨rfl, hb1⟩
  have hz := hb1.size
  have B1 := Lib.hid hb1
  clear hb1
  have O1 : Hid (Own w1 w.heap.size (.slice none 0 0) (List.replicate 0 97)) := Lib.hid (Own.nil _ _)
  go_wp2
  go_loopw [1, 2] (fun x i wr => ∃ (k : Nat) (a : Option Addr) (c : Nat), k ≤ 1000 ∧ x = .slice a k c ∧ i = .int .i64 k ∧ Hid (Own wr w.heap.size (.slice a k c) (List.replicate k 97)) ∧ Hid (Below w.heap.size w wr)) (fun _ i _ => 1000 - (intOf i).toNat)
  case atStart => exact ⟨0, none, 0, Nat.zero_le _, rfl, rfl, O1, B1⟩
  case round =>
    clear O1 B1
    obtain ⟨k, a, c, hk, rfl, rfl, O, B⟩ := hrel
    by_cases hlt : k < 1000
    · have hd : decide ((k : Int) < 1000) = true := by simp; omega
      have hz2 : w.heap.size ≤ wr.heap.size := (B.out).size
      have O1 := Lib.hid ((O.out).alloc (.cells #[.int .u8 97] 5))
      have L1 := Lib.hid (bs_lit wr 97)
      have B1 := Lib.hid ((B.out).trans ((alloc_below wr (.cells #[.int .u8 97] 5)).mono hz2))
      clear O B
      go_wp2_with (at_builtin; refine wpList_append_bs _ rfl _ _ rfl w.heap.size _ (List.replicate k 97) rfl O1.out _ _ rfl L1.out (by simp; omega) (by simp; omega) ?_)
      intro v3 w3 ho3 hg3
      have B3 := Lib.hid ((B1.out).grown hg3 (by simp; omega) (fun k hk => ((O1.out).lt k hk).1))
      have ho4 : Own w3 w.heap.size v3 (List.replicate (k + 1) 97) := by rw [List.replicate_succ']; exact ho3
      obtain ⟨a3, c3, hs3⟩ := ho4.bs.shape
      rw [List.length_replicate] at hs3
      subst hs3
      have O3 := Lib.hid ho4
      clear ho3 ho4 hg3 B1 O1 L1
      go_wp2
      go_roundw
      case rel => exact ⟨k + 1, a3, c3, by omega, rfl, by go_num, O3, B3⟩
      case measure => simp [intOf]; omega
    · have hd : decide ((k : Int) < 1000) = false := by simp; omega
      obtain rfl : k = 1000 := by omega
      have SM := Lib.hid (shaSum32 (.slice a 1000 c) _ wr ((HT.out).below B.out (HT.out).2.lt) (O.out).bs (fun x hx => by rw [List.eq_of_mem_replicate hx]; decide) (by simp))
      rw [thousand] at SM
      go_wp2_with fail
      refine (SM.out).mono ?_; rintro e w2 ⟨a2, c2, rfl, ho2, hb2⟩
      have B2 := Lib.hid (bel_past B.out hb2)
      have SL := Lib.hid (sameBytes_yes (ho2.bs.alloc _) (bs_list w2 [65, 237, 236, 228, 45, 99, 232, 217, 191, 81, 90, 155, 166, 147, 46, 28, 32, 203, 201, 245, 165, 209, 52, 100, 90, 219, 93, 177, 185, 115, 126, 163] (by decide)) rfl)
      clear ho2 hb2 SM O B
      go_wp2_with fail
      refine (SL.out).mono ?_; rintro e w3 ⟨rfl, hb3⟩
      have B3 := Lib.hid (bel_past B2.out (below_alloc hb3))
      clear hb3
      go_wp2
      go_ret
      exact ⟨rfl, B3.out⟩

def nums3 (a b c : Nat) (j : Nat) : Nat := [a, b, c].getD j 0
/-- Three rows; the last was made first. -/
theorem apartThree {W : World} {B lo1 hi1 lo2 hi2 lo3 hi3 : Nat} {v1 v2 v3 : Value} {x1 x2 x3 : List Int} (r1 : Row W lo1 hi1 v1 x1) (r2 : Row W lo2 hi2 v2 x2) (r3 : Row W lo3 hi3 v3 x3)
    (b : B ≤ lo3) (o3 : hi3 ≤ lo1) (o1 : hi1 ≤ lo2) : Rowy W B (vth [v1, v2, v3]) 3 (nums3 x1.length x2.length x3.length) := by
  have m1 := r1.2.2.2
  have m2 := r2.2.2.2
  have m3 := r3.2.2.2
  have key : ∀ j, j < 3 → ∃ lo hi l, Row W lo hi (vth [v1, v2, v3] j) l ∧ l.length = nums3 x1.length x2.length x3.length j ∧ B ≤ lo ∧
      (j = 0 → lo = lo1 ∧ hi = hi1) ∧ (j = 1 → lo = lo2 ∧ hi = hi2) ∧ (j = 2 → lo = lo3 ∧ hi = hi3) := fun j hj => by
    match j, hj with
    | 0, _ => exact ⟨lo1, hi1, x1, r1, rfl, by omega, by simp⟩
    | 1, _ => exact ⟨lo2, hi2, x2, r2, rfl, by omega, by simp⟩
    | 2, _ => exact ⟨lo3, hi3, x3, r3, rfl, by omega, by simp⟩
  refine ⟨fun j hj => ?_, fun i j hi hj hne Y ha hb => ?_⟩
  · obtain ⟨lo, hi, l, hr, hl, hB, _⟩ := key j hj
    exact ⟨l, hl, hr.1.mono hB⟩
  · obtain ⟨lo, hi', l, hr, _, _, c0, c1, c2⟩ := key i hi
    obtain ⟨lo', hi'', l', hr', _, _, d0, d1, d2⟩ := key j hj
    have e1 := (hr.1.lt Y ha).1
    have e2 := hr.2.1 Y ha
    have e3 := (hr'.1.lt Y hb).1
    have e4 := hr'.2.1 Y hb
    omega

set_option maxHeartbeats 4000000 in
theorem shaApartOf (v1 : Value) (l1 : List Int) (v2 : Value) (l2 : List Int) (w : World) (T : Tabs w) (h1 : Bs w v1 l1) (ho1 : Oct l1) (h2 : Bs w v2 l2) (ho2 : Oct l2) (hl1 : l1.length ≤ 140737488351232) (hl2 : l2.length ≤ 140737488351232) :
    Calls Tryd.prog 5 #[v1, v2] w (Gives (.bool true) w) := by
  obtain ⟨ao1, cap1, hs1⟩ := h1.shape
  obtain ⟨ao2, cap2, hs2⟩ := h2.shape
  subst hs1 hs2
  have HT := Lib.hid T
  have AW := Lib.hid (awakeOf w T)
  have H1 := Lib.hid h1
  have H2 := Lib.hid h2
  have HO1 := Lib.hid ho1
  have HO2 := Lib.hid ho2
  clear T h1 h2 ho1 ho2
  generalize hm1 : l1.length = n1 at *
  generalize hm2 : l2.length = n2 at *
  have HN1 := Lib.hid hm1
  have HN2 := Lib.hid hm2
  clear hm1 hm2
  go_enter Tryd.func5, Tryd.ntmps5
  go_wp2_with fail
  refine (AW.out).mono ?_; rintro e w1 ⟨rfl, hb1⟩
  have hz := hb1.size
  have B1 := Lib.hid hb1
  clear hb1 AW
  by_cases hsum : n1 + n2 ≤ 20000
  · have hd : decide ((20000 : Int) < (n1 : Int) + (n2 : Int)) = false := by simp; omega
    have O0 := Lib.hid (made_now w1 w1.heap.size (Nat.le_refl _))
    have L0 := Lib.hid ((H1.out).past ((B1.out).trans ((alloc_below w1 (.cells #[] 5)).mono hz)))
    have hz0 : w1.heap.size ≤ (w1.alloc (.cells #[] 5)).heap.size := by simp
    have BB0 := Lib.hid (alloc_below w1 (.cells #[] 5))
    go_wp2_with (at_builtin; refine wpList_append_bs _ rfl _ _ rfl w1.heap.size _ [] rfl O0.out _ _ rfl L0.out (by have := HN1.out; simp; omega) hz0 ?_)
    intro v2 w2 ho2 hg2
    have C2 := Lib.hid ((BB0.out).grown hg2 hz0 (fun k hk => ((O0.out).lt k hk).1))

    have hz2 : w1.heap.size ≤ w2.heap.size := (C2.out).size
    have L2 := Lib.hid ((H2.out).past ((B1.out).trans ((C2.out).mono hz)))
    obtain ⟨a2, c2, hs2⟩ := ho2.bs.shape
    rw [HN1.out] at hs2
    have O2 := Lib.hid ho2
    subst hs2
    clear ho2 hg2 O0 L0 BB0 hz0
    go_wp2_with (at_builtin; refine wpList_append_bs _ rfl _ _ rfl w1.heap.size _ l1 rfl O2.out _ _ rfl L2.out (by have := HN1.out; have := HN2.out; omega) hz2 ?_)
    intro v3 w3 ho3 hg3
    have C3 := Lib.hid ((C2.out).grown hg3 hz2 (fun k hk => ((O2.out).lt k hk).1))
    obtain ⟨a3, c3, hs3⟩ := ho3.bs.shape
    rw [List.length_append, HN1.out, HN2.out] at hs3
    subst hs3
    have R3 := Lib.hid (Row.of ho3 C3.out)
    clear ho3 hg3 C2 O2 L2
    have BA := Lib.hid ((B1.out).trans ((C3.out).mono hz))
    have hz3 : w.heap.size ≤ w3.heap.size := (BA.out).size
    have hcap : n1 + n2 ≤ c3 := by obtain ⟨_, _, e, g1, _⟩ := (R3.out).bs; injection e with _ _ e3; have := HN1.out; have := HN2.out; simp at g1; omega
    have ST := Lib.hid (slice_to a3 (n1 + n2) c3 n1 (by omega))
    have hpre : Bs w3 (.slice a3 n1 c3) l1 := by
      have := ((R3.out).bs).take (n := n1) (by have := HN1.out; simp; omega)
      have e : (l1 ++ l2).take n1 = l1 := by rw [← HN1.out, List.take_left]
      rwa [e] at this
    have SX := Lib.hid (fun w' (hb : Below w3.heap.size w3 w') => shaSum32 (.slice ao1 n1 cap1) l1 w' ((HT.out).past ((BA.out).trans (hb.mono hz3))) ((H1.out).past ((BA.out).trans (hb.mono hz3))) HO1.out (by have := HN1.out; omega))
    have SY := Lib.hid (fun w' (hb : Below w3.heap.size w3 w') => shaSum32 (.slice a3 n1 c3) l1 w' ((HT.out).past ((BA.out).trans (hb.mono hz3))) (hpre.past hb) HO1.out (by have := HN1.out; omega))
    clear hpre
    go_upto_region 6 with fail
    go_cut [6, 7, 21, 22, 23, 24, 25, 26, 27] (fun v6 v7 v21 v22 v23 v24 v25 v26 v27 wx => ∃ (ax : Option Addr) (cx : Nat) (ay : Option Addr) (cy : Nat) (m : Nat), v6 = .slice ax 32 cx ∧ v7 = .slice ay 32 cy ∧ Hid (Row wx w3.heap.size m (.slice ax 32 cx) (digest l1)) ∧ Hid (Row wx m wx.heap.size (.slice ay 32 cy) (digest l1)) ∧ Hid (Below w3.heap.size w3 wx))
    case first =>
      have hI0 : Below w3.heap.size w3 w3.drew := ((Still.refl w3).drewN 1).below _
      refine wp_region_held_drew (S := fun w' => Below w3.heap.size w3 w') (by kernel_rfl) hI0 (fun hI0 => ?_)
      refine wpAnyH_take (i := 0) (v := ?v0t1) rfl (by kernel_rfl) (by kernel_rfl) (by kernel_rfl) (fun _ _ _ h => h) (Or.inl ⟨by rfl, ?y0t1⟩) hI0 ?z0t1
      case y0t1 => intro w_ hSw; go_simp; with_reducible rfl
      try simp only [List.getElem_toArray, List.getElem_cons_zero, List.getElem_cons_succ, Act.put, List.setIfInBounds_toArray, List.set_cons_zero, List.set_cons_succ]
      refine wpAnyH_take (i := 2) (v := ?v2t2) rfl (by kernel_rfl) (by kernel_rfl) (by kernel_rfl) (fun _ _ _ h => h) (Or.inl ⟨by rfl, ?y2t2⟩) hI0 ?z2t2
      case y2t2 => intro w_ hSw; go_simp; with_reducible rfl
      try simp only [List.getElem_toArray, List.getElem_cons_zero, List.getElem_cons_succ, Act.put, List.setIfInBounds_toArray, List.set_cons_zero, List.set_cons_succ]
      refine wpAnyH_take (i := 3) (v := ?v3t3) rfl (by kernel_rfl) (by kernel_rfl) (by kernel_rfl) (fun _ _ _ h => h) (Or.inl ⟨by rfl, ?y3t3⟩) hI0 ?z3t3
      case y3t3 => intro w_ hSw; go_simp; with_reducible rfl
      try simp only [List.getElem_toArray, List.getElem_cons_zero, List.getElem_cons_succ, Act.put, List.setIfInBounds_toArray, List.set_cons_zero, List.set_cons_succ]
      refine wpAnyH_take (i := 4) (v := ?v4t4) rfl (by kernel_rfl) (by kernel_rfl) (by kernel_rfl) (fun _ _ _ h => h) (Or.inl ⟨by rfl, ?y4t4⟩) hI0 ?z4t4
      case y4t4 => intro w_ hSw; go_simp; with_reducible rfl
      try simp only [List.getElem_toArray, List.getElem_cons_zero, List.getElem_cons_succ, Act.put, List.setIfInBounds_toArray, List.set_cons_zero, List.set_cons_succ]
      refine wpAnyH_take (i := 5) rfl (by kernel_rfl) (by kernel_rfl) (by kernel_rfl) (fun _ _ _ h => h) (yieldsIf_slice_to (by rfl) (.tmp 23) (.tmp 25) rfl _ _ _ rfl rfl ST.out) hI0 ?_
      try simp only [List.getElem_toArray, List.getElem_cons_zero, List.getElem_cons_succ, Act.put, List.setIfInBounds_toArray, List.set_cons_zero, List.set_cons_succ]
      refine wpAnyH_ready (rs := [1]) (by kernel_rfl) (by simp) ?_
      refine AllReadyH.cons rfl (fun K hK => ?_) ?_
      · go_simp
        refine ((SX.out) _ hI0).mono ?_
        rintro ee w1_ ⟨ax, cx, rfl, hox, hqx⟩
        have hI1 := hI0.trans (hqx.mono hI0.size)
        have RX1 : Row w1_ w3.heap.size w1_.heap.size (.slice ax 32 cx) (digest l1) := ⟨hox.mono hI0.size, fun Y hY => (hox.lt Y hY).2, Nat.le_refl _, hI1.size⟩
        try go_wp2_with fail
        refine hK.out _ _ hI1 (fun _ => ?_)
        clear hK K
        try simp only [List.getElem_toArray, List.getElem_cons_zero, List.getElem_cons_succ, Act.put, List.setIfInBounds_toArray, List.set_cons_zero, List.set_cons_succ]
        refine wpAnyH_ready (rs := [6]) (by kernel_rfl) (by simp) ?_
        refine AllReadyH.cons rfl (fun K hK => ?_) ?_
        · go_simp
          refine ((SY.out) _ hI1).mono ?_
          rintro ee w6_ ⟨ay, cy, rfl, hoy, hqy⟩
          have hI6 := hI1.trans (hqy.mono hI1.size)
          have RX6 := RX1.past hqy
          have RY6 : Row w6_ w1_.heap.size w6_.heap.size (.slice ay 32 cy) (digest l1) := ⟨hoy, fun Y hY => (hoy.lt Y hY).2, Nat.le_refl _, hqy.size⟩
          try go_wp2_with fail
          refine hK.out _ _ hI6 (fun _ => ?_)
          clear hK K
          try simp only [List.getElem_toArray, List.getElem_cons_zero, List.getElem_cons_succ, Act.put, List.setIfInBounds_toArray, List.set_cons_zero, List.set_cons_succ]
          refine wpAnyH_ready (rs := [7]) (by kernel_rfl) (by simp) ?_
          refine AllReadyH.cons rfl (fun K hK => ?_) ?_
          · go_simp
            refine hK.out _ _ hI6 (fun _ => ?_)
            clear hK K
            try simp only [List.getElem_toArray, List.getElem_cons_zero, List.getElem_cons_succ, Act.put, List.setIfInBounds_toArray, List.set_cons_zero, List.set_cons_succ]
            refine wpAnyH_ready (rs := [8]) (by kernel_rfl) (by simp) ?_
            refine AllReadyH.cons rfl (fun K hK => ?_) ?_
            · go_simp
              refine hK.out _ _ hI6 (fun _ => ?_)
              clear hK K
              try simp only [List.getElem_toArray, List.getElem_cons_zero, List.getElem_cons_succ, Act.put, List.setIfInBounds_toArray, List.set_cons_zero, List.set_cons_succ]
              refine wpAnyH_done (by kernel_rfl) ?_ _
              go_wp2_with fail
              go_meet
              exact ⟨ax, cx, ay, cy, w1_.heap.size, rfl, rfl, Lib.hid RX6, Lib.hid RY6, Lib.hid hI6⟩
            exact AllReadyH.nil
          exact AllReadyH.nil
        exact AllReadyH.nil
      exact AllReadyH.nil
    case rest =>
      obtain ⟨ax, cx, ay, cy, m, rfl, rfl, RX, RY, BX⟩ := hcut
      have SM := Lib.hid (sameBytes_yes (RX.out).bs (RY.out).bs rfl)
      clear SX SY ST
      go_wp2_with fail
      refine (SM.out).mono ?_; rintro e w5 ⟨rfl, hb5⟩
      have hX5 := (RX.out).past hb5
      have hY5 := (RY.out).past hb5
      have hA5 := ((R3.out).past ((BX.out).trans (hb5.mono (BX.out).size)))
      have B5 := Lib.hid ((BA.out).trans (((BX.out).trans (hb5.mono (BX.out).size)).mono hz3))
      have AP := apartThree hX5 hY5 hA5 (Nat.le_refl w1.heap.size) (Nat.le_refl _) (Nat.le_refl _)
      have AP2 : Rowy (w5.alloc (.cells #[.slice ax 32 cx, .slice ay 32 cy, .slice a3 (n1 + n2) c3] 22)) w1.heap.size (vth [.slice ax 32 cx, .slice ay 32 cy, .slice a3 (n1 + n2) c3]) 3 _ :=
        ⟨fun j hj => by obtain ⟨l, hl, o⟩ := AP.row j hj; exact ⟨l, hl, o.alloc _⟩, AP.sep⟩
      have hz5 : w1.heap.size ≤ w5.heap.size := by have := (BX.out).size; have := hb5.size; have := (C3.out).size; omega
      have QA := Lib.hid (apartBytes (.slice (some ⟨w5.heap.size, 0, none⟩) 3 3) [.slice ax 32 cx, .slice ay 32 cy, .slice a3 (n1 + n2) c3] _ w1.heap.size _ (vals_lit w5 [.slice ax 32 cx, .slice ay 32 cy, .slice a3 (n1 + n2) c3] (by simp)) AP2 (by simp; omega) (by simp) (fun j hj => by
        have d := digest_length l1
        have k1 := HN1.out
        have k2 := HN2.out
        match j, hj with
        | 0, _ => show (digest l1).length ≤ _; omega
        | 1, _ => show (digest l1).length ≤ _; omega
        | 2, _ => show (l1 ++ l2).length ≤ _; rw [List.length_append]; omega))
      clear hX5 hY5 hA5 AP AP2 hb5 RX RY R3 SM
      go_wp2_with fail
      refine (QA.out).mono ?_; rintro e w6 ⟨rfl, hb6⟩
      have hb7 : Below w1.heap.size w5 w6 := ((Below.refl _ _).alloc hz5 _).trans hb6
      have B6 := Lib.hid ((B5.out).trans (hb7.mono hz))
      clear hb6 hb7
      go_wp2_with fail
      go_ret
      exact ⟨rfl, B6.out⟩
  · have hd : decide ((20000 : Int) < (n1 : Int) + (n2 : Int)) = true := by simp; omega
    go_wp2
    go_ret
    exact ⟨rfl, B1.out⟩
end Go.Proofs.YtckpjfgflbaehaaDoor
