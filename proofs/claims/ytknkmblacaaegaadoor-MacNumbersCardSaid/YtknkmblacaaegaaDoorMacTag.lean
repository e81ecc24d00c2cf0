/- Contracts of a digest of two parts, of tagOf, Tag and Fits. -/
import Derived.Test.YtknkmblacaaegaaDoorMacTurn
import Derived.Deep.RegionHeld3
namespace Go.Proofs.YtknkmblacaaegaaDoor
open Go.RowKit
set_option linter.unusedVariables false
set_option linter.unusedSimpArgs false
set_option maxRecDepth 100000

theorem array_at (a : Option Addr) (c : Nat) (w : World) : (Instr.arrayAt 35 (.slice a 32 c)).run Tryd.prog w = .ok (.pointer a) w := by
  simp [Instr.arrayAt, run_underlying Tryd.underlying35]

set_option maxHeartbeats 2000000 in
/-- The digest of two parts, one behind the other. -/
theorem digestTwo (v : Value) (u1 u2 : Value) (x y : List Int) (w : World) (T : Tabs w) (hv : Vals w v [u1, u2]) (h1 : Bs w u1 x) (h2 : Bs w u2 y) (o1 : Oct x) (o2 : Oct y) (hl : x.length + y.length ≤ 50000) :
    Calls Tryd.prog 30 #[v] w fun e w' => e = .returned (.agg (bv (digest (x ++ y))).toArray) ∧ Below w.heap.size w w' := by
  obtain ⟨ao, cap, hsh⟩ := hv.shape
  subst hsh
  have CC := Lib.hid (fun w' (hb : Below w.heap.size w w') => concat (.slice ao 2 cap) [u1, u2] [x, y] w' (by
      obtain ⟨a', c', e, q1, q2, q3, q4⟩ := hv
      exact ⟨a', c', e, q1, q2, q3, fun a ha j hj => (hb.cell (p := a.add j) (World.block_lt_of_cell? w _ (q4 a ha j hj))).trans (q4 a ha j hj)⟩) (all_two (h1.past hb) (h2.past hb)) (by simp; omega))
  have HT := Lib.hid T
  have HO := Lib.hid (o1.append o2)
  have HL : Hid ((x ++ y).length ≤ 50000) := Lib.hid (by rw [List.length_append]; exact hl)
  have HF : Hid ([x, y].flatten = x ++ y) := Lib.hid (by simp)
  have hat := array_at
  obtain ⟨D, hD⟩ : ∃ D, D = digest (x ++ y) := ⟨_, rfl⟩
  rw [← hD]
  have HDL : Hid (D.length = 32) := Lib.hid (by rw [hD]; exact digest_length _)
  have HD := Lib.hid hD
  clear hv h1 h2 o1 o2 T hl hD
  go_enter Tryd.func30, Tryd.ntmps30
  go_upto_region 1 with fail
  change Code.wp _ _ _ _ (w.alloc (.cells (bv (List.replicate 32 0)).toArray 35))
  have A1 := Lib.hid (Ay.made 35 w (List.replicate 32 0))
  have B1 := Lib.hid (alloc_below w (.cells (bv (List.replicate 32 0)).toArray 35))
  generalize w.alloc (.cells (bv (List.replicate 32 0)).toArray 35) = w1 at *
  generalize hA : w.heap.size = A at *
  have HA := Lib.hid hA
  clear hA
  go_wp2_with fail
  refine ((CC.out) w1 B1.out).mono ?_; rintro e w2 ⟨v2, rfl, ho2, hb2⟩
  obtain ⟨a2, c2, hs2⟩ := ho2.bs.shape
  rw [HF.out] at ho2 hs2
  generalize (x ++ y).length = m at hs2
  subst hs2
  have B2 := Lib.hid ((B1.out).trans (hb2.mono (by have := (B1.out).size; have := HA.out; omega)))
  have A2 := Lib.hid ((A1.out).past hb2)
  have SM := Lib.hid (shaSum32 _ (x ++ y) w2 ((HT.out).below B2.out (by have := (HT.out).2.lt; have := HA.out; omega)) ho2.bs HO.out HL.out)
  rw [← HD.out] at SM
  clear ho2 hb2 A1 B1 CC
  go_wp2_with fail
  with_reducible refine (SM.out).mono ?_
  rintro e w3 ⟨a3, c3, rfl, ho3, hb3⟩
  clear SM
  have hd := HDL.out
  obtain ⟨b, off, c', hsh, hc1, -, -, cells⟩ := ho3.bs.at (by rw [hd]; decide)
  rw [hd] at hsh
  injection hsh with ha _ hc
  subst ha hc
  have CD := Lib.hid cells
  have A3 := Lib.hid ((A2.out).past hb3)
  have B3 := Lib.hid ((B2.out).trans (hb3.mono (by have := (B2.out).size; have := HA.out; omega)))
  clear ho3 hb3 A2 B2 cells hd
  go_wp2_with (first | (refine wpList_load_bs (o := ⟨some 7, _, _, _, _, _⟩) rfl 35 32 arbT (.tmp 6) rfl b off rfl D CD.out HDL.out ?_) | (refine wpList_store_ay (o := ⟨none, .store 35 (.tmp 2) (.tmp 7), _, _, _, _⟩) rfl 35 32 arbT (.tmp 2) (.tmp 7) rfl A D (List.replicate 32 0) rfl rfl (A3.out) (by rfl) HDL.out ?_))
  intro w4 h4 g4
  have A4 := Lib.hid h4
  have B4 := Lib.hid ((B3.out).grown g4 (by have := (B3.out).size; have := HA.out; omega) (fun k hk => by cases hk; exact Nat.le_refl _))
  clear h4 g4
  go_wp2
  refine ret_ay 35 32 arbT 2 ?hr A ?hp _ (A4.out) HDL.out ?hd ?hR
  case hr => kernel_rfl
  case hp => simp only [Act.put, List.setIfInBounds_toArray, List.set_cons_zero, List.set_cons_succ]; rfl
  case hd => simp only [Act.put]
  case hR =>
    rw [HA.out]
    exact ⟨rfl, B4.out⟩

def macOf (kb b : List Int) : List Int := digest (under 92 kb ++ digest (under 54 kb ++ b))
theorem macOf_kblock (key b : List Int) : macOf (kblock key) b = mac key b := rfl

set_option maxHeartbeats 2000000 in
theorem tagOf (kb : List Int) (v : Value) (l : List Int) (w : World) (T : Tabs w) (hk : kb.length = 64) (ok : Oct kb) (h : Bs w v l) (ho : Oct l) (hl : l.length ≤ 49000) :
    Calls Tryd.prog 19 #[.agg (bv kb).toArray, v] w fun e w' => e = .returned (.agg (bv (macOf kb l)).toArray) ∧ Below w.heap.size w w' := by
  obtain ⟨ao, cap, hsh⟩ := h.shape
  subst hsh
  have hlen := h.len
  obtain ⟨I, hI⟩ : ∃ I, I = digest (under 54 kb ++ l) := ⟨_, rfl⟩
  obtain ⟨D, hD⟩ : ∃ D, D = macOf kb l := ⟨_, rfl⟩
  have hD2 : digest (under 92 kb ++ I) = D := by rw [hD, hI]; rfl
  rw [← hD]
  have HDL : Hid (D.length = 32) := Lib.hid (by rw [← hD2]; exact digest_length _)
  have HIL : Hid (I.length = 32) := Lib.hid (by rw [hI]; exact digest_length _)
  have HIO : Hid (Oct I) := Lib.hid (by rw [hI]; exact digest_oct _)
  have HI := Lib.hid hI.symm
  have HD := Lib.hid hD2
  have HK := Lib.hid hk
  have O54 := Lib.hid (under_oct (n := 54) ok (by decide))
  have O92 := Lib.hid (under_oct (n := 92) ok (by decide))
  have L54 : Hid ((under 54 kb).length = 64) := Lib.hid (by rw [under_length, hk])
  have L92 : Hid ((under 92 kb).length = 64) := Lib.hid (by rw [under_length, hk])
  have HT := Lib.hid T
  have H := Lib.hid h
  have HO := Lib.hid ho
  have HL := Lib.hid hl
  clear hI hD hD2 hk ok T h ho hl
  generalize hn : l.length = n at *
  have HN := Lib.hid hn
  clear hn
  go_enter Tryd.func19, Tryd.ntmps19
  apply wp_seq
  apply wp_region_lit
  refine wpList_box_ay rfl 38 64 arbB (.tmp 0) rfl kb rfl ?_
  intro g w1 hg h1 g1
  refine wpList_alloc_ay rfl 35 32 arbT rfl ?_
  intro X w2 hX h2 g2
  have B2 := Lib.hid (((Below.refl w.heap.size w).grown g1 (Nat.le_refl _) (fun k e => by cases e)).grown g2 g1.size (fun k e => by cases e))
  have K2 := Lib.hid (h1.grown g2 (by simp))
  have X2 := Lib.hid h2
  have hgw : g = w.heap.size := hg.symm
  have hXw : w.heap.size < X := by have := h1.lt; omega
  have HX := Lib.hid hXw
  clear hg h1 g1 hX h2 g2 hXw
  subst hgw
  have TN := Lib.hid (fun W => turner kb W HK.out)
  go_wp2_with (first | (refine wpList_load_ay (o := ⟨some 7, _, _, _, _, _⟩) rfl 38 64 arbB (.tmp 2) rfl w.heap.size rfl kb K2.out HK.out ?_))
  refine ((TN.out) _).mono ?_; rintro e w3 ⟨b, rfl, hb3, bl3⟩
  have B3 := Lib.hid ((B2.out).trans (bl3.mono (B2.out).size))
  have X3 := Lib.hid ((X2.out).past bl3)
  have K3 := Lib.hid hb3
  clear hb3 bl3 B2 X2 K2 TN
  have C54 := Lib.hid (turnerAt 54 b kb w3 K3.out HK.out)
  go_wp2_with fail
  refine (C54.out).mono ?_; rintro e w4 ⟨g1, rfl, hg1, ha4, bl4⟩
  have B4 := Lib.hid ((B3.out).trans (bl4.mono (B3.out).size))
  have X4 := Lib.hid ((X3.out).past bl4)
  have K4 := Lib.hid ((K3.out).past bl4)
  have U4 : Bs w4 (.slice (some ⟨g1, 0, none⟩) 64 64) (under 54 kb) := by
    have := ha4.bs (by rw [L54.out]; unfold maxLen; omega)
    rwa [L54.out] at this
  have DT := Lib.hid (digestTwo (.slice (some ⟨w4.heap.size, 0, none⟩) 2 2) (.slice (some ⟨g1, 0, none⟩) 64 64) (.slice ao n cap) (under 54 kb) l (w4.alloc (.cells #[.slice (some ⟨g1, 0, none⟩) 64 64, .slice ao n cap] 22))
    ((HT.out).past ((B4.out).trans ((alloc_below w4 _).mono (B4.out).size))) (vals_lit w4 [.slice (some ⟨g1, 0, none⟩) 64 64, .slice ao n cap] (by simp)) (U4.alloc _) ((H.out).past ((B4.out).trans ((alloc_below w4 _).mono (B4.out).size))) O54.out HO.out (by rw [L54.out, HN.out]; have := HL.out; omega))
  rw [HI.out] at DT
  clear hg1 ha4 bl4 U4 C54 B3 X3 K3
  go_wp2_with fail
  with_reducible refine (DT.out).mono ?_
  rintro e w5 ⟨rfl, bl5⟩
  have bl5' := below_alloc bl5
  have B5 := Lib.hid ((B4.out).trans (bl5'.mono (B4.out).size))
  have X5 := Lib.hid ((X4.out).past bl5')
  have K5 := Lib.hid ((K4.out).past bl5')
  clear bl5 bl5' DT B4 X4 K4
  go_wp2_with (refine wpList_alloc_ay (o := ⟨some 6, .alloc 35, _, _, _, _⟩) rfl 35 32 arbT rfl ?_)
  intro Y w6 hY h6 g6
  refine wpList_store_ay rfl 35 32 arbT (.tmp 6) (.tmp 13) rfl Y I _ rfl rfl h6 (by rfl) HIL.out ?_
  intro w7 h7 g7
  have hYX : X < Y := by have := (X5.out).lt; omega
  have hYw : w.heap.size ≤ Y := by have := HX.out; omega
  have hbY : b < Y := by have := (K5.out).lt; omega
  have B7 := Lib.hid (((B5.out).grown g6 (B5.out).size (fun k e => by cases e)).grown g7 (by have := (B5.out).size; have := g6.size; omega) (fun k e => by cases e; exact hYw))
  have X7 := Lib.hid (((X5.out).grown g6 (by simp)).grown g7 (by intro e; have := Option.some.inj e; omega))
  have K7 := Lib.hid (((K5.out).grown g6 (by simp)).grown g7 (by intro e; have := Option.some.inj e; omega))
  have Y7 := Lib.hid h7
  have HYX := Lib.hid hYX
  clear hY h6 g6 h7 g7 hYX hYw hbY B5 X5 K5
  go_upto_region 3 with fail
  have hI0 : Below w.heap.size w w7.drew := (B7.out).trans (((Still.refl w7).drewN 1).below _)
  have X8 := Lib.hid ((X7.out).past (((Still.refl w7).drewN 1).below _))
  have K8 := Lib.hid ((K7.out).past (((Still.refl w7).drewN 1).below _))
  have Y8 := Lib.hid ((Y7.out).past (((Still.refl w7).drewN 1).below _))
  change Hid (Ay 35 w7.drew X _) at X8
  change Hid (Ay 38 w7.drew b _) at K8
  change Hid (Ay 35 w7.drew Y _) at Y8
  clear B7 X7 K7 Y7
  have C92 := Lib.hid (fun W h => turnerAt 92 b kb W h HK.out)
  have HDT := Lib.hid (fun v u1 u2 W h1 h2 h3 h4 => digestTwo v u1 u2 (under 92 kb) I W h1 h2 h3 h4 O92.out HIO.out (by rw [L92.out, HIL.out]; decide))
  rw [HD.out] at HDT
  refine wp_region_held_drew (S := fun w' => Below w.heap.size w w') (by kernel_rfl) hI0 (fun hI0 => ?_)
  refine wpAnyH_take (i := 0) (v := ?va) rfl (by kernel_rfl) (by kernel_rfl) (by kernel_rfl) (fun _ _ _ h => h) (Or.inl ⟨by rfl, ?ya⟩) hI0 ?za
  case ya => intro w_ hSw; go_simp; with_reducible rfl
  try simp only [List.getElem_toArray, List.getElem_cons_zero, List.getElem_cons_succ, Act.put, List.setIfInBounds_toArray, List.set_cons_zero, List.set_cons_succ]
  refine wpAnyH_take (i := 2) (v := ?vb) rfl (by kernel_rfl) (by kernel_rfl) (by kernel_rfl) (fun _ _ _ h => h) (Or.inl ⟨by rfl, ?yb⟩) hI0 ?zb
  case yb => intro w_ hSw; go_simp; with_reducible rfl
  try simp only [List.getElem_toArray, List.getElem_cons_zero, List.getElem_cons_succ, Act.put, List.setIfInBounds_toArray, List.set_cons_zero, List.set_cons_succ]
  refine wpAnyH_ready (rs := [1]) (by kernel_rfl) (by simp) ?_
  refine AllReadyH.cons rfl (fun K hK => ?_) ?_
  · go_simp
    refine ((C92.out) _ K8.out).mono ?_
    rintro ee w8 ⟨g2, rfl, hg2, ha8, bl8⟩
    have hI8 := hI0.trans (bl8.mono hI0.size)
    have X9 := Lib.hid ((X8.out).past bl8)
    have Y9 := (Y8.out).past bl8
    have U8 : Bs w8 (.slice (some ⟨g2, 0, none⟩) 64 64) (under 92 kb) := by
      have := ha8.bs (by rw [L92.out]; unfold maxLen; omega)
      rwa [L92.out] at this
    have V8 : Bs w8 (.slice (some ⟨Y, 0, none⟩) 32 32) I := by
      have := Y9.bs (by rw [HIL.out]; unfold maxLen; omega)
      rwa [HIL.out] at this
    clear ha8 bl8 Y9 hg2
    try go_wp2_with fail
    refine hK.out _ _ hI8 (fun _ => ?_)
    clear hK K
    try simp only [List.getElem_toArray, List.getElem_cons_zero, List.getElem_cons_succ, Act.put, List.setIfInBounds_toArray, List.set_cons_zero, List.set_cons_succ]
    refine wpAnyH_ready (rs := [3]) (by kernel_rfl) (by simp) ?_
    refine AllReadyH.cons rfl (fun K hK => ?_) ?_
    · go_simp
      have bl9 := alloc_below w8 (.cells #[.slice (some ⟨g2, 0, none⟩) 64 64, .slice (some ⟨Y, 0, none⟩) 32 32] 22)
      have hI9 := hI8.trans (bl9.mono hI8.size)
      refine hK.out _ _ hI9 (fun _ => ?_)
      clear hK K
      try simp only [List.getElem_toArray, List.getElem_cons_zero, List.getElem_cons_succ, Act.put, List.setIfInBounds_toArray, List.set_cons_zero, List.set_cons_succ]
      refine wpAnyH_ready (rs := [4]) (by kernel_rfl) (by simp) ?_
      refine AllReadyH.cons rfl (fun K hK => ?_) ?_
      · go_simp
        refine ((HDT.out) _ _ _ _ ((HT.out).past hI9) (vals_lit w8 [.slice (some ⟨g2, 0, none⟩) 64 64, .slice (some ⟨Y, 0, none⟩) 32 32] (by simp)) (U8.past bl9) (V8.past bl9)).mono ?_
        rintro ee w10 ⟨rfl, bl10⟩
        have hI10 := hI9.trans (bl10.mono hI9.size)
        have X10 := ((X9.out).past bl9).past bl10
        try go_wp2_with fail
        refine hK.out _ _ hI10 (fun _ => ?_)
        clear hK K
        try simp only [List.getElem_toArray, List.getElem_cons_zero, List.getElem_cons_succ, Act.put, List.setIfInBounds_toArray, List.set_cons_zero, List.set_cons_succ]
        refine wpAnyH_ready (rs := [5]) (by kernel_rfl) (by simp) ?_
        refine AllReadyH.cons rfl (fun K hK => ?_) ?_
        · refine step_store_ay (by rfl) 35 32 arbT (.tmp 4) (.tmp 18) (by rfl) X D _ (by rfl) (by rfl) X10 (by rfl) HDL.out ?_
          intro w11 h11 g11
          have hI11 := hI10.grown g11 hI10.size (fun k e => by cases e; have := HX.out; omega)
          refine hK.out _ _ hI11 (fun _ => ?_)
          clear hK K
          try simp only [List.getElem_toArray, List.getElem_cons_zero, List.getElem_cons_succ, Act.put, List.setIfInBounds_toArray, List.set_cons_zero, List.set_cons_succ]
          refine wpAnyH_done (by kernel_rfl) ?_ _
          have X11 := Lib.hid h11
          have B11 := Lib.hid hI11
          clear h11 g11 hI0 hI8 hI9 hI10 hI11 X10 bl9 bl10 U8 V8
          go_wp2_with fail
          refine ret_ay 35 32 arbT 4 ?hr X ?hp _ (X11.out) HDL.out ?hd ?hR
          case hr => kernel_rfl
          case hp => simp only [Act.put, List.setIfInBounds_toArray, List.set_cons_zero, List.set_cons_succ]; rfl
          case hd => simp only [Act.put]
          case hR => exact ⟨rfl, B11.out⟩
        exact AllReadyH.nil
      exact AllReadyH.nil
    exact AllReadyH.nil
  exact AllReadyH.nil

/-- A tag that was told: an array of its own, all of it. -/
def Tagd (l : List Int) (w : World) (e : Ending) (w' : World) : Prop := ∃ g, e = .returned (.slice (some ⟨g, 0, none⟩) 32 32) ∧ w.heap.size ≤ g ∧ Ay 35 w' g l ∧ Below w.heap.size w w'

set_option maxHeartbeats 2000000 in
theorem macTag (v1 v2 : Value) (k b : List Int) (w : World) (T : Tabs w) (h1 : Bs w v1 k) (h2 : Bs w v2 b) (o1 : Oct k) (o2 : Oct b) (l1 : k.length ≤ 50000) (l2 : b.length ≤ 49000) :
    Calls Tryd.prog 8 #[v1, v2] w (Tagd (mac k b) w) := by
  obtain ⟨a1, c1, hs1⟩ := h1.shape
  obtain ⟨a2, c2, hs2⟩ := h2.shape
  subst hs1 hs2
  have BO := Lib.hid (blockOf _ k w T h1 o1 l1)
  obtain ⟨D, hD⟩ : ∃ D, D = mac k b := ⟨_, rfl⟩
  rw [← hD]
  have HDL : Hid (D.length = 32) := Lib.hid (by rw [hD]; exact mac_length _ _)
  obtain ⟨kb, hkb⟩ : ∃ kb, kb = kblock k := ⟨_, rfl⟩
  have TO := Lib.hid (fun w' (hb : Below w.heap.size w w') => tagOf (kblock k) _ b w' (T.past hb) (kblock_length k) (kblock_oct o1) (h2.past hb) o2 l2)
  rw [show macOf (kblock k) b = D from hD.symm] at TO
  rw [← hkb] at BO TO
  clear hD hkb T h1 h2 o1 o2 l1 l2
  generalize k.length = n1 at *
  generalize b.length = n2 at *
  go_enter Tryd.func8, Tryd.ntmps8
  go_wp2_with fail
  with_reducible refine (BO.out).mono ?_
  rintro e w1 ⟨rfl, bl1⟩
  have B1 := Lib.hid bl1
  have TO1 := Lib.hid ((TO.out) w1 B1.out)
  clear bl1 BO TO
  go_wp2_with fail
  with_reducible refine (TO1.out).mono ?_
  rintro e w2 ⟨rfl, bl2⟩
  have B2 := Lib.hid (bel_past B1.out bl2)
  clear bl2 TO1
  go_wp2_with (refine wpList_alloc_ay (o := ⟨some 5, .alloc 35, _, _, _, _⟩) rfl 35 32 arbT rfl ?_)
  intro Y w6 hY h6 g6
  refine wpList_store_ay rfl 35 32 arbT (.tmp 5) (.tmp 9) rfl Y D _ rfl rfl h6 (by rfl) HDL.out ?_
  intro w7 h7 g7
  have hYw : w.heap.size ≤ Y := by have := (B2.out).size; omega
  have B7 := Lib.hid (((B2.out).grown g6 (B2.out).size (fun k e => by cases e)).grown g7 (by have := (B2.out).size; have := g6.size; omega) (fun k e => by cases e; exact hYw))
  have Y7 := Lib.hid h7
  have HYW := Lib.hid hYw
  clear hY h6 g6 h7 g7 hYw
  go_wp2_with fail
  go_ret
  exact ⟨Y, rfl, HYW.out, Y7.out, B7.out⟩
theorem Tagd.row {l : List Int} {w w' : World} {g : Nat} (hl : l.length = 32) (h : Ay 35 w' g l) (hg : w.heap.size ≤ g) : Owy w' w.heap.size (.slice (some ⟨g, 0, none⟩) 32 32) l := h.owy arbT hl hg
theorem ay_bs32 {w : World} {g : Nat} {l : List Int} (h : Ay 35 w g l) (hl : l.length = 32) : Bs w (.slice (some ⟨g, 0, none⟩) 32 32) l := by
  have := h.bs (by rw [hl]; unfold maxLen; omega)
  rwa [hl] at this

set_option maxHeartbeats 4000000 in
theorem macFits (v1 v2 v3 : Value) (k b tag : List Int) (w : World) (T : Tabs w) (h1 : Bs w v1 k) (h2 : Bs w v2 b) (h3 : Bs w v3 tag) (o1 : Oct k) (o2 : Oct b) (l1 : k.length ≤ 50000) (l2 : b.length ≤ 49000) :
    Calls Tryd.prog 11 #[v1, v2, v3] w (Gives (.bool (decide (tag = mac k b))) w) := by
  obtain ⟨a1, c1, hs1⟩ := h1.shape
  obtain ⟨a2, c2, hs2⟩ := h2.shape
  obtain ⟨a3, c3, hs3⟩ := h3.shape
  have hl3 := h3.len
  subst hs1 hs2 hs3
  have BO := Lib.hid (fun w' (hb : Below w.heap.size w w') => blockOf _ k w' (T.past hb) (h1.past hb) o1 l1)
  obtain ⟨D, hD⟩ : ∃ D, D = mac k b := ⟨_, rfl⟩
  rw [← hD]
  have HDL : Hid (D.length = 32) := Lib.hid (by rw [hD]; exact mac_length _ _)
  obtain ⟨kb, hkb⟩ : ∃ kb, kb = kblock k := ⟨_, rfl⟩
  have TO := Lib.hid (fun w' (hb : Below w.heap.size w w') => tagOf (kblock k) _ b w' (T.past hb) (kblock_length k) (kblock_oct o1) (h2.past hb) o2 l2)
  rw [show macOf (kblock k) b = D from hD.symm] at TO
  rw [← hkb] at BO TO
  have H3 := Lib.hid h3
  clear hD hkb T h1 h2 h3 o1 o2 l1 l2
  generalize k.length = n1 at *
  generalize b.length = n2 at *
  obtain ⟨n3, hn3⟩ : ∃ n3, n3 = tag.length := ⟨_, rfl⟩
  rw [← hn3] at hl3 H3 ⊢
  have HN3 := Lib.hid hn3
  by_cases h32 : n3 = 32
  · have hb1 : ((n3 : Int) == 32) = true := by simp [h32]
    subst h32
    obtain ⟨p3, of3, cc3, hsh3, -, -, -, cells⟩ := (H3.out).at (by omega)
    rw [← hn3] at hsh3
    injection hsh3 with e1 _ e3
    subst e1 e3
    have CE := Lib.hid cells
    have hat := array_at
    clear cells hn3
    go_enter Tryd.func11, Tryd.ntmps11
    go_upto_region 1 with fail
    have hI0 : Below w.heap.size w w.drew := ((Still.refl w).drewN 1).below _
    have HR := Lib.hid (fun w' (h : Below w.heap.size w w') (j : Nat) (v : Value) (hv : (bv tag)[j]? = some v) => (show w'.cell? ⟨p3, of3 + j, none⟩ = some v from by
      have hj : j < tag.length := by
        have := (List.getElem?_eq_some_iff.1 hv).1
        simpa [bv] using this
      rw [bv_get hj] at hv
      cases hv
      exact (h.cell (p := ⟨p3, of3 + j, none⟩) (World.block_lt_of_cell? w _ (CE.out j hj))).trans (CE.out j hj)))
    refine wp_region_held_drew (S := fun w' => Below w.heap.size w w') (by kernel_rfl) hI0 (fun hI0 => ?_)
    refine wpAnyH_take (i := 0) (v := ?va) rfl (by kernel_rfl) (by kernel_rfl) (by kernel_rfl) (fun _ _ _ h => h) (Or.inl ⟨by rfl, ?ya⟩) hI0 ?za
    case ya => intro w_ hSw; go_simp; with_reducible rfl
    try simp only [List.getElem_toArray, List.getElem_cons_zero, List.getElem_cons_succ, Act.put, List.setIfInBounds_toArray, List.set_cons_zero, List.set_cons_succ]
    refine wpAnyH_take (i := 1) (v := ?vb) rfl (by kernel_rfl) (by kernel_rfl) (by kernel_rfl) (fun _ _ _ h => h) (Or.inl ⟨by rfl, ?yb⟩) hI0 ?zb
    case yb => intro w_ hSw; go_simp; with_reducible rfl
    try simp only [List.getElem_toArray, List.getElem_cons_zero, List.getElem_cons_succ, Act.put, List.setIfInBounds_toArray, List.set_cons_zero, List.set_cons_succ]
    refine wpAnyH_take (i := 2) (v := ?vc) rfl (by kernel_rfl) (by kernel_rfl) (by kernel_rfl) (fun _ _ _ h => h) (Or.inl ⟨by rfl, ?yc⟩) hI0 ?zc
    case yc => intro w_ hSw; go_simp; with_reducible rfl
    try simp only [List.getElem_toArray, List.getElem_cons_zero, List.getElem_cons_succ, Act.put, List.setIfInBounds_toArray, List.set_cons_zero, List.set_cons_succ]
    refine wpAnyH_take (i := 3) (v := ?vd) rfl (by kernel_rfl) (by kernel_rfl) (by kernel_rfl) (fun _ _ _ h => h) (Or.inl ⟨by rfl, ?yd⟩) hI0 ?zd
    case yd => intro w_ hSw; go_simp; with_reducible rfl
    try simp only [List.getElem_toArray, List.getElem_cons_zero, List.getElem_cons_succ, Act.put, List.setIfInBounds_toArray, List.set_cons_zero, List.set_cons_succ]
    refine wpAnyH_take (i := 4) (v := ?ve) rfl (by kernel_rfl) (by kernel_rfl) (by kernel_rfl) (fun _ _ _ h => h) (Or.inl ⟨by rfl, ?ye⟩) hI0 ?ze
    case ye => intro w_ hSw; go_simp; with_reducible rfl
    try simp only [List.getElem_toArray, List.getElem_cons_zero, List.getElem_cons_succ, Act.put, List.setIfInBounds_toArray, List.set_cons_zero, List.set_cons_succ]
    refine wpAnyH_take (i := 5) (v := ?vf) rfl (by kernel_rfl) (by kernel_rfl) (by kernel_rfl) (fun _ _ _ h => h) (Or.inl ⟨by rfl, ?yf⟩) hI0 ?zf
    case yf => intro w_ hSw; go_simp; with_reducible rfl
    try simp only [List.getElem_toArray, List.getElem_cons_zero, List.getElem_cons_succ, Act.put, List.setIfInBounds_toArray, List.set_cons_zero, List.set_cons_succ]
    refine wpAnyH_take (i := 6) (v := .agg (bv tag).toArray) rfl (by kernel_rfl) (by kernel_rfl) (by kernel_rfl) (fun _ _ _ h => h) (yieldsIf_load_mid (by rfl) 35 (.tmp 12) rfl p3 of3 rfl (bv tag) _ HR.out Tryd.underlying35 rfl (by rw [length_bv, ← HN3.out]; kernel_rfl)) hI0 ?_
    try simp only [List.getElem_toArray, List.getElem_cons_zero, List.getElem_cons_succ, Act.put, List.setIfInBounds_toArray, List.set_cons_zero, List.set_cons_succ]
    refine wpAnyH_take (i := 7) (v := ?vg) rfl (by kernel_rfl) (by kernel_rfl) (by kernel_rfl) (fun _ _ _ h => h) (Or.inl ⟨by rfl, ?yg⟩) hI0 ?zg
    case yg => intro w_ hSw; go_simp; with_reducible rfl
    try simp only [List.getElem_toArray, List.getElem_cons_zero, List.getElem_cons_succ, Act.put, List.setIfInBounds_toArray, List.set_cons_zero, List.set_cons_succ]
    refine wpAnyH_take (i := 9) (v := ?vh) rfl (by kernel_rfl) (by kernel_rfl) (by kernel_rfl) (fun _ _ _ h => h) (Or.inl ⟨by rfl, ?yh⟩) hI0 ?zh
    case yh => intro w_ hSw; go_simp; with_reducible rfl
    try simp only [List.getElem_toArray, List.getElem_cons_zero, List.getElem_cons_succ, Act.put, List.setIfInBounds_toArray, List.set_cons_zero, List.set_cons_succ]
    refine wpAnyH_ready (rs := [8]) (by kernel_rfl) (by simp) ?_
    refine AllReadyH.cons rfl (fun K hK => ?_) ?_
    · go_simp
      refine ((BO.out) _ hI0).mono ?_
      rintro ee w1 ⟨rfl, bl1⟩
      have hI1 := hI0.trans (bl1.mono hI0.size)
      try go_wp2_with fail
      refine hK.out _ _ hI1 (fun _ => ?_)
      clear hK K
      try simp only [List.getElem_toArray, List.getElem_cons_zero, List.getElem_cons_succ, Act.put, List.setIfInBounds_toArray, List.set_cons_zero, List.set_cons_succ]
      refine wpAnyH_ready (rs := [10]) (by kernel_rfl) (by simp) ?_
      refine AllReadyH.cons rfl (fun K hK => ?_) ?_
      · go_simp
        refine ((TO.out) _ hI1).mono ?_
        rintro ee w2 ⟨rfl, bl2⟩
        have hI2 := hI1.trans (bl2.mono hI1.size)
        try go_wp2_with fail
        refine hK.out _ _ hI2 (fun _ => ?_)
        clear hK K
        try simp only [List.getElem_toArray, List.getElem_cons_zero, List.getElem_cons_succ, Act.put, List.setIfInBounds_toArray, List.set_cons_zero, List.set_cons_succ]
        refine wpAnyH_ready (rs := [11]) (by kernel_rfl) (by simp) ?_
        refine AllReadyH.cons rfl (fun K hK => ?_) ?_
        · refine step_eql_ay (by rfl) 35 32 arbT (.tmp 13) (.tmp 17) 35 (by rfl) tag D (by rfl) (by rfl) HN3.out.symm HDL.out ?_
          refine hK.out _ _ hI2 (fun _ => ?_)
          clear hK K
          try simp only [List.getElem_toArray, List.getElem_cons_zero, List.getElem_cons_succ, Act.put, List.setIfInBounds_toArray, List.set_cons_zero, List.set_cons_succ]
          refine wpAnyH_ready (rs := [12]) (by kernel_rfl) (by simp) ?_
          refine AllReadyH.cons rfl (fun K hK => ?_) ?_
          · go_simp
            refine hK.out _ _ hI2 (fun _ => ?_)
            clear hK K
            try simp only [List.getElem_toArray, List.getElem_cons_zero, List.getElem_cons_succ, Act.put, List.setIfInBounds_toArray, List.set_cons_zero, List.set_cons_succ]
            refine wpAnyH_ready (rs := [13]) (by kernel_rfl) (by simp) ?_
            refine AllReadyH.cons rfl (fun K hK => ?_) ?_
            · go_simp
              refine hK.out _ _ hI2 (fun _ => ?_)
              clear hK K
              try simp only [List.getElem_toArray, List.getElem_cons_zero, List.getElem_cons_succ, Act.put, List.setIfInBounds_toArray, List.set_cons_zero, List.set_cons_succ]
              refine wpAnyH_done (by kernel_rfl) ?_ _
              have B2 := Lib.hid hI2
              clear hI0 hI1 hI2 bl1 bl2
              go_wp2_with fail
              go_ret
              exact ⟨rfl, B2.out⟩
            exact AllReadyH.nil
          exact AllReadyH.nil
        exact AllReadyH.nil
      exact AllReadyH.nil
    exact AllReadyH.nil
  · have hb1 : ((n3 : Int) == 32) = false := by simp; omega
    have hne : decide (tag = D) = false := by
      refine decide_eq_false fun e => h32 ?_
      rw [hn3, e]; exact HDL.out
    rw [hne]
    clear hne hn3 h32
    go_enter Tryd.func11, Tryd.ntmps11
    go_wp2
    go_quiet (fail)
    go_wp2
    go_ret
    exact ⟨rfl, ((Still.refl w).drewN _).below _⟩
end Go.Proofs.YtknkmblacaaegaaDoor
