/- A block goes through: the state's words are copied, sixty-four steps, each is added. -/
import Derived.Test.YtknkmblacaaegaaDoorShaWords
namespace Go.Proofs.YtknkmblacaaegaaDoor
open Go.RowKit
set_option linter.unusedVariables false
set_option linter.unusedSimpArgs false
set_option maxRecDepth 100000

/-- Cells that stand in a variable of the package's own. -/
def Rng (w : World) (g : Nat) (cs : List Value) : Prop := g < w.heap.size ∧ w.rangeAt g 0 cs
theorem Rng.lt {w : World} {g : Nat} {cs : List Value} (h : Rng w g cs) : g < w.heap.size := h.1
theorem Rng.below {w w' : World} {g B : Nat} {cs : List Value} (h : Rng w g cs) (hb : Below B w w') (hB : g < B) : Rng w' g cs :=
  ⟨Nat.lt_of_lt_of_le h.1 hb.size, fun j v hv => (hb.cell (p := ⟨g, 0 + j, none⟩) hB).trans (h.2 j v hv)⟩
/-- The table of the constants k0 to k63, the starting state: they stand in their variables. -/
def Tabs (w : World) : Prop := Rng w 0 (wv hon.list) ∧ Rng w 1 (wv kon)

/-- Two blocks of the call's own, A and the one behind it, hold what they held; what was there ahead of them is as it was. -/
def InB (w : World) (A : Nat) (cs ds : List Value) (w' : World) : Prop := Cel w' A cs ∧ Cel w' (A + 1) ds ∧ Below A w w' ∧ A + 2 ≤ w'.heap.size
theorem InB.grown {w w1 w' : World} {A : Nat} {cs ds : List Value} {row : Option Nat} (h : InB w A cs ds w1) (hg : w1.grownBy w' row) (hr : ∀ k, row = some k → A + 2 ≤ k) : InB w A cs ds w' :=
  ⟨h.1.grown hg (fun e => by have := hr _ e; omega), h.2.1.grown hg (fun e => by have := hr _ e; omega), h.2.2.1.grown hg (by have := h.2.2.2; omega) (fun k e => by have := hr _ e; omega), Nat.le_trans h.2.2.2 hg.size⟩
theorem InB.past {w w1 w' : World} {A : Nat} {cs ds : List Value} (h : InB w A cs ds w1) (hb : Below w1.heap.size w1 w') : InB w A cs ds w' := h.grown (below_grownBy hb none) (fun k e => by cases e)
theorem InB.drew {w w1 : World} {A : Nat} {cs ds : List Value} (h : InB w A cs ds w1) : InB w A cs ds w1.drew := h.grown (grownBy_drewN w1 1 none) (fun k e => by cases e)
theorem none_ne (A : Nat) : ∀ k, (none : Option Nat) = some k → A + 2 ≤ k := fun k e => by cases e

/-- The first k words added, the others as they were. -/
def mixed (s r : Sta) (k : Nat) : List Nat := (List.range 8).map fun j => if j < k then (wth s.list j + wth r.list j) % 4294967296 else wth s.list j
theorem mixed_zero (s r : Sta) : mixed s r 0 = s.list := rfl
theorem mixed_all (s r : Sta) : mixed s r 8 = (s.add r).list := rfl
theorem mixed_set (s r : Sta) {k : Nat} (h : k < 8) : (wv (mixed s r k)).set k (.int .u32 ((wth s.list k + wth r.list k) % 4294967296 : Nat)) = wv (mixed s r (k + 1)) := by
  obtain rfl | rfl | rfl | rfl | rfl | rfl | rfl | rfl : k = 0 ∨ k = 1 ∨ k = 2 ∨ k = 3 ∨ k = 4 ∨ k = 5 ∨ k = 6 ∨ k = 7 := by omega
  all_goals rfl
theorem mixed_at (s r : Sta) {k : Nat} (h : k < 8) : (wv (mixed s r k))[k]? = some (.int .u32 (wth s.list k : Nat)) := by
  obtain rfl | rfl | rfl | rfl | rfl | rfl | rfl | rfl : k = 0 ∨ k = 1 ∨ k = 2 ∨ k = 3 ∨ k = 4 ∨ k = 5 ∨ k = 6 ∨ k = 7 := by omega
  all_goals rfl
theorem list_at (r : Sta) {k : Nat} (h : k < 8) : (wv r.list)[k]? = some (.int .u32 (wth r.list k : Nat)) := wv_at (by simpa [Sta.list] using h)
theorem list_wrd {r : Sta} (h : r.ok) : Wrd r.list := by
  intro n hn
  obtain ⟨h0, h1, h2, h3, h4, h5, h6, h7⟩ := h
  simp only [Sta.list, List.mem_cons, List.not_mem_nil, or_false] at hn
  rcases hn with rfl | rfl | rfl | rfl | rfl | rfl | rfl | rfl <;> assumption

set_option maxHeartbeats 2000000 in
theorem behindBlock (s : Sta) (v : Value) (l : List Int) (w : World) (T : Tabs w) (hs : s.ok) (h : Bs w v l) (ho : Oct l) (hl : l.length = 64) :
    Calls Tryd.prog 56 #[.agg (wv s.list).toArray, v] w fun e w' => e = .returned (.agg (wv (blk s l).list).toArray) ∧ Below w.heap.size w w' := by
  obtain ⟨ao, cap, hsh⟩ := h.shape
  rw [hl] at hsh
  subst hsh
  obtain ⟨a, b, c, d, e, f, g0, h0⟩ := s
  have HV := Lib.hid h
  have HO := Lib.hid ho
  have HL := Lib.hid hl
  have HS := Lib.hid hs
  have HT := Lib.hid T
  clear h ho hl hs T
  have WD := Lib.hid (fun w' (hv : Bs w' (.slice ao 64 cap) l) => words _ l w' hv HO.out HL.out)
  go_enter Tryd.func56, Tryd.ntmps56
  go_upto_region 1 with fail
  change Code.wp _ _ _ _ ((w.alloc (.cells (wv [a, b, c, d, e, f, g0, h0]).toArray 67)).alloc (.cells (wv (List.replicate 8 0)).toArray 67))
  have hI : InB w w.heap.size (wv [a, b, c, d, e, f, g0, h0]) (wv (List.replicate 8 0)) ((w.alloc (.cells (wv [a, b, c, d, e, f, g0, h0]).toArray 67)).alloc (.cells (wv (List.replicate 8 0)).toArray 67)) :=
    ⟨(Cel.made w _ _).alloc _, by simpa using Cel.made (w.alloc (.cells (wv [a, b, c, d, e, f, g0, h0]).toArray 67)) (wv (List.replicate 8 0)) 67, bel_two (Below.refl w.heap.size w) _ _, by simp⟩
  have hT1 := Lib.hid (HT.out).2
  generalize (w.alloc (.cells (wv [a, b, c, d, e, f, g0, h0]).toArray 67)).alloc (.cells (wv (List.replicate 8 0)).toArray 67) = w1 at *
  have hUn := Lib.hid ((HV.out).under)
  have h1A := (hT1.out).lt
  generalize hA : w.heap.size = A at *
  have HA := Lib.hid hA
  clear hA
  have WDI : Hid (∀ w', InB w A (wv [a, b, c, d, e, f, g0, h0]) (wv (List.replicate 8 0)) w' → Calls Tryd.prog 87 #[.slice ao 64 cap] w' fun e w'_1 => e = .returned (.agg (wv (wds l)).toArray) ∧ Below w'.heap.size w' w'_1) := Lib.hid fun w' h => (WD.out) w' ((HV.out).below hUn.out h.2.2.1)
  have KE : Hid (∀ w', InB w A (wv [a, b, c, d, e, f, g0, h0]) (wv (List.replicate 8 0)) w' → w'.cell? ⟨A, 0, none⟩ = some (.int .u32 a) ∧ w'.cell? ⟨A, 1, none⟩ = some (.int .u32 b) ∧ w'.cell? ⟨A, 2, none⟩ = some (.int .u32 c) ∧ w'.cell? ⟨A, 3, none⟩ = some (.int .u32 d) ∧ w'.cell? ⟨A, 4, none⟩ = some (.int .u32 e) ∧ w'.cell? ⟨A, 5, none⟩ = some (.int .u32 f) ∧ w'.cell? ⟨A, 6, none⟩ = some (.int .u32 g0) ∧ w'.cell? ⟨A, 7, none⟩ = some (.int .u32 h0)) :=
    Lib.hid fun w' h => ⟨h.1.cell rfl, h.1.cell rfl, h.1.cell rfl, h.1.cell rfl, h.1.cell rfl, h.1.cell rfl, h.1.cell rfl, h.1.cell rfl⟩
  clear WD
  have WLen : (wv (wds l)).length = 64 := by rw [wv_length]; exact wds_length l
  generalize hWl : wds l = W at *
  have HW := Lib.hid hWl
  clear hWl
  go_cut [5, 6, 11, 12, 13] (fun v5 v6 v11 v12 v13 wx => ∃ X Y, v5 = .pointer (some ⟨X, 0, none⟩) ∧ v6 = .pointer (some ⟨Y, 0, none⟩) ∧ A + 2 ≤ X ∧ A + 2 ≤ Y ∧ X ≠ Y ∧ Hid (Cel wx X (wv [a, b, c, d, e, f, g0, h0])) ∧ Hid (Cel wx Y (wv W)) ∧ InB w A (wv [a, b, c, d, e, f, g0, h0]) (wv (List.replicate 8 0)) wx)
  case first =>
    refine wp_region_held_drew (S := InB w A (wv [a, b, c, d, e, f, g0, h0]) (wv (List.replicate 8 0))) (by kernel_rfl) hI.drew (fun hI0 => ?_)
    refine wpAnyH_take (i := 0) (v := .agg (wv [a, b, c, d, e, f, g0, h0]).toArray) rfl (by kernel_rfl) (by kernel_rfl) (by kernel_rfl) (fun _ _ _ h => h) (yieldsIf_load_mid (by rfl) 67 (.tmp 2) rfl A 0 rfl (wv [a, b, c, d, e, f, g0, h0]) _ (fun w_ h j v hv => by rw [Nat.zero_add]; exact h.1.cell hv) Tryd.underlying67 rfl (by kernel_rfl)) hI0 ?_
    try simp only [List.getElem_toArray, List.getElem_cons_zero, List.getElem_cons_succ, Act.put, List.setIfInBounds_toArray, List.set_cons_zero, List.set_cons_succ]
    refine wpAnyH_take (i := 1) (v := ?v1t1) rfl (by kernel_rfl) (by kernel_rfl) (by kernel_rfl) (fun _ _ _ h => h) (Or.inl ⟨by rfl, ?y1t1⟩) hI0 ?z1t1
    case y1t1 => intro w_ hSw; go_simp; with_reducible rfl
    try simp only [List.getElem_toArray, List.getElem_cons_zero, List.getElem_cons_succ, Act.put, List.setIfInBounds_toArray, List.set_cons_zero, List.set_cons_succ]
    refine wpAnyH_ready (rs := [2, 3, 4]) (by kernel_rfl) (by simp) ?_
    refine AllReadyH.cons rfl (fun K hK => ?_) ?_
    · go_simp
      refine ((WDI.out) _ hI0).mono ?_
      rintro ee w1_2 ⟨rfl, hq⟩
      have hIw1_2 := InB.past hI0 hq
      try go_wp2_with fail
      refine hK.out _ _ hIw1_2 (fun _ => ?_)
      clear hK K
      try simp only [List.getElem_toArray, List.getElem_cons_zero, List.getElem_cons_succ, Act.put, List.setIfInBounds_toArray, List.set_cons_zero, List.set_cons_succ]
      refine wpAnyH_ready (rs := [3, 4]) (by kernel_rfl) (by simp) ?_
      refine AllReadyH.cons rfl (fun K hK => ?_) ?_
      · refine step_alloc_cel (by rfl) 67 8 arrS (by rfl) ?_
        intro X w2_23 hX h5w2_23 hq
        have hAX : A + 2 ≤ X := by rw [← hX]; exact hIw1_2.2.2.2
        have hIw2_23 := InB.grown hIw1_2 hq (none_ne A)
        refine hK.out _ _ hIw2_23 (fun _ => ?_)
        clear hK K
        try simp only [List.getElem_toArray, List.getElem_cons_zero, List.getElem_cons_succ, Act.put, List.setIfInBounds_toArray, List.set_cons_zero, List.set_cons_succ]
        refine wpAnyH_ready (rs := [4]) (by kernel_rfl) (by simp) ?_
        refine AllReadyH.cons rfl (fun K hK => ?_) ?_
        · refine step_alloc_cel (by rfl) 181 64 arr64 (by rfl) ?_
          intro Y w3_234 hY h6w3_234 hq
          have hAY : A + 2 ≤ Y := by rw [← hY]; exact hIw2_23.2.2.2
          have hne : X ≠ Y := by rw [← hY]; exact Nat.ne_of_lt (Cel.lt h5w2_23)
          have h5w3_234 := Cel.grown h5w2_23 hq (by simp)
          have hIw3_234 := InB.grown hIw2_23 hq (none_ne A)
          refine hK.out _ _ hIw3_234 (fun _ => ?_)
          clear hK K
          try simp only [List.getElem_toArray, List.getElem_cons_zero, List.getElem_cons_succ, Act.put, List.setIfInBounds_toArray, List.set_cons_zero, List.set_cons_succ]
          refine wpAnyH_ready (rs := [5]) (by kernel_rfl) (by simp) ?_
          refine AllReadyH.cons rfl (fun K hK => ?_) ?_
          · refine step_store_cel (by rfl) 67 8 arrS (.tmp 5) (.tmp 11) (by rfl) X (wv [a, b, c, d, e, f, g0, h0]) _ _ (by rfl) (by rfl) (by rfl) h5w3_234 (by rfl) (by rfl) (wv_one _) ?_
            intro w4_2345 h5w4_2345 hq
            have h6w4_2345 := Cel.grown h6w3_234 hq (fun e => hne (Option.some.inj e))
            have hIw4_2345 := InB.grown hIw3_234 hq (fun k e => by cases e; exact hAX)
            refine hK.out _ _ hIw4_2345 (fun _ => ?_)
            clear hK K
            try simp only [List.getElem_toArray, List.getElem_cons_zero, List.getElem_cons_succ, Act.put, List.setIfInBounds_toArray, List.set_cons_zero, List.set_cons_succ]
            refine wpAnyH_ready (rs := [6]) (by kernel_rfl) (by simp) ?_
            refine AllReadyH.cons rfl (fun K hK => ?_) ?_
            · refine step_store_cel (by rfl) 181 64 arr64 (.tmp 6) (.tmp 13) (by rfl) Y (wv W) _ _ (by rfl) (by rfl) (by rfl) h6w4_2345 (by simp [wv]) WLen (wv_one _) ?_
              intro w5_23456 h6w5_23456 hq
              have h5w5_23456 := Cel.grown h5w4_2345 hq (fun e => hne (Option.some.inj e).symm)
              have hIw5_23456 := InB.grown hIw4_2345 hq (fun k e => by cases e; exact hAY)
              refine hK.out _ _ hIw5_23456 (fun _ => ?_)
              clear hK K
              try simp only [List.getElem_toArray, List.getElem_cons_zero, List.getElem_cons_succ, Act.put, List.setIfInBounds_toArray, List.set_cons_zero, List.set_cons_succ]
              refine wpAnyH_done (by kernel_rfl) ?_ _
              go_wp2_with fail
              go_meet
              exact ⟨X, Y, rfl, rfl, hAX, hAY, hne, Lib.hid h5w5_23456, Lib.hid h6w5_23456, hIw5_23456⟩
            exact AllReadyH.nil
          exact AllReadyH.nil
        exact AllReadyH.nil
      refine AllReadyH.cons rfl (fun K hK => ?_) ?_
      · refine step_alloc_cel (by rfl) 181 64 arr64 (by rfl) ?_
        intro Y w2_24 hY h6w2_24 hq
        have hAY : A + 2 ≤ Y := by rw [← hY]; exact hIw1_2.2.2.2
        have hIw2_24 := InB.grown hIw1_2 hq (none_ne A)
        refine hK.out _ _ hIw2_24 (fun _ => ?_)
        clear hK K
        try simp only [List.getElem_toArray, List.getElem_cons_zero, List.getElem_cons_succ, Act.put, List.setIfInBounds_toArray, List.set_cons_zero, List.set_cons_succ]
        refine wpAnyH_ready (rs := [3]) (by kernel_rfl) (by simp) ?_
        refine AllReadyH.cons rfl (fun K hK => ?_) ?_
        · refine step_alloc_cel (by rfl) 67 8 arrS (by rfl) ?_
          intro X w3_243 hX h5w3_243 hq
          have hAX : A + 2 ≤ X := by rw [← hX]; exact hIw2_24.2.2.2
          have hne : X ≠ Y := by rw [← hX]; exact Nat.ne_of_gt (Cel.lt h6w2_24)
          have h6w3_243 := Cel.grown h6w2_24 hq (by simp)
          have hIw3_243 := InB.grown hIw2_24 hq (none_ne A)
          refine hK.out _ _ hIw3_243 (fun _ => ?_)
          clear hK K
          try simp only [List.getElem_toArray, List.getElem_cons_zero, List.getElem_cons_succ, Act.put, List.setIfInBounds_toArray, List.set_cons_zero, List.set_cons_succ]
          refine wpAnyH_ready (rs := [5]) (by kernel_rfl) (by simp) ?_
          refine AllReadyH.cons rfl (fun K hK => ?_) ?_
          · refine step_store_cel (by rfl) 67 8 arrS (.tmp 5) (.tmp 11) (by rfl) X (wv [a, b, c, d, e, f, g0, h0]) _ _ (by rfl) (by rfl) (by rfl) h5w3_243 (by rfl) (by rfl) (wv_one _) ?_
            intro w4_2435 h5w4_2435 hq
            have h6w4_2435 := Cel.grown h6w3_243 hq (fun e => hne (Option.some.inj e))
            have hIw4_2435 := InB.grown hIw3_243 hq (fun k e => by cases e; exact hAX)
            refine hK.out _ _ hIw4_2435 (fun _ => ?_)
            clear hK K
            try simp only [List.getElem_toArray, List.getElem_cons_zero, List.getElem_cons_succ, Act.put, List.setIfInBounds_toArray, List.set_cons_zero, List.set_cons_succ]
            refine wpAnyH_ready (rs := [6]) (by kernel_rfl) (by simp) ?_
            refine AllReadyH.cons rfl (fun K hK => ?_) ?_
            · refine step_store_cel (by rfl) 181 64 arr64 (.tmp 6) (.tmp 13) (by rfl) Y (wv W) _ _ (by rfl) (by rfl) (by rfl) h6w4_2435 (by simp [wv]) WLen (wv_one _) ?_
              intro w5_24356 h6w5_24356 hq
              have h5w5_24356 := Cel.grown h5w4_2435 hq (fun e => hne (Option.some.inj e).symm)
              have hIw5_24356 := InB.grown hIw4_2435 hq (fun k e => by cases e; exact hAY)
              refine hK.out _ _ hIw5_24356 (fun _ => ?_)
              clear hK K
              try simp only [List.getElem_toArray, List.getElem_cons_zero, List.getElem_cons_succ, Act.put, List.setIfInBounds_toArray, List.set_cons_zero, List.set_cons_succ]
              refine wpAnyH_done (by kernel_rfl) ?_ _
              go_wp2_with fail
              go_meet
              exact ⟨X, Y, rfl, rfl, hAX, hAY, hne, Lib.hid h5w5_24356, Lib.hid h6w5_24356, hIw5_24356⟩
            exact AllReadyH.nil
          exact AllReadyH.nil
        exact AllReadyH.nil
      exact AllReadyH.nil
    refine AllReadyH.cons rfl (fun K hK => ?_) ?_
    · refine step_alloc_cel (by rfl) 67 8 arrS (by rfl) ?_
      intro X w1_3 hX h5w1_3 hq
      have hAX : A + 2 ≤ X := by rw [← hX]; exact hI0.2.2.2
      have hIw1_3 := InB.grown hI0 hq (none_ne A)
      refine hK.out _ _ hIw1_3 (fun _ => ?_)
      clear hK K
      try simp only [List.getElem_toArray, List.getElem_cons_zero, List.getElem_cons_succ, Act.put, List.setIfInBounds_toArray, List.set_cons_zero, List.set_cons_succ]
      refine wpAnyH_ready (rs := [2, 4]) (by kernel_rfl) (by simp) ?_
      refine AllReadyH.cons rfl (fun K hK => ?_) ?_
      · go_simp
        refine ((WDI.out) _ hIw1_3).mono ?_
        rintro ee w2_32 ⟨rfl, hq⟩
        have hIw2_32 := InB.past hIw1_3 hq
        have h5w2_32 := Cel.past h5w1_3 hq
        try go_wp2_with fail
        refine hK.out _ _ hIw2_32 (fun _ => ?_)
        clear hK K
        try simp only [List.getElem_toArray, List.getElem_cons_zero, List.getElem_cons_succ, Act.put, List.setIfInBounds_toArray, List.set_cons_zero, List.set_cons_succ]
        refine wpAnyH_ready (rs := [4]) (by kernel_rfl) (by simp) ?_
        refine AllReadyH.cons rfl (fun K hK => ?_) ?_
        · refine step_alloc_cel (by rfl) 181 64 arr64 (by rfl) ?_
          intro Y w3_324 hY h6w3_324 hq
          have hAY : A + 2 ≤ Y := by rw [← hY]; exact hIw2_32.2.2.2
          have hne : X ≠ Y := by rw [← hY]; exact Nat.ne_of_lt (Cel.lt h5w2_32)
          have h5w3_324 := Cel.grown h5w2_32 hq (by simp)
          have hIw3_324 := InB.grown hIw2_32 hq (none_ne A)
          refine hK.out _ _ hIw3_324 (fun _ => ?_)
          clear hK K
          try simp only [List.getElem_toArray, List.getElem_cons_zero, List.getElem_cons_succ, Act.put, List.setIfInBounds_toArray, List.set_cons_zero, List.set_cons_succ]
          refine wpAnyH_ready (rs := [5]) (by kernel_rfl) (by simp) ?_
          refine AllReadyH.cons rfl (fun K hK => ?_) ?_
          · refine step_store_cel (by rfl) 67 8 arrS (.tmp 5) (.tmp 11) (by rfl) X (wv [a, b, c, d, e, f, g0, h0]) _ _ (by rfl) (by rfl) (by rfl) h5w3_324 (by rfl) (by rfl) (wv_one _) ?_
            intro w4_3245 h5w4_3245 hq
            have h6w4_3245 := Cel.grown h6w3_324 hq (fun e => hne (Option.some.inj e))
            have hIw4_3245 := InB.grown hIw3_324 hq (fun k e => by cases e; exact hAX)
            refine hK.out _ _ hIw4_3245 (fun _ => ?_)
            clear hK K
            try simp only [List.getElem_toArray, List.getElem_cons_zero, List.getElem_cons_succ, Act.put, List.setIfInBounds_toArray, List.set_cons_zero, List.set_cons_succ]
            refine wpAnyH_ready (rs := [6]) (by kernel_rfl) (by simp) ?_
            refine AllReadyH.cons rfl (fun K hK => ?_) ?_
            · refine step_store_cel (by rfl) 181 64 arr64 (.tmp 6) (.tmp 13) (by rfl) Y (wv W) _ _ (by rfl) (by rfl) (by rfl) h6w4_3245 (by simp [wv]) WLen (wv_one _) ?_
              intro w5_32456 h6w5_32456 hq
              have h5w5_32456 := Cel.grown h5w4_3245 hq (fun e => hne (Option.some.inj e).symm)
              have hIw5_32456 := InB.grown hIw4_3245 hq (fun k e => by cases e; exact hAY)
              refine hK.out _ _ hIw5_32456 (fun _ => ?_)
              clear hK K
              try simp only [List.getElem_toArray, List.getElem_cons_zero, List.getElem_cons_succ, Act.put, List.setIfInBounds_toArray, List.set_cons_zero, List.set_cons_succ]
              refine wpAnyH_done (by kernel_rfl) ?_ _
              go_wp2_with fail
              go_meet
              exact ⟨X, Y, rfl, rfl, hAX, hAY, hne, Lib.hid h5w5_32456, Lib.hid h6w5_32456, hIw5_32456⟩
            exact AllReadyH.nil
          exact AllReadyH.nil
        exact AllReadyH.nil
      refine AllReadyH.cons rfl (fun K hK => ?_) ?_
      · refine step_alloc_cel (by rfl) 181 64 arr64 (by rfl) ?_
        intro Y w2_34 hY h6w2_34 hq
        have hAY : A + 2 ≤ Y := by rw [← hY]; exact hIw1_3.2.2.2
        have hne : X ≠ Y := by rw [← hY]; exact Nat.ne_of_lt (Cel.lt h5w1_3)
        have h5w2_34 := Cel.grown h5w1_3 hq (by simp)
        have hIw2_34 := InB.grown hIw1_3 hq (none_ne A)
        refine hK.out _ _ hIw2_34 (fun _ => ?_)
        clear hK K
        try simp only [List.getElem_toArray, List.getElem_cons_zero, List.getElem_cons_succ, Act.put, List.setIfInBounds_toArray, List.set_cons_zero, List.set_cons_succ]
        refine wpAnyH_ready (rs := [2]) (by kernel_rfl) (by simp) ?_
        refine AllReadyH.cons rfl (fun K hK => ?_) ?_
        · go_simp
          refine ((WDI.out) _ hIw2_34).mono ?_
          rintro ee w3_342 ⟨rfl, hq⟩
          have hIw3_342 := InB.past hIw2_34 hq
          have h5w3_342 := Cel.past h5w2_34 hq
          have h6w3_342 := Cel.past h6w2_34 hq
          try go_wp2_with fail
          refine hK.out _ _ hIw3_342 (fun _ => ?_)
          clear hK K
          try simp only [List.getElem_toArray, List.getElem_cons_zero, List.getElem_cons_succ, Act.put, List.setIfInBounds_toArray, List.set_cons_zero, List.set_cons_succ]
          refine wpAnyH_ready (rs := [5]) (by kernel_rfl) (by simp) ?_
          refine AllReadyH.cons rfl (fun K hK => ?_) ?_
          · refine step_store_cel (by rfl) 67 8 arrS (.tmp 5) (.tmp 11) (by rfl) X (wv [a, b, c, d, e, f, g0, h0]) _ _ (by rfl) (by rfl) (by rfl) h5w3_342 (by rfl) (by rfl) (wv_one _) ?_
            intro w4_3425 h5w4_3425 hq
            have h6w4_3425 := Cel.grown h6w3_342 hq (fun e => hne (Option.some.inj e))
            have hIw4_3425 := InB.grown hIw3_342 hq (fun k e => by cases e; exact hAX)
            refine hK.out _ _ hIw4_3425 (fun _ => ?_)
            clear hK K
            try simp only [List.getElem_toArray, List.getElem_cons_zero, List.getElem_cons_succ, Act.put, List.setIfInBounds_toArray, List.set_cons_zero, List.set_cons_succ]
            refine wpAnyH_ready (rs := [6]) (by kernel_rfl) (by simp) ?_
            refine AllReadyH.cons rfl (fun K hK => ?_) ?_
            · refine step_store_cel (by rfl) 181 64 arr64 (.tmp 6) (.tmp 13) (by rfl) Y (wv W) _ _ (by rfl) (by rfl) (by rfl) h6w4_3425 (by simp [wv]) WLen (wv_one _) ?_
              intro w5_34256 h6w5_34256 hq
              have h5w5_34256 := Cel.grown h5w4_3425 hq (fun e => hne (Option.some.inj e).symm)
              have hIw5_34256 := InB.grown hIw4_3425 hq (fun k e => by cases e; exact hAY)
              refine hK.out _ _ hIw5_34256 (fun _ => ?_)
              clear hK K
              try simp only [List.getElem_toArray, List.getElem_cons_zero, List.getElem_cons_succ, Act.put, List.setIfInBounds_toArray, List.set_cons_zero, List.set_cons_succ]
              refine wpAnyH_done (by kernel_rfl) ?_ _
              go_wp2_with fail
              go_meet
              exact ⟨X, Y, rfl, rfl, hAX, hAY, hne, Lib.hid h5w5_34256, Lib.hid h6w5_34256, hIw5_34256⟩
            exact AllReadyH.nil
          exact AllReadyH.nil
        exact AllReadyH.nil
      exact AllReadyH.nil
    refine AllReadyH.cons rfl (fun K hK => ?_) ?_
    · refine step_alloc_cel (by rfl) 181 64 arr64 (by rfl) ?_
      intro Y w1_4 hY h6w1_4 hq
      have hAY : A + 2 ≤ Y := by rw [← hY]; exact hI0.2.2.2
      have hIw1_4 := InB.grown hI0 hq (none_ne A)
      refine hK.out _ _ hIw1_4 (fun _ => ?_)
      clear hK K
      try simp only [List.getElem_toArray, List.getElem_cons_zero, List.getElem_cons_succ, Act.put, List.setIfInBounds_toArray, List.set_cons_zero, List.set_cons_succ]
      refine wpAnyH_ready (rs := [2, 3]) (by kernel_rfl) (by simp) ?_
      refine AllReadyH.cons rfl (fun K hK => ?_) ?_
      · go_simp
        refine ((WDI.out) _ hIw1_4).mono ?_
        rintro ee w2_42 ⟨rfl, hq⟩
        have hIw2_42 := InB.past hIw1_4 hq
        have h6w2_42 := Cel.past h6w1_4 hq
        try go_wp2_with fail
        refine hK.out _ _ hIw2_42 (fun _ => ?_)
        clear hK K
        try simp only [List.getElem_toArray, List.getElem_cons_zero, List.getElem_cons_succ, Act.put, List.setIfInBounds_toArray, List.set_cons_zero, List.set_cons_succ]
        refine wpAnyH_ready (rs := [3]) (by kernel_rfl) (by simp) ?_
        refine AllReadyH.cons rfl (fun K hK => ?_) ?_
        · refine step_alloc_cel (by rfl) 67 8 arrS (by rfl) ?_
          intro X w3_423 hX h5w3_423 hq
          have hAX : A + 2 ≤ X := by rw [← hX]; exact hIw2_42.2.2.2
          have hne : X ≠ Y := by rw [← hX]; exact Nat.ne_of_gt (Cel.lt h6w2_42)
          have h6w3_423 := Cel.grown h6w2_42 hq (by simp)
          have hIw3_423 := InB.grown hIw2_42 hq (none_ne A)
          refine hK.out _ _ hIw3_423 (fun _ => ?_)
          clear hK K
          try simp only [List.getElem_toArray, List.getElem_cons_zero, List.getElem_cons_succ, Act.put, List.setIfInBounds_toArray, List.set_cons_zero, List.set_cons_succ]
          refine wpAnyH_ready (rs := [5]) (by kernel_rfl) (by simp) ?_
          refine AllReadyH.cons rfl (fun K hK => ?_) ?_
          · refine step_store_cel (by rfl) 67 8 arrS (.tmp 5) (.tmp 11) (by rfl) X (wv [a, b, c, d, e, f, g0, h0]) _ _ (by rfl) (by rfl) (by rfl) h5w3_423 (by rfl) (by rfl) (wv_one _) ?_
            intro w4_4235 h5w4_4235 hq
            have h6w4_4235 := Cel.grown h6w3_423 hq (fun e => hne (Option.some.inj e))
            have hIw4_4235 := InB.grown hIw3_423 hq (fun k e => by cases e; exact hAX)
            refine hK.out _ _ hIw4_4235 (fun _ => ?_)
            clear hK K
            try simp only [List.getElem_toArray, List.getElem_cons_zero, List.getElem_cons_succ, Act.put, List.setIfInBounds_toArray, List.set_cons_zero, List.set_cons_succ]
            refine wpAnyH_ready (rs := [6]) (by kernel_rfl) (by simp) ?_
            refine AllReadyH.cons rfl (fun K hK => ?_) ?_
            · refine step_store_cel (by rfl) 181 64 arr64 (.tmp 6) (.tmp 13) (by rfl) Y (wv W) _ _ (by rfl) (by rfl) (by rfl) h6w4_4235 (by simp [wv]) WLen (wv_one _) ?_
              intro w5_42356 h6w5_42356 hq
              have h5w5_42356 := Cel.grown h5w4_4235 hq (fun e => hne (Option.some.inj e).symm)
              have hIw5_42356 := InB.grown hIw4_4235 hq (fun k e => by cases e; exact hAY)
              refine hK.out _ _ hIw5_42356 (fun _ => ?_)
              clear hK K
              try simp only [List.getElem_toArray, List.getElem_cons_zero, List.getElem_cons_succ, Act.put, List.setIfInBounds_toArray, List.set_cons_zero, List.set_cons_succ]
              refine wpAnyH_done (by kernel_rfl) ?_ _
              go_wp2_with fail
              go_meet
              exact ⟨X, Y, rfl, rfl, hAX, hAY, hne, Lib.hid h5w5_42356, Lib.hid h6w5_42356, hIw5_42356⟩
            exact AllReadyH.nil
          exact AllReadyH.nil
        exact AllReadyH.nil
      refine AllReadyH.cons rfl (fun K hK => ?_) ?_
      · refine step_alloc_cel (by rfl) 67 8 arrS (by rfl) ?_
        intro X w2_43 hX h5w2_43 hq
        have hAX : A + 2 ≤ X := by rw [← hX]; exact hIw1_4.2.2.2
        have hne : X ≠ Y := by rw [← hX]; exact Nat.ne_of_gt (Cel.lt h6w1_4)
        have h6w2_43 := Cel.grown h6w1_4 hq (by simp)
        have hIw2_43 := InB.grown hIw1_4 hq (none_ne A)
        refine hK.out _ _ hIw2_43 (fun _ => ?_)
        clear hK K
        try simp only [List.getElem_toArray, List.getElem_cons_zero, List.getElem_cons_succ, Act.put, List.setIfInBounds_toArray, List.set_cons_zero, List.set_cons_succ]
        refine wpAnyH_ready (rs := [2]) (by kernel_rfl) (by simp) ?_
        refine AllReadyH.cons rfl (fun K hK => ?_) ?_
        · go_simp
          refine ((WDI.out) _ hIw2_43).mono ?_
          rintro ee w3_432 ⟨rfl, hq⟩
          have hIw3_432 := InB.past hIw2_43 hq
          have h5w3_432 := Cel.past h5w2_43 hq
          have h6w3_432 := Cel.past h6w2_43 hq
          try go_wp2_with fail
          refine hK.out _ _ hIw3_432 (fun _ => ?_)
          clear hK K
          try simp only [List.getElem_toArray, List.getElem_cons_zero, List.getElem_cons_succ, Act.put, List.setIfInBounds_toArray, List.set_cons_zero, List.set_cons_succ]
          refine wpAnyH_ready (rs := [5]) (by kernel_rfl) (by simp) ?_
          refine AllReadyH.cons rfl (fun K hK => ?_) ?_
          · refine step_store_cel (by rfl) 67 8 arrS (.tmp 5) (.tmp 11) (by rfl) X (wv [a, b, c, d, e, f, g0, h0]) _ _ (by rfl) (by rfl) (by rfl) h5w3_432 (by rfl) (by rfl) (wv_one _) ?_
            intro w4_4325 h5w4_4325 hq
            have h6w4_4325 := Cel.grown h6w3_432 hq (fun e => hne (Option.some.inj e))
            have hIw4_4325 := InB.grown hIw3_432 hq (fun k e => by cases e; exact hAX)
            refine hK.out _ _ hIw4_4325 (fun _ => ?_)
            clear hK K
            try simp only [List.getElem_toArray, List.getElem_cons_zero, List.getElem_cons_succ, Act.put, List.setIfInBounds_toArray, List.set_cons_zero, List.set_cons_succ]
            refine wpAnyH_ready (rs := [6]) (by kernel_rfl) (by simp) ?_
            refine AllReadyH.cons rfl (fun K hK => ?_) ?_
            · refine step_store_cel (by rfl) 181 64 arr64 (.tmp 6) (.tmp 13) (by rfl) Y (wv W) _ _ (by rfl) (by rfl) (by rfl) h6w4_4325 (by simp [wv]) WLen (wv_one _) ?_
              intro w5_43256 h6w5_43256 hq
              have h5w5_43256 := Cel.grown h5w4_4325 hq (fun e => hne (Option.some.inj e).symm)
              have hIw5_43256 := InB.grown hIw4_4325 hq (fun k e => by cases e; exact hAY)
              refine hK.out _ _ hIw5_43256 (fun _ => ?_)
              clear hK K
              try simp only [List.getElem_toArray, List.getElem_cons_zero, List.getElem_cons_succ, Act.put, List.setIfInBounds_toArray, List.set_cons_zero, List.set_cons_succ]
              refine wpAnyH_done (by kernel_rfl) ?_ _
              go_wp2_with fail
              go_meet
              exact ⟨X, Y, rfl, rfl, hAX, hAY, hne, Lib.hid h5w5_43256, Lib.hid h6w5_43256, hIw5_43256⟩
            exact AllReadyH.nil
          exact AllReadyH.nil
        exact AllReadyH.nil
      exact AllReadyH.nil
    exact AllReadyH.nil
  case rest =>
    obtain ⟨X, Y, rfl, rfl, hAX, hAY, hne, h5, h6, hI2⟩ := hcut
    clear hI KE WDI
    have H5 := h5
    have H6 := h6
    have HI := Lib.hid hI2
    have K1 := (hT1.out).below hI2.2.2.1 h1A
    clear h5 h6 hI2
    go_upto_region 2 with fail
    apply wp_region_lit
    refine wpList_load_mid rfl 181 (.global 1) rfl 1 0 rfl (wv kon) _ K1.2 Tryd.underlying181 rfl (by rw [wv_length, kon_length]; kernel_rfl) ?_
    simp only [Act.put, List.setIfInBounds_toArray, List.set_cons_zero, List.set_cons_succ]
    obtain ⟨s, hs⟩ : ∃ s : Sta, s = ⟨a, b, c, d, e, f, g0, h0⟩ := ⟨_, rfl⟩
    have hsl : [a, b, c, d, e, f, g0, h0] = s.list := by rw [hs]; rfl
    rw [hsl] at H5 HI
    rw [← hs] at HS ⊢
    have HSL := Lib.hid hsl
    have HSS := Lib.hid hs
    clear hsl hs K1
    have WW : Hid (Wrd W) := Lib.hid (by rw [← HW.out]; exact wds_wrd HO.out)
    have WL : Hid (W.length = 64) := Lib.hid (by rw [← HW.out]; exact wds_length l)
    go_wp2
    go_loopw [15] (fun i wr => ∃ k : Nat, k ≤ 64 ∧ i = .int .i64 k ∧ Hid (Cel wr X (wv (rounds W s k).list)) ∧ Hid (Cel wr Y (wv W)) ∧ Hid (InB w A (wv s.list) (wv (List.replicate 8 0)) wr)) (fun i _ => 64 - (intOf i).toNat)
    case atStart => exact ⟨0, Nat.zero_le _, rfl, H5, H6, HI⟩
    case round =>
      clear H5 H6 HI
      obtain ⟨k, hk, rfl, H5, H6, HI⟩ := hrel
      by_cases hlt : k < 64
      · have hd : decide ((k : Int) < 64) = true := by simp; omega
        have ik : (k : Int) < 64 := by omega
        have IX := fun w => arr_index arr64 (wv kon) k (.int .u32 (wth kon k : Nat)) (wv_at (by rw [kon_length]; exact hlt)) hlt w
        have cW := (H6.out).cell (wv_at (by rw [WL.out]; exact hlt))
        have l1 := kon_wrd.wth k
        have l2 := (WW.out).wth k
        have ok := rounds_ok HS.out W k
        have ST := Lib.hid (fun w (h : Cel w X (wv (rounds W s k).list)) => step X (rounds W s k) ((wth kon k + wth W k) % 4294967296) w h ok (Nat.mod_lt _ (by decide)))
        have RS : Hid ((rounds W s k).step ((wth kon k + wth W k) % 4294967296) = rounds W s (k + 1)) := Lib.hid rfl
        have ad : ((wth kon k : Nat) : Int) + ((wth W k : Nat) : Int) = ((wth kon k + wth W k : Nat) : Int) := by omega
        have am : (((wth kon k + wth W k : Nat) : Int)) % 4294967296 = (((wth kon k + wth W k) % 4294967296 : Nat) : Int) := by omega
        clear ok
        generalize hkk : wth kon k = kk at *
        generalize hww : wth W k = wwk at *
        clear hkk hww
        generalize hsum : (kk + wwk) % 4294967296 = sm at *
        generalize hs2 : kk + wwk = s2 at *
        clear hsum hs2
        go_wp2_with fail
        refine ((ST.out) _ (H5.out)).mono ?_; rintro e2 w2 ⟨rfl, hc, hg⟩
        rw [RS.out] at hc
        have H5' := Lib.hid hc
        have H6' := Lib.hid ((H6.out).grown hg (fun e => hne (Option.some.inj e)))
        have HI' := Lib.hid ((HI.out).grown hg (fun k e => by cases e; exact hAX))
        clear H5 H6 HI hc hg ST RS IX cW ad am l1 l2
        go_wp2
        go_roundw
        case rel => exact ⟨k + 1, by omega, by go_num, H5', H6', HI'⟩
        case measure => simp [intOf]; omega
      · have hd : decide ((k : Int) < 64) = false := by simp; omega
        obtain rfl : k = 64 := by omega
        have HB : Hid ((blk s l).list = mixed s (rounds W s 64) 8) := Lib.hid (by rw [mixed_all, ← HW.out]; rfl)
        have okr := Lib.hid (rounds_ok HS.out W 64)
        have HI' : Hid (InB w A (wv (mixed s (rounds W s 64) 0)) (wv (List.replicate 8 0)) wr) := HI
        clear HI
        generalize rounds W s 64 = r at *
        rw [show ((64 : Nat) : Int) = 64 from rfl]
        go_upto_region 7 with fail
        apply wp_region_lit
        refine wpList_load_cel rfl 67 8 arrS (.tmp 5) rfl X rfl _ (H5.out) rfl ?_
        simp only [Act.put, List.setIfInBounds_toArray, List.set_cons_zero, List.set_cons_succ]
        clear H5 H6 hd
        go_wp2
        go_loopw [27] (fun i wr => ∃ k : Nat, k ≤ 8 ∧ i = .int .i64 k ∧ Hid (InB w A (wv (mixed s r k)) (wv (List.replicate 8 0)) wr)) (fun i _ => 8 - (intOf i).toNat)
        case atStart => exact ⟨0, Nat.zero_le _, rfl, HI'⟩
        case round =>
          clear HI'
          obtain ⟨k, hk, rfl, HI⟩ := hrel
          by_cases hlt : k < 8
          · have hd : decide ((k : Int) < 8) = true := by simp; omega
            have ik : (k : Int) < 8 := by omega
            have IX := fun w => arr_index arrS (wv r.list) k (.int .u32 (wth r.list k : Nat)) (list_at r hlt) hlt w
            have cA := (HI.out).1.cell (mixed_at s r hlt)
            have z := (HI.out).1.frozen k
            have hset := Lib.hid (mixed_set s r hlt)
            have l1 := (list_wrd HS.out).wth k
            have l2 := (list_wrd okr.out).wth k
            have am : (((wth s.list k : Nat) : Int) + ((wth r.list k : Nat) : Int)) % 4294967296 = (((wth s.list k + wth r.list k) % 4294967296 : Nat) : Int) := by omega
            generalize hxs : wth s.list k = xs at *
            generalize hxr : wth r.list k = xr at *
            clear hxs hxr
            generalize hxx : (xs + xr) % 4294967296 = xx at *
            clear hxx
            have HI2 : InB w A (wv (mixed s r (k + 1))) (wv (List.replicate 8 0)) (wr.setCell ⟨A, k, none⟩ (.int .u32 xx)) := by
              refine ⟨?_, (HI.out).2.1.far _ _ (by simp), (HI.out).2.2.1.setCell (p := ⟨A, k, none⟩) (Nat.le_refl _) _, by simpa [World.setCell] using (HI.out).2.2.2⟩
              rw [← hset.out]
              exact (HI.out).1.set k _
            have HI3 := Lib.hid HI2
            clear HI2
            go_wp2
            go_roundw
            case rel => exact ⟨k + 1, by omega, by go_num, HI3⟩
            case measure => simp [intOf]; omega
          · have hd : decide ((k : Int) < 8) = false := by simp; omega
            obtain rfl : k = 8 := by omega
            go_upto_region 12 with fail
            apply wp_region_lit
            have HI2 := HI.out
            rw [← HB.out] at HI2
            have HI3 := Lib.hid HI2
            clear HI2 HI
            refine wpList_load_cel rfl 67 8 arrS (.tmp 2) rfl A rfl _ ((HI3.out).1) rfl ?_
            refine wpList_store_cel rfl 67 8 arrS (.tmp 4) (.tmp 38) rfl (A + 1) (wv (blk s l).list) _ rfl rfl ((HI3.out).2.1) rfl rfl (wv_one _) ?_
            intro w8 c8 g8
            have C8 := Lib.hid c8
            have B8 := Lib.hid ((HI3.out).2.2.1.grown g8 (by have := (HI3.out).2.2.2; omega) (fun k hk => by cases hk; omega))
            clear c8 g8
            go_wp2
            refine ret_cel 67 8 arrS 4 ?hr (A + 1) ?hp _ (C8.out) ?hl ?hd ?hR
            case hr => kernel_rfl
            case hp => simp only [Act.put, List.setIfInBounds_toArray, List.set_cons_zero, List.set_cons_succ]; rfl
            case hl => rfl
            case hd => simp only [Act.put]
            case hR =>
              rw [HA.out, ← HSS.out]
              exact ⟨rfl, B8.out⟩
end Go.Proofs.YtknkmblacaaegaaDoor
