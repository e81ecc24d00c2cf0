/- What is told of an instruction, or of nothing, is added to the draft. -/
import Derived.Test.YthfkmackodbmkaaGreatDoorTextDraft
namespace Go.Proofs.YthfkmackodbmkaaGreatDoor
open Go.RowKit Go.MapKept
set_option linter.unusedVariables false
set_option linter.unusedSimpArgs false
set_option maxRecDepth 100000
set_option maxHeartbeats 1000000

theorem addNone (i : Ins) (hi : i.op = 0) (goal : Str) (at' : Int) {V : World} {mp D rb : Nat} {d : Dr} (h : DS V mp D rb d) :
    Calls Tryz.prog 28 #[.pointer (some ⟨D, 0, none⟩), lineV ⟨[], i, goal⟩, .int .i64 at'] V (Added V mp D rb (addL d ⟨[], i, goal⟩ at')) := by
  have hres : addL d ⟨[], i, goal⟩ at' = .inl d := by unfold addL; simp [hi]
  rw [hres]
  have bB := alloc_below V (.cells (lineC ⟨[], i, goal⟩) 61)
  have h2 := Lib.hid (h.past bB)
  have HT := Lib.hid (Turn.of_below (P := AP mp D rb) bB)
  unfold lineV
  unfold lineC at bB h2 HT
  simp only at bB h2 HT ⊢
  rw [hi] at h2 HT ⊢
  clear bB hres h
  go_enter Tryz.func28, Tryz.ntmps28
  go_wp2_with fail
  go_ret
  exact added_ok rfl rfl (fun _ _ => h2.out) HT.out
theorem addFull (i : Ins) (hi : i.op ≠ 0) (goal : Str) (at' : Int) {V : World} {mp D rb : Nat} {d : Dr} (h : DS V mp D rb d) (hf : d.list.length = 4096) :
    Calls Tryz.prog 28 #[.pointer (some ⟨D, 0, none⟩), lineV ⟨[], i, goal⟩, .int .i64 at'] V (Added V mp D rb (addL d ⟨[], i, goal⟩ at')) := by
  have hres : addL d ⟨[], i, goal⟩ at' = .inr 3 := by unfold addL; simp [hi, hf]
  rw [hres]
  have bB := alloc_below V (.cells (lineC ⟨[], i, goal⟩) 61)
  have h2 := h.past bB
  have HT := Lib.hid (Turn.of_below (P := AP mp D rb) bB)
  obtain ⟨vl, vj, hD, hl, hj⟩ := h2.cells
  obtain ⟨ao, cap, rfl⟩ := hl.shape
  rw [hf] at hD
  unfold lineC at hD HT
  simp only at hD HT
  have q2 := (show (V.alloc (.cells #[str [], .int .u8 i.op, .bool i.nw, .int .i64 i.dst, .int .i64 i.src, .bool i.ui, .int .i64 i.off, .int .i64 i.im, .int .i64 i.sz, str goal] 61)).cell? ⟨D, 0, none⟩ = some (.slice ao 4096 cap) by simp only [World.cell?, hD]; rfl)
  unfold lineV
  simp only
  have ho : (i.op != 0) = true := by simpa using hi
  have ho2 : (i.op == 0) = false := by simpa using hi
  clear bB h2 hD hl hj hres h hi hf
  go_enter Tryz.func28, Tryz.ntmps28
  go_wp2_with fail
  go_ret
  exact added_no rfl rfl HT.out
theorem addPlain (i : Ins) (hi : i.op ≠ 0) (at' : Int) {V : World} {mp D rb : Nat} {d : Dr} (h : DS V mp D rb d) (hf : d.list.length ≠ 4096) :
    Calls Tryz.prog 28 #[.pointer (some ⟨D, 0, none⟩), lineV ⟨[], i, []⟩, .int .i64 at'] V (Added V mp D rb (addL d ⟨[], i, []⟩ at')) := by
  have hres : addL d ⟨[], i, []⟩ at' = .inl { d with list := d.list ++ [i] } := by unfold addL; simp [hi, hf]
  rw [hres]
  have bB := alloc_below V (.cells (lineC ⟨[], i, []⟩) 61)
  have hb := heap_alloc_new V (.cells (lineC ⟨[], i, []⟩) 61)
  have h2 := h.past bB
  have hlt := h.lt
  have HT := Lib.hid (Turn.of_below (P := AP mp D rb) bB)
  have HLT := Lib.hid hlt
  unfold lineC at bB hb h2 HT
  simp only at bB hb h2 HT
  obtain ⟨vl, vj, hD, hl, hj⟩ := h2.cells
  obtain ⟨ao, cap, rfl⟩ := hl.shape
  have q2 : (V.alloc (.cells #[str [], .int .u8 i.op, .bool i.nw, .int .i64 i.dst, .int .i64 i.src, .bool i.ui, .int .i64 i.off, .int .i64 i.im, .int .i64 i.sz, str []] 61)).cell? ⟨D, 0, none⟩ = some (.slice ao d.list.length cap) := by simp only [World.cell?, hD]; rfl
  have D2 := Lib.hid h2
  unfold lineV
  simp only
  have ho : (i.op != 0) = true := by simpa using hi
  have ho2 : (i.op == 0) = false := by simpa using hi
  have hf2 : ((d.list.length : Int) == 4096) = false := by simp; omega
  have hf3 : ¬ d.list.length = 4096 := hf
  have hbD : V.heap.size ≠ D := by omega
  have HBG : rb ≤ V.heap.size := hlt.2.2
  clear bB h2 hD hl hj hres h hi hf
  go_enter Tryz.func28, Tryz.ntmps28
  go_upto_region 11 with fail
  generalize V.alloc (.cells #[str [], .int .u8 i.op, .bool i.nw, .int .i64 i.dst, .int .i64 i.src, .bool i.ui, .int .i64 i.off, .int .i64 i.im, .int .i64 i.sz, str []] 61) = W2 at *
  generalize V.heap.size = b at *
  have hb2 : W2.drew.heap[b]? = some (.cells #[str [], .int .u8 i.op, .bool i.nw, .int .i64 i.dst, .int .i64 i.src, .bool i.ui, .int .i64 i.off, .int .i64 i.im, .int .i64 i.sz, str []] 61 (0, 0)) := hb
  have sb : ∀ W : World, W.heap[b]? = some (.cells #[str [], .int .u8 i.op, .bool i.nw, .int .i64 i.dst, .int .i64 i.src, .bool i.ui, .int .i64 i.off, .int .i64 i.im, .int .i64 i.sz, str []] 61 (0, 0)) → W.cell? ⟨b, 1, none⟩ = some (.int .u8 i.op) ∧ W.cell? ⟨b, 2, none⟩ = some (.bool i.nw) ∧ W.cell? ⟨b, 3, none⟩ = some (.int .i64 i.dst) ∧ W.cell? ⟨b, 4, none⟩ = some (.int .i64 i.src) ∧ W.cell? ⟨b, 5, none⟩ = some (.bool i.ui) ∧ W.cell? ⟨b, 6, none⟩ = some (.int .i64 i.off) ∧ W.cell? ⟨b, 7, none⟩ = some (.int .i64 i.im) ∧ W.cell? ⟨b, 8, none⟩ = some (.int .i64 i.sz) := by
    intro W h
    simp [World.cell?, h]
  have S0' := sb _ hb2
  refine wp_region_held_drew (S := fun w' => w'.cell? ⟨b, 1, none⟩ = some (.int .u8 i.op) ∧ w'.cell? ⟨b, 2, none⟩ = some (.bool i.nw) ∧ w'.cell? ⟨b, 3, none⟩ = some (.int .i64 i.dst) ∧ w'.cell? ⟨b, 4, none⟩ = some (.int .i64 i.src) ∧ w'.cell? ⟨b, 5, none⟩ = some (.bool i.ui) ∧ w'.cell? ⟨b, 6, none⟩ = some (.int .i64 i.off) ∧ w'.cell? ⟨b, 7, none⟩ = some (.int .i64 i.im) ∧ w'.cell? ⟨b, 8, none⟩ = some (.int .i64 i.sz)) (by kernel_rfl) S0' (fun S0 => ?_)
  refine wpAnyH_take (i := 0) (v := ?v0t24) rfl (by kernel_rfl) (by kernel_rfl) (by kernel_rfl) (fun _ _ _ h => h) (Or.inl ⟨by rfl, ?y0t24⟩) S0 ?z0t24
  case y0t24 => intro w_ hSw; go_simp; with_reducible rfl
  try simp only [List.getElem_toArray, List.getElem_cons_zero, List.getElem_cons_succ, Act.put, List.setIfInBounds_toArray, List.set_cons_zero, List.set_cons_succ]
  refine wpAnyH_take (i := 1) (v := ?v1t25) rfl (by kernel_rfl) (by kernel_rfl) (by kernel_rfl) (fun _ _ _ h => h) (Or.inl ⟨by rfl, ?y1t25⟩) S0 ?z1t25
  case y1t25 => intro w_ hSw; go_simp; with_reducible rfl
  try simp only [List.getElem_toArray, List.getElem_cons_zero, List.getElem_cons_succ, Act.put, List.setIfInBounds_toArray, List.set_cons_zero, List.set_cons_succ]
  refine wpAnyH_take (i := 2) (v := ?v2t26) rfl (by kernel_rfl) (by kernel_rfl) (by kernel_rfl) (fun _ _ _ h => h) (Or.inl ⟨by rfl, ?y2t26⟩) S0 ?z2t26
  case y2t26 => intro w_ hSw; go_simp; with_reducible rfl
  try simp only [List.getElem_toArray, List.getElem_cons_zero, List.getElem_cons_succ, Act.put, List.setIfInBounds_toArray, List.set_cons_zero, List.set_cons_succ]
  refine wpAnyH_take (i := 3) (v := ?v3t27) rfl (by kernel_rfl) (by kernel_rfl) (by kernel_rfl) (fun _ _ _ h => h) (Or.inl ⟨by rfl, ?y3t27⟩) S0 ?z3t27
  case y3t27 => intro w_ hSw; go_simp; with_reducible rfl
  try simp only [List.getElem_toArray, List.getElem_cons_zero, List.getElem_cons_succ, Act.put, List.setIfInBounds_toArray, List.set_cons_zero, List.set_cons_succ]
  refine wpAnyH_take (i := 5) (v := ?v5t28) rfl (by kernel_rfl) (by kernel_rfl) (by kernel_rfl) (fun _ _ _ h => h) (Or.inl ⟨by rfl, ?y5t28⟩) S0 ?z5t28
  case y5t28 => intro w_ hSw; go_simp; with_reducible rfl
  try simp only [List.getElem_toArray, List.getElem_cons_zero, List.getElem_cons_succ, Act.put, List.setIfInBounds_toArray, List.set_cons_zero, List.set_cons_succ]
  refine wpAnyH_take (i := 6) (v := ?v6t29) rfl (by kernel_rfl) (by kernel_rfl) (by kernel_rfl) (fun _ _ _ h => h) (Or.inl ⟨by rfl, ?y6t29⟩) S0 ?z6t29
  case y6t29 => intro w_ hSw; (try dsimp only at hSw); go_simp; with_reducible rfl
  try simp only [List.getElem_toArray, List.getElem_cons_zero, List.getElem_cons_succ, Act.put, List.setIfInBounds_toArray, List.set_cons_zero, List.set_cons_succ]
  have D3 := (D2.out).past (show Below W2.heap.size W2 W2.drew from (Below.refl _ W2).drew)
  obtain ⟨vl, vj, hD, hl, hj⟩ := D3.cells
  obtain ⟨ao, cap, rfl⟩ := hl.shape
  try simp only at hD hl hj
  have qD : W2.drew.cell? ⟨D, 0, none⟩ = some (.slice ao d.list.length cap) := by simp only [World.cell?, hD]; rfl
  have bA := alloc_below W2.drew (.cells #[.int .u8 i.op, .bool i.nw, .int .i64 i.dst, .int .i64 i.src, .bool i.ui, .int .i64 i.off, .int .i64 i.im, .int .i64 i.sz] 47)
  have hA := heap_alloc_new W2.drew (.cells #[.int .u8 i.op, .bool i.nw, .int .i64 i.dst, .int .i64 i.src, .bool i.ui, .int .i64 i.off, .int .i64 i.im, .int .i64 i.sz] 47)
  have hDA := (bA.block D (Array.getElem?_eq_some_iff.1 hD).1).trans hD
  have qA : ((W2.alloc (.cells #[.int .u8 i.op, .bool i.nw, .int .i64 i.dst, .int .i64 i.src, .bool i.ui, .int .i64 i.off, .int .i64 i.im, .int .i64 i.sz] 47)).drew).cell? ⟨D, 0, none⟩ = some (.slice ao d.list.length cap) := (bA.cell (by exact (Array.getElem?_eq_some_iff.1 hD).1)).trans qD
  have hbA := (bA.block b (Array.getElem?_eq_some_iff.1 hb2).1).trans hb2
  have SA := sb _ hbA
  have lA := hl.past bA
  have jA := hj.past bA
  have mA := D3.places.below bA D3.places.lt
  have hlt := HLT.out
  have szA := bA.size
  have hlen := (D2.out).len.1
  have hbD2 : W2.heap.size ≠ D := by have := (Array.getElem?_eq_some_iff.1 hD).1; have e : W2.drew.heap.size = W2.heap.size := rfl; omega
  have HT2 := Lib.hid ((HT.out).trans (Turn.of_below (show Below W2.heap.size W2 W2.drew from (Below.refl _ W2).drew)) |>.trans (Turn.of_below bA))
  refine wpAnyH_ready (rs := [4, 7]) (by kernel_rfl) (by simp) ?_
  refine AllReadyH.cons rfl (fun K hK => ?_) (AllReadyH.cons rfl (fun K hK => ?_) AllReadyH.nil)
  · go_simp
    refine hK.out _ _ S0 (fun _ => ?_)
    clear hK K
    try simp only [List.getElem_toArray, List.getElem_cons_zero, List.getElem_cons_succ, Act.put, List.setIfInBounds_toArray, List.set_cons_zero, List.set_cons_succ]
    refine wpAnyH_ready (rs := [7]) (by kernel_rfl) (by simp) ?_
    refine AllReadyH.cons rfl (fun K hK => ?_) AllReadyH.nil
    go_simp
    refine hK.out _ _ SA (fun _ => ?_)
    clear hK K
    try simp only [List.getElem_toArray, List.getElem_cons_zero, List.getElem_cons_succ, Act.put, List.setIfInBounds_toArray, List.set_cons_zero, List.set_cons_succ]
    refine wpAnyH_ready (rs := [8]) (by kernel_rfl) (by simp) ?_
    refine AllReadyH.cons rfl (fun K hK => ?_) AllReadyH.nil
    refine step_append_i (by rfl) (.tmp 71) (.tmp 74) (by rfl) rb (.slice ao d.list.length cap) d.list (by rfl) lA W2.heap.size i (by rfl) hA (Nat.le_trans hlen (by omega)) (Nat.le_trans D3.lt.2.2 szA) ?_
    intro v' w5 ho5 hg5
    obtain ⟨ao', cap', hv'⟩ := ho5.shape
    have hal : (d.list ++ [i]).length = d.list.length + 1 := by simp
    rw [hal] at hv'
    subst hv'
    have own : ∀ k, (Value.slice ao d.list.length cap).ownBlock = some k → rb ≤ k := fun k e => (lA.lt k e).1
    have nb : ∀ k, k < rb → some k ≠ (Value.slice ao d.list.length cap).ownBlock := fun k hk e => by have := own k e.symm; omega
    have h5D := (hg5.block D (Array.getElem?_eq_some_iff.1 hDA).1 (nb D (by omega))).trans hDA
    have h5b : some b ≠ (Value.slice ao d.list.length cap).ownBlock := by
      intro e
      rcases lA.2 with ⟨e1, _⟩ | ⟨g, c, cur, e1, _, hg, _⟩
      · rw [e1] at e; cases e
      · rw [e1] at e
        have e := Option.some.inj e
        subst e
        rw [hbA] at hg
        simp at hg
    have S5 := sb _ ((hg5.block b (Array.getElem?_eq_some_iff.1 hbA).1 h5b).trans hbA)
    have c5 : w5.cell? ⟨D, 0, none⟩ = some (.slice ao d.list.length cap) := by simp only [World.cell?, h5D]; rfl
    have f5 : w5.frozen? ⟨D, 0, none⟩ = false := by simp [World.frozen?, h5D]
    have gs := setCell_grown w5 D 0 (.slice ao' (d.list.length + 1) cap')
    have hs := heap_set h5D 0 (.slice ao' (d.list.length + 1) cap')
    have hbs := (gs.block b (Array.getElem?_eq_some_iff.1 ((hg5.block b (Array.getElem?_eq_some_iff.1 hbA).1 h5b).trans hbA)).1 (fun e => hbD (Option.some.inj e))).trans ((hg5.block b (Array.getElem?_eq_some_iff.1 hbA).1 h5b).trans hbA)
    have S6 := sb _ hbs
    have T6 := Lib.hid (((HT2.out).trans (Turn.of_grown hg5 (fun k e => .inr (.inr (own k e))))).trans (Turn.of_grown gs (fun k e => by cases e; exact .inr (.inl rfl))))
    have m5 := mA.kept hg5 (nb mp (by omega))
    have j5 : OwnJ w5 rb vj d.jumps := by
      refine jA.kept hg5 ?_
      cases hk : vj.ownBlock with
      | none => exact .inl rfl
      | some k =>
        refine .inr (fun e => ?_)
        rcases jA.2 with ⟨e1, _⟩ | ⟨g, c, cur, e1, _, hg, _⟩
        · rw [e1] at hk; cases hk
        · rcases lA.2 with ⟨e2, _⟩ | ⟨g2, c2, cur2, e2, _, hg2, _⟩
          · rw [e2] at e; cases e
          · rw [e1] at hk
            rw [e2] at e
            have hk := Option.some.inj hk
            have e := Option.some.inj e
            simp only at hk e
            subst hk
            subst e
            rw [hg] at hg2
            simp at hg2
    have D6 : Hid (d.list.length + 1 ≤ 4096 → DS (w5.setCell ⟨D, 0, none⟩ (.slice ao' (d.list.length + 1) cap')) mp D rb { d with list := d.list ++ [i] }) := Lib.hid fun hle => by
      refine ⟨⟨.slice ao' (d.list.length + 1) cap', vj, by simpa using hs, ?_, ?_⟩, ?_, ⟨hlt.1, hlt.2.1, ?_⟩, by simpa using hle, (D2.out).len.2⟩
      · refine ho5.kept gs ?_
        cases hk : (Value.slice ao' (d.list.length + 1) cap').ownBlock with
        | none => exact .inl rfl
        | some k => exact .inr (fun e => by have := (ho5.lt k hk).1; have := Option.some.inj e; omega)
      · refine j5.kept gs ?_
        cases hk : vj.ownBlock with
        | none => exact .inl rfl
        | some k => exact .inr (fun e => by have := (World.ownsRow.lt j5 k hk).1; have := Option.some.inj e; omega)
      · exact m5.kept gs (fun e => by have := Option.some.inj e; omega)
      · exact Nat.le_trans (Nat.le_trans D3.lt.2.2 szA) (Nat.le_trans hg5.size gs.size)
    clear own nb h5D h5b hs hbs gs m5 j5 ho5 hg5 lA jA mA hDA hbA hA bA qA qD hal SA
    refine hK.out _ _ S5 (fun _ => ?_)
    clear hK K
    try simp only [List.getElem_toArray, List.getElem_cons_zero, List.getElem_cons_succ, Act.put, List.setIfInBounds_toArray, List.set_cons_zero, List.set_cons_succ]
    refine wpAnyH_take (i := 9) (v := ?v9t30) rfl (by kernel_rfl) (by kernel_rfl) (by kernel_rfl) (fun _ _ _ h => h) (Or.inl ⟨by rfl, ?y9t30⟩) S5 ?z9t30
    case y9t30 => intro w_ hSw; go_simp; with_reducible rfl
    try simp only [List.getElem_toArray, List.getElem_cons_zero, List.getElem_cons_succ, Act.put, List.setIfInBounds_toArray, List.set_cons_zero, List.set_cons_succ]
    refine wpAnyH_take (i := 10) (v := ?v10t31) rfl (by kernel_rfl) (by kernel_rfl) (by kernel_rfl) (fun _ _ _ h => h) (Or.inl ⟨by rfl, ?y10t31⟩) S5 ?z10t31
    case y10t31 => intro w_ hSw; go_simp; with_reducible rfl
    try simp only [List.getElem_toArray, List.getElem_cons_zero, List.getElem_cons_succ, Act.put, List.setIfInBounds_toArray, List.set_cons_zero, List.set_cons_succ]
    refine wpAnyH_ready (rs := [11]) (by kernel_rfl) (by simp) ?_
    refine AllReadyH.cons rfl (fun K hK => ?_) AllReadyH.nil
    go_simp
    refine hK.out _ _ S6 (fun _ => ?_)
    clear hK K c5 f5
    try simp only [List.getElem_toArray, List.getElem_cons_zero, List.getElem_cons_succ, Act.put, List.setIfInBounds_toArray, List.set_cons_zero, List.set_cons_succ]
    refine wpAnyH_done (by kernel_rfl) ?_ _
    go_wp2_with fail
    go_ret
    exact added_ok rfl rfl (fun h _ => D6.out (by simpa using h)) T6.out
  · go_simp
    refine hK.out _ _ SA (fun _ => ?_)
    clear hK K
    try simp only [List.getElem_toArray, List.getElem_cons_zero, List.getElem_cons_succ, Act.put, List.setIfInBounds_toArray, List.set_cons_zero, List.set_cons_succ]
    refine wpAnyH_ready (rs := [4]) (by kernel_rfl) (by simp) ?_
    refine AllReadyH.cons rfl (fun K hK => ?_) AllReadyH.nil
    go_simp
    refine hK.out _ _ SA (fun _ => ?_)
    clear hK K
    try simp only [List.getElem_toArray, List.getElem_cons_zero, List.getElem_cons_succ, Act.put, List.setIfInBounds_toArray, List.set_cons_zero, List.set_cons_succ]
    refine wpAnyH_ready (rs := [8]) (by kernel_rfl) (by simp) ?_
    refine AllReadyH.cons rfl (fun K hK => ?_) AllReadyH.nil
    refine step_append_i (by rfl) (.tmp 71) (.tmp 74) (by rfl) rb (.slice ao d.list.length cap) d.list (by rfl) lA W2.heap.size i (by rfl) hA (Nat.le_trans hlen (by omega)) (Nat.le_trans D3.lt.2.2 szA) ?_
    intro v' w5 ho5 hg5
    obtain ⟨ao', cap', hv'⟩ := ho5.shape
    have hal : (d.list ++ [i]).length = d.list.length + 1 := by simp
    rw [hal] at hv'
    subst hv'
    have own : ∀ k, (Value.slice ao d.list.length cap).ownBlock = some k → rb ≤ k := fun k e => (lA.lt k e).1
    have nb : ∀ k, k < rb → some k ≠ (Value.slice ao d.list.length cap).ownBlock := fun k hk e => by have := own k e.symm; omega
    have h5D := (hg5.block D (Array.getElem?_eq_some_iff.1 hDA).1 (nb D (by omega))).trans hDA
    have h5b : some b ≠ (Value.slice ao d.list.length cap).ownBlock := by
      intro e
      rcases lA.2 with ⟨e1, _⟩ | ⟨g, c, cur, e1, _, hg, _⟩
      · rw [e1] at e; cases e
      · rw [e1] at e
        have e := Option.some.inj e
        subst e
        rw [hbA] at hg
        simp at hg
    have S5 := sb _ ((hg5.block b (Array.getElem?_eq_some_iff.1 hbA).1 h5b).trans hbA)
    have c5 : w5.cell? ⟨D, 0, none⟩ = some (.slice ao d.list.length cap) := by simp only [World.cell?, h5D]; rfl
    have f5 : w5.frozen? ⟨D, 0, none⟩ = false := by simp [World.frozen?, h5D]
    have gs := setCell_grown w5 D 0 (.slice ao' (d.list.length + 1) cap')
    have hs := heap_set h5D 0 (.slice ao' (d.list.length + 1) cap')
    have hbs := (gs.block b (Array.getElem?_eq_some_iff.1 ((hg5.block b (Array.getElem?_eq_some_iff.1 hbA).1 h5b).trans hbA)).1 (fun e => hbD (Option.some.inj e))).trans ((hg5.block b (Array.getElem?_eq_some_iff.1 hbA).1 h5b).trans hbA)
    have S6 := sb _ hbs
    have T6 := Lib.hid (((HT2.out).trans (Turn.of_grown hg5 (fun k e => .inr (.inr (own k e))))).trans (Turn.of_grown gs (fun k e => by cases e; exact .inr (.inl rfl))))
    have m5 := mA.kept hg5 (nb mp (by omega))
    have j5 : OwnJ w5 rb vj d.jumps := by
      refine jA.kept hg5 ?_
      cases hk : vj.ownBlock with
      | none => exact .inl rfl
      | some k =>
        refine .inr (fun e => ?_)
        rcases jA.2 with ⟨e1, _⟩ | ⟨g, c, cur, e1, _, hg, _⟩
        · rw [e1] at hk; cases hk
        · rcases lA.2 with ⟨e2, _⟩ | ⟨g2, c2, cur2, e2, _, hg2, _⟩
          · rw [e2] at e; cases e
          · rw [e1] at hk
            rw [e2] at e
            have hk := Option.some.inj hk
            have e := Option.some.inj e
            simp only at hk e
            subst hk
            subst e
            rw [hg] at hg2
            simp at hg2
    have D6 : Hid (d.list.length + 1 ≤ 4096 → DS (w5.setCell ⟨D, 0, none⟩ (.slice ao' (d.list.length + 1) cap')) mp D rb { d with list := d.list ++ [i] }) := Lib.hid fun hle => by
      refine ⟨⟨.slice ao' (d.list.length + 1) cap', vj, by simpa using hs, ?_, ?_⟩, ?_, ⟨hlt.1, hlt.2.1, ?_⟩, by simpa using hle, (D2.out).len.2⟩
      · refine ho5.kept gs ?_
        cases hk : (Value.slice ao' (d.list.length + 1) cap').ownBlock with
        | none => exact .inl rfl
        | some k => exact .inr (fun e => by have := (ho5.lt k hk).1; have := Option.some.inj e; omega)
      · refine j5.kept gs ?_
        cases hk : vj.ownBlock with
        | none => exact .inl rfl
        | some k => exact .inr (fun e => by have := (World.ownsRow.lt j5 k hk).1; have := Option.some.inj e; omega)
      · exact m5.kept gs (fun e => by have := Option.some.inj e; omega)
      · exact Nat.le_trans (Nat.le_trans D3.lt.2.2 szA) (Nat.le_trans hg5.size gs.size)
    clear own nb h5D h5b hs hbs gs m5 j5 ho5 hg5 lA jA mA hDA hbA hA bA qA qD hal SA
    refine hK.out _ _ S5 (fun _ => ?_)
    clear hK K
    try simp only [List.getElem_toArray, List.getElem_cons_zero, List.getElem_cons_succ, Act.put, List.setIfInBounds_toArray, List.set_cons_zero, List.set_cons_succ]
    refine wpAnyH_take (i := 9) (v := ?v9t32) rfl (by kernel_rfl) (by kernel_rfl) (by kernel_rfl) (fun _ _ _ h => h) (Or.inl ⟨by rfl, ?y9t32⟩) S5 ?z9t32
    case y9t32 => intro w_ hSw; go_simp; with_reducible rfl
    try simp only [List.getElem_toArray, List.getElem_cons_zero, List.getElem_cons_succ, Act.put, List.setIfInBounds_toArray, List.set_cons_zero, List.set_cons_succ]
    refine wpAnyH_take (i := 10) (v := ?v10t33) rfl (by kernel_rfl) (by kernel_rfl) (by kernel_rfl) (fun _ _ _ h => h) (Or.inl ⟨by rfl, ?y10t33⟩) S5 ?z10t33
    case y10t33 => intro w_ hSw; go_simp; with_reducible rfl
    try simp only [List.getElem_toArray, List.getElem_cons_zero, List.getElem_cons_succ, Act.put, List.setIfInBounds_toArray, List.set_cons_zero, List.set_cons_succ]
    refine wpAnyH_ready (rs := [11]) (by kernel_rfl) (by simp) ?_
    refine AllReadyH.cons rfl (fun K hK => ?_) AllReadyH.nil
    go_simp
    refine hK.out _ _ S6 (fun _ => ?_)
    clear hK K c5 f5
    try simp only [List.getElem_toArray, List.getElem_cons_zero, List.getElem_cons_succ, Act.put, List.setIfInBounds_toArray, List.set_cons_zero, List.set_cons_succ]
    refine wpAnyH_done (by kernel_rfl) ?_ _
    go_wp2_with fail
    go_ret
    exact added_ok rfl rfl (fun h _ => D6.out (by simpa using h)) T6.out
end Go.Proofs.YthfkmackodbmkaaGreatDoor
