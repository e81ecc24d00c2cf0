/- What is told of an instruction, or of nothing, is added to the draft. -/
import Derived.Test.YthfkmackodbmkaaGreatDoorTextAdd
namespace Go.Proofs.YthfkmackodbmkaaGreatDoor
open Go.RowKit Go.MapKept
set_option linter.unusedVariables false
set_option linter.unusedSimpArgs false
set_option maxRecDepth 100000
set_option maxHeartbeats 1000000

theorem addJump (i : Ins) (hi : i.op ≠ 0) (c : UInt8) (r : Str) (at' : Int) {V : World} {mp D rb : Nat} {d : Dr} (h : DS V mp D rb d) (hf : d.list.length ≠ 4096) (hjl : d.jumps.length < 1000000) :
    Calls Tryz.prog 28 #[.pointer (some ⟨D, 0, none⟩), lineV ⟨[], i, c :: r⟩, .int .i64 at'] V (Added V mp D rb (addL d ⟨[], i, c :: r⟩ at')) := by
  have hres : addL d ⟨[], i, c :: r⟩ at' = .inl { d with jumps := d.jumps ++ [(at', (d.list.length : Int), c :: r)], list := d.list ++ [i] } := by unfold addL; simp [hi, hf]
  rw [hres]
  obtain ⟨goal, hgo⟩ : ∃ goal, goal = c :: r := ⟨_, rfl⟩
  have hg0 : (goal == []) = false := by rw [hgo]; rfl
  rw [← hgo]
  have bB := alloc_below V (.cells (lineC ⟨[], i, goal⟩) 61)
  have hb := heap_alloc_new V (.cells (lineC ⟨[], i, goal⟩) 61)
  have h2 := h.past bB
  have hlt := h.lt
  have HT := Lib.hid (Turn.of_below (P := AP mp D rb) bB)
  have HLT := Lib.hid hlt
  unfold lineC at bB hb h2 HT
  simp only at bB hb h2 HT
  obtain ⟨vl, vj, hD, hl, hj⟩ := h2.cells
  obtain ⟨al, cl, rfl⟩ := hl.shape
  obtain ⟨aj, cj, rfl⟩ := hj.shape
  have qL : (V.alloc (.cells #[str [], .int .u8 i.op, .bool i.nw, .int .i64 i.dst, .int .i64 i.src, .bool i.ui, .int .i64 i.off, .int .i64 i.im, .int .i64 i.sz, str goal] 61)).cell? ⟨D, 0, none⟩ = some (.slice al d.list.length cl) := by simp only [World.cell?, hD]; rfl
  have qG : (V.alloc (.cells #[str [], .int .u8 i.op, .bool i.nw, .int .i64 i.dst, .int .i64 i.src, .bool i.ui, .int .i64 i.off, .int .i64 i.im, .int .i64 i.sz, str goal] 61)).cell? ⟨V.heap.size, 9, none⟩ = some (str goal) := by simp only [World.cell?, hb]; rfl
  have D0 := Lib.hid h2
  unfold lineV
  simp only
  have ho : (i.op != 0) = true := by simpa using hi
  have ho2 : (i.op == 0) = false := by simpa using hi
  have hf2 : ((d.list.length : Int) == 4096) = false := by simp; omega
  have hf3 : ¬ d.list.length = 4096 := hf
  have hbD : V.heap.size ≠ D := by omega
  clear bB h2 hres h hi hf hgo
  go_enter Tryz.func28, Tryz.ntmps28
  go_upto_region 10 with fail
  generalize V.alloc (.cells #[str [], .int .u8 i.op, .bool i.nw, .int .i64 i.dst, .int .i64 i.src, .bool i.ui, .int .i64 i.off, .int .i64 i.im, .int .i64 i.sz, str goal] 61) = W1 at *
  generalize V.heap.size = b at *
  have hb1 : W1.drew.heap[b]? = some (.cells #[str [], .int .u8 i.op, .bool i.nw, .int .i64 i.dst, .int .i64 i.src, .bool i.ui, .int .i64 i.off, .int .i64 i.im, .int .i64 i.sz, str goal] 61 (0, 0)) := hb
  refine wp_region_held_drew (S := fun w' => w'.cell? ⟨D, 0, none⟩ = some (.slice al d.list.length cl) ∧ w'.cell? ⟨b, 9, none⟩ = some (str goal)) (by kernel_rfl) ⟨qL, qG⟩ (fun S0 => ?_)
  refine wpAnyH_take (i := 0) (v := ?v0t34) rfl (by kernel_rfl) (by kernel_rfl) (by kernel_rfl) (fun _ _ _ h => h) (Or.inl ⟨by rfl, ?y0t34⟩) S0 ?z0t34
  case y0t34 => intro w_ hSw; go_simp; with_reducible rfl
  try simp only [List.getElem_toArray, List.getElem_cons_zero, List.getElem_cons_succ, Act.put, List.setIfInBounds_toArray, List.set_cons_zero, List.set_cons_succ]
  refine wpAnyH_take (i := 1) (v := ?v1t35) rfl (by kernel_rfl) (by kernel_rfl) (by kernel_rfl) (fun _ _ _ h => h) (Or.inl ⟨by rfl, ?y1t35⟩) S0 ?z1t35
  case y1t35 => intro w_ hSw; go_simp; with_reducible rfl
  try simp only [List.getElem_toArray, List.getElem_cons_zero, List.getElem_cons_succ, Act.put, List.setIfInBounds_toArray, List.set_cons_zero, List.set_cons_succ]
  refine wpAnyH_take (i := 2) (v := ?v2t36) rfl (by kernel_rfl) (by kernel_rfl) (by kernel_rfl) (fun _ _ _ h => h) (Or.inl ⟨by rfl, ?y2t36⟩) S0 ?z2t36
  case y2t36 => intro w_ hSw; go_simp; with_reducible rfl
  try simp only [List.getElem_toArray, List.getElem_cons_zero, List.getElem_cons_succ, Act.put, List.setIfInBounds_toArray, List.set_cons_zero, List.set_cons_succ]
  refine wpAnyH_take (i := 3) (v := ?v3t37) rfl (by kernel_rfl) (by kernel_rfl) (by kernel_rfl) (fun _ _ _ h => h) (Or.inl ⟨by rfl, ?y3t37⟩) S0 ?z3t37
  case y3t37 => intro w_ hSw; go_simp; with_reducible rfl
  try simp only [List.getElem_toArray, List.getElem_cons_zero, List.getElem_cons_succ, Act.put, List.setIfInBounds_toArray, List.set_cons_zero, List.set_cons_succ]
  refine wpAnyH_take (i := 5) (v := ?v5t38) rfl (by kernel_rfl) (by kernel_rfl) (by kernel_rfl) (fun _ _ _ h => h) (Or.inl ⟨by rfl, ?y5t38⟩) S0 ?z5t38
  case y5t38 => intro w_ hSw; go_simp; with_reducible rfl
  try simp only [List.getElem_toArray, List.getElem_cons_zero, List.getElem_cons_succ, Act.put, List.setIfInBounds_toArray, List.set_cons_zero, List.set_cons_succ]
  refine wpAnyH_take (i := 6) (v := ?v6t39) rfl (by kernel_rfl) (by kernel_rfl) (by kernel_rfl) (fun _ _ _ h => h) (Or.inl ⟨by rfl, ?y6t39⟩) S0 ?z6t39
  case y6t39 => intro w_ hSw; go_simp; with_reducible rfl
  try simp only [List.getElem_toArray, List.getElem_cons_zero, List.getElem_cons_succ, Act.put, List.setIfInBounds_toArray, List.set_cons_zero, List.set_cons_succ]
  refine wpAnyH_take (i := 7) (v := ?v7t40) rfl (by kernel_rfl) (by kernel_rfl) (by kernel_rfl) (fun _ _ _ h => h) (Or.inl ⟨by rfl, ?y7t40⟩) S0 ?z7t40
  case y7t40 => intro w_ hSw; go_simp; with_reducible rfl
  try simp only [List.getElem_toArray, List.getElem_cons_zero, List.getElem_cons_succ, Act.put, List.setIfInBounds_toArray, List.set_cons_zero, List.set_cons_succ]
  refine wpAnyH_take (i := 8) (v := ?v8t41) rfl (by kernel_rfl) (by kernel_rfl) (by kernel_rfl) (fun _ _ _ h => h) (Or.inl ⟨by rfl, ?y8t41⟩) S0 ?z8t41
  case y8t41 => intro w_ hSw; go_simp; with_reducible rfl
  try simp only [List.getElem_toArray, List.getElem_cons_zero, List.getElem_cons_succ, Act.put, List.setIfInBounds_toArray, List.set_cons_zero, List.set_cons_succ]
  refine wpAnyH_take (i := 9) (v := ?v9t42) rfl (by kernel_rfl) (by kernel_rfl) (by kernel_rfl) (fun _ _ _ h => h) (Or.inl ⟨by rfl, ?y9t42⟩) S0 ?z9t42
  case y9t42 => intro w_ hSw; (try dsimp only at hSw); go_simp; with_reducible rfl
  try simp only [List.getElem_toArray, List.getElem_cons_zero, List.getElem_cons_succ, Act.put, List.setIfInBounds_toArray, List.set_cons_zero, List.set_cons_succ]
  refine wpAnyH_take (i := 10) (v := ?v10t43) rfl (by kernel_rfl) (by kernel_rfl) (by kernel_rfl) (fun _ _ _ h => h) (Or.inl ⟨by rfl, ?y10t43⟩) S0 ?z10t43
  case y10t43 => intro w_ hSw; (try dsimp only at hSw); go_simp; with_reducible rfl
  try simp only [List.getElem_toArray, List.getElem_cons_zero, List.getElem_cons_succ, Act.put, List.setIfInBounds_toArray, List.set_cons_zero, List.set_cons_succ]
  refine wpAnyH_take (i := 11) (v := ?v11t44) rfl (by kernel_rfl) (by kernel_rfl) (by kernel_rfl) (fun _ _ _ h => h) (Or.inl ⟨by rfl, ?y11t44⟩) S0 ?z11t44
  case y11t44 => intro w_ hSw; go_simp; with_reducible rfl
  try simp only [List.getElem_toArray, List.getElem_cons_zero, List.getElem_cons_succ, Act.put, List.setIfInBounds_toArray, List.set_cons_zero, List.set_cons_succ]
  refine wpAnyH_take (i := 12) (v := ?v12t45) rfl (by kernel_rfl) (by kernel_rfl) (by kernel_rfl) (fun _ _ _ h => h) (Or.inl ⟨by rfl, ?y12t45⟩) S0 ?z12t45
  case y12t45 => intro w_ hSw; (try dsimp only at hSw); go_simp; with_reducible rfl
  try simp only [List.getElem_toArray, List.getElem_cons_zero, List.getElem_cons_succ, Act.put, List.setIfInBounds_toArray, List.set_cons_zero, List.set_cons_succ]
  refine wpAnyH_take (i := 13) (v := ?v13t46) rfl (by kernel_rfl) (by kernel_rfl) (by kernel_rfl) (fun _ _ _ h => h) (Or.inl ⟨by rfl, ?y13t46⟩) S0 ?z13t46
  case y13t46 => intro w_ hSw; go_simp; with_reducible rfl
  try simp only [List.getElem_toArray, List.getElem_cons_zero, List.getElem_cons_succ, Act.put, List.setIfInBounds_toArray, List.set_cons_zero, List.set_cons_succ]
  have D3 := (D0.out).past (show Below W1.heap.size W1 W1.drew from (Below.refl _ W1).drew)
  have bA := alloc_below W1.drew (.cells #[.int .i64 at', .int .i64 d.list.length, str goal] 132)
  have hA := heap_alloc_new W1.drew (.cells #[.int .i64 at', .int .i64 d.list.length, str goal] 132)
  have hD' : W1.drew.heap[D]? = some (.cells #[.slice al d.list.length cl, .map (some mp), .slice aj d.jumps.length cj] 56 (0, 0)) := hD
  have hDA := (bA.block D (Array.getElem?_eq_some_iff.1 hD').1).trans hD'
  have qD : W1.drew.cell? ⟨D, 2, none⟩ = some (.slice aj d.jumps.length cj) := by simp only [World.cell?, hD']; rfl
  have qA : ((W1.alloc (.cells #[.int .i64 at', .int .i64 d.list.length, str goal] 132)).drew).cell? ⟨D, 2, none⟩ = some (.slice aj d.jumps.length cj) := (bA.cell (by exact (Array.getElem?_eq_some_iff.1 hD').1)).trans qD
  have hbA := (bA.block b (Array.getElem?_eq_some_iff.1 hb1).1).trans hb1
  have yA : (W1.drew.alloc (.cells #[.int .i64 at', .int .i64 d.list.length, str goal] 132)).cell? ⟨W1.heap.size, 0, none⟩ = some (.int .i64 at') ∧ (W1.drew.alloc (.cells #[.int .i64 at', .int .i64 d.list.length, str goal] 132)).cell? ⟨W1.heap.size, 1, none⟩ = some (.int .i64 d.list.length) ∧ (W1.drew.alloc (.cells #[.int .i64 at', .int .i64 d.list.length, str goal] 132)).cell? ⟨W1.heap.size, 2, none⟩ = some (str goal) := by
    rw [show W1.heap.size = W1.drew.heap.size from rfl]
    simp only [World.cell?, hA]
    exact ⟨rfl, rfl, rfl⟩
  have SA : (W1.drew.alloc (.cells #[.int .i64 at', .int .i64 d.list.length, str goal] 132)).cell? ⟨D, 0, none⟩ = some (.slice al d.list.length cl) ∧ (W1.drew.alloc (.cells #[.int .i64 at', .int .i64 d.list.length, str goal] 132)).cell? ⟨b, 9, none⟩ = some (str goal) := ⟨by simp only [World.cell?, hDA]; rfl, by simp only [World.cell?, hbA]; rfl⟩
  have lA := (show OwnI W1.drew rb _ _ from hl.past (show Below W1.heap.size W1 W1.drew from (Below.refl _ W1).drew)).past bA
  have jA := (show OwnJ W1.drew rb _ _ from hj.past (show Below W1.heap.size W1 W1.drew from (Below.refl _ W1).drew)).past bA
  have mA := D3.places.below bA D3.places.lt
  have hlt := HLT.out
  have szA := bA.size
  have HT2 := Lib.hid ((HT.out).trans (Turn.of_below (show Below W1.heap.size W1 W1.drew from (Below.refl _ W1).drew)) |>.trans (Turn.of_below bA))
  refine wpAnyH_ready (rs := [4, 14]) (by kernel_rfl) (by simp) ?_
  refine AllReadyH.cons rfl (fun K hK => ?_) (AllReadyH.cons rfl (fun K hK => ?_) AllReadyH.nil)
  · go_simp
    refine hK.out _ _ S0 (fun _ => ?_)
    clear hK K
    try simp only [List.getElem_toArray, List.getElem_cons_zero, List.getElem_cons_succ, Act.put, List.setIfInBounds_toArray, List.set_cons_zero, List.set_cons_succ]
    refine wpAnyH_ready (rs := [14]) (by kernel_rfl) (by simp) ?_
    refine AllReadyH.cons rfl (fun K hK => ?_) AllReadyH.nil
    go_simp
    refine hK.out _ _ SA (fun _ => ?_)
    clear hK K
    try simp only [List.getElem_toArray, List.getElem_cons_zero, List.getElem_cons_succ, Act.put, List.setIfInBounds_toArray, List.set_cons_zero, List.set_cons_succ]
    refine wpAnyH_ready (rs := [15]) (by kernel_rfl) (by simp) ?_
    refine AllReadyH.cons rfl (fun K hK => ?_) AllReadyH.nil
    refine step_append_j (by rfl) (.tmp 53) (.tmp 63) (by rfl) rb (.slice aj d.jumps.length cj) d.jumps (by rfl) jA W1.heap.size (at', (d.list.length : Int), goal) (by rfl) yA (by omega) (Nat.le_trans D3.lt.2.2 szA) ?_
    intro v' w5 ho5 hg5
    obtain ⟨ao', cap', hv'⟩ := ho5.shape
    have hal : (d.jumps ++ [(at', (d.list.length : Int), goal)]).length = d.jumps.length + 1 := by simp
    rw [hal] at hv'
    subst hv'
    have own : ∀ k, (Value.slice aj d.jumps.length cj).ownBlock = some k → rb ≤ k := fun k e => (World.ownsRow.lt jA k e).1
    have nb : ∀ k, k < rb → some k ≠ (Value.slice aj d.jumps.length cj).ownBlock := fun k hk e => by have := own k e.symm; omega
    have h5D := (hg5.block D (Array.getElem?_eq_some_iff.1 hDA).1 (nb D (by omega))).trans hDA
    have h5b : some b ≠ (Value.slice aj d.jumps.length cj).ownBlock := by
      intro e
      rcases jA.2 with ⟨e1, _⟩ | ⟨g, c, cur, e1, _, hg, _⟩
      · rw [e1] at e; cases e
      · rw [e1] at e
        have e := Option.some.inj e
        subst e
        rw [hbA] at hg
        simp at hg
    have hb5 := (hg5.block b (Array.getElem?_eq_some_iff.1 hbA).1 h5b).trans hbA
    have S5 : w5.cell? ⟨D, 0, none⟩ = some (.slice al d.list.length cl) ∧ w5.cell? ⟨b, 9, none⟩ = some (str goal) := ⟨by simp only [World.cell?, h5D]; rfl, by simp only [World.cell?, hb5]; rfl⟩
    have c5 : w5.cell? ⟨D, 2, none⟩ = some (.slice aj d.jumps.length cj) := by simp only [World.cell?, h5D]; rfl
    have f5 : w5.frozen? ⟨D, 2, none⟩ = false := by simp [World.frozen?, h5D]
    have gs := setCell_grown w5 D 2 (.slice ao' (d.jumps.length + 1) cap')
    have hs := heap_set h5D 2 (.slice ao' (d.jumps.length + 1) cap')
    have hbs := (gs.block b (Array.getElem?_eq_some_iff.1 hb5).1 (fun e => hbD (Option.some.inj e))).trans hb5
    have S6 : (w5.setCell ⟨D, 2, none⟩ (.slice ao' (d.jumps.length + 1) cap')).cell? ⟨D, 0, none⟩ = some (.slice al d.list.length cl) ∧ (w5.setCell ⟨D, 2, none⟩ (.slice ao' (d.jumps.length + 1) cap')).cell? ⟨b, 9, none⟩ = some (str goal) := ⟨by simp only [World.cell?, hs]; rfl, by simp only [World.cell?, hbs]; rfl⟩
    have T6 := Lib.hid (((HT2.out).trans (Turn.of_grown hg5 (fun k e => .inr (.inr (own k e))))).trans (Turn.of_grown gs (fun k e => by cases e; exact .inr (.inl rfl))))
    have m5 := mA.kept hg5 (nb mp (by omega))
    have l5 : OwnI w5 rb (.slice al d.list.length cl) d.list := by
      refine lA.kept hg5 ?_
      cases hk : (Value.slice al d.list.length cl).ownBlock with
      | none => exact .inl rfl
      | some k =>
        refine .inr (fun e => ?_)
        rcases lA.2 with ⟨e1, _⟩ | ⟨g, c, cur, e1, _, hg, _⟩
        · rw [e1] at hk; cases hk
        · rcases jA.2 with ⟨e2, _⟩ | ⟨g2, c2, cur2, e2, _, hg2, _⟩
          · rw [e2] at e; cases e
          · rw [e1] at hk
            rw [e2] at e
            have hk := Option.some.inj hk
            have e := Option.some.inj e
            simp only at hk e
            subst hk
            subst e
            rw [hg] at hg2
            simp at hg2
    have D2 : Hid (DS (w5.setCell ⟨D, 2, none⟩ (.slice ao' (d.jumps.length + 1) cap')) mp D rb { d with jumps := d.jumps ++ [(at', (d.list.length : Int), goal)] }) := Lib.hid (by
      refine ⟨⟨.slice al d.list.length cl, .slice ao' (d.jumps.length + 1) cap', by simpa using hs, ?_, ?_⟩, ?_, ⟨hlt.1, hlt.2.1, ?_⟩, (D0.out).len.1, by simp; omega⟩
      · refine l5.kept gs ?_
        cases hk : (Value.slice al d.list.length cl).ownBlock with
        | none => exact .inl rfl
        | some k => exact .inr (fun e => by have := (l5.lt k hk).1; have := Option.some.inj e; omega)
      · refine ho5.kept gs ?_
        cases hk : (Value.slice ao' (d.jumps.length + 1) cap').ownBlock with
        | none => exact .inl rfl
        | some k => exact .inr (fun e => by have := (World.ownsRow.lt ho5 k hk).1; have := Option.some.inj e; omega)
      · exact m5.kept gs (fun e => by have := Option.some.inj e; omega)
      · exact Nat.le_trans (Nat.le_trans D3.lt.2.2 szA) (Nat.le_trans hg5.size gs.size))
    have HBX := Lib.hid hbs
    clear own nb h5D h5b hs hbs gs m5 l5 ho5 hg5 lA jA mA hDA hbA hA bA qA qD hal SA yA hb5
    refine hK.out _ _ S5 (fun _ => ?_)
    clear hK K
    try simp only [List.getElem_toArray, List.getElem_cons_zero, List.getElem_cons_succ, Act.put, List.setIfInBounds_toArray, List.set_cons_zero, List.set_cons_succ]
    refine wpAnyH_take (i := 16) (v := ?v16t47) rfl (by kernel_rfl) (by kernel_rfl) (by kernel_rfl) (fun _ _ _ h => h) (Or.inl ⟨by rfl, ?y16t47⟩) S5 ?z16t47
    case y16t47 => intro w_ hSw; go_simp; with_reducible rfl
    try simp only [List.getElem_toArray, List.getElem_cons_zero, List.getElem_cons_succ, Act.put, List.setIfInBounds_toArray, List.set_cons_zero, List.set_cons_succ]
    refine wpAnyH_take (i := 17) (v := ?v17t48) rfl (by kernel_rfl) (by kernel_rfl) (by kernel_rfl) (fun _ _ _ h => h) (Or.inl ⟨by rfl, ?y17t48⟩) S5 ?z17t48
    case y17t48 => intro w_ hSw; go_simp; with_reducible rfl
    try simp only [List.getElem_toArray, List.getElem_cons_zero, List.getElem_cons_succ, Act.put, List.setIfInBounds_toArray, List.set_cons_zero, List.set_cons_succ]
    refine wpAnyH_ready (rs := [18]) (by kernel_rfl) (by simp) ?_
    refine AllReadyH.cons rfl (fun K hK => ?_) AllReadyH.nil
    go_simp
    refine hK.out _ _ S6 (fun _ => ?_)
    clear hK K c5 f5
    try simp only [List.getElem_toArray, List.getElem_cons_zero, List.getElem_cons_succ, Act.put, List.setIfInBounds_toArray, List.set_cons_zero, List.set_cons_succ]
    refine wpAnyH_done (by kernel_rfl) ?_ _
    clear S0 S5 S6 HT hD hl hj D3 HT2 szA hlt
    go_upto_region 11 with fail
    generalize w5.setCell ⟨D, 2, none⟩ (.slice ao' (d.jumps.length + 1) cap') = W2 at *
    have HT := T6
    have hb2 : W2.drew.heap[b]? = some (.cells #[str [], .int .u8 i.op, .bool i.nw, .int .i64 i.dst, .int .i64 i.src, .bool i.ui, .int .i64 i.off, .int .i64 i.im, .int .i64 i.sz, str goal] 61 (0, 0)) := HBX.out
    clear T6 HBX
    have sb : ∀ W : World, W.heap[b]? = some (.cells #[str [], .int .u8 i.op, .bool i.nw, .int .i64 i.dst, .int .i64 i.src, .bool i.ui, .int .i64 i.off, .int .i64 i.im, .int .i64 i.sz, str goal] 61 (0, 0)) → W.cell? ⟨b, 1, none⟩ = some (.int .u8 i.op) ∧ W.cell? ⟨b, 2, none⟩ = some (.bool i.nw) ∧ W.cell? ⟨b, 3, none⟩ = some (.int .i64 i.dst) ∧ W.cell? ⟨b, 4, none⟩ = some (.int .i64 i.src) ∧ W.cell? ⟨b, 5, none⟩ = some (.bool i.ui) ∧ W.cell? ⟨b, 6, none⟩ = some (.int .i64 i.off) ∧ W.cell? ⟨b, 7, none⟩ = some (.int .i64 i.im) ∧ W.cell? ⟨b, 8, none⟩ = some (.int .i64 i.sz) := by
      intro W h
      simp [World.cell?, h]
    have S0' := sb _ hb2
    refine wp_region_held_drew (S := fun w' => w'.cell? ⟨b, 1, none⟩ = some (.int .u8 i.op) ∧ w'.cell? ⟨b, 2, none⟩ = some (.bool i.nw) ∧ w'.cell? ⟨b, 3, none⟩ = some (.int .i64 i.dst) ∧ w'.cell? ⟨b, 4, none⟩ = some (.int .i64 i.src) ∧ w'.cell? ⟨b, 5, none⟩ = some (.bool i.ui) ∧ w'.cell? ⟨b, 6, none⟩ = some (.int .i64 i.off) ∧ w'.cell? ⟨b, 7, none⟩ = some (.int .i64 i.im) ∧ w'.cell? ⟨b, 8, none⟩ = some (.int .i64 i.sz)) (by kernel_rfl) S0' (fun S0 => ?_)
    refine wpAnyH_take (i := 0) (v := ?v0t49) rfl (by kernel_rfl) (by kernel_rfl) (by kernel_rfl) (fun _ _ _ h => h) (Or.inl ⟨by rfl, ?y0t49⟩) S0 ?z0t49
    case y0t49 => intro w_ hSw; go_simp; with_reducible rfl
    try simp only [List.getElem_toArray, List.getElem_cons_zero, List.getElem_cons_succ, Act.put, List.setIfInBounds_toArray, List.set_cons_zero, List.set_cons_succ]
    refine wpAnyH_take (i := 1) (v := ?v1t50) rfl (by kernel_rfl) (by kernel_rfl) (by kernel_rfl) (fun _ _ _ h => h) (Or.inl ⟨by rfl, ?y1t50⟩) S0 ?z1t50
    case y1t50 => intro w_ hSw; go_simp; with_reducible rfl
    try simp only [List.getElem_toArray, List.getElem_cons_zero, List.getElem_cons_succ, Act.put, List.setIfInBounds_toArray, List.set_cons_zero, List.set_cons_succ]
    refine wpAnyH_take (i := 2) (v := ?v2t51) rfl (by kernel_rfl) (by kernel_rfl) (by kernel_rfl) (fun _ _ _ h => h) (Or.inl ⟨by rfl, ?y2t51⟩) S0 ?z2t51
    case y2t51 => intro w_ hSw; go_simp; with_reducible rfl
    try simp only [List.getElem_toArray, List.getElem_cons_zero, List.getElem_cons_succ, Act.put, List.setIfInBounds_toArray, List.set_cons_zero, List.set_cons_succ]
    refine wpAnyH_take (i := 3) (v := ?v3t52) rfl (by kernel_rfl) (by kernel_rfl) (by kernel_rfl) (fun _ _ _ h => h) (Or.inl ⟨by rfl, ?y3t52⟩) S0 ?z3t52
    case y3t52 => intro w_ hSw; go_simp; with_reducible rfl
    try simp only [List.getElem_toArray, List.getElem_cons_zero, List.getElem_cons_succ, Act.put, List.setIfInBounds_toArray, List.set_cons_zero, List.set_cons_succ]
    refine wpAnyH_take (i := 5) (v := ?v5t53) rfl (by kernel_rfl) (by kernel_rfl) (by kernel_rfl) (fun _ _ _ h => h) (Or.inl ⟨by rfl, ?y5t53⟩) S0 ?z5t53
    case y5t53 => intro w_ hSw; go_simp; with_reducible rfl
    try simp only [List.getElem_toArray, List.getElem_cons_zero, List.getElem_cons_succ, Act.put, List.setIfInBounds_toArray, List.set_cons_zero, List.set_cons_succ]
    refine wpAnyH_take (i := 6) (v := ?v6t54) rfl (by kernel_rfl) (by kernel_rfl) (by kernel_rfl) (fun _ _ _ h => h) (Or.inl ⟨by rfl, ?y6t54⟩) S0 ?z6t54
    case y6t54 => intro w_ hSw; (try dsimp only at hSw); go_simp; with_reducible rfl
    try simp only [List.getElem_toArray, List.getElem_cons_zero, List.getElem_cons_succ, Act.put, List.setIfInBounds_toArray, List.set_cons_zero, List.set_cons_succ]
    have D3 := (D2.out).past (show Below W2.heap.size W2 W2.drew from (Below.refl _ W2).drew)
    obtain ⟨vl, vj, hD, hl, hj⟩ := D3.cells
    obtain ⟨ao, cap, rfl⟩ := hl.shape
    try simp only at hD hl hj
    have qD : W2.drew.cell? ⟨D, 0, none⟩ = some (.slice ao d.list.length cap) := by simp only [World.cell?, hD]; rfl
    have bA := alloc_below W2.drew (.cells #[.int .u8 i.op, .bool i.nw, .int .i64 i.dst, .int .i64 i.src, .bool i.ui, .int .i64 i.off, .int .i64 i.im, .int .i64 i.sz] 47)
    have hA := heap_alloc_new W2.drew (.cells #[.int .u8 i.op, .bool i.nw, .int .i64 i.dst, .int .i64 i.src, .bool i.ui, .int .i64 i.off, .int .i64 i.im, .int .i64 i.sz] 47)
    have hDA := (bA.block D (Array.getElem?_eq_some_iff.1 hD).1).trans hD
    have qA : ((W2.alloc (.cells #[.int .u8 i.op, .bool i.nw, .int .i64 i.dst, .int .i64 i.src, .bool i.ui, .int .i64 i.off, .int .i64 i.im, .int .i64 i.sz] 47)).drew).cell? ⟨D, 0, none⟩ = some (.slice ao d.list.length cap) := (bA.cell (by exact (Array.getElem?_eq_some_iff.1 hD).1)).trans qD
    have hbA := (bA.block b (Array.getElem?_eq_some_iff.1 hb2).1).trans hb2
    have SA := sb _ hbA
    have lA := hl.past bA
    have jA := hj.past bA
    have mA := D3.places.below bA D3.places.lt
    have hlt := HLT.out
    have szA := bA.size
    have hlen := (D2.out).len.1
    have hbD2 : W2.heap.size ≠ D := by have := (Array.getElem?_eq_some_iff.1 hD).1; have e : W2.drew.heap.size = W2.heap.size := rfl; omega
    have HT2 := Lib.hid ((HT.out).trans (Turn.of_below (show Below W2.heap.size W2 W2.drew from (Below.refl _ W2).drew)) |>.trans (Turn.of_below bA))
    refine wpAnyH_ready (rs := [4, 7]) (by kernel_rfl) (by simp) ?_
    refine AllReadyH.cons rfl (fun K hK => ?_) (AllReadyH.cons rfl (fun K hK => ?_) AllReadyH.nil)
    · go_simp
      refine hK.out _ _ S0 (fun _ => ?_)
      clear hK K
      try simp only [List.getElem_toArray, List.getElem_cons_zero, List.getElem_cons_succ, Act.put, List.setIfInBounds_toArray, List.set_cons_zero, List.set_cons_succ]
      refine wpAnyH_ready (rs := [7]) (by kernel_rfl) (by simp) ?_
      refine AllReadyH.cons rfl (fun K hK => ?_) AllReadyH.nil
      go_simp
      refine hK.out _ _ SA (fun _ => ?_)
      clear hK K
      try simp only [List.getElem_toArray, List.getElem_cons_zero, List.getElem_cons_succ, Act.put, List.setIfInBounds_toArray, List.set_cons_zero, List.set_cons_succ]
      refine wpAnyH_ready (rs := [8]) (by kernel_rfl) (by simp) ?_
      refine AllReadyH.cons rfl (fun K hK => ?_) AllReadyH.nil
      refine step_append_i (by rfl) (.tmp 71) (.tmp 74) (by rfl) rb (.slice ao d.list.length cap) d.list (by rfl) lA W2.heap.size i (by rfl) hA (Nat.le_trans hlen (by omega)) (Nat.le_trans D3.lt.2.2 szA) ?_
      intro v' w5 ho5 hg5
      obtain ⟨ao', cap', hv'⟩ := ho5.shape
      have hal : (d.list ++ [i]).length = d.list.length + 1 := by simp
      rw [hal] at hv'
      subst hv'
      have own : ∀ k, (Value.slice ao d.list.length cap).ownBlock = some k → rb ≤ k := fun k e => (lA.lt k e).1
      have nb : ∀ k, k < rb → some k ≠ (Value.slice ao d.list.length cap).ownBlock := fun k hk e => by have := own k e.symm; omega
      have h5D := (hg5.block D (Array.getElem?_eq_some_iff.1 hDA).1 (nb D (by omega))).trans hDA
      have h5b : some b ≠ (Value.slice ao d.list.length cap).ownBlock := by
        intro e
        rcases lA.2 with ⟨e1, _⟩ | ⟨g, c, cur, e1, _, hg, _⟩
        · rw [e1] at e; cases e
        · rw [e1] at e
          have e := Option.some.inj e
          subst e
          rw [hbA] at hg
          simp at hg
      have S5 := sb _ ((hg5.block b (Array.getElem?_eq_some_iff.1 hbA).1 h5b).trans hbA)
      have c5 : w5.cell? ⟨D, 0, none⟩ = some (.slice ao d.list.length cap) := by simp only [World.cell?, h5D]; rfl
      have f5 : w5.frozen? ⟨D, 0, none⟩ = false := by simp [World.frozen?, h5D]
      have gs := setCell_grown w5 D 0 (.slice ao' (d.list.length + 1) cap')
      have hs := heap_set h5D 0 (.slice ao' (d.list.length + 1) cap')
      have hbs := (gs.block b (Array.getElem?_eq_some_iff.1 ((hg5.block b (Array.getElem?_eq_some_iff.1 hbA).1 h5b).trans hbA)).1 (fun e => hbD (Option.some.inj e))).trans ((hg5.block b (Array.getElem?_eq_some_iff.1 hbA).1 h5b).trans hbA)
      have S6 := sb _ hbs
      have T6 := Lib.hid (((HT2.out).trans (Turn.of_grown hg5 (fun k e => .inr (.inr (own k e))))).trans (Turn.of_grown gs (fun k e => by cases e; exact .inr (.inl rfl))))
      have m5 := mA.kept hg5 (nb mp (by omega))
      have j5 : OwnJ w5 rb vj (d.jumps ++ [(at', (d.list.length : Int), goal)]) := by
        refine jA.kept hg5 ?_
        cases hk : vj.ownBlock with
        | none => exact .inl rfl
        | some k =>
          refine .inr (fun e => ?_)
          rcases jA.2 with ⟨e1, _⟩ | ⟨g, c, cur, e1, _, hg, _⟩
          · rw [e1] at hk; cases hk
          · rcases lA.2 with ⟨e2, _⟩ | ⟨g2, c2, cur2, e2, _, hg2, _⟩
            · rw [e2] at e; cases e
            · rw [e1] at hk
              rw [e2] at e
              have hk := Option.some.inj hk
              have e := Option.some.inj e
              simp only at hk e
              subst hk
              subst e
              rw [hg] at hg2
              simp at hg2
      have D6 : Hid (d.list.length + 1 ≤ 4096 → DS (w5.setCell ⟨D, 0, none⟩ (.slice ao' (d.list.length + 1) cap')) mp D rb { { d with jumps := d.jumps ++ [(at', (d.list.length : Int), goal)] } with list := d.list ++ [i] }) := Lib.hid fun hle => by
        refine ⟨⟨.slice ao' (d.list.length + 1) cap', vj, by simpa using hs, ?_, ?_⟩, ?_, ⟨hlt.1, hlt.2.1, ?_⟩, by simpa using hle, (D2.out).len.2⟩
        · refine ho5.kept gs ?_
          cases hk : (Value.slice ao' (d.list.length + 1) cap').ownBlock with
          | none => exact .inl rfl
          | some k => exact .inr (fun e => by have := (ho5.lt k hk).1; have := Option.some.inj e; omega)
        · refine j5.kept gs ?_
          cases hk : vj.ownBlock with
          | none => exact .inl rfl
          | some k => exact .inr (fun e => by have := (World.ownsRow.lt j5 k hk).1; have := Option.some.inj e; omega)
        · exact m5.kept gs (fun e => by have := Option.some.inj e; omega)
        · exact Nat.le_trans (Nat.le_trans D3.lt.2.2 szA) (Nat.le_trans hg5.size gs.size)
      clear own nb h5D h5b hs hbs gs m5 j5 ho5 hg5 lA jA mA hDA hbA hA bA qA qD hal SA
      refine hK.out _ _ S5 (fun _ => ?_)
      clear hK K
      try simp only [List.getElem_toArray, List.getElem_cons_zero, List.getElem_cons_succ, Act.put, List.setIfInBounds_toArray, List.set_cons_zero, List.set_cons_succ]
      refine wpAnyH_take (i := 9) (v := ?v9t55) rfl (by kernel_rfl) (by kernel_rfl) (by kernel_rfl) (fun _ _ _ h => h) (Or.inl ⟨by rfl, ?y9t55⟩) S5 ?z9t55
      case y9t55 => intro w_ hSw; go_simp; with_reducible rfl
      try simp only [List.getElem_toArray, List.getElem_cons_zero, List.getElem_cons_succ, Act.put, List.setIfInBounds_toArray, List.set_cons_zero, List.set_cons_succ]
      refine wpAnyH_take (i := 10) (v := ?v10t56) rfl (by kernel_rfl) (by kernel_rfl) (by kernel_rfl) (fun _ _ _ h => h) (Or.inl ⟨by rfl, ?y10t56⟩) S5 ?z10t56
      case y10t56 => intro w_ hSw; go_simp; with_reducible rfl
      try simp only [List.getElem_toArray, List.getElem_cons_zero, List.getElem_cons_succ, Act.put, List.setIfInBounds_toArray, List.set_cons_zero, List.set_cons_succ]
      refine wpAnyH_ready (rs := [11]) (by kernel_rfl) (by simp) ?_
      refine AllReadyH.cons rfl (fun K hK => ?_) AllReadyH.nil
      go_simp
      refine hK.out _ _ S6 (fun _ => ?_)
      clear hK K c5 f5
      try simp only [List.getElem_toArray, List.getElem_cons_zero, List.getElem_cons_succ, Act.put, List.setIfInBounds_toArray, List.set_cons_zero, List.set_cons_succ]
      refine wpAnyH_done (by kernel_rfl) ?_ _
      go_wp2_with fail
      go_ret
      exact added_ok rfl rfl (fun h _ => D6.out (by simpa using h)) T6.out
    · go_simp
      refine hK.out _ _ SA (fun _ => ?_)
      clear hK K
      try simp only [List.getElem_toArray, List.getElem_cons_zero, List.getElem_cons_succ, Act.put, List.setIfInBounds_toArray, List.set_cons_zero, List.set_cons_succ]
      refine wpAnyH_ready (rs := [4]) (by kernel_rfl) (by simp) ?_
      refine AllReadyH.cons rfl (fun K hK => ?_) AllReadyH.nil
      go_simp
      refine hK.out _ _ SA (fun _ => ?_)
      clear hK K
      try simp only [List.getElem_toArray, List.getElem_cons_zero, List.getElem_cons_succ, Act.put, List.setIfInBounds_toArray, List.set_cons_zero, List.set_cons_succ]
      refine wpAnyH_ready (rs := [8]) (by kernel_rfl) (by simp) ?_
      refine AllReadyH.cons rfl (fun K hK => ?_) AllReadyH.nil
      refine step_append_i (by rfl) (.tmp 71) (.tmp 74) (by rfl) rb (.slice ao d.list.length cap) d.list (by rfl) lA W2.heap.size i (by rfl) hA (Nat.le_trans hlen (by omega)) (Nat.le_trans D3.lt.2.2 szA) ?_
      intro v' w5 ho5 hg5
      obtain ⟨ao', cap', hv'⟩ := ho5.shape
      have hal : (d.list ++ [i]).length = d.list.length + 1 := by simp
      rw [hal] at hv'
      subst hv'
      have own : ∀ k, (Value.slice ao d.list.length cap).ownBlock = some k → rb ≤ k := fun k e => (lA.lt k e).1
      have nb : ∀ k, k < rb → some k ≠ (Value.slice ao d.list.length cap).ownBlock := fun k hk e => by have := own k e.symm; omega
      have h5D := (hg5.block D (Array.getElem?_eq_some_iff.1 hDA).1 (nb D (by omega))).trans hDA
      have h5b : some b ≠ (Value.slice ao d.list.length cap).ownBlock := by
        intro e
        rcases lA.2 with ⟨e1, _⟩ | ⟨g, c, cur, e1, _, hg, _⟩
        · rw [e1] at e; cases e
        · rw [e1] at e
          have e := Option.some.inj e
          subst e
          rw [hbA] at hg
          simp at hg
      have S5 := sb _ ((hg5.block b (Array.getElem?_eq_some_iff.1 hbA).1 h5b).trans hbA)
      have c5 : w5.cell? ⟨D, 0, none⟩ = some (.slice ao d.list.length cap) := by simp only [World.cell?, h5D]; rfl
      have f5 : w5.frozen? ⟨D, 0, none⟩ = false := by simp [World.frozen?, h5D]
      have gs := setCell_grown w5 D 0 (.slice ao' (d.list.length + 1) cap')
      have hs := heap_set h5D 0 (.slice ao' (d.list.length + 1) cap')
      have hbs := (gs.block b (Array.getElem?_eq_some_iff.1 ((hg5.block b (Array.getElem?_eq_some_iff.1 hbA).1 h5b).trans hbA)).1 (fun e => hbD (Option.some.inj e))).trans ((hg5.block b (Array.getElem?_eq_some_iff.1 hbA).1 h5b).trans hbA)
      have S6 := sb _ hbs
      have T6 := Lib.hid (((HT2.out).trans (Turn.of_grown hg5 (fun k e => .inr (.inr (own k e))))).trans (Turn.of_grown gs (fun k e => by cases e; exact .inr (.inl rfl))))
      have m5 := mA.kept hg5 (nb mp (by omega))
      have j5 : OwnJ w5 rb vj (d.jumps ++ [(at', (d.list.length : Int), goal)]) := by
        refine jA.kept hg5 ?_
        cases hk : vj.ownBlock with
        | none => exact .inl rfl
        | some k =>
          refine .inr (fun e => ?_)
          rcases jA.2 with ⟨e1, _⟩ | ⟨g, c, cur, e1, _, hg, _⟩
          · rw [e1] at hk; cases hk
          · rcases lA.2 with ⟨e2, _⟩ | ⟨g2, c2, cur2, e2, _, hg2, _⟩
            · rw [e2] at e; cases e
            · rw [e1] at hk
              rw [e2] at e
              have hk := Option.some.inj hk
              have e := Option.some.inj e
              simp only at hk e
              subst hk
              subst e
              rw [hg] at hg2
              simp at hg2
      have D6 : Hid (d.list.length + 1 ≤ 4096 → DS (w5.setCell ⟨D, 0, none⟩ (.slice ao' (d.list.length + 1) cap')) mp D rb { { d with jumps := d.jumps ++ [(at', (d.list.length : Int), goal)] } with list := d.list ++ [i] }) := Lib.hid fun hle => by
        refine ⟨⟨.slice ao' (d.list.length + 1) cap', vj, by simpa using hs, ?_, ?_⟩, ?_, ⟨hlt.1, hlt.2.1, ?_⟩, by simpa using hle, (D2.out).len.2⟩
        · refine ho5.kept gs ?_
          cases hk : (Value.slice ao' (d.list.length + 1) cap').ownBlock with
          | none => exact .inl rfl
          | some k => exact .inr (fun e => by have := (ho5.lt k hk).1; have := Option.some.inj e; omega)
        · refine j5.kept gs ?_
          cases hk : vj.ownBlock with
          | none => exact .inl rfl
          | some k => exact .inr (fun e => by have := (World.ownsRow.lt j5 k hk).1; have := Option.some.inj e; omega)
        · exact m5.kept gs (fun e => by have := Option.some.inj e; omega)
        · exact Nat.le_trans (Nat.le_trans D3.lt.2.2 szA) (Nat.le_trans hg5.size gs.size)
      clear own nb h5D h5b hs hbs gs m5 j5 ho5 hg5 lA jA mA hDA hbA hA bA qA qD hal SA
      refine hK.out _ _ S5 (fun _ => ?_)
      clear hK K
      try simp only [List.getElem_toArray, List.getElem_cons_zero, List.getElem_cons_succ, Act.put, List.setIfInBounds_toArray, List.set_cons_zero, List.set_cons_succ]
      refine wpAnyH_take (i := 9) (v := ?v9t57) rfl (by kernel_rfl) (by kernel_rfl) (by kernel_rfl) (fun _ _ _ h => h) (Or.inl ⟨by rfl, ?y9t57⟩) S5 ?z9t57
      case y9t57 => intro w_ hSw; go_simp; with_reducible rfl
      try simp only [List.getElem_toArray, List.getElem_cons_zero, List.getElem_cons_succ, Act.put, List.setIfInBounds_toArray, List.set_cons_zero, List.set_cons_succ]
      refine wpAnyH_take (i := 10) (v := ?v10t58) rfl (by kernel_rfl) (by kernel_rfl) (by kernel_rfl) (fun _ _ _ h => h) (Or.inl ⟨by rfl, ?y10t58⟩) S5 ?z10t58
      case y10t58 => intro w_ hSw; go_simp; with_reducible rfl
      try simp only [List.getElem_toArray, List.getElem_cons_zero, List.getElem_cons_succ, Act.put, List.setIfInBounds_toArray, List.set_cons_zero, List.set_cons_succ]
      refine wpAnyH_ready (rs := [11]) (by kernel_rfl) (by simp) ?_
      refine AllReadyH.cons rfl (fun K hK => ?_) AllReadyH.nil
      go_simp
      refine hK.out _ _ S6 (fun _ => ?_)
      clear hK K c5 f5
      try simp only [List.getElem_toArray, List.getElem_cons_zero, List.getElem_cons_succ, Act.put, List.setIfInBounds_toArray, List.set_cons_zero, List.set_cons_succ]
      refine wpAnyH_done (by kernel_rfl) ?_ _
      go_wp2_with fail
      go_ret
      exact added_ok rfl rfl (fun h _ => D6.out (by simpa using h)) T6.out
  · go_simp
    refine hK.out _ _ SA (fun _ => ?_)
    clear hK K
    try simp only [List.getElem_toArray, List.getElem_cons_zero, List.getElem_cons_succ, Act.put, List.setIfInBounds_toArray, List.set_cons_zero, List.set_cons_succ]
    refine wpAnyH_ready (rs := [4]) (by kernel_rfl) (by simp) ?_
    refine AllReadyH.cons rfl (fun K hK => ?_) AllReadyH.nil
    go_simp
    refine hK.out _ _ SA (fun _ => ?_)
    clear hK K
    try simp only [List.getElem_toArray, List.getElem_cons_zero, List.getElem_cons_succ, Act.put, List.setIfInBounds_toArray, List.set_cons_zero, List.set_cons_succ]
    refine wpAnyH_ready (rs := [15]) (by kernel_rfl) (by simp) ?_
    refine AllReadyH.cons rfl (fun K hK => ?_) AllReadyH.nil
    refine step_append_j (by rfl) (.tmp 53) (.tmp 63) (by rfl) rb (.slice aj d.jumps.length cj) d.jumps (by rfl) jA W1.heap.size (at', (d.list.length : Int), goal) (by rfl) yA (by omega) (Nat.le_trans D3.lt.2.2 szA) ?_
    intro v' w5 ho5 hg5
    obtain ⟨ao', cap', hv'⟩ := ho5.shape
    have hal : (d.jumps ++ [(at', (d.list.length : Int), goal)]).length = d.jumps.length + 1 := by simp
    rw [hal] at hv'
    subst hv'
    have own : ∀ k, (Value.slice aj d.jumps.length cj).ownBlock = some k → rb ≤ k := fun k e => (World.ownsRow.lt jA k e).1
    have nb : ∀ k, k < rb → some k ≠ (Value.slice aj d.jumps.length cj).ownBlock := fun k hk e => by have := own k e.symm; omega
    have h5D := (hg5.block D (Array.getElem?_eq_some_iff.1 hDA).1 (nb D (by omega))).trans hDA
    have h5b : some b ≠ (Value.slice aj d.jumps.length cj).ownBlock := by
      intro e
      rcases jA.2 with ⟨e1, _⟩ | ⟨g, c, cur, e1, _, hg, _⟩
      · rw [e1] at e; cases e
      · rw [e1] at e
        have e := Option.some.inj e
        subst e
        rw [hbA] at hg
        simp at hg
    have hb5 := (hg5.block b (Array.getElem?_eq_some_iff.1 hbA).1 h5b).trans hbA
    have S5 : w5.cell? ⟨D, 0, none⟩ = some (.slice al d.list.length cl) ∧ w5.cell? ⟨b, 9, none⟩ = some (str goal) := ⟨by simp only [World.cell?, h5D]; rfl, by simp only [World.cell?, hb5]; rfl⟩
    have c5 : w5.cell? ⟨D, 2, none⟩ = some (.slice aj d.jumps.length cj) := by simp only [World.cell?, h5D]; rfl
    have f5 : w5.frozen? ⟨D, 2, none⟩ = false := by simp [World.frozen?, h5D]
    have gs := setCell_grown w5 D 2 (.slice ao' (d.jumps.length + 1) cap')
    have hs := heap_set h5D 2 (.slice ao' (d.jumps.length + 1) cap')
    have hbs := (gs.block b (Array.getElem?_eq_some_iff.1 hb5).1 (fun e => hbD (Option.some.inj e))).trans hb5
    have S6 : (w5.setCell ⟨D, 2, none⟩ (.slice ao' (d.jumps.length + 1) cap')).cell? ⟨D, 0, none⟩ = some (.slice al d.list.length cl) ∧ (w5.setCell ⟨D, 2, none⟩ (.slice ao' (d.jumps.length + 1) cap')).cell? ⟨b, 9, none⟩ = some (str goal) := ⟨by simp only [World.cell?, hs]; rfl, by simp only [World.cell?, hbs]; rfl⟩
    have T6 := Lib.hid (((HT2.out).trans (Turn.of_grown hg5 (fun k e => .inr (.inr (own k e))))).trans (Turn.of_grown gs (fun k e => by cases e; exact .inr (.inl rfl))))
    have m5 := mA.kept hg5 (nb mp (by omega))
    have l5 : OwnI w5 rb (.slice al d.list.length cl) d.list := by
      refine lA.kept hg5 ?_
      cases hk : (Value.slice al d.list.length cl).ownBlock with
      | none => exact .inl rfl
      | some k =>
        refine .inr (fun e => ?_)
        rcases lA.2 with ⟨e1, _⟩ | ⟨g, c, cur, e1, _, hg, _⟩
        · rw [e1] at hk; cases hk
        · rcases jA.2 with ⟨e2, _⟩ | ⟨g2, c2, cur2, e2, _, hg2, _⟩
          · rw [e2] at e; cases e
          · rw [e1] at hk
            rw [e2] at e
            have hk := Option.some.inj hk
            have e := Option.some.inj e
            simp only at hk e
            subst hk
            subst e
            rw [hg] at hg2
            simp at hg2
    have D2 : Hid (DS (w5.setCell ⟨D, 2, none⟩ (.slice ao' (d.jumps.length + 1) cap')) mp D rb { d with jumps := d.jumps ++ [(at', (d.list.length : Int), goal)] }) := Lib.hid (by
      refine ⟨⟨.slice al d.list.length cl, .slice ao' (d.jumps.length + 1) cap', by simpa using hs, ?_, ?_⟩, ?_, ⟨hlt.1, hlt.2.1, ?_⟩, (D0.out).len.1, by simp; omega⟩
      · refine l5.kept gs ?_
        cases hk : (Value.slice al d.list.length cl).ownBlock with
        | none => exact .inl rfl
        | some k => exact .inr (fun e => by have := (l5.lt k hk).1; have := Option.some.inj e; omega)
      · refine ho5.kept gs ?_
        cases hk : (Value.slice ao' (d.jumps.length + 1) cap').ownBlock with
        | none => exact .inl rfl
        | some k => exact .inr (fun e => by have := (World.ownsRow.lt ho5 k hk).1; have := Option.some.inj e; omega)
      · exact m5.kept gs (fun e => by have := Option.some.inj e; omega)
      · exact Nat.le_trans (Nat.le_trans D3.lt.2.2 szA) (Nat.le_trans hg5.size gs.size))
    have HBX := Lib.hid hbs
    clear own nb h5D h5b hs hbs gs m5 l5 ho5 hg5 lA jA mA hDA hbA hA bA qA qD hal SA yA hb5
    refine hK.out _ _ S5 (fun _ => ?_)
    clear hK K
    try simp only [List.getElem_toArray, List.getElem_cons_zero, List.getElem_cons_succ, Act.put, List.setIfInBounds_toArray, List.set_cons_zero, List.set_cons_succ]
    refine wpAnyH_take (i := 16) (v := ?v16t59) rfl (by kernel_rfl) (by kernel_rfl) (by kernel_rfl) (fun _ _ _ h => h) (Or.inl ⟨by rfl, ?y16t59⟩) S5 ?z16t59
    case y16t59 => intro w_ hSw; go_simp; with_reducible rfl
    try simp only [List.getElem_toArray, List.getElem_cons_zero, List.getElem_cons_succ, Act.put, List.setIfInBounds_toArray, List.set_cons_zero, List.set_cons_succ]
    refine wpAnyH_take (i := 17) (v := ?v17t60) rfl (by kernel_rfl) (by kernel_rfl) (by kernel_rfl) (fun _ _ _ h => h) (Or.inl ⟨by rfl, ?y17t60⟩) S5 ?z17t60
    case y17t60 => intro w_ hSw; go_simp; with_reducible rfl
    try simp only [List.getElem_toArray, List.getElem_cons_zero, List.getElem_cons_succ, Act.put, List.setIfInBounds_toArray, List.set_cons_zero, List.set_cons_succ]
    refine wpAnyH_ready (rs := [18]) (by kernel_rfl) (by simp) ?_
    refine AllReadyH.cons rfl (fun K hK => ?_) AllReadyH.nil
    go_simp
    refine hK.out _ _ S6 (fun _ => ?_)
    clear hK K c5 f5
    try simp only [List.getElem_toArray, List.getElem_cons_zero, List.getElem_cons_succ, Act.put, List.setIfInBounds_toArray, List.set_cons_zero, List.set_cons_succ]
    refine wpAnyH_done (by kernel_rfl) ?_ _
    clear S0 S5 S6 HT hD hl hj D3 HT2 szA hlt
    go_upto_region 11 with fail
    generalize w5.setCell ⟨D, 2, none⟩ (.slice ao' (d.jumps.length + 1) cap') = W2 at *
    have HT := T6
    have hb2 : W2.drew.heap[b]? = some (.cells #[str [], .int .u8 i.op, .bool i.nw, .int .i64 i.dst, .int .i64 i.src, .bool i.ui, .int .i64 i.off, .int .i64 i.im, .int .i64 i.sz, str goal] 61 (0, 0)) := HBX.out
    clear T6 HBX
    have sb : ∀ W : World, W.heap[b]? = some (.cells #[str [], .int .u8 i.op, .bool i.nw, .int .i64 i.dst, .int .i64 i.src, .bool i.ui, .int .i64 i.off, .int .i64 i.im, .int .i64 i.sz, str goal] 61 (0, 0)) → W.cell? ⟨b, 1, none⟩ = some (.int .u8 i.op) ∧ W.cell? ⟨b, 2, none⟩ = some (.bool i.nw) ∧ W.cell? ⟨b, 3, none⟩ = some (.int .i64 i.dst) ∧ W.cell? ⟨b, 4, none⟩ = some (.int .i64 i.src) ∧ W.cell? ⟨b, 5, none⟩ = some (.bool i.ui) ∧ W.cell? ⟨b, 6, none⟩ = some (.int .i64 i.off) ∧ W.cell? ⟨b, 7, none⟩ = some (.int .i64 i.im) ∧ W.cell? ⟨b, 8, none⟩ = some (.int .i64 i.sz) := by
      intro W h
      simp [World.cell?, h]
    have S0' := sb _ hb2
    refine wp_region_held_drew (S := fun w' => w'.cell? ⟨b, 1, none⟩ = some (.int .u8 i.op) ∧ w'.cell? ⟨b, 2, none⟩ = some (.bool i.nw) ∧ w'.cell? ⟨b, 3, none⟩ = some (.int .i64 i.dst) ∧ w'.cell? ⟨b, 4, none⟩ = some (.int .i64 i.src) ∧ w'.cell? ⟨b, 5, none⟩ = some (.bool i.ui) ∧ w'.cell? ⟨b, 6, none⟩ = some (.int .i64 i.off) ∧ w'.cell? ⟨b, 7, none⟩ = some (.int .i64 i.im) ∧ w'.cell? ⟨b, 8, none⟩ = some (.int .i64 i.sz)) (by kernel_rfl) S0' (fun S0 => ?_)
    refine wpAnyH_take (i := 0) (v := ?v0t61) rfl (by kernel_rfl) (by kernel_rfl) (by kernel_rfl) (fun _ _ _ h => h) (Or.inl ⟨by rfl, ?y0t61⟩) S0 ?z0t61
    case y0t61 => intro w_ hSw; go_simp; with_reducible rfl
    try simp only [List.getElem_toArray, List.getElem_cons_zero, List.getElem_cons_succ, Act.put, List.setIfInBounds_toArray, List.set_cons_zero, List.set_cons_succ]
    refine wpAnyH_take (i := 1) (v := ?v1t62) rfl (by kernel_rfl) (by kernel_rfl) (by kernel_rfl) (fun _ _ _ h => h) (Or.inl ⟨by rfl, ?y1t62⟩) S0 ?z1t62
    case y1t62 => intro w_ hSw; go_simp; with_reducible rfl
    try simp only [List.getElem_toArray, List.getElem_cons_zero, List.getElem_cons_succ, Act.put, List.setIfInBounds_toArray, List.set_cons_zero, List.set_cons_succ]
    refine wpAnyH_take (i := 2) (v := ?v2t63) rfl (by kernel_rfl) (by kernel_rfl) (by kernel_rfl) (fun _ _ _ h => h) (Or.inl ⟨by rfl, ?y2t63⟩) S0 ?z2t63
    case y2t63 => intro w_ hSw; go_simp; with_reducible rfl
    try simp only [List.getElem_toArray, List.getElem_cons_zero, List.getElem_cons_succ, Act.put, List.setIfInBounds_toArray, List.set_cons_zero, List.set_cons_succ]
    refine wpAnyH_take (i := 3) (v := ?v3t64) rfl (by kernel_rfl) (by kernel_rfl) (by kernel_rfl) (fun _ _ _ h => h) (Or.inl ⟨by rfl, ?y3t64⟩) S0 ?z3t64
    case y3t64 => intro w_ hSw; go_simp; with_reducible rfl
    try simp only [List.getElem_toArray, List.getElem_cons_zero, List.getElem_cons_succ, Act.put, List.setIfInBounds_toArray, List.set_cons_zero, List.set_cons_succ]
    refine wpAnyH_take (i := 5) (v := ?v5t65) rfl (by kernel_rfl) (by kernel_rfl) (by kernel_rfl) (fun _ _ _ h => h) (Or.inl ⟨by rfl, ?y5t65⟩) S0 ?z5t65
    case y5t65 => intro w_ hSw; go_simp; with_reducible rfl
    try simp only [List.getElem_toArray, List.getElem_cons_zero, List.getElem_cons_succ, Act.put, List.setIfInBounds_toArray, List.set_cons_zero, List.set_cons_succ]
    refine wpAnyH_take (i := 6) (v := ?v6t66) rfl (by kernel_rfl) (by kernel_rfl) (by kernel_rfl) (fun _ _ _ h => h) (Or.inl ⟨by rfl, ?y6t66⟩) S0 ?z6t66
    case y6t66 => intro w_ hSw; (try dsimp only at hSw); go_simp; with_reducible rfl
    try simp only [List.getElem_toArray, List.getElem_cons_zero, List.getElem_cons_succ, Act.put, List.setIfInBounds_toArray, List.set_cons_zero, List.set_cons_succ]
    have D3 := (D2.out).past (show Below W2.heap.size W2 W2.drew from (Below.refl _ W2).drew)
    obtain ⟨vl, vj, hD, hl, hj⟩ := D3.cells
    obtain ⟨ao, cap, rfl⟩ := hl.shape
    try simp only at hD hl hj
    have qD : W2.drew.cell? ⟨D, 0, none⟩ = some (.slice ao d.list.length cap) := by simp only [World.cell?, hD]; rfl
    have bA := alloc_below W2.drew (.cells #[.int .u8 i.op, .bool i.nw, .int .i64 i.dst, .int .i64 i.src, .bool i.ui, .int .i64 i.off, .int .i64 i.im, .int .i64 i.sz] 47)
    have hA := heap_alloc_new W2.drew (.cells #[.int .u8 i.op, .bool i.nw, .int .i64 i.dst, .int .i64 i.src, .bool i.ui, .int .i64 i.off, .int .i64 i.im, .int .i64 i.sz] 47)
    have hDA := (bA.block D (Array.getElem?_eq_some_iff.1 hD).1).trans hD
    have qA : ((W2.alloc (.cells #[.int .u8 i.op, .bool i.nw, .int .i64 i.dst, .int .i64 i.src, .bool i.ui, .int .i64 i.off, .int .i64 i.im, .int .i64 i.sz] 47)).drew).cell? ⟨D, 0, none⟩ = some (.slice ao d.list.length cap) := (bA.cell (by exact (Array.getElem?_eq_some_iff.1 hD).1)).trans qD
    have hbA := (bA.block b (Array.getElem?_eq_some_iff.1 hb2).1).trans hb2
    have SA := sb _ hbA
    have lA := hl.past bA
    have jA := hj.past bA
    have mA := D3.places.below bA D3.places.lt
    have hlt := HLT.out
    have szA := bA.size
    have hlen := (D2.out).len.1
    have hbD2 : W2.heap.size ≠ D := by have := (Array.getElem?_eq_some_iff.1 hD).1; have e : W2.drew.heap.size = W2.heap.size := rfl; omega
    have HT2 := Lib.hid ((HT.out).trans (Turn.of_below (show Below W2.heap.size W2 W2.drew from (Below.refl _ W2).drew)) |>.trans (Turn.of_below bA))
    refine wpAnyH_ready (rs := [4, 7]) (by kernel_rfl) (by simp) ?_
    refine AllReadyH.cons rfl (fun K hK => ?_) (AllReadyH.cons rfl (fun K hK => ?_) AllReadyH.nil)
    · go_simp
      refine hK.out _ _ S0 (fun _ => ?_)
      clear hK K
      try simp only [List.getElem_toArray, List.getElem_cons_zero, List.getElem_cons_succ, Act.put, List.setIfInBounds_toArray, List.set_cons_zero, List.set_cons_succ]
      refine wpAnyH_ready (rs := [7]) (by kernel_rfl) (by simp) ?_
      refine AllReadyH.cons rfl (fun K hK => ?_) AllReadyH.nil
      go_simp
      refine hK.out _ _ SA (fun _ => ?_)
      clear hK K
      try simp only [List.getElem_toArray, List.getElem_cons_zero, List.getElem_cons_succ, Act.put, List.setIfInBounds_toArray, List.set_cons_zero, List.set_cons_succ]
      refine wpAnyH_ready (rs := [8]) (by kernel_rfl) (by simp) ?_
      refine AllReadyH.cons rfl (fun K hK => ?_) AllReadyH.nil
      refine step_append_i (by rfl) (.tmp 71) (.tmp 74) (by rfl) rb (.slice ao d.list.length cap) d.list (by rfl) lA W2.heap.size i (by rfl) hA (Nat.le_trans hlen (by omega)) (Nat.le_trans D3.lt.2.2 szA) ?_
      intro v' w5 ho5 hg5
      obtain ⟨ao', cap', hv'⟩ := ho5.shape
      have hal : (d.list ++ [i]).length = d.list.length + 1 := by simp
      rw [hal] at hv'
      subst hv'
      have own : ∀ k, (Value.slice ao d.list.length cap).ownBlock = some k → rb ≤ k := fun k e => (lA.lt k e).1
      have nb : ∀ k, k < rb → some k ≠ (Value.slice ao d.list.length cap).ownBlock := fun k hk e => by have := own k e.symm; omega
      have h5D := (hg5.block D (Array.getElem?_eq_some_iff.1 hDA).1 (nb D (by omega))).trans hDA
      have h5b : some b ≠ (Value.slice ao d.list.length cap).ownBlock := by
        intro e
        rcases lA.2 with ⟨e1, _⟩ | ⟨g, c, cur, e1, _, hg, _⟩
        · rw [e1] at e; cases e
        · rw [e1] at e
          have e := Option.some.inj e
          subst e
          rw [hbA] at hg
          simp at hg
      have S5 := sb _ ((hg5.block b (Array.getElem?_eq_some_iff.1 hbA).1 h5b).trans hbA)
      have c5 : w5.cell? ⟨D, 0, none⟩ = some (.slice ao d.list.length cap) := by simp only [World.cell?, h5D]; rfl
      have f5 : w5.frozen? ⟨D, 0, none⟩ = false := by simp [World.frozen?, h5D]
      have gs := setCell_grown w5 D 0 (.slice ao' (d.list.length + 1) cap')
      have hs := heap_set h5D 0 (.slice ao' (d.list.length + 1) cap')
      have hbs := (gs.block b (Array.getElem?_eq_some_iff.1 ((hg5.block b (Array.getElem?_eq_some_iff.1 hbA).1 h5b).trans hbA)).1 (fun e => hbD (Option.some.inj e))).trans ((hg5.block b (Array.getElem?_eq_some_iff.1 hbA).1 h5b).trans hbA)
      have S6 := sb _ hbs
      have T6 := Lib.hid (((HT2.out).trans (Turn.of_grown hg5 (fun k e => .inr (.inr (own k e))))).trans (Turn.of_grown gs (fun k e => by cases e; exact .inr (.inl rfl))))
      have m5 := mA.kept hg5 (nb mp (by omega))
      have j5 : OwnJ w5 rb vj (d.jumps ++ [(at', (d.list.length : Int), goal)]) := by
        refine jA.kept hg5 ?_
        cases hk : vj.ownBlock with
        | none => exact .inl rfl
        | some k =>
          refine .inr (fun e => ?_)
          rcases jA.2 with ⟨e1, _⟩ | ⟨g, c, cur, e1, _, hg, _⟩
          · rw [e1] at hk; cases hk
          · rcases lA.2 with ⟨e2, _⟩ | ⟨g2, c2, cur2, e2, _, hg2, _⟩
            · rw [e2] at e; cases e
            · rw [e1] at hk
              rw [e2] at e
              have hk := Option.some.inj hk
              have e := Option.some.inj e
              simp only at hk e
              subst hk
              subst e
              rw [hg] at hg2
              simp at hg2
      have D6 : Hid (d.list.length + 1 ≤ 4096 → DS (w5.setCell ⟨D, 0, none⟩ (.slice ao' (d.list.length + 1) cap')) mp D rb { { d with jumps := d.jumps ++ [(at', (d.list.length : Int), goal)] } with list := d.list ++ [i] }) := Lib.hid fun hle => by
        refine ⟨⟨.slice ao' (d.list.length + 1) cap', vj, by simpa using hs, ?_, ?_⟩, ?_, ⟨hlt.1, hlt.2.1, ?_⟩, by simpa using hle, (D2.out).len.2⟩
        · refine ho5.kept gs ?_
          cases hk : (Value.slice ao' (d.list.length + 1) cap').ownBlock with
          | none => exact .inl rfl
          | some k => exact .inr (fun e => by have := (ho5.lt k hk).1; have := Option.some.inj e; omega)
        · refine j5.kept gs ?_
          cases hk : vj.ownBlock with
          | none => exact .inl rfl
          | some k => exact .inr (fun e => by have := (World.ownsRow.lt j5 k hk).1; have := Option.some.inj e; omega)
        · exact m5.kept gs (fun e => by have := Option.some.inj e; omega)
        · exact Nat.le_trans (Nat.le_trans D3.lt.2.2 szA) (Nat.le_trans hg5.size gs.size)
      clear own nb h5D h5b hs hbs gs m5 j5 ho5 hg5 lA jA mA hDA hbA hA bA qA qD hal SA
      refine hK.out _ _ S5 (fun _ => ?_)
      clear hK K
      try simp only [List.getElem_toArray, List.getElem_cons_zero, List.getElem_cons_succ, Act.put, List.setIfInBounds_toArray, List.set_cons_zero, List.set_cons_succ]
      refine wpAnyH_take (i := 9) (v := ?v9t67) rfl (by kernel_rfl) (by kernel_rfl) (by kernel_rfl) (fun _ _ _ h => h) (Or.inl ⟨by rfl, ?y9t67⟩) S5 ?z9t67
      case y9t67 => intro w_ hSw; go_simp; with_reducible rfl
      try simp only [List.getElem_toArray, List.getElem_cons_zero, List.getElem_cons_succ, Act.put, List.setIfInBounds_toArray, List.set_cons_zero, List.set_cons_succ]
      refine wpAnyH_take (i := 10) (v := ?v10t68) rfl (by kernel_rfl) (by kernel_rfl) (by kernel_rfl) (fun _ _ _ h => h) (Or.inl ⟨by rfl, ?y10t68⟩) S5 ?z10t68
      case y10t68 => intro w_ hSw; go_simp; with_reducible rfl
      try simp only [List.getElem_toArray, List.getElem_cons_zero, List.getElem_cons_succ, Act.put, List.setIfInBounds_toArray, List.set_cons_zero, List.set_cons_succ]
      refine wpAnyH_ready (rs := [11]) (by kernel_rfl) (by simp) ?_
      refine AllReadyH.cons rfl (fun K hK => ?_) AllReadyH.nil
      go_simp
      refine hK.out _ _ S6 (fun _ => ?_)
      clear hK K c5 f5
      try simp only [List.getElem_toArray, List.getElem_cons_zero, List.getElem_cons_succ, Act.put, List.setIfInBounds_toArray, List.set_cons_zero, List.set_cons_succ]
      refine wpAnyH_done (by kernel_rfl) ?_ _
      go_wp2_with fail
      go_ret
      exact added_ok rfl rfl (fun h _ => D6.out (by simpa using h)) T6.out
    · go_simp
      refine hK.out _ _ SA (fun _ => ?_)
      clear hK K
      try simp only [List.getElem_toArray, List.getElem_cons_zero, List.getElem_cons_succ, Act.put, List.setIfInBounds_toArray, List.set_cons_zero, List.set_cons_succ]
      refine wpAnyH_ready (rs := [4]) (by kernel_rfl) (by simp) ?_
      refine AllReadyH.cons rfl (fun K hK => ?_) AllReadyH.nil
      go_simp
      refine hK.out _ _ SA (fun _ => ?_)
      clear hK K
      try simp only [List.getElem_toArray, List.getElem_cons_zero, List.getElem_cons_succ, Act.put, List.setIfInBounds_toArray, List.set_cons_zero, List.set_cons_succ]
      refine wpAnyH_ready (rs := [8]) (by kernel_rfl) (by simp) ?_
      refine AllReadyH.cons rfl (fun K hK => ?_) AllReadyH.nil
      refine step_append_i (by rfl) (.tmp 71) (.tmp 74) (by rfl) rb (.slice ao d.list.length cap) d.list (by rfl) lA W2.heap.size i (by rfl) hA (Nat.le_trans hlen (by omega)) (Nat.le_trans D3.lt.2.2 szA) ?_
      intro v' w5 ho5 hg5
      obtain ⟨ao', cap', hv'⟩ := ho5.shape
      have hal : (d.list ++ [i]).length = d.list.length + 1 := by simp
      rw [hal] at hv'
      subst hv'
      have own : ∀ k, (Value.slice ao d.list.length cap).ownBlock = some k → rb ≤ k := fun k e => (lA.lt k e).1
      have nb : ∀ k, k < rb → some k ≠ (Value.slice ao d.list.length cap).ownBlock := fun k hk e => by have := own k e.symm; omega
      have h5D := (hg5.block D (Array.getElem?_eq_some_iff.1 hDA).1 (nb D (by omega))).trans hDA
      have h5b : some b ≠ (Value.slice ao d.list.length cap).ownBlock := by
        intro e
        rcases lA.2 with ⟨e1, _⟩ | ⟨g, c, cur, e1, _, hg, _⟩
        · rw [e1] at e; cases e
        · rw [e1] at e
          have e := Option.some.inj e
          subst e
          rw [hbA] at hg
          simp at hg
      have S5 := sb _ ((hg5.block b (Array.getElem?_eq_some_iff.1 hbA).1 h5b).trans hbA)
      have c5 : w5.cell? ⟨D, 0, none⟩ = some (.slice ao d.list.length cap) := by simp only [World.cell?, h5D]; rfl
      have f5 : w5.frozen? ⟨D, 0, none⟩ = false := by simp [World.frozen?, h5D]
      have gs := setCell_grown w5 D 0 (.slice ao' (d.list.length + 1) cap')
      have hs := heap_set h5D 0 (.slice ao' (d.list.length + 1) cap')
      have hbs := (gs.block b (Array.getElem?_eq_some_iff.1 ((hg5.block b (Array.getElem?_eq_some_iff.1 hbA).1 h5b).trans hbA)).1 (fun e => hbD (Option.some.inj e))).trans ((hg5.block b (Array.getElem?_eq_some_iff.1 hbA).1 h5b).trans hbA)
      have S6 := sb _ hbs
      have T6 := Lib.hid (((HT2.out).trans (Turn.of_grown hg5 (fun k e => .inr (.inr (own k e))))).trans (Turn.of_grown gs (fun k e => by cases e; exact .inr (.inl rfl))))
      have m5 := mA.kept hg5 (nb mp (by omega))
      have j5 : OwnJ w5 rb vj (d.jumps ++ [(at', (d.list.length : Int), goal)]) := by
        refine jA.kept hg5 ?_
        cases hk : vj.ownBlock with
        | none => exact .inl rfl
        | some k =>
          refine .inr (fun e => ?_)
          rcases jA.2 with ⟨e1, _⟩ | ⟨g, c, cur, e1, _, hg, _⟩
          · rw [e1] at hk; cases hk
          · rcases lA.2 with ⟨e2, _⟩ | ⟨g2, c2, cur2, e2, _, hg2, _⟩
            · rw [e2] at e; cases e
            · rw [e1] at hk
              rw [e2] at e
              have hk := Option.some.inj hk
              have e := Option.some.inj e
              simp only at hk e
              subst hk
              subst e
              rw [hg] at hg2
              simp at hg2
      have D6 : Hid (d.list.length + 1 ≤ 4096 → DS (w5.setCell ⟨D, 0, none⟩ (.slice ao' (d.list.length + 1) cap')) mp D rb { { d with jumps := d.jumps ++ [(at', (d.list.length : Int), goal)] } with list := d.list ++ [i] }) := Lib.hid fun hle => by
        refine ⟨⟨.slice ao' (d.list.length + 1) cap', vj, by simpa using hs, ?_, ?_⟩, ?_, ⟨hlt.1, hlt.2.1, ?_⟩, by simpa using hle, (D2.out).len.2⟩
        · refine ho5.kept gs ?_
          cases hk : (Value.slice ao' (d.list.length + 1) cap').ownBlock with
          | none => exact .inl rfl
          | some k => exact .inr (fun e => by have := (ho5.lt k hk).1; have := Option.some.inj e; omega)
        · refine j5.kept gs ?_
          cases hk : vj.ownBlock with
          | none => exact .inl rfl
          | some k => exact .inr (fun e => by have := (World.ownsRow.lt j5 k hk).1; have := Option.some.inj e; omega)
        · exact m5.kept gs (fun e => by have := Option.some.inj e; omega)
        · exact Nat.le_trans (Nat.le_trans D3.lt.2.2 szA) (Nat.le_trans hg5.size gs.size)
      clear own nb h5D h5b hs hbs gs m5 j5 ho5 hg5 lA jA mA hDA hbA hA bA qA qD hal SA
      refine hK.out _ _ S5 (fun _ => ?_)
      clear hK K
      try simp only [List.getElem_toArray, List.getElem_cons_zero, List.getElem_cons_succ, Act.put, List.setIfInBounds_toArray, List.set_cons_zero, List.set_cons_succ]
      refine wpAnyH_take (i := 9) (v := ?v9t69) rfl (by kernel_rfl) (by kernel_rfl) (by kernel_rfl) (fun _ _ _ h => h) (Or.inl ⟨by rfl, ?y9t69⟩) S5 ?z9t69
      case y9t69 => intro w_ hSw; go_simp; with_reducible rfl
      try simp only [List.getElem_toArray, List.getElem_cons_zero, List.getElem_cons_succ, Act.put, List.setIfInBounds_toArray, List.set_cons_zero, List.set_cons_succ]
      refine wpAnyH_take (i := 10) (v := ?v10t70) rfl (by kernel_rfl) (by kernel_rfl) (by kernel_rfl) (fun _ _ _ h => h) (Or.inl ⟨by rfl, ?y10t70⟩) S5 ?z10t70
      case y10t70 => intro w_ hSw; go_simp; with_reducible rfl
      try simp only [List.getElem_toArray, List.getElem_cons_zero, List.getElem_cons_succ, Act.put, List.setIfInBounds_toArray, List.set_cons_zero, List.set_cons_succ]
      refine wpAnyH_ready (rs := [11]) (by kernel_rfl) (by simp) ?_
      refine AllReadyH.cons rfl (fun K hK => ?_) AllReadyH.nil
      go_simp
      refine hK.out _ _ S6 (fun _ => ?_)
      clear hK K c5 f5
      try simp only [List.getElem_toArray, List.getElem_cons_zero, List.getElem_cons_succ, Act.put, List.setIfInBounds_toArray, List.set_cons_zero, List.set_cons_succ]
      refine wpAnyH_done (by kernel_rfl) ?_ _
      go_wp2_with fail
      go_ret
      exact added_ok rfl rfl (fun h _ => D6.out (by simpa using h)) T6.out
end Go.Proofs.YthfkmackodbmkaaGreatDoor
