/- What reads an instruction's parts. -/
import Derived.Test.YthfkmackodbmkaaGreatDoorTextRead
import Derived.Deep.RegionHeld3
namespace Go.Proofs.YthfkmackodbmkaaGreatDoor
open Go.RowKit
set_option linter.unusedVariables false
set_option linter.unusedSimpArgs false
set_option maxRecDepth 100000
set_option maxHeartbeats 1000000

theorem Rdr.set1 {w : World} {R : Nat} {ts : List Str} {lab : Str} {i : Ins} {tl : Str} (h : Rdr w R ts lab i tl) (u : Str) : Rdr (w.setCell ⟨R, 1, none⟩ (str u)) R ts u i tl ∧ w.grownBy (w.setCell ⟨R, 1, none⟩ (str u)) (some R) := by
  obtain ⟨h0, hl, v, h1, h2⟩ := h
  exact ⟨⟨h0, hl, v, h1.set1 u, h2.grown (setCell_grown w R 1 _) (fun k e => by cases e; exact h1.noStrs)⟩, setCell_grown w R 1 _⟩
theorem Rdr.set4 {w : World} {R : Nat} {ts : List Str} {lab : Str} {i : Ins} {tl : Str} (h : Rdr w R ts lab i tl) (u : Int) : Rdr (w.setCell ⟨R, 4, none⟩ (.int .i64 u)) R ts lab { i with dst := u } tl ∧ w.grownBy (w.setCell ⟨R, 4, none⟩ (.int .i64 u)) (some R) := by
  obtain ⟨h0, hl, v, h1, h2⟩ := h
  exact ⟨⟨h0, hl, v, h1.set4 u, h2.grown (setCell_grown w R 4 _) (fun k e => by cases e; exact h1.noStrs)⟩, setCell_grown w R 4 _⟩
theorem Rdr.set5 {w : World} {R : Nat} {ts : List Str} {lab : Str} {i : Ins} {tl : Str} (h : Rdr w R ts lab i tl) (u : Int) : Rdr (w.setCell ⟨R, 5, none⟩ (.int .i64 u)) R ts lab { i with src := u } tl ∧ w.grownBy (w.setCell ⟨R, 5, none⟩ (.int .i64 u)) (some R) := by
  obtain ⟨h0, hl, v, h1, h2⟩ := h
  exact ⟨⟨h0, hl, v, h1.set5 u, h2.grown (setCell_grown w R 5 _) (fun k e => by cases e; exact h1.noStrs)⟩, setCell_grown w R 5 _⟩
theorem Rdr.set6 {w : World} {R : Nat} {ts : List Str} {lab : Str} {i : Ins} {tl : Str} (h : Rdr w R ts lab i tl) (u : Bool) : Rdr (w.setCell ⟨R, 6, none⟩ (.bool u)) R ts lab { i with ui := u } tl ∧ w.grownBy (w.setCell ⟨R, 6, none⟩ (.bool u)) (some R) := by
  obtain ⟨h0, hl, v, h1, h2⟩ := h
  exact ⟨⟨h0, hl, v, h1.set6 u, h2.grown (setCell_grown w R 6 _) (fun k e => by cases e; exact h1.noStrs)⟩, setCell_grown w R 6 _⟩
theorem Rdr.set7 {w : World} {R : Nat} {ts : List Str} {lab : Str} {i : Ins} {tl : Str} (h : Rdr w R ts lab i tl) (u : Int) : Rdr (w.setCell ⟨R, 7, none⟩ (.int .i64 u)) R ts lab { i with off := u } tl ∧ w.grownBy (w.setCell ⟨R, 7, none⟩ (.int .i64 u)) (some R) := by
  obtain ⟨h0, hl, v, h1, h2⟩ := h
  exact ⟨⟨h0, hl, v, h1.set7 u, h2.grown (setCell_grown w R 7 _) (fun k e => by cases e; exact h1.noStrs)⟩, setCell_grown w R 7 _⟩
theorem Rdr.set8 {w : World} {R : Nat} {ts : List Str} {lab : Str} {i : Ins} {tl : Str} (h : Rdr w R ts lab i tl) (u : Int) : Rdr (w.setCell ⟨R, 8, none⟩ (.int .i64 u)) R ts lab { i with im := u } tl ∧ w.grownBy (w.setCell ⟨R, 8, none⟩ (.int .i64 u)) (some R) := by
  obtain ⟨h0, hl, v, h1, h2⟩ := h
  exact ⟨⟨h0, hl, v, h1.set8 u, h2.grown (setCell_grown w R 8 _) (fun k e => by cases e; exact h1.noStrs)⟩, setCell_grown w R 8 _⟩
theorem Rdr.set10 {w : World} {R : Nat} {ts : List Str} {lab : Str} {i : Ins} {tl : Str} (h : Rdr w R ts lab i tl) (u : Str) : Rdr (w.setCell ⟨R, 10, none⟩ (str u)) R ts lab i u ∧ w.grownBy (w.setCell ⟨R, 10, none⟩ (str u)) (some R) := by
  obtain ⟨h0, hl, v, h1, h2⟩ := h
  exact ⟨⟨h0, hl, v, h1.set10 u, h2.grown (setCell_grown w R 10 _) (fun k e => by cases e; exact h1.noStrs)⟩, setCell_grown w R 10 _⟩
theorem Rdr.at {w : World} {R : Nat} {ts : List Str} {lab : Str} {i : Ins} {tl : Str} (h : Rdr w R ts lab i tl) : (∃ v, w.cell? ⟨R, 0, none⟩ = some v) ∧ w.cell? ⟨R, 1, none⟩ = some (str lab) ∧ w.cell? ⟨R, 2, none⟩ = some (.int .u8 i.op) ∧ w.cell? ⟨R, 3, none⟩ = some (.bool i.nw) ∧ w.cell? ⟨R, 4, none⟩ = some (.int .i64 i.dst) ∧ w.cell? ⟨R, 5, none⟩ = some (.int .i64 i.src) ∧ w.cell? ⟨R, 6, none⟩ = some (.bool i.ui) ∧ w.cell? ⟨R, 7, none⟩ = some (.int .i64 i.off) ∧ w.cell? ⟨R, 8, none⟩ = some (.int .i64 i.im) ∧ w.cell? ⟨R, 9, none⟩ = some (.int .i64 i.sz) ∧ w.cell? ⟨R, 10, none⟩ = some (str tl) ∧ ∀ k, w.frozen? ⟨R, k, none⟩ = false := by
  obtain ⟨_, _, v, h1, h2⟩ := h
  obtain ⟨c0, c⟩ := h1.cells
  exact ⟨⟨v, c0⟩, c.1, c.2.1, c.2.2.1, c.2.2.2.1, c.2.2.2.2.1, c.2.2.2.2.2.1, c.2.2.2.2.2.2.1, c.2.2.2.2.2.2.2.1, c.2.2.2.2.2.2.2.2.1, c.2.2.2.2.2.2.2.2.2, h1.free⟩
theorem Rdr.drew {w : World} {R : Nat} {ts : List Str} {lab : Str} {i : Ins} {tl : Str} (h : Rdr w R ts lab i tl) : Rdr w.drew R ts lab i tl := h.past ((Below.refl _ w).drew)
theorem grown_drew {w w' : World} {R : Nat} (h : w.drew.grownBy w' (some R)) : w.grownBy w' (some R) := ⟨h.os, h.tape, h.output, h.size, fun k hk hne => h.block k hk hne⟩
theorem targetP {w : World} {R : Nat} {ts : List Str} {lab : Str} {i : Ins} {tl : Str} (h : Rdr w R ts lab i tl) : Calls Tryz.prog 58 #[.pointer (some ⟨R, 0, none⟩)] w (Reads w R (rdTarget i ts) (fun _ => .tuple #[]) (fun x w' => Rdr w' R x.2 lab x.1 tl)) := by
  have N := registerP h
  clear h
  go_enter Tryz.func58, Tryz.ntmps58
  go_wp2_with fail
  refine N.mono ?_; intro e w1 h1
  rcases h1.out with ⟨hx, rfl, hg⟩ | ⟨x, hx, rfl, hr, hg⟩
  · go_wp2_with fail
    exact ⟨rfl, reads_none (by simp [rdTarget, hx]) rfl hg⟩
  · obtain ⟨_, _, _, _, c4, _, _, _, _, _, _, fr⟩ := hr.at
    have f4 := fr 4
    have SS := hr.set4 x.1
    clear fr
    go_wp2_with fail
    go_end0
    exact reads_some ({ i with dst := x.1 }, x.2) (by simp [rdTarget, hx]) rfl SS.1 (grown_trans hg SS.2)
theorem secondP {w : World} {R : Nat} {ts : List Str} {lab : Str} {i : Ins} {tl : Str} (h : Rdr w R ts lab i tl) (L : Lay w) : Calls Tryz.prog 122 #[.pointer (some ⟨R, 0, none⟩)] w (Reads w R (rdSecond i ts) (fun _ => .tuple #[]) (fun x w' => Rdr w' R x.2 lab x.1 tl)) := by
  have HR := Lib.hid h
  have HL := Lib.hid fun W (hg : w.grownBy W (some R)) => h.lay L hg
  clear h L
  go_enter Tryz.func122, Tryz.ntmps122
  go_wp2_with fail
  refine wp_region_held_drew (S := fun _ => True) (by kernel_rfl) trivial (fun _ => ?_)
  refine wpAnyH_take (i := 0) (v := ?v0t1) rfl (by kernel_rfl) (by kernel_rfl) (by kernel_rfl) (fun _ _ _ h => h) (Or.inl ⟨by rfl, ?y0t1⟩) trivial ?z0t1
  case y0t1 => intro w_ hSw; go_simp; with_reducible rfl
  try simp only [List.getElem_toArray, List.getElem_cons_zero, List.getElem_cons_succ, Act.put, List.setIfInBounds_toArray, List.set_cons_zero, List.set_cons_succ]
  refine wpAnyH_take (i := 1) (v := ?v1t2) rfl (by kernel_rfl) (by kernel_rfl) (by kernel_rfl) (fun _ _ _ h => h) (Or.inl ⟨by rfl, ?y1t2⟩) trivial ?z1t2
  case y1t2 => intro w_ hSw; go_simp; with_reducible rfl
  try simp only [List.getElem_toArray, List.getElem_cons_zero, List.getElem_cons_succ, Act.put, List.setIfInBounds_toArray, List.set_cons_zero, List.set_cons_succ]
  refine wpAnyH_take (i := 2) (v := ?v2t3) rfl (by kernel_rfl) (by kernel_rfl) (by kernel_rfl) (fun _ _ _ h => h) (Or.inl ⟨by rfl, ?y2t3⟩) trivial ?z2t3
  case y2t3 => intro w_ hSw; go_simp; with_reducible rfl
  try simp only [List.getElem_toArray, List.getElem_cons_zero, List.getElem_cons_succ, Act.put, List.setIfInBounds_toArray, List.set_cons_zero, List.set_cons_succ]
  refine wpAnyH_ready (rs := [3]) (by kernel_rfl) (by simp) ?_
  refine AllReadyH.cons rfl (fun K hK => ?_) AllReadyH.nil
  go_simp
  refine (registersP w.drew).mono ?_; rintro e w1 ⟨v, rfl, hv, hb⟩
  have R1 := Lib.hid ((HR.out).drew.past hb)
  have G1 := Lib.hid (grown_drew (past_grown (R := R) hb))
  have T1 := Lib.hid (take regs R1.out hv)
  clear hv hb
  try go_wp2_with fail
  refine hK.out _ _ trivial (fun _ => ?_)
  clear hK K
  try simp only [List.getElem_toArray, List.getElem_cons_zero, List.getElem_cons_succ, Act.put, List.setIfInBounds_toArray, List.set_cons_zero, List.set_cons_succ]
  refine wpAnyH_ready (rs := [4]) (by kernel_rfl) (by simp) ?_
  refine AllReadyH.cons rfl (fun K hK => ?_) AllReadyH.nil
  go_simp
  refine (T1.out).mono ?_; rintro e w2 ⟨rfl, hr, hg⟩
  have R2 := Lib.hid hr
  have G2 := Lib.hid (grown_trans G1.out hg)
  clear hr hg
  try go_wp2_with fail
  refine hK.out _ _ trivial (fun _ => ?_)
  clear hK K
  try simp only [List.getElem_toArray, List.getElem_cons_zero, List.getElem_cons_succ, Act.put, List.setIfInBounds_toArray, List.set_cons_zero, List.set_cons_succ]
  refine wpAnyH_take (i := 5) (v := ?v5t4) rfl (by kernel_rfl) (by kernel_rfl) (by kernel_rfl) (fun _ _ _ h => h) (Or.inl ⟨by rfl, ?y5t4⟩) trivial ?z5t4
  case y5t4 => intro w_ hSw; go_simp; with_reducible rfl
  try simp only [List.getElem_toArray, List.getElem_cons_zero, List.getElem_cons_succ, Act.put, List.setIfInBounds_toArray, List.set_cons_zero, List.set_cons_succ]
  refine wpAnyH_done (by kernel_rfl) ?_ _
  have hX := rdOf_eq regs ts
  have hneg : (takeOf regs ts).1 < 0 → takeOf regs ts = (-1, ts) := by
    intro h
    unfold takeOf at h ⊢
    cases hq : rdOf regs ts with
    | none => rfl
    | some y =>
      rw [hq] at h
      have := rdOf_eq regs ts
      rw [hq] at this
      unfold takeOf at this
      rw [hq] at this
      simp at h this
      omega
  by_cases hn : (takeOf regs ts).1 < 0
  · have hx : rdReg ts = none := by unfold rdReg; rw [hX, if_pos hn]
    have HG : Hid (Rdr w2 R ts lab i tl) := Lib.hid (by have := R2.out; rw [hneg hn] at this; exact this)
    have hd : decide ((0 : Int) ≤ (takeOf regs ts).1) = false := by simp; omega
    generalize takeOf regs ts = x at hd ⊢
    clear hX hneg hn R2 R1 T1 G1
    obtain ⟨_, _, _, _, _, _, c6, _, _, _, _, fr⟩ := HG.out.at
    have f6 := fr 6
    clear fr
    have R3 := Lib.hid ((HG.out).set6 true).1
    have G3 := Lib.hid (grown_trans G2.out ((HG.out).set6 true).2)
    go_wp2_with fail
    clear c6 f6
    generalize w2.setCell ⟨R, 6, none⟩ (.bool true) = w3 at R3 G3 ⊢
    refine wp_region_held_drew (S := fun _ => True) (by kernel_rfl) trivial (fun _ => ?_)
    refine wpAnyH_take (i := 0) (v := ?v0t5) rfl (by kernel_rfl) (by kernel_rfl) (by kernel_rfl) (fun _ _ _ h => h) (Or.inl ⟨by rfl, ?y0t5⟩) trivial ?z0t5
    case y0t5 => intro w_ hSw; go_simp; with_reducible rfl
    try simp only [List.getElem_toArray, List.getElem_cons_zero, List.getElem_cons_succ, Act.put, List.setIfInBounds_toArray, List.set_cons_zero, List.set_cons_succ]
    refine wpAnyH_take (i := 1) (v := ?v1t6) rfl (by kernel_rfl) (by kernel_rfl) (by kernel_rfl) (fun _ _ _ h => h) (Or.inl ⟨by rfl, ?y1t6⟩) trivial ?z1t6
    case y1t6 => intro w_ hSw; go_simp; with_reducible rfl
    try simp only [List.getElem_toArray, List.getElem_cons_zero, List.getElem_cons_succ, Act.put, List.setIfInBounds_toArray, List.set_cons_zero, List.set_cons_succ]
    refine wpAnyH_take (i := 2) (v := ?v2t7) rfl (by kernel_rfl) (by kernel_rfl) (by kernel_rfl) (fun _ _ _ h => h) (Or.inl ⟨by rfl, ?y2t7⟩) trivial ?z2t7
    case y2t7 => intro w_ hSw; go_simp; with_reducible rfl
    try simp only [List.getElem_toArray, List.getElem_cons_zero, List.getElem_cons_succ, Act.put, List.setIfInBounds_toArray, List.set_cons_zero, List.set_cons_succ]
    refine wpAnyH_take (i := 3) (v := ?v3t8) rfl (by kernel_rfl) (by kernel_rfl) (by kernel_rfl) (fun _ _ _ h => h) (Or.inl ⟨by rfl, ?y3t8⟩) trivial ?z3t8
    case y3t8 => intro w_ hSw; go_simp; with_reducible rfl
    try simp only [List.getElem_toArray, List.getElem_cons_zero, List.getElem_cons_succ, Act.put, List.setIfInBounds_toArray, List.set_cons_zero, List.set_cons_succ]
    refine wpAnyH_take (i := 4) (v := ?v4t9) rfl (by kernel_rfl) (by kernel_rfl) (by kernel_rfl) (fun _ _ _ h => h) (Or.inl ⟨by rfl, ?y4t9⟩) trivial ?z4t9
    case y4t9 => intro w_ hSw; go_simp; with_reducible rfl
    try simp only [List.getElem_toArray, List.getElem_cons_zero, List.getElem_cons_succ, Act.put, List.setIfInBounds_toArray, List.set_cons_zero, List.set_cons_succ]
    refine wpAnyH_take (i := 5) (v := ?v5t10) rfl (by kernel_rfl) (by kernel_rfl) (by kernel_rfl) (fun _ _ _ h => h) (Or.inl ⟨by rfl, ?y5t10⟩) trivial ?z5t10
    case y5t10 => intro w_ hSw; go_simp; with_reducible rfl
    try simp only [List.getElem_toArray, List.getElem_cons_zero, List.getElem_cons_succ, Act.put, List.setIfInBounds_toArray, List.set_cons_zero, List.set_cons_succ]
    refine wpAnyH_take (i := 6) (v := ?v6t11) rfl (by kernel_rfl) (by kernel_rfl) (by kernel_rfl) (fun _ _ _ h => h) (Or.inl ⟨by rfl, ?y6t11⟩) trivial ?z6t11
    case y6t11 => intro w_ hSw; go_simp; with_reducible rfl
    try simp only [List.getElem_toArray, List.getElem_cons_zero, List.getElem_cons_succ, Act.put, List.setIfInBounds_toArray, List.set_cons_zero, List.set_cons_succ]
    refine wpAnyH_ready (rs := [7]) (by kernel_rfl) (by simp) ?_
    refine AllReadyH.cons rfl (fun K hK => ?_) AllReadyH.nil
    go_simp
    refine hK.out _ _ trivial (fun _ => ?_)
    clear hK K
    try simp only [List.getElem_toArray, List.getElem_cons_zero, List.getElem_cons_succ, Act.put, List.setIfInBounds_toArray, List.set_cons_zero, List.set_cons_succ]
    refine wpAnyH_ready (rs := [8]) (by kernel_rfl) (by simp) ?_
    refine AllReadyH.cons rfl (fun K hK => ?_) AllReadyH.nil
    go_simp
    refine (take_lit [[45]] (by decide) (R3.out).drew).mono ?_; rintro e w4 ⟨rfl, hr, hg⟩
    have R4 := Lib.hid hr
    have G4 := Lib.hid (grown_trans G3.out (grown_drew hg))
    have hs : rdSecond i ts = (rdNum (decide ((takeOf [[45]] ts).1 = 0)) (takeOf [[45]] ts).2).map fun x => ({ i with ui := true, im := x.1 }, x.2) := by simp [rdSecond, hx]
    have HS := Lib.hid hs
    have hb : ((takeOf [[45]] ts).1 == 0) = decide ((takeOf [[45]] ts).1 = 0) := by rw [Bool.eq_iff_iff]; simp
    clear hs
    generalize takeOf [[45]] ts = y at R4 HS hb ⊢
    have HB := Lib.hid hb
    clear hr hg hb
    try go_wp2_with fail
    refine hK.out _ _ trivial (fun _ => ?_)
    clear hK K
    try simp only [List.getElem_toArray, List.getElem_cons_zero, List.getElem_cons_succ, Act.put, List.setIfInBounds_toArray, List.set_cons_zero, List.set_cons_succ]
    refine wpAnyH_take (i := 9) (v := ?v9t12) rfl (by kernel_rfl) (by kernel_rfl) (by kernel_rfl) (fun _ _ _ h => h) (Or.inl ⟨by rfl, ?y9t12⟩) trivial ?z9t12
    case y9t12 => intro w_ hSw; go_simp; with_reducible rfl
    try simp only [List.getElem_toArray, List.getElem_cons_zero, List.getElem_cons_succ, Act.put, List.setIfInBounds_toArray, List.set_cons_zero, List.set_cons_succ]
    refine wpAnyH_ready (rs := [10]) (by kernel_rfl) (by simp) ?_
    refine AllReadyH.cons rfl (fun K hK => ?_) AllReadyH.nil
    go_simp
    refine (numberP (y.1 == 0) (R4.out) (HL.out _ G4.out)).mono ?_; intro e w5 h5
    rcases h5.out with ⟨hz, rfl, hg⟩ | ⟨z, hz, rfl, hr, hg⟩
    · clear h5
      try go_wp2_with fail
      exact ⟨rfl, reads_none (by rw [HS.out, ← HB.out, hz]; rfl) rfl (grown_trans G4.out hg)⟩
    · have R5 := Lib.hid hr
      have G5 := Lib.hid (grown_trans G4.out hg)
      have HZ := Lib.hid hz
      clear h5 hr hg hz
      try go_wp2_with fail
      refine hK.out _ _ trivial (fun _ => ?_)
      clear hK K
      try simp only [List.getElem_toArray, List.getElem_cons_zero, List.getElem_cons_succ, Act.put, List.setIfInBounds_toArray, List.set_cons_zero, List.set_cons_succ]
      refine wpAnyH_take (i := 11) (v := ?v11t13) rfl (by kernel_rfl) (by kernel_rfl) (by kernel_rfl) (fun _ _ _ h => h) (Or.inl ⟨by rfl, ?y11t13⟩) trivial ?z11t13
      case y11t13 => intro w_ hSw; go_simp; with_reducible rfl
      try simp only [List.getElem_toArray, List.getElem_cons_zero, List.getElem_cons_succ, Act.put, List.setIfInBounds_toArray, List.set_cons_zero, List.set_cons_succ]
      refine wpAnyH_take (i := 12) (v := ?v12t14) rfl (by kernel_rfl) (by kernel_rfl) (by kernel_rfl) (fun _ _ _ h => h) (Or.inl ⟨by rfl, ?y12t14⟩) trivial ?z12t14
      case y12t14 => intro w_ hSw; go_simp; with_reducible rfl
      try simp only [List.getElem_toArray, List.getElem_cons_zero, List.getElem_cons_succ, Act.put, List.setIfInBounds_toArray, List.set_cons_zero, List.set_cons_succ]
      refine wpAnyH_take (i := 13) (v := ?v13t15) rfl (by kernel_rfl) (by kernel_rfl) (by kernel_rfl) (fun _ _ _ h => h) (Or.inl ⟨by rfl, ?y13t15⟩) trivial ?z13t15
      case y13t15 => intro w_ hSw; go_simp; with_reducible rfl
      try simp only [List.getElem_toArray, List.getElem_cons_zero, List.getElem_cons_succ, Act.put, List.setIfInBounds_toArray, List.set_cons_zero, List.set_cons_succ]
      refine wpAnyH_take (i := 14) (v := ?v14t16) rfl (by kernel_rfl) (by kernel_rfl) (by kernel_rfl) (fun _ _ _ h => h) (Or.inl ⟨by rfl, ?y14t16⟩) trivial ?z14t16
      case y14t16 => intro w_ hSw; go_simp; with_reducible rfl
      try simp only [List.getElem_toArray, List.getElem_cons_zero, List.getElem_cons_succ, Act.put, List.setIfInBounds_toArray, List.set_cons_zero, List.set_cons_succ]
      refine wpAnyH_ready (rs := [15]) (by kernel_rfl) (by simp) ?_
      refine AllReadyH.cons rfl (fun K hK => ?_) AllReadyH.nil
      obtain ⟨_, _, _, _, _, _, _, _, c8, _, _, fr⟩ := (R5.out).at
      have f8 := fr 8
      clear fr
      have R6 := Lib.hid ((R5.out).set8 z.1).1
      have G6 := Lib.hid (grown_trans G5.out ((R5.out).set8 z.1).2)
      go_simp
      refine hK.out _ _ trivial (fun _ => ?_)
      clear hK K
      try simp only [List.getElem_toArray, List.getElem_cons_zero, List.getElem_cons_succ, Act.put, List.setIfInBounds_toArray, List.set_cons_zero, List.set_cons_succ]
      refine wpAnyH_done (by kernel_rfl) ?_ _
      go_wp2_with fail
      go_end0
      exact reads_some ({ i with ui := true, im := z.1 }, z.2) (by rw [HS.out, ← HB.out, HZ.out]; rfl) rfl R6.out G6.out
  · have hx : rdReg ts = some (takeOf regs ts) := by unfold rdReg; rw [hX, if_neg hn]
    have hd : decide ((0 : Int) ≤ (takeOf regs ts).1) = true := by simp; omega
    generalize takeOf regs ts = x at hd hx R2 ⊢
    clear hX hneg hn R1 T1 G1
    obtain ⟨_, _, _, _, _, c5, _, _, _, _, _, fr⟩ := (R2.out).at
    have f5 := fr 5
    clear fr
    have R3 := Lib.hid ((R2.out).set5 x.1).1
    have G3 := Lib.hid (grown_trans G2.out ((R2.out).set5 x.1).2)
    go_wp2_with fail
    go_end0
    exact reads_some ({ i with src := x.1 }, x.2) (by simp [rdSecond, hx]) rfl R3.out G3.out
theorem reckonP {w : World} {R : Nat} {ts : List Str} {lab : Str} {i : Ins} {tl : Str} (h : Rdr w R ts lab i tl) (L : Lay w) : Calls Tryz.prog 57 #[.pointer (some ⟨R, 0, none⟩)] w (Reads w R (rdReckon i ts) (fun _ => .tuple #[]) (fun x w' => Rdr w' R x.2 lab x.1 tl)) := by
  have HL := Lib.hid fun W (hg : w.grownBy W (some R)) => h.lay L hg
  have P1 := targetP h
  clear h L
  go_enter Tryz.func57, Tryz.ntmps57
  go_wp2_with fail
  refine P1.mono ?_; intro e w1 h1
  rcases h1.out with ⟨hx, rfl, hg1⟩ | ⟨x, hx, rfl, hr1, hg1⟩
  · go_wp2_with fail
    exact ⟨rfl, reads_none (by simp [rdReckon, hx]) rfl hg1⟩
  have P2 := need_lit [[44]] (by decide) hr1
  go_wp2_with fail
  refine P2.mono ?_; intro e w2 h2
  rcases h2.out with ⟨hy, rfl, hg2⟩ | ⟨y, hy, rfl, hr2, hg2⟩
  · go_wp2_with fail
    exact ⟨rfl, reads_none (by simp [rdReckon, hx, hy]) rfl (grown_trans hg1 hg2)⟩
  have g2 := grown_trans hg1 hg2
  have P3 := secondP hr2 (HL.out _ g2)
  go_wp2_with fail
  refine P3.mono ?_; intro e w3 h3
  rcases h3.out with ⟨hz, rfl, hg3⟩ | ⟨z, hz, rfl, hr3, hg3⟩
  · go_wp2_with fail
    exact ⟨rfl, reads_none (by simp [rdReckon, hx, hy, hz]) rfl (grown_trans g2 hg3)⟩
  have g3 := grown_trans g2 hg3
  go_wp2_with fail
  go_end0
  exact reads_some z (by simp [rdReckon, hx, hy, hz]) rfl hr3 g3
theorem loadP {w : World} {R : Nat} {ts : List Str} {lab : Str} {i : Ins} {tl : Str} (h : Rdr w R ts lab i tl) (L : Lay w) : Calls Tryz.prog 60 #[.pointer (some ⟨R, 0, none⟩)] w (Reads w R (rdLoad i ts) (fun _ => .tuple #[]) (fun x w' => Rdr w' R x.2 lab x.1 tl)) := by
  have HL := Lib.hid fun W (hg : w.grownBy W (some R)) => h.lay L hg
  have P1 := targetP h
  clear h L
  go_enter Tryz.func60, Tryz.ntmps60
  go_wp2_with fail
  refine P1.mono ?_; intro e w1 h1
  rcases h1.out with ⟨hx, rfl, hg1⟩ | ⟨x, hx, rfl, hr1, hg1⟩
  · go_wp2_with fail
    exact ⟨rfl, reads_none (by simp [rdLoad, hx]) rfl hg1⟩
  have P2 := need_lit [[44]] (by decide) hr1
  go_wp2_with fail
  refine P2.mono ?_; intro e w2 h2
  rcases h2.out with ⟨hy, rfl, hg2⟩ | ⟨y, hy, rfl, hr2, hg2⟩
  · go_wp2_with fail
    exact ⟨rfl, reads_none (by simp [rdLoad, hx, hy]) rfl (grown_trans hg1 hg2)⟩
  have g2 := grown_trans hg1 hg2
  have P3 := cellT hr2 (HL.out _ g2)
  go_wp2_with fail
  refine P3.mono ?_; intro e w3 h3
  rcases h3.out with ⟨hz, rfl, hg3⟩ | ⟨z, hz, rfl, hr3, hg3⟩
  · go_wp2_with fail
    exact ⟨rfl, reads_none (by simp [rdLoad, hx, hy, hz]) rfl (grown_trans g2 hg3)⟩
  have g3 := grown_trans g2 hg3
  obtain ⟨_, _, _, _, _, c5, _, c7, _, _, _, fr⟩ := hr3.at
  have f5 := fr 5
  have S5 := hr3.set5 z.1.1
  have S7 := S5.1.set7 z.1.2
  obtain ⟨_, _, _, _, _, _, _, c7', _, _, _, fr'⟩ := S5.1.at
  have f7 := fr' 7
  clear fr fr'
  have G := grown_trans (grown_trans g3 S5.2) S7.2
  go_wp2_with fail
  go_end0
  exact reads_some ({ x.1 with src := z.1.1, off := z.1.2 }, z.2) (by simp [rdLoad, hx, hy, hz]) rfl S7.1 G
theorem putP {w : World} {R : Nat} {ts : List Str} {lab : Str} {i : Ins} {tl : Str} (h : Rdr w R ts lab i tl) (L : Lay w) : Calls Tryz.prog 61 #[.pointer (some ⟨R, 0, none⟩)] w (Reads w R (rdPut i ts) (fun _ => .tuple #[]) (fun x w' => Rdr w' R x.2 lab x.1 tl)) := by
  have HL := Lib.hid fun W (hg : w.grownBy W (some R)) => h.lay L hg
  have P1 := cellT h L
  clear h L
  go_enter Tryz.func61, Tryz.ntmps61
  go_wp2_with fail
  refine P1.mono ?_; intro e w1 h1
  rcases h1.out with ⟨hx, rfl, hg1⟩ | ⟨x, hx, rfl, hr1, hg1⟩
  · go_wp2_with fail
    exact ⟨rfl, reads_none (by simp [rdPut, hx]) rfl hg1⟩
  obtain ⟨_, _, _, _, c4, _, _, c7, _, _, _, fr⟩ := hr1.at
  have f4 := fr 4
  have S4 := hr1.set4 x.1.1
  have S7 := S4.1.set7 x.1.2
  obtain ⟨_, _, _, _, _, _, _, c7', _, _, _, fr'⟩ := S4.1.at
  have f7 := fr' 7
  clear fr fr'
  have G := grown_trans (grown_trans hg1 S4.2) S7.2
  have RG0 := Lib.hid S7.1
  have P2 := need_lit [[44]] (by decide) S7.1
  have hs : ((w1.setCell ⟨R, 4, none⟩ (.int .i64 x.1.1)).setCell ⟨R, 7, none⟩ (.int .i64 x.1.2)).heap.size = w1.heap.size := by simp [World.setCell]
  rw [hs] at P2
  clear S4 S7 hs
  go_wp2_with fail
  refine P2.mono ?_; intro e w2 h2
  rcases h2.out with ⟨hy, rfl, hg2⟩ | ⟨y, hy, rfl, hr2, hg2⟩
  · go_wp2_with fail
    exact ⟨rfl, reads_none (by simp [rdPut, hx, hy]) rfl (grown_trans G hg2)⟩
  have g2 := grown_trans G hg2
  have P3 := secondP hr2 (HL.out _ g2)
  go_wp2_with fail
  refine P3.mono ?_; intro e w3 h3
  rcases h3.out with ⟨hz, rfl, hg3⟩ | ⟨z, hz, rfl, hr3, hg3⟩
  · go_wp2_with fail
    exact ⟨rfl, reads_none (by simp [rdPut, hx, hy, hz]) rfl (grown_trans g2 hg3)⟩
  go_wp2_with fail
  go_end0
  exact reads_some z (by simp [rdPut, hx, hy, hz]) rfl hr3 (grown_trans g2 hg3)
theorem jumpP {w : World} {R : Nat} {ts : List Str} {lab : Str} {i : Ins} (h : Rdr w R ts lab i []) (L : Lay w) : Calls Tryz.prog 62 #[.pointer (some ⟨R, 0, none⟩)] w (Reads w R (rdJump i ts) (fun _ => .tuple #[]) (fun x w' => Rdr w' R x.2 lab x.1.1 x.1.2)) := by
  have HL := Lib.hid fun W (hg : w.grownBy W (some R)) => h.lay L hg
  have T := take_lit [[43], [45]] (by decide) h
  have hX := rdOf_eq [[43], [45]] ts
  have hneg : rdOf [[43], [45]] ts = none → takeOf [[43], [45]] ts = (-1, ts) := by intro h; unfold takeOf; rw [h]; rfl
  have hin : ∀ x, rdOf [[43], [45]] ts = some x → (x.1 = 0 ∨ x.1 = 1) ∧ takeOf [[43], [45]] ts = x := by
    intro x h
    refine ⟨?_, by unfold takeOf; rw [h]; rfl⟩
    cases ts with
    | nil => cases h
    | cons t r =>
      simp only [rdOf, ixOf] at h
      split at h
      · simp at h; rw [← h]; exact .inl rfl
      · split at h
        · simp at h; rw [← h]; exact .inr rfl
        · simp at h
  clear h L hX
  go_enter Tryz.func62, Tryz.ntmps62
  go_wp2_with fail
  refine T.mono ?_; rintro e w1 ⟨rfl, hr, hg⟩
  cases hx : rdOf [[43], [45]] ts with
  | none =>
    rw [hneg hx] at hr ⊢
    clear hneg hin
    simp only at hr ⊢
    go_wp2_with fail
    refine (labelP hr).mono ?_; intro e w2 h2
    rcases h2.out with ⟨hy, rfl, hg2⟩ | ⟨y, hy, rfl, hr2, hg2⟩
    · go_wp2_with fail
      exact ⟨rfl, reads_none (by simp [rdJump, hx, hy]) rfl (grown_trans hg hg2)⟩
    · obtain ⟨_, _, _, _, _, _, _, _, _, _, c10, fr⟩ := hr2.at
      have f10 := fr 10
      have S10 := hr2.set10 y.1
      clear fr
      go_wp2_with fail
      go_end0
      exact reads_some ((i, y.1), y.2) (by simp [rdJump, hx, hy]) rfl S10.1 (grown_trans (grown_trans hg hg2) S10.2)
  | some x =>
    obtain ⟨hk, he⟩ := hin x hx
    rw [he] at hr ⊢
    clear hneg hin he
    obtain ⟨n, r⟩ := x
    simp only at hk hr ⊢
    rcases hk with rfl | rfl
    all_goals
      go_wp2_with fail
      refine (numberP _ hr (HL.out _ hg)).mono ?_; intro e w2 h2
      rcases h2.out with ⟨hy, rfl, hg2⟩ | ⟨y, hy, rfl, hr2, hg2⟩
      · go_wp2_with fail
        exact ⟨rfl, reads_none (by simp [rdJump, hx, hy]) rfl (grown_trans hg hg2)⟩
      · obtain ⟨_, _, _, _, _, _, _, c7, _, _, _, fr⟩ := hr2.at
        have f7 := fr 7
        have S7 := hr2.set7 y.1
        clear fr
        go_wp2_with fail
        go_end0
        exact reads_some (({ i with off := y.1 }, []), y.2) (by simp [rdJump, hx, hy]) rfl S7.1 (grown_trans (grown_trans hg hg2) S7.2)
theorem askP {w : World} {R : Nat} {ts : List Str} {lab : Str} {i : Ins} (h : Rdr w R ts lab i []) (L : Lay w) : Calls Tryz.prog 59 #[.pointer (some ⟨R, 0, none⟩)] w (Reads w R (rdAsk i ts) (fun _ => .tuple #[]) (fun x w' => Rdr w' R x.2 lab x.1.1 x.1.2)) := by
  have HL := Lib.hid fun W (hg : w.grownBy W (some R)) => h.lay L hg
  have P1 := reckonP h L
  clear h L
  go_enter Tryz.func59, Tryz.ntmps59
  go_wp2_with fail
  refine P1.mono ?_; intro e w1 h1
  rcases h1.out with ⟨hx, rfl, hg1⟩ | ⟨x, hx, rfl, hr1, hg1⟩
  · go_wp2_with fail
    exact ⟨rfl, reads_none (by simp [rdAsk, hx]) rfl hg1⟩
  have P2 := need_lit [[44]] (by decide) hr1
  go_wp2_with fail
  refine P2.mono ?_; intro e w2 h2
  rcases h2.out with ⟨hy, rfl, hg2⟩ | ⟨y, hy, rfl, hr2, hg2⟩
  · go_wp2_with fail
    exact ⟨rfl, reads_none (by simp [rdAsk, hx, hy]) rfl (grown_trans hg1 hg2)⟩
  have g2 := grown_trans hg1 hg2
  have P3 := jumpP hr2 (HL.out _ g2)
  go_wp2_with fail
  refine P3.mono ?_; intro e w3 h3
  rcases h3.out with ⟨hz, rfl, hg3⟩ | ⟨z, hz, rfl, hr3, hg3⟩
  · go_wp2_with fail
    exact ⟨rfl, reads_none (by simp [rdAsk, hx, hy, hz]) rfl (grown_trans g2 hg3)⟩
  have g3 := grown_trans g2 hg3
  go_wp2_with fail
  go_end0
  exact reads_some z (by simp [rdAsk, hx, hy, hz]) rfl hr3 g3
theorem exitP (R : Nat) (w : World) : Calls Tryz.prog 63 #[.pointer (some ⟨R, 0, none⟩)] w fun e w' => e = .returned (.tuple #[]) ∧ w = w' := by
  go_enter Tryz.func63, Tryz.ntmps63
  go_wp2_with fail
  go_end0
  exact ⟨rfl, rfl⟩
end Go.Proofs.YthfkmackodbmkaaGreatDoor
