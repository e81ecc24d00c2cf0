/- The digest of any bytes. -/
import Derived.Test.YtknkmblacaaegaaDoorShaEnd
namespace Go.Proofs.YtknkmblacaaegaaDoor
open Go.RowKit
set_option linter.unusedVariables false
set_option linter.unusedSimpArgs false
set_option maxRecDepth 100000

/-- A slice's end, a slice's beginning: they yield the same in every world. -/
theorem yieldsIf_slice_from {ops : Array Oper} {S : World → Prop} {op : Oper} {a : Act} (hw : Region.wanted op (yielded ops a.tmps) = true) (s lo : Operand) (ho : op.op = .slice 22 s (some lo) none none)
    (v l u : Value) (hs : a.eval s = v) (hl : a.eval lo = l) (hrun : ∀ W, (Instr.slice 22 v (some l) none none).run Tryd.prog W = .ok u W) : YieldsIf Tryd.prog ops S op u a :=
  .inl ⟨hw, fun w _ => by
    have he : Tryd.prog.underlying 22 = some (.slice (Tryd.prog.elem 22)) := by kernel_rfl
    have h2 := run_sliceAt_slice (P := Tryd.prog) w 22 v (some l) none none he
    rw [hrun] at h2
    simp [execOp, ho, hs, hl, h2, Result.andThen]⟩
theorem yieldsIf_slice_to {ops : Array Oper} {S : World → Prop} {op : Oper} {a : Act} (hw : Region.wanted op (yielded ops a.tmps) = true) (s hi : Operand) (ho : op.op = .slice 22 s none (some hi) none)
    (v h u : Value) (hs : a.eval s = v) (hh : a.eval hi = h) (hrun : ∀ W, (Instr.slice 22 v none (some h) none).run Tryd.prog W = .ok u W) : YieldsIf Tryd.prog ops S op u a :=
  .inl ⟨hw, fun w _ => by
    have he : Tryd.prog.underlying 22 = some (.slice (Tryd.prog.elem 22)) := by kernel_rfl
    have h2 := run_sliceAt_slice (P := Tryd.prog) w 22 v none (some h) none he
    rw [hrun] at h2
    simp [execOp, ho, hs, hh, h2, Result.andThen]⟩
/-- What is left behind the first e bytes, as the walk takes it. -/
theorem slice_from (ao : Option Addr) (n cap e : Nat) (h1 : e ≤ n) (h2 : n ≤ cap) (W : World) :
    (Instr.slice 22 (.slice ao n cap) (some (.int .i64 (e : Nat))) none none).run Tryd.prog W = .ok (.slice (if cap - e = 0 then ao else ao.map (·.add e)) (n - e) (cap - e)) W := by
  have he : Tryd.prog.underlying 22 = some (.slice (Tryd.prog.elem 22)) := by kernel_rfl
  obtain ⟨i, hi, _, hs1, _⟩ := u8info
  have hel : Tryd.prog.elem 22 = 5 := by kernel_rfl
  rw [run_slice_l (w := W) 22 ao n cap he .i64 (e : Nat) (by omega) (by omega)]
  rw [hel]
  have hsz : (sizeOf 5).run Tryd.prog W = .ok 1 W := by simp [sizeOf, typeInfo, hi, hs1]
  rw [hsz]
  simp only [Result.andThen, sliced, Int.toNat_natCast]
  have e3 : (if cap = e then ao else ao.map (·.add (e * 1))) = (if cap - e = 0 then ao else ao.map (·.add e)) := by
    by_cases h : cap = e
    · rw [if_pos h, if_pos (by omega)]
    · rw [if_neg h, if_neg (by omega), Nat.mul_one]
  rw [e3]

set_option maxHeartbeats 2000000 in
theorem shaSum (v : Value) (l : List Int) (w : World) (T : Tabs w) (h : Bs w v l) (ho : Oct l) (hl : l.length ≤ 50000) :
    Calls Tryd.prog 17 #[v] w fun e w' => Fresh (digest l) w e w' := by
  obtain ⟨ao, cap, hsh⟩ := h.shape
  subst hsh
  obtain ⟨p, hp⟩ : ∃ p, p = l.length / 64 := ⟨_, rfl⟩
  obtain ⟨en, hen⟩ : ∃ en, en = 64 * p := ⟨_, rfl⟩
  obtain ⟨n, hn⟩ : ∃ n, n = l.length := ⟨_, rfl⟩
  have hcap : n ≤ cap := by obtain ⟨_, _, e, h1, _⟩ := h; cases e; omega
  have hle : en ≤ n := by omega
  have hl1 : (l.take en).length = 64 * p := by simp; omega
  have hl2 : (l.drop en).length = n - en := by simp; omega
  have hl3 : (l.drop en ++ (128 :: tailOf n)).length = 64 * ((l.drop en ++ (128 :: tailOf n)).length / 64) := by
    have e1 : (l.drop en ++ (128 :: tailOf n)).length = n - en + (padOf n + 9) := by
      rw [List.length_append, hl2, List.length_cons, tailOf_length]
    rw [e1]
    have := padOf_eq n
    omega
  have hD : digest l = (runs (runs hon (l.take en) p) (l.drop en ++ (128 :: tailOf n)) ((l.drop en ++ (128 :: tailOf n)).length / 64)).bytes := by
    have := digest_parts l p (by omega)
    rw [hn, hen]
    exact this
  have hb1 := h.take (n := en) (by omega)
  have hb2 := h.drop (n := en) (by omega)
  rw [← hn] at h hb2 hl ⊢
  have hU := h.under
  have hT1 := T.2.lt
  have hU1 : Under w.heap.size (.slice ao en cap) := fun a m c e h0 => by
    cases e
    exact hU a n cap rfl (by omega)
  have hU2 : Under w.heap.size (.slice (if cap - en = 0 then ao else ao.map (·.add en)) (n - en) (cap - en)) := fun a m c e h0 => by
    injection e with e1 e2 e3
    by_cases hc : cap - en = 0
    · omega
    · rw [if_neg hc] at e1
      cases ao with
      | none => cases e1
      | some a0 =>
        cases e1
        rw [block_of_add]
        exact hU a0 n cap rfl (by omega)
  have SF := Lib.hid (slice_from ao n cap en hle hcap)
  have ST := Lib.hid (slice_to ao n cap en (by omega))
  generalize (if cap - en = 0 then ao else ao.map (·.add en)) = ad at *
  have CB := Lib.hid (fun w' (hb : Below w.heap.size w w') => behind hon (.slice ao en cap) (l.take en) p w' (T.below hb hT1) hon_ok (hb1.below hU1 hb) (ho.take en) hl1)
  have CL := Lib.hid (fun w' (hb : Below w.heap.size w w') => lastBlocks (.slice ad (n - en) (cap - en)) (l.drop en) n w' (hb2.below hU2 hb) (by omega) (by omega) (by rw [hl2]; omega))
  have CT := Lib.hid (fun v' w' (hb : Below w.heap.size w w') (hv : Bs w' v' (l.drop en ++ (128 :: tailOf n))) => behind (runs hon (l.take en) p) v' _ ((l.drop en ++ (128 :: tailOf n)).length / 64) w' (T.below hb hT1) (runs_ok hon_ok _ _) hv (end_oct (ho.drop en) n) hl3)
  have CY := Lib.hid (fun w' => stateBytes (runs (runs hon (l.take en) p) (l.drop en ++ (128 :: tailOf n)) ((l.drop en ++ (128 :: tailOf n)).length / 64)) w' (runs_ok (runs_ok hon_ok _ _) _ _))
  have HD := Lib.hid hD
  have HT := Lib.hid T
  have h64 : (n : Int) - (n : Int) % 64 = (en : Nat) := by omega
  have HN := Lib.hid hn
  clear h ho hb1 hb2 hU hU1 hU2 hl1 hl2 hl3 hD T hn hp hen
  generalize hs2 : runs (runs hon (l.take en) p) (l.drop en ++ (128 :: tailOf n)) ((l.drop en ++ (128 :: tailOf n)).length / 64) = s2 at *
  clear hs2
  generalize hs1 : runs hon (l.take en) p = s1 at *
  clear hs1
  go_enter Tryd.func17, Tryd.ntmps17
  go_upto_region 2 with fail
  go_cut [4, 11, 12, 13, 14, 15] (fun v4 v11 v12 v13 v14 v15 wx => ∃ X, v4 = .pointer (some ⟨X, 0, none⟩) ∧ w.heap.size ≤ X ∧ Hid (Cel wx X (wv s1.list)) ∧ Hid (Below w.heap.size w wx))
  case first =>
    have hI0 : Below w.heap.size w w.drew := ((Still.refl w).drewN 1).below _
    refine wp_region_held_drew (S := fun w' => Below w.heap.size w w') (by kernel_rfl) hI0 (fun hI0 => ?_)
    refine wpAnyH_take (i := 0) (v := .agg (wv hon.list).toArray) rfl (by kernel_rfl) (by kernel_rfl) (by kernel_rfl) (fun _ _ _ h => h) (yieldsIf_load_mid (by rfl) 66 (.global 0) rfl 0 0 rfl (wv hon.list) _ (fun w_ h => ((HT.out).below h hT1).1.2) Tryd.underlying66 rfl (by kernel_rfl)) hI0 ?_
    try simp only [List.getElem_toArray, List.getElem_cons_zero, List.getElem_cons_succ, Act.put, List.setIfInBounds_toArray, List.set_cons_zero, List.set_cons_succ]
    refine wpAnyH_take (i := 1) (v := ?v1t1) rfl (by kernel_rfl) (by kernel_rfl) (by kernel_rfl) (fun _ _ _ h => h) (Or.inl ⟨by rfl, ?y1t1⟩) hI0 ?z1t1
    case y1t1 => intro w_ hSw; go_simp; with_reducible rfl
    try simp only [List.getElem_toArray, List.getElem_cons_zero, List.getElem_cons_succ, Act.put, List.setIfInBounds_toArray, List.set_cons_zero, List.set_cons_succ]
    refine wpAnyH_take (i := 2) (v := ?v2t2) rfl (by kernel_rfl) (by kernel_rfl) (by kernel_rfl) (fun _ _ _ h => h) (Or.inl ⟨by rfl, ?y2t2⟩) hI0 ?z2t2
    case y2t2 => intro w_ hSw; go_simp; with_reducible rfl
    try simp only [List.getElem_toArray, List.getElem_cons_zero, List.getElem_cons_succ, Act.put, List.setIfInBounds_toArray, List.set_cons_zero, List.set_cons_succ]
    refine wpAnyH_take (i := 3) rfl (by kernel_rfl) (by kernel_rfl) (by kernel_rfl) (fun _ _ _ h => h) (yieldsIf_slice_to (by rfl) (.tmp 12) (.tmp 13) rfl _ _ _ rfl rfl ST.out) hI0 ?_
    try simp only [List.getElem_toArray, List.getElem_cons_zero, List.getElem_cons_succ, Act.put, List.setIfInBounds_toArray, List.set_cons_zero, List.set_cons_succ]
    refine wpAnyH_ready (rs := [4, 5]) (by kernel_rfl) (by simp) ?_
    refine AllReadyH.cons rfl (fun K hK => ?_) ?_
    · go_simp
      refine ((CB.out) _ hI0).mono ?_
      rintro ee w4 ⟨rfl, hq⟩
      have hIw4 := bel_past hI0 hq
      try go_wp2_with fail
      refine hK.out _ _ hIw4 (fun _ => ?_)
      clear hK K
      try simp only [List.getElem_toArray, List.getElem_cons_zero, List.getElem_cons_succ, Act.put, List.setIfInBounds_toArray, List.set_cons_zero, List.set_cons_succ]
      refine wpAnyH_ready (rs := [5]) (by kernel_rfl) (by simp) ?_
      refine AllReadyH.cons rfl (fun K hK => ?_) ?_
      · refine step_alloc_cel (by rfl) 67 8 arrS (by rfl) ?_
        intro X w45 hX h5w45 hq
        have hAX : w.heap.size ≤ X := by rw [← hX]; exact hIw4.size
        have hIw45 := Below.grown hIw4 hq hIw4.size (fun k e => by cases e)
        refine hK.out _ _ hIw45 (fun _ => ?_)
        clear hK K
        try simp only [List.getElem_toArray, List.getElem_cons_zero, List.getElem_cons_succ, Act.put, List.setIfInBounds_toArray, List.set_cons_zero, List.set_cons_succ]
        refine wpAnyH_ready (rs := [6]) (by kernel_rfl) (by simp) ?_
        refine AllReadyH.cons rfl (fun K hK => ?_) ?_
        · refine step_store_cel (by rfl) 67 8 arrS (.tmp 4) (.tmp 15) (by rfl) X (wv s1.list) _ _ (by rfl) (by rfl) (by rfl) h5w45 (by rfl) (by rfl) (wv_one _) ?_
          intro w456 h5w456 hq
          have hIw456 := Below.grown hIw45 hq hIw45.size (fun k e => by cases e; exact hAX)
          refine hK.out _ _ hIw456 (fun _ => ?_)
          clear hK K
          try simp only [List.getElem_toArray, List.getElem_cons_zero, List.getElem_cons_succ, Act.put, List.setIfInBounds_toArray, List.set_cons_zero, List.set_cons_succ]
          refine wpAnyH_done (by kernel_rfl) ?_ _
          go_wp2_with fail
          go_meet
          exact ⟨X, rfl, hAX, Lib.hid h5w456, Lib.hid hIw456⟩
        exact AllReadyH.nil
      exact AllReadyH.nil
    refine AllReadyH.cons rfl (fun K hK => ?_) ?_
    · refine step_alloc_cel (by rfl) 67 8 arrS (by rfl) ?_
      intro X w5 hX h5w5 hq
      have hAX : w.heap.size ≤ X := by rw [← hX]; exact hI0.size
      have hIw5 := Below.grown hI0 hq hI0.size (fun k e => by cases e)
      refine hK.out _ _ hIw5 (fun _ => ?_)
      clear hK K
      try simp only [List.getElem_toArray, List.getElem_cons_zero, List.getElem_cons_succ, Act.put, List.setIfInBounds_toArray, List.set_cons_zero, List.set_cons_succ]
      refine wpAnyH_ready (rs := [4]) (by kernel_rfl) (by simp) ?_
      refine AllReadyH.cons rfl (fun K hK => ?_) ?_
      · go_simp
        refine ((CB.out) _ hIw5).mono ?_
        rintro ee w54 ⟨rfl, hq⟩
        have hIw54 := bel_past hIw5 hq
        have h5w54 := Cel.past h5w5 hq
        try go_wp2_with fail
        refine hK.out _ _ hIw54 (fun _ => ?_)
        clear hK K
        try simp only [List.getElem_toArray, List.getElem_cons_zero, List.getElem_cons_succ, Act.put, List.setIfInBounds_toArray, List.set_cons_zero, List.set_cons_succ]
        refine wpAnyH_ready (rs := [6]) (by kernel_rfl) (by simp) ?_
        refine AllReadyH.cons rfl (fun K hK => ?_) ?_
        · refine step_store_cel (by rfl) 67 8 arrS (.tmp 4) (.tmp 15) (by rfl) X (wv s1.list) _ _ (by rfl) (by rfl) (by rfl) h5w54 (by rfl) (by rfl) (wv_one _) ?_
          intro w546 h5w546 hq
          have hIw546 := Below.grown hIw54 hq hIw54.size (fun k e => by cases e; exact hAX)
          refine hK.out _ _ hIw546 (fun _ => ?_)
          clear hK K
          try simp only [List.getElem_toArray, List.getElem_cons_zero, List.getElem_cons_succ, Act.put, List.setIfInBounds_toArray, List.set_cons_zero, List.set_cons_succ]
          refine wpAnyH_done (by kernel_rfl) ?_ _
          go_wp2_with fail
          go_meet
          exact ⟨X, rfl, hAX, Lib.hid h5w546, Lib.hid hIw546⟩
        exact AllReadyH.nil
      exact AllReadyH.nil
    exact AllReadyH.nil
  case rest =>
    obtain ⟨X, rfl, hAX, HC, HI⟩ := hcut
    clear CB ST
    go_upto_region 3 with fail
    have hI0 : Below w.heap.size w wc.drew ∧ Cel wc.drew X (wv s1.list) := ⟨(HI.out).trans (((Still.refl wc).drewN 1).below _), (HC.out).drew⟩
    refine wp_region_held_drew (S := fun w' => Below w.heap.size w w' ∧ Cel w' X (wv s1.list)) (by kernel_rfl) hI0 (fun hI0 => ?_)
    refine wpAnyH_take (i := 0) (v := .agg (wv s1.list).toArray) rfl (by kernel_rfl) (by kernel_rfl) (by kernel_rfl) (fun _ _ _ h => h) (yieldsIf_load_mid (by rfl) 67 (.tmp 4) rfl X 0 rfl (wv s1.list) _ (fun w_ h j v hv => by rw [Nat.zero_add]; exact h.2.cell hv) Tryd.underlying67 rfl (by kernel_rfl)) hI0 ?_
    try simp only [List.getElem_toArray, List.getElem_cons_zero, List.getElem_cons_succ, Act.put, List.setIfInBounds_toArray, List.set_cons_zero, List.set_cons_succ]
    refine wpAnyH_take (i := 1) (v := ?v1t3) rfl (by kernel_rfl) (by kernel_rfl) (by kernel_rfl) (fun _ _ _ h => h) (Or.inl ⟨by rfl, ?y1t3⟩) hI0 ?z1t3
    case y1t3 => intro w_ hSw; go_simp; with_reducible rfl
    try simp only [List.getElem_toArray, List.getElem_cons_zero, List.getElem_cons_succ, Act.put, List.setIfInBounds_toArray, List.set_cons_zero, List.set_cons_succ]
    refine wpAnyH_take (i := 2) (v := ?v2t4) rfl (by kernel_rfl) (by kernel_rfl) (by kernel_rfl) (fun _ _ _ h => h) (Or.inl ⟨by rfl, ?y2t4⟩) hI0 ?z2t4
    case y2t4 => intro w_ hSw; go_simp; with_reducible rfl
    try simp only [List.getElem_toArray, List.getElem_cons_zero, List.getElem_cons_succ, Act.put, List.setIfInBounds_toArray, List.set_cons_zero, List.set_cons_succ]
    refine wpAnyH_take (i := 3) rfl (by kernel_rfl) (by kernel_rfl) (by kernel_rfl) (fun _ _ _ h => h) (yieldsIf_slice_from (by rfl) (.tmp 17) (.tmp 18) rfl _ _ _ rfl rfl SF.out) hI0 ?_
    try simp only [List.getElem_toArray, List.getElem_cons_zero, List.getElem_cons_succ, Act.put, List.setIfInBounds_toArray, List.set_cons_zero, List.set_cons_succ]
    refine wpAnyH_take (i := 4) (v := ?v4t5) rfl (by kernel_rfl) (by kernel_rfl) (by kernel_rfl) (fun _ _ _ h => h) (Or.inl ⟨by rfl, ?y4t5⟩) hI0 ?z4t5
    case y4t5 => intro w_ hSw; go_simp; with_reducible rfl
    try simp only [List.getElem_toArray, List.getElem_cons_zero, List.getElem_cons_succ, Act.put, List.setIfInBounds_toArray, List.set_cons_zero, List.set_cons_succ]
    refine wpAnyH_take (i := 5) (v := ?v5t6) rfl (by kernel_rfl) (by kernel_rfl) (by kernel_rfl) (fun _ _ _ h => h) (Or.inl ⟨by rfl, ?y5t6⟩) hI0 ?z5t6
    case y5t6 => intro w_ hSw; go_simp; with_reducible rfl
    try simp only [List.getElem_toArray, List.getElem_cons_zero, List.getElem_cons_succ, Act.put, List.setIfInBounds_toArray, List.set_cons_zero, List.set_cons_succ]
    refine wpAnyH_ready (rs := [6]) (by kernel_rfl) (by simp) ?_
    refine AllReadyH.cons rfl (fun K hK => ?_) ?_
    · go_simp
      refine ((CL.out) _ hI0.1).mono ?_
      rintro ee w6 ⟨v6, rfl, ho6, hq⟩
      have hIw6 : Below w.heap.size w w6 ∧ Cel w6 X (wv s1.list) := ⟨bel_past hI0.1 hq, hI0.2.past hq⟩
      try go_wp2_with fail
      refine hK.out _ _ hIw6 (fun _ => ?_)
      clear hK K
      try simp only [List.getElem_toArray, List.getElem_cons_zero, List.getElem_cons_succ, Act.put, List.setIfInBounds_toArray, List.set_cons_zero, List.set_cons_succ]
      refine wpAnyH_ready (rs := [7]) (by kernel_rfl) (by simp) ?_
      refine AllReadyH.cons rfl (fun K hK => ?_) ?_
      · go_simp
        refine ((CT.out) v6 _ hIw6.1 ho6.bs).mono ?_
        rintro ee w7 ⟨rfl, hq⟩
        have hIw7 : Below w.heap.size w w7 ∧ Cel w7 X (wv s1.list) := ⟨bel_past hIw6.1 hq, hIw6.2.past hq⟩
        try go_wp2_with fail
        refine hK.out _ _ hIw7 (fun _ => ?_)
        clear hK K
        try simp only [List.getElem_toArray, List.getElem_cons_zero, List.getElem_cons_succ, Act.put, List.setIfInBounds_toArray, List.set_cons_zero, List.set_cons_succ]
        refine wpAnyH_ready (rs := [8]) (by kernel_rfl) (by simp) ?_
        refine AllReadyH.cons rfl (fun K hK => ?_) ?_
        · go_simp
          refine ((CY.out) _).mono ?_
          rintro ee w8 ⟨v8, rfl, ho8, hq⟩
          have hIw8 : Below w.heap.size w w8 ∧ Cel w8 X (wv s1.list) := ⟨bel_past hIw7.1 hq, hIw7.2.past hq⟩
          have HO8 := Lib.hid (ho8.mono (hIw7.1.size))
          try go_wp2_with fail
          refine hK.out _ _ hIw8 (fun _ => ?_)
          clear hK K
          try simp only [List.getElem_toArray, List.getElem_cons_zero, List.getElem_cons_succ, Act.put, List.setIfInBounds_toArray, List.set_cons_zero, List.set_cons_succ]
          refine wpAnyH_ready (rs := [9]) (by kernel_rfl) (by simp) ?_
          refine AllReadyH.cons rfl (fun K hK => ?_) ?_
          · go_simp
            refine hK.out _ _ hIw8 (fun _ => ?_)
            clear hK K
            try simp only [List.getElem_toArray, List.getElem_cons_zero, List.getElem_cons_succ, Act.put, List.setIfInBounds_toArray, List.set_cons_zero, List.set_cons_succ]
            refine wpAnyH_done (by kernel_rfl) ?_ _
            have HB := Lib.hid hIw8.1
            clear hI0 hIw6 hIw7 hIw8 ho6 ho8
            go_wp2_with fail
            go_ret
            rw [HD.out]
            exact ⟨v8, rfl, HO8.out, HB.out⟩
          exact AllReadyH.nil
        exact AllReadyH.nil
      exact AllReadyH.nil
    exact AllReadyH.nil
end Go.Proofs.YtknkmblacaaegaaDoor
