/- Instructions are right, jump, are followed as the document tells (InsRight). -/
import Derived.Test.YtmkhcgfbeeimaaaDoorInsLaw
import Derived.Deep.RegionHeld3
namespace Go.Proofs.YtmkhcgfbeeimaaaDoor
open Go.RowKit
set_option linter.unusedVariables false
set_option linter.unusedSimpArgs false
set_option maxRecDepth 100000

theorem LendsI.shaped {l : List Ins} {w w' : World} {e : Ending} (h : LendsI l w e w') {n : Nat} (hn : l.length = n) : ∃ g, e = .returned (.slice (some ⟨g, 0, none⟩) n (n + 12)) ∧ LentI w' w.heap.size (.slice (some ⟨g, 0, none⟩) n (n + 12)) l ∧ Below w.heap.size w w' := by
  obtain ⟨v, rfl, hl, hb⟩ := h
  obtain ⟨g, rfl, h1, h2, h3⟩ := hl
  subst hn
  exact ⟨g, rfl, ⟨g, rfl, h1, h2, h3⟩, hb⟩

set_option maxHeartbeats 8000000 in
theorem insRightOf (v : Value) (z : Int) (l : List Ins) (w : World) (T : Tab w) (h : Inss w v l) (hw : ∀ j, j < l.length → InsWf (ith l j)) : Calls Tryd.prog 3 #[v, .int .i64 z] w (Says true w) := by
  obtain ⟨ao, cap, hsh⟩ := h.shape
  have H := Lib.hid h
  have hl := h.len
  subst hsh
  have HT := Lib.hid T
  have HW := Lib.hid hw
  clear h T hw
  generalize hn : l.length = n at *
  have hN := Lib.hid hn
  clear hn
  go_enter Tryd.func3, Tryd.ntmps3
  go_wp2_with fail
  refine (awake _ HT.out).mono ?_; rintro e w1 ⟨rfl, b1⟩
  have B1 := Lib.hid b1
  have H1 := Lib.hid ((H.out).past b1)
  clear b1
  by_cases hbig : 400 < n
  · have d0 : decide (400 < n) = true := by simpa using hbig
    go_wp2_with fail
    go_ret
    exact ⟨rfl, B1.out⟩
  have d0 : decide (400 < n) = false := by simpa using hbig
  have HL6 := Lib.hid (show l.length ≤ 1000000 by have := hN.out; omega)
  have HWL := Lib.hid (show ∀ j, j < l.length → InsWf (ith l j) by have := hN.out; rw [this]; exact HW.out)
  go_wp2_with fail
  go_loopw [4, 5] (fun r i wr => ∃ k : Nat, k ≤ n ∧ r = .bool false ∧ i = .int .i64 k ∧ Hid (Below w.heap.size w wr)) (fun _ i _ => n - (intOf i).toNat)
  case atStart => exact ⟨0, Nat.zero_le _, rfl, rfl, B1⟩
  case round =>
    obtain ⟨k, hk, rfl, rfl, B0⟩ := hrel
    by_cases hlt : k < n
    · have hd : decide (k < n) = true := by simpa using hlt
      have k0 : 0 ≤ (k : Int) := by omega
      have k1 : (k : Int) < (n : Int) := by omega
      obtain ⟨b, off, c, hsh, -, -, -, cells⟩ := (H.out).at (by have := hN.out; omega)
      rw [hN.out] at hsh
      obtain ⟨rfl, rfl⟩ : ao = some ⟨b, off, none⟩ ∧ cap = c := by cases hsh; exact ⟨rfl, rfl⟩
      have A8 := (cells k (by have := hN.out; omega)).past ((B0.out).drew)
      have wf := HW.out k hlt
      have RI := Lib.hid (rightP (ith l k) wf.op0 wf.op1)
      have RR := Lib.hid (refRight (ith l k))
      have JI := Lib.hid (jumpsP (ith l k))
      have JR := Lib.hid (refJumps (ith l k))
      have NP := Lib.hid (fun W (h : Inss W (.slice (some ⟨b, off, none⟩) n cap) l) => nextP _ l (k : Int) W h HL6.out HWL.out)
      have NR := Lib.hid (fun W (h : Inss W (.slice (some ⟨b, off, none⟩) n cap) l) => refNext _ l (k : Int) W h HL6.out HWL.out)
      clear cells hsh wf
      generalize right (ith l k) = rb at RI RR
      generalize jumpsI (ith l k) = jb at JI JR
      generalize nextI l (k : Int) = nl at NP NR
      generalize ith l k = x at *
      obtain ⟨xo, xn, xd, xs, xu, xf, xm, xz⟩ := x
      unfold agg at RI RR JI JR
      simp only at RI RR JI JR
      have S0 := And.intro A8.limbs ((H.out).past ((B0.out).drew))
      obtain ⟨x0, x1, x2, x3, x4, x5, x6, x7⟩ := A8
      simp only at S0
      have B0 := Lib.hid ((B0.out).drew)
      go_wp2_with fail
      refine wp_region_held_drew (S := (fun w' => (w'.cell? ⟨b, off + k * 8, none⟩ = some (.int .u8 xo) ∧ w'.cell? ⟨b, off + k * 8 + 1, none⟩ = some (.bool xn) ∧ w'.cell? ⟨b, off + k * 8 + 2, none⟩ = some (.int .i64 xd) ∧ w'.cell? ⟨b, off + k * 8 + 3, none⟩ = some (.int .i64 xs) ∧ w'.cell? ⟨b, off + k * 8 + 4, none⟩ = some (.bool xu) ∧ w'.cell? ⟨b, off + k * 8 + 5, none⟩ = some (.int .i64 xf) ∧ w'.cell? ⟨b, off + k * 8 + 6, none⟩ = some (.int .i64 xm) ∧ w'.cell? ⟨b, off + k * 8 + 7, none⟩ = some (.int .i64 xz)) ∧ Inss w' (.slice (some ⟨b, off, none⟩) n cap) l)) (by kernel_rfl) S0 (fun S0 => ?_)
      refine wpAnyH_take (i := 0) (v := ?v0t1) rfl (by kernel_rfl) (by kernel_rfl) (by kernel_rfl) (fun _ _ _ h => h) (Or.inl ⟨by rfl, ?y0t1⟩) S0 ?z0t1
      case y0t1 => intro w_ hSw; go_simp; with_reducible rfl
      try simp only [List.getElem_toArray, List.getElem_cons_zero, List.getElem_cons_succ, Act.put, List.setIfInBounds_toArray, List.set_cons_zero, List.set_cons_succ]
      refine wpAnyH_take (i := 1) (v := ?v1t2) rfl (by kernel_rfl) (by kernel_rfl) (by kernel_rfl) (fun _ _ _ h => h) (Or.inl ⟨by rfl, ?y1t2⟩) S0 ?z1t2
      case y1t2 => intro w_ hSw; go_simp; with_reducible rfl
      try simp only [List.getElem_toArray, List.getElem_cons_zero, List.getElem_cons_succ, Act.put, List.setIfInBounds_toArray, List.set_cons_zero, List.set_cons_succ]
      refine wpAnyH_take (i := 2) (v := ?v2t3) rfl (by kernel_rfl) (by kernel_rfl) (by kernel_rfl) (fun _ _ _ h => h) (Or.inl ⟨by rfl, ?y2t3⟩) S0 ?z2t3
      case y2t3 => intro w_ hSw; go_simp; with_reducible rfl
      try simp only [List.getElem_toArray, List.getElem_cons_zero, List.getElem_cons_succ, Act.put, List.setIfInBounds_toArray, List.set_cons_zero, List.set_cons_succ]
      refine wpAnyH_take (i := 3) (v := ?v3t4) rfl (by kernel_rfl) (by kernel_rfl) (by kernel_rfl) (fun _ _ _ h => h) (Or.inl ⟨by rfl, ?y3t4⟩) S0 ?z3t4
      case y3t4 => intro w_ hSw; (try dsimp only at hSw); go_simp; with_reducible rfl
      try simp only [List.getElem_toArray, List.getElem_cons_zero, List.getElem_cons_succ, Act.put, List.setIfInBounds_toArray, List.set_cons_zero, List.set_cons_succ]
      refine wpAnyH_take (i := 5) (v := ?v5t5) rfl (by kernel_rfl) (by kernel_rfl) (by kernel_rfl) (fun _ _ _ h => h) (Or.inl ⟨by rfl, ?y5t5⟩) S0 ?z5t5
      case y5t5 => intro w_ hSw; go_simp; with_reducible rfl
      try simp only [List.getElem_toArray, List.getElem_cons_zero, List.getElem_cons_succ, Act.put, List.setIfInBounds_toArray, List.set_cons_zero, List.set_cons_succ]
      refine wpAnyH_take (i := 6) (v := ?v6t6) rfl (by kernel_rfl) (by kernel_rfl) (by kernel_rfl) (fun _ _ _ h => h) (Or.inl ⟨by rfl, ?y6t6⟩) S0 ?z6t6
      case y6t6 => intro w_ hSw; go_simp; with_reducible rfl
      try simp only [List.getElem_toArray, List.getElem_cons_zero, List.getElem_cons_succ, Act.put, List.setIfInBounds_toArray, List.set_cons_zero, List.set_cons_succ]
      refine wpAnyH_take (i := 7) (v := ?v7t7) rfl (by kernel_rfl) (by kernel_rfl) (by kernel_rfl) (fun _ _ _ h => h) (Or.inl ⟨by rfl, ?y7t7⟩) S0 ?z7t7
      case y7t7 => intro w_ hSw; go_simp; with_reducible rfl
      try simp only [List.getElem_toArray, List.getElem_cons_zero, List.getElem_cons_succ, Act.put, List.setIfInBounds_toArray, List.set_cons_zero, List.set_cons_succ]
      refine wpAnyH_take (i := 8) (v := ?v8t8) rfl (by kernel_rfl) (by kernel_rfl) (by kernel_rfl) (fun _ _ _ h => h) (Or.inl ⟨by rfl, ?y8t8⟩) S0 ?z8t8
      case y8t8 => intro w_ hSw; (try dsimp only at hSw); go_simp; with_reducible rfl
      try simp only [List.getElem_toArray, List.getElem_cons_zero, List.getElem_cons_succ, Act.put, List.setIfInBounds_toArray, List.set_cons_zero, List.set_cons_succ]
      refine wpAnyH_ready (rs := [4]) (by kernel_rfl) (by simp) ?_
      refine AllReadyH.cons rfl (fun K hK => ?_) AllReadyH.nil
      go_simp
      refine ((RI.out) _).mono ?_; rintro e y1 ⟨rfl, q1⟩; have S1 := And.intro (eight_past_at S0.1 q1) (Inss.past S0.2 q1)
      have B1 := Lib.hid ((B0.out).trans (q1.mono (B0.out).size))
      try go_wp2_with fail
      refine hK.out _ _ S1 (fun _ => ?_)
      clear hK K
      try simp only [List.getElem_toArray, List.getElem_cons_zero, List.getElem_cons_succ, Act.put, List.setIfInBounds_toArray, List.set_cons_zero, List.set_cons_succ]
      refine wpAnyH_ready (rs := [9]) (by kernel_rfl) (by simp) ?_
      refine AllReadyH.cons rfl (fun K hK => ?_) AllReadyH.nil
      go_simp
      refine ((RR.out) _).mono ?_; rintro e y2 ⟨rfl, q2⟩; have S2 := And.intro (eight_past_at S1.1 q2) (Inss.past S1.2 q2)
      have B2 := Lib.hid ((B1.out).trans (q2.mono (B1.out).size))
      try go_wp2_with fail
      refine hK.out _ _ S2 (fun _ => ?_)
      clear hK K
      try simp only [List.getElem_toArray, List.getElem_cons_zero, List.getElem_cons_succ, Act.put, List.setIfInBounds_toArray, List.set_cons_zero, List.set_cons_succ]
      refine wpAnyH_take (i := 10) (v := ?v10t9) rfl (by kernel_rfl) (by kernel_rfl) (by kernel_rfl) (fun _ _ _ h => h) (Or.inl ⟨by rfl, ?y10t9⟩) S2 ?z10t9
      case y10t9 => intro w_ hSw; go_simp; with_reducible rfl
      try simp only [List.getElem_toArray, List.getElem_cons_zero, List.getElem_cons_succ, Act.put, List.setIfInBounds_toArray, List.set_cons_zero, List.set_cons_succ]
      refine wpAnyH_take (i := 11) (v := ?v11t10) rfl (by kernel_rfl) (by kernel_rfl) (by kernel_rfl) (fun _ _ _ h => h) (Or.inl ⟨by rfl, ?y11t10⟩) S2 ?z11t10
      case y11t10 => intro w_ hSw; go_simp; with_reducible rfl
      try simp only [List.getElem_toArray, List.getElem_cons_zero, List.getElem_cons_succ, Act.put, List.setIfInBounds_toArray, List.set_cons_zero, List.set_cons_succ]
      refine wpAnyH_take (i := 12) (v := ?v12t11) rfl (by kernel_rfl) (by kernel_rfl) (by kernel_rfl) (fun _ _ _ h => h) (Or.inl ⟨by rfl, ?y12t11⟩) S2 ?z12t11
      case y12t11 => intro w_ hSw; go_simp; with_reducible rfl
      try simp only [List.getElem_toArray, List.getElem_cons_zero, List.getElem_cons_succ, Act.put, List.setIfInBounds_toArray, List.set_cons_zero, List.set_cons_succ]
      refine wpAnyH_take (i := 13) (v := ?v13t12) rfl (by kernel_rfl) (by kernel_rfl) (by kernel_rfl) (fun _ _ _ h => h) (Or.inl ⟨by rfl, ?y13t12⟩) S2 ?z13t12
      case y13t12 => intro w_ hSw; go_simp; with_reducible rfl
      try simp only [List.getElem_toArray, List.getElem_cons_zero, List.getElem_cons_succ, Act.put, List.setIfInBounds_toArray, List.set_cons_zero, List.set_cons_succ]
      refine wpAnyH_take (i := 14) (v := ?v14t13) rfl (by kernel_rfl) (by kernel_rfl) (by kernel_rfl) (fun _ _ _ h => h) (Or.inl ⟨by rfl, ?y14t13⟩) S2 ?z14t13
      case y14t13 => intro w_ hSw; go_simp; with_reducible rfl
      try simp only [List.getElem_toArray, List.getElem_cons_zero, List.getElem_cons_succ, Act.put, List.setIfInBounds_toArray, List.set_cons_zero, List.set_cons_succ]
      refine wpAnyH_take (i := 15) (v := ?v15t14) rfl (by kernel_rfl) (by kernel_rfl) (by kernel_rfl) (fun _ _ _ h => h) (Or.inl ⟨by rfl, ?y15t14⟩) S2 ?z15t14
      case y15t14 => intro w_ hSw; (try dsimp only at hSw); go_simp; with_reducible rfl
      try simp only [List.getElem_toArray, List.getElem_cons_zero, List.getElem_cons_succ, Act.put, List.setIfInBounds_toArray, List.set_cons_zero, List.set_cons_succ]
      refine wpAnyH_take (i := 17) (v := ?v17t15) rfl (by kernel_rfl) (by kernel_rfl) (by kernel_rfl) (fun _ _ _ h => h) (Or.inl ⟨by rfl, ?y17t15⟩) S2 ?z17t15
      case y17t15 => intro w_ hSw; go_simp; with_reducible rfl
      try simp only [List.getElem_toArray, List.getElem_cons_zero, List.getElem_cons_succ, Act.put, List.setIfInBounds_toArray, List.set_cons_zero, List.set_cons_succ]
      refine wpAnyH_take (i := 18) (v := ?v18t16) rfl (by kernel_rfl) (by kernel_rfl) (by kernel_rfl) (fun _ _ _ h => h) (Or.inl ⟨by rfl, ?y18t16⟩) S2 ?z18t16
      case y18t16 => intro w_ hSw; go_simp; with_reducible rfl
      try simp only [List.getElem_toArray, List.getElem_cons_zero, List.getElem_cons_succ, Act.put, List.setIfInBounds_toArray, List.set_cons_zero, List.set_cons_succ]
      refine wpAnyH_take (i := 19) (v := ?v19t17) rfl (by kernel_rfl) (by kernel_rfl) (by kernel_rfl) (fun _ _ _ h => h) (Or.inl ⟨by rfl, ?y19t17⟩) S2 ?z19t17
      case y19t17 => intro w_ hSw; go_simp; with_reducible rfl
      try simp only [List.getElem_toArray, List.getElem_cons_zero, List.getElem_cons_succ, Act.put, List.setIfInBounds_toArray, List.set_cons_zero, List.set_cons_succ]
      refine wpAnyH_take (i := 20) (v := ?v20t18) rfl (by kernel_rfl) (by kernel_rfl) (by kernel_rfl) (fun _ _ _ h => h) (Or.inl ⟨by rfl, ?y20t18⟩) S2 ?z20t18
      case y20t18 => intro w_ hSw; (try dsimp only at hSw); go_simp; with_reducible rfl
      try simp only [List.getElem_toArray, List.getElem_cons_zero, List.getElem_cons_succ, Act.put, List.setIfInBounds_toArray, List.set_cons_zero, List.set_cons_succ]
      refine wpAnyH_ready (rs := [16]) (by kernel_rfl) (by simp) ?_
      refine AllReadyH.cons rfl (fun K hK => ?_) AllReadyH.nil
      go_simp
      refine ((JI.out) _).mono ?_; rintro e y3 ⟨rfl, q3⟩; have S3 := And.intro (eight_past_at S2.1 q3) (Inss.past S2.2 q3)
      have B3 := Lib.hid ((B2.out).trans (q3.mono (B2.out).size))
      try go_wp2_with fail
      refine hK.out _ _ S3 (fun _ => ?_)
      clear hK K
      try simp only [List.getElem_toArray, List.getElem_cons_zero, List.getElem_cons_succ, Act.put, List.setIfInBounds_toArray, List.set_cons_zero, List.set_cons_succ]
      refine wpAnyH_ready (rs := [21]) (by kernel_rfl) (by simp) ?_
      refine AllReadyH.cons rfl (fun K hK => ?_) AllReadyH.nil
      go_simp
      refine ((JR.out) _).mono ?_; rintro e y4 ⟨rfl, q4⟩; have S4 := And.intro (eight_past_at S3.1 q4) (Inss.past S3.2 q4)
      have B4 := Lib.hid ((B3.out).trans (q4.mono (B3.out).size))
      try go_wp2_with fail
      refine hK.out _ _ S4 (fun _ => ?_)
      clear hK K
      try simp only [List.getElem_toArray, List.getElem_cons_zero, List.getElem_cons_succ, Act.put, List.setIfInBounds_toArray, List.set_cons_zero, List.set_cons_succ]
      refine wpAnyH_take (i := 22) (v := ?v22t19) rfl (by kernel_rfl) (by kernel_rfl) (by kernel_rfl) (fun _ _ _ h => h) (Or.inl ⟨by rfl, ?y22t19⟩) S4 ?z22t19
      case y22t19 => intro w_ hSw; go_simp; with_reducible rfl
      try simp only [List.getElem_toArray, List.getElem_cons_zero, List.getElem_cons_succ, Act.put, List.setIfInBounds_toArray, List.set_cons_zero, List.set_cons_succ]
      refine wpAnyH_take (i := 23) (v := ?v23t20) rfl (by kernel_rfl) (by kernel_rfl) (by kernel_rfl) (fun _ _ _ h => h) (Or.inl ⟨by rfl, ?y23t20⟩) S4 ?z23t20
      case y23t20 => intro w_ hSw; go_simp; with_reducible rfl
      try simp only [List.getElem_toArray, List.getElem_cons_zero, List.getElem_cons_succ, Act.put, List.setIfInBounds_toArray, List.set_cons_zero, List.set_cons_succ]
      refine wpAnyH_take (i := 24) (v := ?v24t21) rfl (by kernel_rfl) (by kernel_rfl) (by kernel_rfl) (fun _ _ _ h => h) (Or.inl ⟨by rfl, ?y24t21⟩) S4 ?z24t21
      case y24t21 => intro w_ hSw; go_simp; with_reducible rfl
      try simp only [List.getElem_toArray, List.getElem_cons_zero, List.getElem_cons_succ, Act.put, List.setIfInBounds_toArray, List.set_cons_zero, List.set_cons_succ]
      refine wpAnyH_take (i := 25) (v := ?v25t22) rfl (by kernel_rfl) (by kernel_rfl) (by kernel_rfl) (fun _ _ _ h => h) (Or.inl ⟨by rfl, ?y25t22⟩) S4 ?z25t22
      case y25t22 => intro w_ hSw; go_simp; with_reducible rfl
      try simp only [List.getElem_toArray, List.getElem_cons_zero, List.getElem_cons_succ, Act.put, List.setIfInBounds_toArray, List.set_cons_zero, List.set_cons_succ]
      refine wpAnyH_take (i := 26) (v := ?v26t23) rfl (by kernel_rfl) (by kernel_rfl) (by kernel_rfl) (fun _ _ _ h => h) (Or.inl ⟨by rfl, ?y26t23⟩) S4 ?z26t23
      case y26t23 => intro w_ hSw; go_simp; with_reducible rfl
      try simp only [List.getElem_toArray, List.getElem_cons_zero, List.getElem_cons_succ, Act.put, List.setIfInBounds_toArray, List.set_cons_zero, List.set_cons_succ]
      refine wpAnyH_take (i := 28) (v := ?v28t24) rfl (by kernel_rfl) (by kernel_rfl) (by kernel_rfl) (fun _ _ _ h => h) (Or.inl ⟨by rfl, ?y28t24⟩) S4 ?z28t24
      case y28t24 => intro w_ hSw; go_simp; with_reducible rfl
      try simp only [List.getElem_toArray, List.getElem_cons_zero, List.getElem_cons_succ, Act.put, List.setIfInBounds_toArray, List.set_cons_zero, List.set_cons_succ]
      refine wpAnyH_take (i := 29) (v := ?v29t25) rfl (by kernel_rfl) (by kernel_rfl) (by kernel_rfl) (fun _ _ _ h => h) (Or.inl ⟨by rfl, ?y29t25⟩) S4 ?z29t25
      case y29t25 => intro w_ hSw; go_simp; with_reducible rfl
      try simp only [List.getElem_toArray, List.getElem_cons_zero, List.getElem_cons_succ, Act.put, List.setIfInBounds_toArray, List.set_cons_zero, List.set_cons_succ]
      refine wpAnyH_ready (rs := [27]) (by kernel_rfl) (by simp) ?_
      refine AllReadyH.cons rfl (fun K hK => ?_) AllReadyH.nil
      go_simp
      refine ((NP.out) _ S4.2).mono ?_; rintro e y5 ⟨u5, rfl, i5, q5⟩; have S5 := And.intro (eight_past_at S4.1 q5) (Inss.past S4.2 q5)
      have B5 := Lib.hid ((B4.out).trans (q5.mono (B4.out).size))
      try go_wp2_with fail
      refine hK.out _ _ S5 (fun _ => ?_)
      clear hK K
      try simp only [List.getElem_toArray, List.getElem_cons_zero, List.getElem_cons_succ, Act.put, List.setIfInBounds_toArray, List.set_cons_zero, List.set_cons_succ]
      have I5 := Lib.hid i5
      refine wpAnyH_ready (rs := [30]) (by kernel_rfl) (by simp) ?_
      refine AllReadyH.cons rfl (fun K hK => ?_) AllReadyH.nil
      go_simp
      refine ((NR.out) _ S5.2).mono ?_; rintro e y6 ⟨u6, rfl, i6, q6⟩; have S6 := And.intro (eight_past_at S5.1 q6) (Inss.past S5.2 q6)
      have B6 := Lib.hid ((B5.out).trans (q6.mono (B5.out).size))
      try go_wp2_with fail
      refine hK.out _ _ S6 (fun _ => ?_)
      clear hK K
      try simp only [List.getElem_toArray, List.getElem_cons_zero, List.getElem_cons_succ, Act.put, List.setIfInBounds_toArray, List.set_cons_zero, List.set_cons_succ]
      have I56 := Lib.hid ((I5.out).past q6)
      have I6 := Lib.hid i6
      refine wpAnyH_ready (rs := [31]) (by kernel_rfl) (by simp) ?_
      refine AllReadyH.cons rfl (fun K hK => ?_) AllReadyH.nil
      go_simp
      refine (sameInts _ _ _ _ I56.out I6.out).mono ?_; rintro e y7 ⟨rfl, st7⟩; have S7 := And.intro (eight_past_at S6.1 (st7.below _)) (Inss.past S6.2 (st7.below _))
      have B7 := Lib.hid ((B6.out).trans (st7.below w.heap.size))
      try go_wp2_with fail
      refine hK.out _ _ S7 (fun _ => ?_)
      clear hK K
      try simp only [List.getElem_toArray, List.getElem_cons_zero, List.getElem_cons_succ, Act.put, List.setIfInBounds_toArray, List.set_cons_zero, List.set_cons_succ]
      refine wpAnyH_take (i := 32) (v := ?v32t26) rfl (by kernel_rfl) (by kernel_rfl) (by kernel_rfl) (fun _ _ _ h => h) (Or.inl ⟨by rfl, ?y32t26⟩) S7 ?z32t26
      case y32t26 => intro w_ hSw; go_simp; with_reducible rfl
      try simp only [List.getElem_toArray, List.getElem_cons_zero, List.getElem_cons_succ, Act.put, List.setIfInBounds_toArray, List.set_cons_zero, List.set_cons_succ]
      refine wpAnyH_take (i := 33) (v := ?v33t27) rfl (by kernel_rfl) (by kernel_rfl) (by kernel_rfl) (fun _ _ _ h => h) (Or.inl ⟨by rfl, ?y33t27⟩) S7 ?z33t27
      case y33t27 => intro w_ hSw; go_simp; with_reducible rfl
      try simp only [List.getElem_toArray, List.getElem_cons_zero, List.getElem_cons_succ, Act.put, List.setIfInBounds_toArray, List.set_cons_zero, List.set_cons_succ]
      refine wpAnyH_done (by kernel_rfl) ?_ _
      go_wp2_with fail
      go_roundw
      case rel => exact ⟨k + 1, by omega, rfl, by go_num, B7⟩
      case measure => simp [intOf]; omega
    · have hd : decide (k < n) = false := by simpa using hlt
      have HB0 := Lib.hid ((H.out).past B0.out)
      go_wp2_with fail
      refine (lentIns _ l _ HB0.out HL6.out).mono ?_; rintro e w2 hle
      obtain ⟨g2, rfl, l2, b2⟩ := LendsI.shaped hle hN.out
      have B2 := Lib.hid ((B0.out).trans (b2.mono (B0.out).size))
      have H2 := Lib.hid ((HB0.out).past b2)
      have L2 := Lib.hid l2
      clear b2 l2 hle
      go_wp2_with fail
      refine (nextP _ l z _ (L2.out).inss HL6.out HWL.out).mono ?_; rintro e w3 ⟨u3, rfl, i3, b3⟩
      have B3 := Lib.hid ((B2.out).trans (b3.mono (B2.out).size))
      have H3 := Lib.hid ((H2.out).past b3)
      have L3 := Lib.hid ((L2.out).past b3)
      have I3 := Lib.hid i3
      clear b3 i3
      go_wp2_with fail
      refine (refNext _ l z _ H3.out HL6.out HWL.out).mono ?_; rintro e w4 ⟨u4, rfl, i4, b4⟩
      have B4 := Lib.hid ((B3.out).trans (b4.mono (B3.out).size))
      have H4 := Lib.hid ((H3.out).past b4)
      have L4 := Lib.hid ((L3.out).past b4)
      have I4 := Lib.hid ((I3.out).past b4)
      have J4 := Lib.hid i4
      clear b4 i4
      go_wp2_with fail
      refine (sameInts _ _ _ _ I4.out J4.out).mono ?_; rintro e w5 ⟨rfl, st5⟩
      have B5 := Lib.hid ((B4.out).trans (st5.below w.heap.size))
      have H5 := Lib.hid ((H4.out).past (st5.below _))
      have L5 := Lib.hid ((L4.out).past (st5.below _))
      clear st5
      go_wp2_with fail
      refine (keptIns _ _ _ l _ L5.out H5.out HL6.out).mono ?_; rintro e w6 ⟨rfl, b6⟩
      go_wp2_with fail
      go_ret
      exact ⟨rfl, (B5.out).trans (b6.mono (B5.out).size)⟩
end Go.Proofs.YtmkhcgfbeeimaaaDoor
