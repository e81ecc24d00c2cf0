/- Contracts of MacNumbers and MacFits: they tell true. -/
import Derived.Test.YtknkmblacaaegaaDoorMacLaw
namespace Go.Proofs.YtknkmblacaaegaaDoor
open Go.RowKit
set_option linter.unusedVariables false
set_option linter.unusedSimpArgs false
set_option maxRecDepth 100000

/-- The first k of the bytes 7 i + 1, then noughts. -/
def sevens (k : Nat) : List Int := ((List.range k).map fun i : Nat => (7 * (i : Int) + 1) % 256) ++ List.replicate (300 - k) 0
theorem sevens_length {k : Nat} (h : k ≤ 300) : (sevens k).length = 300 := by simp [sevens]; omega
theorem sevens_zero : sevens 0 = List.replicate 300 0 := by simp [sevens]
theorem sevens_set {k : Nat} (h : k < 300) : (sevens k).set k ((7 * (k : Int) + 1) % 256) = sevens (k + 1) := by
  unfold sevens
  obtain ⟨m, hm⟩ : ∃ m, 300 - k = m + 1 := ⟨299 - k, by omega⟩
  rw [List.set_append_right _ _ (by simp), List.length_map, List.length_range, Nat.sub_self, hm, List.replicate_succ, List.set_cons_zero, List.range_succ, show 300 - (k + 1) = m from by omega]
  simp
theorem sevens_oct (k : Nat) : Oct (sevens k) := by
  intro x hx
  simp only [sevens, List.mem_append, List.mem_map] at hx
  rcases hx with ⟨i, _, rfl⟩ | hx
  · omega
  · rw [List.eq_of_mem_replicate hx]; decide

theorem yieldsIf_slice_both {ops : Array Oper} {S : World → Prop} {op : Oper} {a : Act} (hw : Region.wanted op (yielded ops a.tmps) = true) (s lo hi : Operand) (ho : op.op = .slice 22 s (some lo) (some hi) none)
    (v l h u : Value) (hs : a.eval s = v) (hl : a.eval lo = l) (hh : a.eval hi = h) (hrun : ∀ W, (Instr.slice 22 v (some l) (some h) none).run Tryd.prog W = .ok u W) : YieldsIf Tryd.prog ops S op u a :=
  .inl ⟨hw, fun w _ => by
    have he : Tryd.prog.underlying 22 = some (.slice (Tryd.prog.elem 22)) := by kernel_rfl
    have h2 := run_sliceAt_slice (P := Tryd.prog) w 22 v (some l) (some h) none he
    rw [hrun] at h2
    simp [execOp, ho, hs, hl, hh, h2, Result.andThen]⟩

set_option maxHeartbeats 4000000 in
theorem macNumbersOf (w : World) (T : Tabs w) :
    Calls Tryd.prog 4 #[] w (Gives (.bool true) w) := by
  have HT := Lib.hid T
  have AW := Lib.hid (fun w' (hb : Below w.heap.size w w') => awakeOf w' (T.past hb))
  clear T
  obtain ⟨i5, hi5, hz5, hs5, hb5⟩ := u8info
  go_enter Tryd.func4, Tryd.ntmps4
  go_wp2_with (at_make; refine wpList_make_full _ rfl _ _ 22 rfl w.heap.size 5 i5 (.int .u8 0) 1 Tryd.underlying22 hi5 hz5 hs5 _ _ _ _ 300 rfl rfl rfl rfl (by rw [hb5]; decide) (by unfold maxLen; omega) (Nat.le_refl _) ?_)
  intro w1 ho1 hg1
  clear hi5 hz5 hs5 hb5
  rw [toList_madeCells_one] at ho1
  obtain ⟨g, hg⟩ : ∃ g, g = w.heap.size := ⟨_, rfl⟩
  have O1 : Hid (Own w1 w.heap.size (.slice (some ⟨g, 0, none⟩) 300 300) (sevens 0)) := Lib.hid (by
    rw [sevens_zero, hg]
    unfold Own
    simpa [bv] using ho1)
  have B1 := Lib.hid ((Below.refl w.heap.size w).grown hg1 (Nat.le_refl _) (fun k e => by cases e))
  rw [← hg]
  have HG := Lib.hid hg
  clear ho1 hg1 hg
  go_wp2_with fail
  go_loopw [2] (fun i wr => ∃ k : Nat, k ≤ 300 ∧ i = .int .i64 k ∧ Hid (Own wr w.heap.size (.slice (some ⟨g, 0, none⟩) 300 300) (sevens k)) ∧ Hid (Below w.heap.size w wr)) (fun i _ => 300 - (intOf i).toNat)
  case atStart => exact ⟨0, Nat.zero_le _, rfl, O1, B1⟩
  case round =>
    clear O1 B1
    obtain ⟨k, hk, rfl, O, B⟩ := hrel
    by_cases hlt : k < 300
    · have hd : decide ((k : Int) < 300) = true := by simp; omega
      obtain ⟨cg, fg⟩ := own_cells O.out
      have cgk := cg k hlt
      have fgk := fg k
      have O3 := Lib.hid (show Own (wr.setCell ⟨g, k, none⟩ (.int .u8 ((7 * (k : Int) + 1) % 256))) w.heap.size (.slice (some ⟨g, 0, none⟩) 300 300) (sevens (k + 1)) from by
        have := (O.out).stored k ((7 * (k : Int) + 1) % 256)
        rwa [sevens_set hlt] at this)
      have B3 := Lib.hid ((B.out).setCell (p := ⟨g, k, none⟩) (by have := HG.out; simp; omega) (.int .u8 ((7 * (k : Int) + 1) % 256)))
      clear cg fg O B
      go_wp2
      go_roundw
      case rel => exact ⟨k + 1, by omega, by go_num, O3, B3⟩
      case measure => simp [intOf]; omega
    · have hd : decide ((k : Int) < 300) = false := by simp; omega
      obtain rfl : k = 300 := by omega
      clear hd hlt hk AW
      go_wp2
      go_loopw [3] (fun i wr => ∃ k : Nat, k ≤ 131 ∧ i = .int .i64 k ∧ Hid (Own wr w.heap.size (.slice (some ⟨g, 0, none⟩) 300 300) (sevens 300)) ∧ Hid (Below w.heap.size w wr)) (fun i _ => 131 - (intOf i).toNat)
      case atStart => exact ⟨0, Nat.zero_le _, rfl, O, B⟩
      case round =>
        clear O B
        obtain ⟨k, hk, rfl, O, B⟩ := hrel
        by_cases hlt : k < 131
        · have hd : decide ((k : Int) ≤ 130) = true := by simp; omega
          obtain ⟨r, hr⟩ : ∃ r : Nat, r = k % 7 := ⟨_, rfl⟩
          have hrm : (k : Int).tmod 7 = (r : Int) := by rw [Int.tmod_eq_emod_of_nonneg (by omega)]; omega
          obtain ⟨k5, hk5⟩ : ∃ k5 : Nat, k5 = k + 5 := ⟨_, rfl⟩
          have hkw : IntKind.i64.wrap ((k : Int) + 5) = (k5 : Int) := by rw [IntWalk.i64_in _ (by omega)]; omega
          have SK := Lib.hid (slice_to (some ⟨g, 0, none⟩) 300 300 k (by omega))
          have SR := Lib.hid (slice_to (some ⟨g, 0, none⟩) 300 300 r (by omega))
          have S32 := Lib.hid (slice_to (some ⟨g, 0, none⟩) 300 300 32 (by omega))
          have SP : Hid (∀ W, (Instr.slice 22 (.slice (some ⟨g, 0, none⟩) 300 300) (some (.int .i64 (k : Nat))) (some (.int .i64 (k5 : Nat))) none).run Tryd.prog W = .ok (.slice (some ⟨g, k, none⟩) 5 (300 - k)) W) := Lib.hid fun W => by
            rw [hk5, slice_part (some ⟨g, 0, none⟩) 300 300 k 5 (by omega) W, if_neg (by omega)]
            simp [add_none]
          have HK5 := Lib.hid hk5
          have HR7 := Lib.hid (show r < 7 by omega)
          obtain ⟨wo, hwo⟩ : ∃ wo : World, wo = wr := ⟨_, rfl⟩
          rw [← hwo] at O B ⊢
          clear hr hk5 hwo
          go_upto_region 9 with fail
          have hI0 : Below w.heap.size w wo.drew ∧ Own wo.drew w.heap.size (.slice (some ⟨g, 0, none⟩) 300 300) (sevens 300) := ⟨(B.out).trans (((Still.refl wo).drewN 1).below _), (O.out).drewN 1⟩
          have MG := Lib.hid (fun (w' : World) (h : Below w.heap.size w w') v1 v2 v3 x1 x2 x3 h1 h2 h3 o1 o2 o3 => macTagsOf v1 v2 v3 x1 x2 x3 w' ((HT.out).past h) h1 h2 h3 o1 o2 o3)
          have hT : Hid (∀ (w' : World) (n : Nat), n ≤ 300 → Own w' w.heap.size (.slice (some ⟨g, 0, none⟩) 300 300) (sevens 300) → Bs w' (.slice (some ⟨g, 0, none⟩) n 300) ((sevens 300).take n)) := Lib.hid fun w' n hn h => h.bs.take (by rw [sevens_length (Nat.le_refl _)]; exact hn)
          have hP : Hid (∀ (w' : World), Own w' w.heap.size (.slice (some ⟨g, 0, none⟩) 300 300) (sevens 300) → Bs w' (.slice (some ⟨g, k, none⟩) 5 (300 - k)) (((sevens 300).drop k).take 5)) := Lib.hid fun w' h => by
            have h1 := h.bs.drop (n := k) (by rw [sevens_length (Nat.le_refl _)]; omega)
            rw [if_neg (by omega)] at h1
            have h2 := h1.take (n := 5) (by rw [List.length_drop, sevens_length (Nat.le_refl _)]; omega)
            simpa [add_none] using h2
          have O3 := Lib.hid (sevens_oct 300)
          refine wp_region_held_drew (S := fun w' => Below w.heap.size w w' ∧ Own w' w.heap.size (.slice (some ⟨g, 0, none⟩) 300 300) (sevens 300)) (by kernel_rfl) hI0 (fun hI0 => ?_)
          refine wpAnyH_take (i := 0) (v := ?vt0x1) rfl (by kernel_rfl) (by kernel_rfl) (by kernel_rfl) (fun _ _ _ h => h) (Or.inl ⟨by rfl, ?yt0x1⟩) hI0 ?zt0x1
          case yt0x1 => intro w_ hSw; go_simp; with_reducible rfl
          try simp only [List.getElem_toArray, List.getElem_cons_zero, List.getElem_cons_succ, Act.put, List.setIfInBounds_toArray, List.set_cons_zero, List.set_cons_succ]
          refine wpAnyH_take (i := 1) (v := ?vt1x2) rfl (by kernel_rfl) (by kernel_rfl) (by kernel_rfl) (fun _ _ _ h => h) (Or.inl ⟨by rfl, ?yt1x2⟩) hI0 ?zt1x2
          case yt1x2 => intro w_ hSw; go_simp; with_reducible rfl
          try simp only [List.getElem_toArray, List.getElem_cons_zero, List.getElem_cons_succ, Act.put, List.setIfInBounds_toArray, List.set_cons_zero, List.set_cons_succ]
          refine wpAnyH_take (i := 2) rfl (by kernel_rfl) (by kernel_rfl) (by kernel_rfl) (fun _ _ _ h => h) (yieldsIf_slice_to (by rfl) (.tmp 22) (.tmp 23) rfl _ _ _ rfl rfl SK.out) hI0 ?_
          try simp only [List.getElem_toArray, List.getElem_cons_zero, List.getElem_cons_succ, Act.put, List.setIfInBounds_toArray, List.set_cons_zero, List.set_cons_succ]
          refine wpAnyH_take (i := 3) (v := ?vt3x3) rfl (by kernel_rfl) (by kernel_rfl) (by kernel_rfl) (fun _ _ _ h => h) (Or.inl ⟨by rfl, ?yt3x3⟩) hI0 ?zt3x3
          case yt3x3 => intro w_ hSw; go_simp; with_reducible rfl
          try simp only [List.getElem_toArray, List.getElem_cons_zero, List.getElem_cons_succ, Act.put, List.setIfInBounds_toArray, List.set_cons_zero, List.set_cons_succ]
          refine wpAnyH_take (i := 4) (v := ?vt4x4) rfl (by kernel_rfl) (by kernel_rfl) (by kernel_rfl) (fun _ _ _ h => h) (Or.inl ⟨by rfl, ?yt4x4⟩) hI0 ?zt4x4
          case yt4x4 => intro w_ hSw; go_simp; with_reducible rfl
          try simp only [List.getElem_toArray, List.getElem_cons_zero, List.getElem_cons_succ, Act.put, List.setIfInBounds_toArray, List.set_cons_zero, List.set_cons_succ]
          refine wpAnyH_take (i := 5) (v := ?vt5x5) rfl (by kernel_rfl) (by kernel_rfl) (by kernel_rfl) (fun _ _ _ h => h) (Or.inl ⟨by rfl, ?yt5x5⟩) hI0 ?zt5x5
          case yt5x5 => intro w_ hSw; go_simp; with_reducible rfl
          try simp only [List.getElem_toArray, List.getElem_cons_zero, List.getElem_cons_succ, Act.put, List.setIfInBounds_toArray, List.set_cons_zero, List.set_cons_succ]
          refine wpAnyH_take (i := 6) rfl (by kernel_rfl) (by kernel_rfl) (by kernel_rfl) (fun _ _ _ h => h) (yieldsIf_slice_to (by rfl) (.tmp 25) (.tmp 27) rfl _ _ _ rfl rfl SR.out) hI0 ?_
          try simp only [List.getElem_toArray, List.getElem_cons_zero, List.getElem_cons_succ, Act.put, List.setIfInBounds_toArray, List.set_cons_zero, List.set_cons_succ]
          refine wpAnyH_ready (rs := [7]) (by kernel_rfl) (by simp) ?_
          refine AllReadyH.cons rfl (fun K hK => ?_) ?_
          · go_simp
            refine ((MG.out) _ hI0.1 _ _ _ _ _ [] ((hT.out) _ k (by omega) hI0.2) ((hT.out) _ r (by have := HR7.out; omega) hI0.2) (Bs.nil _) ((O3.out).take _) ((O3.out).take _) Oct.nil).mono ?_
            rintro ee w2 ⟨rfl, bl⟩
            have hI2 : Below w.heap.size w w2 ∧ Own w2 w.heap.size (.slice (some ⟨g, 0, none⟩) 300 300) (sevens 300) := ⟨bel_past hI0.1 bl, hI0.2.below bl (Nat.le_refl _)⟩
            clear bl
            try go_wp2_with fail
            refine hK.out _ _ hI2 (fun _ => ?_)
            clear hK K
            try simp only [List.getElem_toArray, List.getElem_cons_zero, List.getElem_cons_succ, Act.put, List.setIfInBounds_toArray, List.set_cons_zero, List.set_cons_succ]
            refine wpAnyH_take (i := 8) (v := ?vt8x6) rfl (by kernel_rfl) (by kernel_rfl) (by kernel_rfl) (fun _ _ _ h => h) (Or.inl ⟨by rfl, ?yt8x6⟩) hI2 ?zt8x6
            case yt8x6 => intro w_ hSw; go_simp; with_reducible rfl
            try simp only [List.getElem_toArray, List.getElem_cons_zero, List.getElem_cons_succ, Act.put, List.setIfInBounds_toArray, List.set_cons_zero, List.set_cons_succ]
            refine wpAnyH_take (i := 9) (v := ?vt9x7) rfl (by kernel_rfl) (by kernel_rfl) (by kernel_rfl) (fun _ _ _ h => h) (Or.inl ⟨by rfl, ?yt9x7⟩) hI2 ?zt9x7
            case yt9x7 => intro w_ hSw; go_simp; with_reducible rfl
            try simp only [List.getElem_toArray, List.getElem_cons_zero, List.getElem_cons_succ, Act.put, List.setIfInBounds_toArray, List.set_cons_zero, List.set_cons_succ]
            refine wpAnyH_take (i := 10) (v := ?vt10x8) rfl (by kernel_rfl) (by kernel_rfl) (by kernel_rfl) (fun _ _ _ h => h) (Or.inl ⟨by rfl, ?yt10x8⟩) hI2 ?zt10x8
            case yt10x8 => intro w_ hSw; go_simp; with_reducible rfl
            try simp only [List.getElem_toArray, List.getElem_cons_zero, List.getElem_cons_succ, Act.put, List.setIfInBounds_toArray, List.set_cons_zero, List.set_cons_succ]
            refine wpAnyH_take (i := 11) (v := ?vt11x9) rfl (by kernel_rfl) (by kernel_rfl) (by kernel_rfl) (fun _ _ _ h => h) (Or.inl ⟨by rfl, ?yt11x9⟩) hI2 ?zt11x9
            case yt11x9 => intro w_ hSw; go_simp; with_reducible rfl
            try simp only [List.getElem_toArray, List.getElem_cons_zero, List.getElem_cons_succ, Act.put, List.setIfInBounds_toArray, List.set_cons_zero, List.set_cons_succ]
            refine wpAnyH_take (i := 12) (v := ?vt12x10) rfl (by kernel_rfl) (by kernel_rfl) (by kernel_rfl) (fun _ _ _ h => h) (Or.inl ⟨by rfl, ?yt12x10⟩) hI2 ?zt12x10
            case yt12x10 => intro w_ hSw; go_simp; with_reducible rfl
            try simp only [List.getElem_toArray, List.getElem_cons_zero, List.getElem_cons_succ, Act.put, List.setIfInBounds_toArray, List.set_cons_zero, List.set_cons_succ]
            refine wpAnyH_take (i := 13) (v := ?vt13x11) rfl (by kernel_rfl) (by kernel_rfl) (by kernel_rfl) (fun _ _ _ h => h) (Or.inl ⟨by rfl, ?yt13x11⟩) hI2 ?zt13x11
            case yt13x11 => intro w_ hSw; go_simp; with_reducible rfl
            try simp only [List.getElem_toArray, List.getElem_cons_zero, List.getElem_cons_succ, Act.put, List.setIfInBounds_toArray, List.set_cons_zero, List.set_cons_succ]
            refine wpAnyH_take (i := 14) rfl (by kernel_rfl) (by kernel_rfl) (by kernel_rfl) (fun _ _ _ h => h) (yieldsIf_slice_both (by rfl) (.tmp 32) (.tmp 33) (.tmp 35) rfl _ _ _ _ rfl rfl rfl SP.out) hI2 ?_
            try simp only [List.getElem_toArray, List.getElem_cons_zero, List.getElem_cons_succ, Act.put, List.setIfInBounds_toArray, List.set_cons_zero, List.set_cons_succ]
            refine wpAnyH_take (i := 15) (v := ?vt15x12) rfl (by kernel_rfl) (by kernel_rfl) (by kernel_rfl) (fun _ _ _ h => h) (Or.inl ⟨by rfl, ?yt15x12⟩) hI2 ?zt15x12
            case yt15x12 => intro w_ hSw; go_simp; with_reducible rfl
            try simp only [List.getElem_toArray, List.getElem_cons_zero, List.getElem_cons_succ, Act.put, List.setIfInBounds_toArray, List.set_cons_zero, List.set_cons_succ]
            refine wpAnyH_take (i := 16) (v := ?vt16x13) rfl (by kernel_rfl) (by kernel_rfl) (by kernel_rfl) (fun _ _ _ h => h) (Or.inl ⟨by rfl, ?yt16x13⟩) hI2 ?zt16x13
            case yt16x13 => intro w_ hSw; go_simp; with_reducible rfl
            try simp only [List.getElem_toArray, List.getElem_cons_zero, List.getElem_cons_succ, Act.put, List.setIfInBounds_toArray, List.set_cons_zero, List.set_cons_succ]
            refine wpAnyH_take (i := 17) rfl (by kernel_rfl) (by kernel_rfl) (by kernel_rfl) (fun _ _ _ h => h) (yieldsIf_slice_to (by rfl) (.tmp 37) (.tmp 38) rfl _ _ _ rfl rfl SK.out) hI2 ?_
            try simp only [List.getElem_toArray, List.getElem_cons_zero, List.getElem_cons_succ, Act.put, List.setIfInBounds_toArray, List.set_cons_zero, List.set_cons_succ]
            refine wpAnyH_take (i := 18) (v := ?vt18x14) rfl (by kernel_rfl) (by kernel_rfl) (by kernel_rfl) (fun _ _ _ h => h) (Or.inl ⟨by rfl, ?yt18x14⟩) hI2 ?zt18x14
            case yt18x14 => intro w_ hSw; go_simp; with_reducible rfl
            try simp only [List.getElem_toArray, List.getElem_cons_zero, List.getElem_cons_succ, Act.put, List.setIfInBounds_toArray, List.set_cons_zero, List.set_cons_succ]
            refine wpAnyH_take (i := 19) rfl (by kernel_rfl) (by kernel_rfl) (by kernel_rfl) (fun _ _ _ h => h) (yieldsIf_slice_to (by rfl) (.tmp 40) (.const (.int .i64 32)) rfl _ _ _ rfl rfl S32.out) hI2 ?_
            try simp only [List.getElem_toArray, List.getElem_cons_zero, List.getElem_cons_succ, Act.put, List.setIfInBounds_toArray, List.set_cons_zero, List.set_cons_succ]
            refine wpAnyH_ready (rs := [20]) (by kernel_rfl) (by simp) ?_
            refine AllReadyH.cons rfl (fun K hK => ?_) ?_
            · go_simp
              refine ((MG.out) _ hI2.1 _ _ _ _ _ _ ((hP.out) _ hI2.2) ((hT.out) _ k (by omega) hI2.2) ((hT.out) _ 32 (by omega) hI2.2) (((O3.out).drop _).take _) ((O3.out).take _) ((O3.out).take _)).mono ?_
              rintro ee w3 ⟨rfl, bl⟩
              have hI3 : Below w.heap.size w w3 ∧ Own w3 w.heap.size (.slice (some ⟨g, 0, none⟩) 300 300) (sevens 300) := ⟨bel_past hI2.1 bl, hI2.2.below bl (Nat.le_refl _)⟩
              clear bl
              try go_wp2_with fail
              refine hK.out _ _ hI3 (fun _ => ?_)
              clear hK K
              try simp only [List.getElem_toArray, List.getElem_cons_zero, List.getElem_cons_succ, Act.put, List.setIfInBounds_toArray, List.set_cons_zero, List.set_cons_succ]
              refine wpAnyH_take (i := 21) (v := ?vt21x15) rfl (by kernel_rfl) (by kernel_rfl) (by kernel_rfl) (fun _ _ _ h => h) (Or.inl ⟨by rfl, ?yt21x15⟩) hI3 ?zt21x15
              case yt21x15 => intro w_ hSw; go_simp; with_reducible rfl
              try simp only [List.getElem_toArray, List.getElem_cons_zero, List.getElem_cons_succ, Act.put, List.setIfInBounds_toArray, List.set_cons_zero, List.set_cons_succ]
              refine wpAnyH_take (i := 22) (v := ?vt22x16) rfl (by kernel_rfl) (by kernel_rfl) (by kernel_rfl) (fun _ _ _ h => h) (Or.inl ⟨by rfl, ?yt22x16⟩) hI3 ?zt22x16
              case yt22x16 => intro w_ hSw; go_simp; with_reducible rfl
              try simp only [List.getElem_toArray, List.getElem_cons_zero, List.getElem_cons_succ, Act.put, List.setIfInBounds_toArray, List.set_cons_zero, List.set_cons_succ]
              refine wpAnyH_done (by kernel_rfl) ?_ _
              have B3 := Lib.hid hI3.1
              have O4 := Lib.hid hI3.2
              clear hI0 hI2 hI3 hrm hkw SK SR S32 SP MG hT hP O3
              go_wp2_with fail
              go_roundw
              case rel => (repeat apply Exists.intro); exact ⟨⟨k + 1, by omega, by go_num, O4, B3⟩, rfl⟩
              case measure => simp [intOf]; omega
            exact AllReadyH.nil
          exact AllReadyH.nil
        · have hd : decide ((k : Int) ≤ 130) = false := by simp; omega
          have MG := Lib.hid (macTagsOf (.slice none 0 0) (.slice none 0 0) (.slice none 0 0) [] [] [] wr ((HT.out).past B.out) (Bs.nil _) (Bs.nil _) (Bs.nil _) Oct.nil Oct.nil Oct.nil)
          go_wp2_with fail
          with_reducible refine (MG.out).mono ?_
          rintro e w2 ⟨rfl, bl⟩
          have B2 := Lib.hid (bel_past B.out bl)
          have AW := Lib.hid (awakeOf w2 ((HT.out).past B2.out))
          clear bl MG
          go_wp2_with fail
          with_reducible refine (AW.out).mono ?_
          rintro e w3 ⟨rfl, bl⟩
          have B3 := Lib.hid (bel_past B2.out bl)
          clear bl AW B2
          go_wp2_with fail
          go_ret
          exact ⟨rfl, B3.out⟩
end Go.Proofs.YtknkmblacaaegaaDoor
