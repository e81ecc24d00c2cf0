/- Whether rows of instructions lie apart is told rightly: imarks are written, each row is grown, all is looked at. -/
import Derived.Test.YthfkmackodbmkaaGreatDoorIrA
import Derived.Deep.RegionHeld3
import Derived.Outline
namespace Go.Proofs.YthfkmackodbmkaaGreatDoor.Ir
open Go.RowKit
set_option linter.unusedVariables false
set_option linter.unusedSimpArgs false

/-- Row k: i imarks, then what it had. -/
def part (k i : Nat) (l : List Ins) : List Ins := imarks k i ++ l.drop i
theorem part_zero (k : Nat) (l : List Ins) : part k 0 l = l := by simp [part, imarks]
theorem part_length {k i : Nat} {l : List Ins} (h : i ≤ l.length) : (part k i l).length = l.length := by simp [part, imarks_length]; omega
theorem part_set {k i : Nat} {l : List Ins} (h : i < l.length) : (part k i l).set i (imark k i) = part k (i + 1) l := by
  unfold part
  rw [List.set_append_right _ _ (by rw [imarks_length]; exact Nat.le_refl _), imarks_length, Nat.sub_self, imarks_succ, List.drop_eq_getElem_cons h, List.set_cons_zero, List.append_assoc]
  rfl
theorem part_all {k : Nat} {l : List Ins} : part k l.length l = imarks k l.length := by simp [part]

theorem sliceinfo : ∃ i, Tryz.prog.info? 23 = some i ∧ i.zero = some (.slice none 0 0) ∧ i.size = 1 ∧ i.bytes = 24 :=
  info_parts (by kernel_rfl : (Tryz.prog.info? 23).map (fun i => (i.zero, i.size, i.bytes)) = some (some (.slice none 0 0), 1, 24))

attribute [local go_sem high] eql_cells neq_cells
attribute [local go_sem] same8_self
set_option maxHeartbeats 8000000 in
set_option maxRecDepth 100000 in
theorem flatIns (bL off capL m B : Nat) (vs : Nat → Value) (n : Nat → Nat) (w : World) (hL : Lst w bL off m vs) (hR : Rowz w B vs m n) (hB : B ≤ w.heap.size) (hm : m ≤ 100000) (hn : ∀ j, j < m → n j ≤ 100000000) :
    Calls Tryz.prog 80 #[.slice (some ⟨bL, off, none⟩) m capL] w fun e w' => e = .returned (.bool true) ∧ Below B w w' ∧ Spares w w' := by
  obtain ⟨L, hLr⟩ : ∃ L : Nat → List Ins, ∀ j, j < m → (L j).length = n j ∧ OwnI w B (vs j) (L j) :=
    ⟨fun j => if h : j < m then (hR.row j h).choose else [], fun j hj => by simp only [hj, dif_pos]; exact (hR.row j hj).choose_spec⟩
  have HN := Lib.hid hn
  have HLn := Lib.hid (fun j (hj : j < m) => (hLr j hj).1)
  have S0 : St w w B vs (fun _ => .slice none 0 0) m L (fun _ => []) :=
    ⟨fun j hj => (hLr j hj).2, fun j hj => OwnI.nil _ _, (fun i j hi hj hne Y ha hb => by
      rcases ha with ha | ha
      · rcases hb with hb | hb
        · exact hR.sep i j hi hj hne Y ha hb
        · cases hb
      · cases ha), Below.refl _ _, hB, Spares.refl _⟩
  have HS0 := Lib.hid S0
  have HL0 := Lib.hid hL
  clear hLr hR hn S0 hL
  go_enter Tryz.func80, Tryz.ntmps80
  go_wp2_with fail
  go_loopw [3] (fun kk wr => ∃ (k : Nat) (C : Nat → List Ins), k ≤ m ∧ kk = .int .i64 k ∧ Hid (∀ j, j < m → C j = if j < k then imarks j (n j) else L j) ∧ Hid (St w wr B vs (fun _ => .slice none 0 0) m C (fun _ => [])) ∧ Hid (Lst wr bL off m vs)) (fun kk _ => m - (intOf kk).toNat)
  case atStart => exact ⟨0, L, Nat.zero_le _, rfl, Lib.hid (fun j hj => by simp), HS0, HL0⟩
  case round =>
    obtain ⟨k, C, hk, rfl, HC, HS, HL⟩ := hrel
    by_cases hlt : k < m
    · have hd : decide (k < m) = true := by simpa using hlt
      have hk0 : C k = L k := by have := HC.out k hlt; rw [if_neg (Nat.lt_irrefl _)] at this; exact this
      have hnk : (L k).length = n k := HLn.out k hlt
      have hnb := HN.out k hlt
      obtain ⟨ao, ck, hsh⟩ := ((HS.out).row k hlt).inss.shape
      rw [hk0, hnk] at hsh
      have HSH := Lib.hid hsh
      have HNK := Lib.hid hnk
      have HI0 : Hid (St w wr B vs (fun _ => .slice none 0 0) m (upd C k (part k 0 (L k))) (fun _ => [])) := Lib.hid ((HS.out).congr (fun _ _ => rfl) (fun j hj => by
        by_cases e : j = k
        · subst e; rw [upd_same, part_zero, hk0]
        · rw [upd_other _ _ e]) (fun _ _ => rfl))
      clear hsh hnk hk0
      go_wp2_with fail
      obtain ⟨wo, rfl⟩ : ∃ wo : World, wo = wr := ⟨_, rfl⟩
      go_loopw [4] (fun ii wi => ∃ i : Nat, i ≤ n k ∧ ii = .int .i64 i ∧ Hid (St w wi B vs (fun _ => .slice none 0 0) m (upd C k (part k i (L k))) (fun _ => [])) ∧ Hid (Lst wi bL off m vs)) (fun ii _ => n k - (intOf ii).toNat)
      case atStart => exact ⟨0, Nat.zero_le _, rfl, HI0, HL⟩
      case round =>
        obtain ⟨i, hi, rfl, HSi, HLi⟩ := hrel
        clear HI0
        have cL := (HLi.out).cell hlt
        rw [HSH.out] at cL
        by_cases hli : i < n k
        · have hdi : decide (i < n k) = true := by simpa using hli
          have hrow := (HSi.out).row k hlt
          rw [upd_same] at hrow
          have hpl : (part k i (L k)).length = n k := by rw [part_length (by rw [HNK.out]; exact hi), HNK.out]
          obtain ⟨g, c, hvk, hglt⟩ := own_pos hrow (by omega)
          rw [hpl] at hvk
          have hao : ao = some ⟨g, 0, none⟩ := by have := HSH.out; rw [hvk] at this; cases this; rfl
          have hck : ck = c := by have := HSH.out; rw [hvk] at this; cases this; rfl
          subst hao hck
          rw [hvk] at hrow
          have HR0 := Lib.hid hrow
          have HVK := Lib.hid hvk
          have hne : g ≠ bL := fun e => by
            obtain ⟨cu, hcu⟩ := own_tagAt hrow (Y := g) rfl
            exact (HLi.out).noBytes (e ▸ ⟨cu, hcu⟩)
          have hneL : bL ≠ g := fun e => hne e.symm
          clear hrow hvk hpl
          have M := fun W => Lib.hid (markIns k i (by omega) (by omega) (by omega) (by omega) W)
          have k0 : 0 ≤ (k : Int) := by omega
          have k1 : (k : Int) < (m : Int) := by omega
          have i0 : 0 ≤ (i : Int) := by omega
          have i1 : (i : Int) < (n k : Int) := by omega
          go_wp2_with fail
          refine wp_region_held_drew (S := fun w' => w'.cell? ⟨bL, off + k, none⟩ = some (.slice (some ⟨g, 0, none⟩) (n k) ck)) (by kernel_rfl) cL (fun S0 => ?_)
          refine wpAnyH_take (i := 0) (v := ?v0t1) rfl (by kernel_rfl) (by kernel_rfl) (by kernel_rfl) (fun _ _ _ h => h) (Or.inl ⟨by rfl, ?y0t1⟩) S0 ?z0t1
          case y0t1 => intro w_ hSw; go_simp; with_reducible rfl
          try simp only [List.getElem_toArray, List.getElem_cons_zero, List.getElem_cons_succ, Act.put, List.setIfInBounds_toArray, List.set_cons_zero, List.set_cons_succ]
          refine wpAnyH_take (i := 1) (v := ?v1t2) rfl (by kernel_rfl) (by kernel_rfl) (by kernel_rfl) (fun _ _ _ h => h) (Or.inl ⟨by rfl, ?y1t2⟩) S0 ?z1t2
          case y1t2 => intro w_ hSw; go_simp; with_reducible rfl
          try simp only [List.getElem_toArray, List.getElem_cons_zero, List.getElem_cons_succ, Act.put, List.setIfInBounds_toArray, List.set_cons_zero, List.set_cons_succ]
          refine wpAnyH_take (i := 2) (v := ?v2t3) rfl (by kernel_rfl) (by kernel_rfl) (by kernel_rfl) (fun _ _ _ h => h) (Or.inl ⟨by rfl, ?y2t3⟩) S0 ?z2t3
          case y2t3 => intro w_ hSw; go_simp; with_reducible rfl
          try simp only [List.getElem_toArray, List.getElem_cons_zero, List.getElem_cons_succ, Act.put, List.setIfInBounds_toArray, List.set_cons_zero, List.set_cons_succ]
          refine wpAnyH_take (i := 3) (v := ?v3t4) rfl (by kernel_rfl) (by kernel_rfl) (by kernel_rfl) (fun _ _ _ h => h) (Or.inl ⟨by rfl, ?y3t4⟩) S0 ?z3t4
          case y3t4 => intro w_ hSw; (try dsimp only at hSw); go_simp; with_reducible rfl
          try simp only [List.getElem_toArray, List.getElem_cons_zero, List.getElem_cons_succ, Act.put, List.setIfInBounds_toArray, List.set_cons_zero, List.set_cons_succ]
          refine wpAnyH_take (i := 4) (v := ?v4t5) rfl (by kernel_rfl) (by kernel_rfl) (by kernel_rfl) (fun _ _ _ h => h) (Or.inl ⟨by rfl, ?y4t5⟩) S0 ?z4t5
          case y4t5 => intro w_ hSw; go_simp; with_reducible rfl
          try simp only [List.getElem_toArray, List.getElem_cons_zero, List.getElem_cons_succ, Act.put, List.setIfInBounds_toArray, List.set_cons_zero, List.set_cons_succ]
          refine wpAnyH_take (i := 5) (v := ?v5t6) rfl (by kernel_rfl) (by kernel_rfl) (by kernel_rfl) (fun _ _ _ h => h) (Or.inl ⟨by rfl, ?y5t6⟩) S0 ?z5t6
          case y5t6 => intro w_ hSw; go_simp; with_reducible rfl
          try simp only [List.getElem_toArray, List.getElem_cons_zero, List.getElem_cons_succ, Act.put, List.setIfInBounds_toArray, List.set_cons_zero, List.set_cons_succ]
          refine wpAnyH_take (i := 6) (v := ?v6t7) rfl (by kernel_rfl) (by kernel_rfl) (by kernel_rfl) (fun _ _ _ h => h) (Or.inl ⟨by rfl, ?y6t7⟩) S0 ?z6t7
          case y6t7 => intro w_ hSw; go_simp; with_reducible rfl
          try simp only [List.getElem_toArray, List.getElem_cons_zero, List.getElem_cons_succ, Act.put, List.setIfInBounds_toArray, List.set_cons_zero, List.set_cons_succ]
          refine wpAnyH_ready (rs := [7]) (by kernel_rfl) (by simp) ?_
          refine AllReadyH.cons rfl (fun K hK => ?_) AllReadyH.nil
          go_simp
          refine ((M _).out).mono ?_; rintro e y1 ⟨rfl, q1⟩
          have S1 := cellP S0 q1
          have bD := ((Below.refl wr.heap.size wr).drew).trans q1
          have HBD := Lib.hid bD
          have HR1 := Lib.hid ((HR0.out).past bD)
          obtain ⟨cg, fg⟩ := own_at8 HR1.out
          obtain ⟨x0, x1, x2, x3, x4, x5, x6, x7⟩ := cg i hli
          have f0 := fg (i * 8)
          have f1 := fg (i * 8 + 1)
          have f2 := fg (i * 8 + 2)
          have f3 := fg (i * 8 + 3)
          have f4 := fg (i * 8 + 4)
          have f5 := fg (i * 8 + 5)
          have f6 := fg (i * 8 + 6)
          have f7 := fg (i * 8 + 7)
          clear cg fg bD q1
          try go_wp2_with fail
          refine hK.out _ _ S1 (fun _ => ?_)
          clear hK K
          try simp only [List.getElem_toArray, List.getElem_cons_zero, List.getElem_cons_succ, Act.put, List.setIfInBounds_toArray, List.set_cons_zero, List.set_cons_succ]
          refine wpAnyH_take (i := 8) (v := ?v8t8) rfl (by kernel_rfl) (by kernel_rfl) (by kernel_rfl) (fun _ _ _ h => h) (Or.inl ⟨by rfl, ?y8t8⟩) S1 ?z8t8
          case y8t8 => intro w_ hSw; go_simp; with_reducible rfl
          try simp only [List.getElem_toArray, List.getElem_cons_zero, List.getElem_cons_succ, Act.put, List.setIfInBounds_toArray, List.set_cons_zero, List.set_cons_succ]
          refine wpAnyH_ready (rs := [9]) (by kernel_rfl) (by simp) ?_
          refine AllReadyH.cons rfl (fun K hK => ?_) AllReadyH.nil
          go_simp
          refine hK.out _ _ (by go_simp) (fun _ => ?_)
          clear hK K
          try simp only [List.getElem_toArray, List.getElem_cons_zero, List.getElem_cons_succ, Act.put, List.setIfInBounds_toArray, List.set_cons_zero, List.set_cons_succ]
          refine wpAnyH_done (by kernel_rfl) ?_ _
          have HRS := Lib.hid ((HR1.out).stored i (by rw [part_length (by rw [HNK.out]; exact hi), HNK.out]; exact hli) (imark k i))
          have gB := below_grownBy HBD.out none
          have S1 := Lib.hid (((HSi.out).past gB (fun X hX => by cases hX)).write hlt (put8_grown y1 g (i * 8) (imark k i)) (fun X hX => by cases hX; left; rw [HVK.out]; rfl) (by rw [HVK.out]; exact HRS.out) (OwnI.nil _ _) (fun Y hY => by cases hY) (g' := .slice none 0 0) (d := []))
          have L1 := Lib.hid (((HLi.out).keep gB (fun X hX => by cases hX)).other (put8_grown y1 g (i * 8) (imark k i)) (fun e => hne (Option.some.inj e)))
          clear gB x0 x1 x2 x3 x4 x5 x6 x7 f0 f1 f2 f3 f4 f5 f6 f7
          have S2 := Lib.hid ((S1.out).congr (C' := upd C k (part k (i + 1) (L k))) (gs' := fun _ => .slice none 0 0) (D' := fun _ => []) (fun j hj => by rw [upd_const]) (fun j hj => by rw [upd_upd, part_set (by rw [HNK.out]; exact hli)]) (fun j hj => by rw [upd_const]))
          clear S1
          go_wp2_with fail
          go_roundw
          case rel => exact ⟨i + 1, by omega, by go_num, S2, L1⟩
          case measure => simp [intOf]; omega
        · have hdi : decide (i < n k) = false := by simpa using hli
          have hin : i = n k := by omega
          have HE := Lib.hid hin
          clear hin
          go_wp2_with fail
          go_roundw
          case rel =>
            refine ⟨k + 1, _, by omega, by go_num, Lib.hid (fun j hj => ?_), HSi, HLi⟩
            by_cases e : j = k
            · subst e
              rw [upd_same, if_pos (by omega), HE.out, ← HNK.out, part_all, HNK.out]
            · rw [upd_other _ _ e, HC.out j hj]
              by_cases h1 : j < k
              · rw [if_pos h1, if_pos (by omega)]
              · rw [if_neg h1, if_neg (by omega)]
          case measure => simp [intOf]; omega
    · have hkm : m = k := by omega
      subst hkm
      have S1 : Hid (St w wr B vs (fun _ => .slice none 0 0) m (fun j => imarks j (n j)) (fun _ => [])) := Lib.hid ((HS.out).congr (fun _ _ => rfl) (fun j hj => by have := HC.out j hj; rw [if_pos hj] at this; exact this) (fun _ _ => rfl))
      clear HS0 HL0 HLn HC HS hlt hk
      obtain ⟨i2, hi2, hz2, hs2, hb2⟩ := sliceinfo
      go_wp2_with (at_make; refine wpList_make_full _ rfl _ _ 31 rfl wr.heap.size 23 i2 (.slice none 0 0) 1 Tryz.underlying31 hi2 hz2 hs2 _ _ _ _ m rfl rfl rfl rfl (by rw [hb2]; omega) (by unfold maxLen; omega) (Nat.le_refl _) ?_)
      intro w1 ho1 hg1
      clear hi2 hz2 hs2 hb2
      have G1 : Lst w1 wr.heap.size 0 m (fun _ => .slice none 0 0) := by
        rw [toList_madeCells_one] at ho1
        exact (lst_made ho1).1
      have hbG : w.heap.size ≤ wr.heap.size := (S1.out).below.size
      have hbL : bL < wr.heap.size := (HL.out).lt
      have S2 := Lib.hid ((S1.out).past hg1 (fun X hX => by cases hX))
      have HL2 := Lib.hid ((HL.out).keep hg1 (fun X hX => by cases hX))
      have HG2 := Lib.hid G1
      clear ho1 hg1 G1 S1 HL
      generalize wr.heap.size = bG at *
      go_wp2_with fail
      obtain ⟨wo, rfl⟩ : ∃ wo : World, wo = wr := ⟨_, rfl⟩
      go_loopw [6] (fun kk wr => ∃ (k : Nat) (gs : Nat → Value) (D : Nat → List Ins), k ≤ m ∧ kk = .int .i64 k ∧ Hid (∀ j, j < k → D j = imarks j (n j + 64)) ∧ Hid (St w wr B vs gs m (fun j => imarks j (n j)) D) ∧ Hid (Lst wr bL off m vs) ∧ Hid (Lst wr bG 0 m gs)) (fun kk _ => m - (intOf kk).toNat)
      case atStart => exact ⟨0, _, _, Nat.zero_le _, rfl, Lib.hid (fun j hj => by omega), S2, HL2, HG2⟩
      case round =>
        obtain ⟨k, gs, D, hk, rfl, HD, HS, HL, HG⟩ := hrel
        clear S2 HL2 HG2
        by_cases hlt : k < m
        · have hd : decide (k < m) = true := by simpa using hlt
          have hnb := HN.out k hlt
          have hrk := (HS.out).row k hlt
          obtain ⟨ak, ck, hsh⟩ := hrk.inss.shape
          rw [imarks_length] at hsh
          have HSH := Lib.hid hsh
          have cL := (HL.out).cell hlt
          rw [hsh] at cL
          have HA := Lib.hid ((HS.out).alias hlt)
          clear hrk hsh
          go_wp2_with fail
          obtain ⟨wo2, rfl⟩ : ∃ wo2 : World, wo2 = wr := ⟨_, rfl⟩
          go_loopw [7, 8] (fun gg ii wr => ∃ (i : Nat) (ag : Option Addr) (cg : Nat), i ≤ 64 ∧ ii = .int .i64 i ∧ gg = .slice ag (n k + i) cg ∧ Hid (St w wr B vs (upd gs k (.slice ag (n k + i) cg)) m (fun j => imarks j (n j)) (upd D k (imarks k (n k + i)))) ∧ Hid (Lst wr bL off m vs) ∧ Hid (Lst wr bG 0 m gs)) (fun _ ii _ => 64 - (intOf ii).toNat)
          case atStart => exact ⟨0, ak, ck, Nat.zero_le _, rfl, rfl, Lib.hid (by have := HA.out; rw [HSH.out] at this; exact this), HL, HG⟩
          case round =>
            obtain ⟨i, ag, cg, hi, rfl, rfl, HSi, HLi, HGi⟩ := hrel
            clear cL
            have cL := (HLi.out).cell hlt
            rw [HSH.out] at cL
            by_cases hli : i < 64
            · have hdi : decide ((i : Int) < 64) = true := by simp; omega
              have M := Lib.hid (markIns k ((n k : Int) + i) (by omega) (by omega) (by omega) (by omega))
              go_wp2_with fail
              refine (M.out _).mono ?_; rintro e w' ⟨rfl, bm⟩
              have gM := below_grownBy bm none
              have HSi := Lib.hid ((HSi.out).past gM (fun X hX => by cases hX))
              have HLi := Lib.hid ((HLi.out).keep gM (fun X hX => by cases hX))
              have HGi := Lib.hid ((HGi.out).keep gM (fun X hX => by cases hX))
              have HM := Lib.hid (inss_one w' (imark k ((n k : Int) + i)))
              clear gM bm
              have hgk := (HSi.out).grw k hlt
              rw [upd_same, upd_same] at hgk
              have hgl := imarks_length k (n k + i)
              go_wp2_with (at_builtin; refine wpList_append_two _ rfl _ _ rfl B _ (imarks k (n k + i)) rfl (hgk.alloc _) _ [imark k ((n k : Int) + i)] rfl HM.out (by simp) (by rw [hgl]; simp; omega) (by have := (HSi.out).base; simp; omega) ?_)
              intro v2 w2 ho2 hG2
              have hH := ((HSi.out).alloc (.cells #[.int .u8 0, .bool false, .int .i64 0, .int .i64 0, .bool false, .int .i64 (1000003 * ((k : Int) + 7) + ((n k : Int) + i)), .int .i64 0, .int .i64 0] 47)).grow hlt (hgk.alloc _) (fun Y hY => by right; rw [upd_same]; exact hY) (by show (imarks k (n k)).length ≤ _; rw [imarks_length, imarks_length]; omega) (by show (imarks k (n k + i)).take (imarks k (n k)).length = imarks k (n k); rw [imarks_length]; exact imarks_take (by omega)) ho2 hG2
              obtain ⟨hS3, row, hg3, hrow3⟩ := hH
              have gA := World.grownBy_alloc w' (.cells #[.int .u8 0, .bool false, .int .i64 0, .int .i64 0, .bool false, .int .i64 (1000003 * ((k : Int) + 7) + ((n k : Int) + i)), .int .i64 0, .int .i64 0] 47) none
              have htag : ∀ X, row = some X → Tg (w'.alloc (.cells #[.int .u8 0, .bool false, .int .i64 0, .int .i64 0, .bool false, .int .i64 (1000003 * ((k : Int) + 7) + ((n k : Int) + i)), .int .i64 0, .int .i64 0] 47)) X := fun X hX => ((HSi.out).alloc _).at_tag hlt (hrow3 X hX)
              have L3 := Lib.hid (((HLi.out).alloc (.cells #[.int .u8 0, .bool false, .int .i64 0, .int .i64 0, .bool false, .int .i64 (1000003 * ((k : Int) + 7) + ((n k : Int) + i)), .int .i64 0, .int .i64 0] 47)).keep hg3 htag)
              have G3 := Lib.hid (((HGi.out).alloc (.cells #[.int .u8 0, .bool false, .int .i64 0, .int .i64 0, .bool false, .int .i64 (1000003 * ((k : Int) + 7) + ((n k : Int) + i)), .int .i64 0, .int .i64 0] 47)).keep hg3 htag)
              obtain ⟨ag2, cg2, hs2⟩ := ho2.inss.shape
              have hlen2 : (imarks k (n k + i) ++ [imark k ((n k : Int) + i)]).length = n k + (i + 1) := by rw [List.length_append, imarks_length]; rfl
              rw [hlen2] at hs2
              subst hs2
              have hmk : imarks k (n k + i) ++ [imark k ((n k : Int) + i)] = imarks k (n k + (i + 1)) := by
                rw [show n k + (i + 1) = (n k + i) + 1 from rfl, imarks_succ]; norm_cast
              rw [upd_upd, upd_upd, hmk] at hS3
              have H3 := Lib.hid hS3
              clear hS3 hg3 hrow3 gA htag hlen2 hmk ho2 hG2 hgk hgl HSi HLi HGi
              go_wp2_with fail
              go_roundw
              case rel => exact ⟨i + 1, ag2, cg2, by omega, by go_num, by go_num, H3, L3, G3⟩
              case measure => simp [intOf]; omega
            · have hdi : decide ((i : Int) < 64) = false := by simp; omega
              have hi64 : i = 64 := by omega
              subst hi64
              have cG := (HGi.out).cell hlt
              have fG := (HGi.out).free k
              rw [Nat.zero_add] at cG
              have gst := grownBy_setCell wr ⟨bG, k, none⟩ (.slice ag (n k + 64) cg)
              have S3 := Lib.hid ((HSi.out).past gst (fun X hX => by cases hX; exact ⟨hbG, (HGi.out).noBytes⟩))
              have L3 := Lib.hid ((HLi.out).other gst (fun e => by have : bG = bL := Option.some.inj e; omega))
              have G3 := Lib.hid ((HGi.out).set hlt (.slice ag (n k + 64) cg))
              clear gst HSi HLi HGi HA
              go_wp2_with fail
              go_roundw
              case rel =>
                refine ⟨k + 1, _, _, by omega, by go_num, Lib.hid (fun j hj => ?_), S3, L3, G3⟩
                by_cases e : j = k
                · subst e; rw [upd_same]
                · rw [upd_other _ _ e]; exact HD.out j (by omega)
              case measure => simp [intOf]; omega
        · have hkm : k = m := by omega
          have S1 : Hid (St w wr B vs gs m (fun j => imarks j (n j)) (fun j => imarks j (n j + 64))) := Lib.hid ((HS.out).congr (fun _ _ => rfl) (fun _ _ => rfl) (fun j hj => HD.out j (by omega)))
          clear HD HS hkm
          go_wp2_with fail
          obtain ⟨wo, rfl⟩ : ∃ wo : World, wo = wr := ⟨_, rfl⟩
          go_loopw [9] (fun kk wr => ∃ (q : Nat), q ≤ m ∧ kk = .int .i64 q ∧ Hid (Below wo.heap.size wo wr)) (fun kk _ => m - (intOf kk).toNat)
          case atStart => exact ⟨0, Nat.zero_le _, rfl, Lib.hid (Below.refl _ _)⟩
          case round =>
            obtain ⟨q, hq, rfl, HT⟩ := hrel
            by_cases hqm : q < m
            · have hd : decide (q < m) = true := by simpa using hqm
              have hnb := HN.out q hqm
              obtain ⟨Yq, cq, hgq, -⟩ := own_pos ((S1.out).grw q hqm) (by rw [imarks_length]; omega)
              rw [imarks_length] at hgq
              have cG0 := (HG.out).cell hqm
              rw [Nat.zero_add, hgq] at cG0
              have hrowg := (S1.out).grw q hqm
              rw [hgq] at hrowg
              have KG := Lib.hid (own_at8 hrowg).1
              obtain ⟨aq, c2q, hvq⟩ := ((S1.out).row q hqm).inss.shape
              rw [imarks_length] at hvq
              have cL0 := (HL.out).cell hqm
              rw [hvq] at cL0
              have hrowv := Lib.hid ((S1.out).row q hqm)
              have HVQ := Lib.hid hvq
              clear hrowg hgq hvq
              go_wp2_with fail
              go_loopw [10] (fun ii wr => ∃ (i : Nat), i ≤ n q + 64 ∧ ii = .int .i64 i ∧ Hid (Below wo.heap.size wo wr)) (fun ii _ => n q + 64 - (intOf ii).toNat)
              case atStart => exact ⟨0, Nat.zero_le _, rfl, HT⟩
              case round =>
                obtain ⟨i, hi, rfl, HTi⟩ := hrel
                have cG := cellP cG0 HTi.out
                have cL := cellP cL0 HTi.out
                by_cases hli : i < n q + 64
                · have hdi : decide (i < n q + 64) = true := by simpa using hli
                  have x8 := KG.out i hli
                  rw [ith_imarks hli] at x8
                  obtain ⟨x0, x1, x2, x3, x4, x5, x6, x7⟩ := x8.past HTi.out
                  simp only [imark] at x0 x1 x2 x3 x4 x5 x6 x7
                  have q0 : 0 ≤ (q : Int) := by omega
                  have q1 : (q : Int) < (m : Int) := by omega
                  have i0 : 0 ≤ (i : Int) := by omega
                  have M := fun W => Lib.hid (markIns q i (by omega) (by omega) (by omega) (by omega) W)
                  have i1 : (i : Int) < ((n q + 64 : Nat) : Int) := by omega
                  have i1' : (i : Int) < (n q : Int) + 64 := by omega
                  by_cases hlv : i < n q
                  · have hdv : decide (i < n q) = true := by simpa using hlv
                    have i2 : (i : Int) < (n q : Int) := by omega
                    have hrv := hrowv.out
                    obtain ⟨Yv, cv, hvv, -⟩ := own_pos hrv (by rw [imarks_length]; omega)
                    rw [imarks_length] at hvv
                    have haq : aq = some ⟨Yv, 0, none⟩ := by have := HVQ.out; rw [hvv] at this; cases this; rfl
                    subst haq
                    rw [hvv] at hrv
                    have v8 := (own_at8 hrv).1 i hlv
                    rw [ith_imarks hlv] at v8
                    obtain ⟨v0, v1, v2, v3, v4, v5, v6, v7⟩ := v8.past HTi.out
                    simp only [imark] at v0 v1 v2 v3 v4 v5 v6 v7
                    clear hrv hvv x8 v8
                    generalize 1000003 * ((q : Int) + 7) + (i : Int) = z at *
                    have HTd := Lib.hid ((HTi.out).drew)
                    have Hs := Lib.hid (fun (W : World) (h : (fun w' => w'.cell? ⟨bG, q, none⟩ = some (.slice (some ⟨Yq, 0, none⟩) (n q + 64) cq) ∧ w'.cell? ⟨bL, off + q, none⟩ = some (.slice (some ⟨Yv, 0, none⟩) (n q) c2q) ∧ (w'.cell? ⟨Yq, i * 8, none⟩ = some (.int .u8 0) ∧ w'.cell? ⟨Yq, i * 8 + 1, none⟩ = some (.bool false) ∧ w'.cell? ⟨Yq, i * 8 + 2, none⟩ = some (.int .i64 0) ∧ w'.cell? ⟨Yq, i * 8 + 3, none⟩ = some (.int .i64 0) ∧ w'.cell? ⟨Yq, i * 8 + 4, none⟩ = some (.bool false) ∧ w'.cell? ⟨Yq, i * 8 + 5, none⟩ = some (.int .i64 z) ∧ w'.cell? ⟨Yq, i * 8 + 6, none⟩ = some (.int .i64 0) ∧ w'.cell? ⟨Yq, i * 8 + 7, none⟩ = some (.int .i64 0)) ∧ (w'.cell? ⟨Yv, i * 8, none⟩ = some (.int .u8 0) ∧ w'.cell? ⟨Yv, i * 8 + 1, none⟩ = some (.bool false) ∧ w'.cell? ⟨Yv, i * 8 + 2, none⟩ = some (.int .i64 0) ∧ w'.cell? ⟨Yv, i * 8 + 3, none⟩ = some (.int .i64 0) ∧ w'.cell? ⟨Yv, i * 8 + 4, none⟩ = some (.bool false) ∧ w'.cell? ⟨Yv, i * 8 + 5, none⟩ = some (.int .i64 z) ∧ w'.cell? ⟨Yv, i * 8 + 6, none⟩ = some (.int .i64 0) ∧ w'.cell? ⟨Yv, i * 8 + 7, none⟩ = some (.int .i64 0))) W) => h)
                    try dsimp only at Hs
                    go_wp2_with fail
                    refine wp_region_held_drew (S := fun w' => w'.cell? ⟨bG, q, none⟩ = some (.slice (some ⟨Yq, 0, none⟩) (n q + 64) cq) ∧ w'.cell? ⟨bL, off + q, none⟩ = some (.slice (some ⟨Yv, 0, none⟩) (n q) c2q) ∧ (w'.cell? ⟨Yq, i * 8, none⟩ = some (.int .u8 0) ∧ w'.cell? ⟨Yq, i * 8 + 1, none⟩ = some (.bool false) ∧ w'.cell? ⟨Yq, i * 8 + 2, none⟩ = some (.int .i64 0) ∧ w'.cell? ⟨Yq, i * 8 + 3, none⟩ = some (.int .i64 0) ∧ w'.cell? ⟨Yq, i * 8 + 4, none⟩ = some (.bool false) ∧ w'.cell? ⟨Yq, i * 8 + 5, none⟩ = some (.int .i64 z) ∧ w'.cell? ⟨Yq, i * 8 + 6, none⟩ = some (.int .i64 0) ∧ w'.cell? ⟨Yq, i * 8 + 7, none⟩ = some (.int .i64 0)) ∧ (w'.cell? ⟨Yv, i * 8, none⟩ = some (.int .u8 0) ∧ w'.cell? ⟨Yv, i * 8 + 1, none⟩ = some (.bool false) ∧ w'.cell? ⟨Yv, i * 8 + 2, none⟩ = some (.int .i64 0) ∧ w'.cell? ⟨Yv, i * 8 + 3, none⟩ = some (.int .i64 0) ∧ w'.cell? ⟨Yv, i * 8 + 4, none⟩ = some (.bool false) ∧ w'.cell? ⟨Yv, i * 8 + 5, none⟩ = some (.int .i64 z) ∧ w'.cell? ⟨Yv, i * 8 + 6, none⟩ = some (.int .i64 0) ∧ w'.cell? ⟨Yv, i * 8 + 7, none⟩ = some (.int .i64 0))) (by kernel_rfl) ⟨cG, cL, ⟨x0, x1, x2, x3, x4, x5, x6, x7⟩, ⟨v0, v1, v2, v3, v4, v5, v6, v7⟩⟩ (fun S0 => ?_)
                    refine wpAnyH_take (i := 0) (v := ?v0t9) rfl (by kernel_rfl) (by kernel_rfl) (by kernel_rfl) (fun _ _ _ h => h) (Or.inl ⟨by rfl, ?y0t9⟩) S0 ?z0t9
                    case y0t9 => intro w_ hSw; go_simp; with_reducible rfl
                    try simp only [List.getElem_toArray, List.getElem_cons_zero, List.getElem_cons_succ, Act.put, List.setIfInBounds_toArray, List.set_cons_zero, List.set_cons_succ]
                    refine wpAnyH_take (i := 1) (v := ?v1t10) rfl (by kernel_rfl) (by kernel_rfl) (by kernel_rfl) (fun _ _ _ h => h) (Or.inl ⟨by rfl, ?y1t10⟩) S0 ?z1t10
                    case y1t10 => intro w_ hSw; go_simp; with_reducible rfl
                    try simp only [List.getElem_toArray, List.getElem_cons_zero, List.getElem_cons_succ, Act.put, List.setIfInBounds_toArray, List.set_cons_zero, List.set_cons_succ]
                    refine wpAnyH_take (i := 2) (v := ?v2t11) rfl (by kernel_rfl) (by kernel_rfl) (by kernel_rfl) (fun _ _ _ h => h) (Or.inl ⟨by rfl, ?y2t11⟩) S0 ?z2t11
                    case y2t11 => intro w_ hSw; go_simp; with_reducible rfl
                    try simp only [List.getElem_toArray, List.getElem_cons_zero, List.getElem_cons_succ, Act.put, List.setIfInBounds_toArray, List.set_cons_zero, List.set_cons_succ]
                    refine wpAnyH_take (i := 3) (v := ?v3t12) rfl (by kernel_rfl) (by kernel_rfl) (by kernel_rfl) (fun _ _ _ h => h) (Or.inl ⟨by rfl, ?y3t12⟩) S0 ?z3t12
                    case y3t12 => intro w_ hSw; (try dsimp only at hSw); go_simp; with_reducible rfl
                    try simp only [List.getElem_toArray, List.getElem_cons_zero, List.getElem_cons_succ, Act.put, List.setIfInBounds_toArray, List.set_cons_zero, List.set_cons_succ]
                    refine wpAnyH_take (i := 4) (v := ?v4t13) rfl (by kernel_rfl) (by kernel_rfl) (by kernel_rfl) (fun _ _ _ h => h) (Or.inl ⟨by rfl, ?y4t13⟩) S0 ?z4t13
                    case y4t13 => intro w_ hSw; go_simp; with_reducible rfl
                    try simp only [List.getElem_toArray, List.getElem_cons_zero, List.getElem_cons_succ, Act.put, List.setIfInBounds_toArray, List.set_cons_zero, List.set_cons_succ]
                    refine wpAnyH_take (i := 5) (v := ?v5t14) rfl (by kernel_rfl) (by kernel_rfl) (by kernel_rfl) (fun _ _ _ h => h) (Or.inl ⟨by rfl, ?y5t14⟩) S0 ?z5t14
                    case y5t14 => intro w_ hSw; go_simp; with_reducible rfl
                    try simp only [List.getElem_toArray, List.getElem_cons_zero, List.getElem_cons_succ, Act.put, List.setIfInBounds_toArray, List.set_cons_zero, List.set_cons_succ]
                    refine wpAnyH_take (i := 6) (v := ?v6t15) rfl (by kernel_rfl) (by kernel_rfl) (by kernel_rfl) (fun _ _ _ h => h) (Or.inl ⟨by rfl, ?y6t15⟩) S0 ?z6t15
                    case y6t15 => intro w_ hSw; (try dsimp only at hSw); go_simp; with_reducible rfl
                    try simp only [List.getElem_toArray, List.getElem_cons_zero, List.getElem_cons_succ, Act.put, List.setIfInBounds_toArray, List.set_cons_zero, List.set_cons_succ]
                    refine wpAnyH_take (i := 7) (v := ?v7t16) rfl (by kernel_rfl) (by kernel_rfl) (by kernel_rfl) (fun _ _ _ h => h) (Or.inl ⟨by rfl, ?y7t16⟩) S0 ?z7t16
                    case y7t16 => intro w_ hSw; go_simp; with_reducible rfl
                    try simp only [List.getElem_toArray, List.getElem_cons_zero, List.getElem_cons_succ, Act.put, List.setIfInBounds_toArray, List.set_cons_zero, List.set_cons_succ]
                    refine wpAnyH_take (i := 8) (v := ?v8t17) rfl (by kernel_rfl) (by kernel_rfl) (by kernel_rfl) (fun _ _ _ h => h) (Or.inl ⟨by rfl, ?y8t17⟩) S0 ?z8t17
                    case y8t17 => intro w_ hSw; go_simp; with_reducible rfl
                    try simp only [List.getElem_toArray, List.getElem_cons_zero, List.getElem_cons_succ, Act.put, List.setIfInBounds_toArray, List.set_cons_zero, List.set_cons_succ]
                    refine wpAnyH_ready (rs := [9]) (by kernel_rfl) (by simp) ?_
                    refine AllReadyH.cons rfl (fun K hK => ?_) AllReadyH.nil
                    go_simp
                    refine ((M _).out).mono ?_; rintro e y1 ⟨rfl, q1⟩
                    have S1 := Hs.out (y1) ⟨cellP S0.1 q1, cellP S0.2.1 q1, eight_past_at S0.2.2.1 q1, eight_past_at S0.2.2.2 q1⟩
                    have Dy1 := Lib.hid ((HTd.out).trans (q1.mono (HTd.out).size))
                    try go_wp2_with fail
                    refine hK.out _ _ S1 (fun _ => ?_)
                    clear hK K
                    try simp only [List.getElem_toArray, List.getElem_cons_zero, List.getElem_cons_succ, Act.put, List.setIfInBounds_toArray, List.set_cons_zero, List.set_cons_succ]
                    refine wpAnyH_ready (rs := [10]) (by kernel_rfl) (by simp) ?_
                    refine AllReadyH.cons rfl (fun K hK => ?_) AllReadyH.nil
                    refine step_cmp (by rfl) .eql 47 47 (.tmp 94) (.tmp 97) (by rfl) (agg ⟨0, false, 0, 0, false, z, 0, 0⟩) (agg ⟨0, false, 0, 0, false, z, 0, 0⟩) true (by rfl) (by rfl) (guard_ins _ _ _ _ _ _) (by rw [run_eql_ins]; simp) ?_
                    refine hK.out _ _ S1 (fun _ => ?_)
                    clear hK K
                    try simp only [List.getElem_toArray, List.getElem_cons_zero, List.getElem_cons_succ, Act.put, List.setIfInBounds_toArray, List.set_cons_zero, List.set_cons_succ]
                    refine wpAnyH_take (i := 11) (v := ?v11t18) rfl (by kernel_rfl) (by kernel_rfl) (by kernel_rfl) (fun _ _ _ h => h) (Or.inl ⟨by rfl, ?y11t18⟩) S1 ?z11t18
                    case y11t18 => intro w_ hSw; go_simp; with_reducible rfl
                    try simp only [List.getElem_toArray, List.getElem_cons_zero, List.getElem_cons_succ, Act.put, List.setIfInBounds_toArray, List.set_cons_zero, List.set_cons_succ]
                    refine wpAnyH_take (i := 12) (v := ?v12t19) rfl (by kernel_rfl) (by kernel_rfl) (by kernel_rfl) (fun _ _ _ h => h) (Or.inl ⟨by rfl, ?y12t19⟩) S1 ?z12t19
                    case y12t19 => intro w_ hSw; go_simp; with_reducible rfl
                    try simp only [List.getElem_toArray, List.getElem_cons_zero, List.getElem_cons_succ, Act.put, List.setIfInBounds_toArray, List.set_cons_zero, List.set_cons_succ]
                    refine wpAnyH_take (i := 13) (v := ?v13t20) rfl (by kernel_rfl) (by kernel_rfl) (by kernel_rfl) (fun _ _ _ h => h) (Or.inl ⟨by rfl, ?y13t20⟩) S1 ?z13t20
                    case y13t20 => intro w_ hSw; go_simp; with_reducible rfl
                    try simp only [List.getElem_toArray, List.getElem_cons_zero, List.getElem_cons_succ, Act.put, List.setIfInBounds_toArray, List.set_cons_zero, List.set_cons_succ]
                    refine wpAnyH_take (i := 14) (v := ?v14t21) rfl (by kernel_rfl) (by kernel_rfl) (by kernel_rfl) (fun _ _ _ h => h) (Or.inl ⟨by rfl, ?y14t21⟩) S1 ?z14t21
                    case y14t21 => intro w_ hSw; go_simp; with_reducible rfl
                    try simp only [List.getElem_toArray, List.getElem_cons_zero, List.getElem_cons_succ, Act.put, List.setIfInBounds_toArray, List.set_cons_zero, List.set_cons_succ]
                    refine wpAnyH_take (i := 15) (v := ?v15t22) rfl (by kernel_rfl) (by kernel_rfl) (by kernel_rfl) (fun _ _ _ h => h) (Or.inl ⟨by rfl, ?y15t22⟩) S1 ?z15t22
                    case y15t22 => intro w_ hSw; go_simp; with_reducible rfl
                    try simp only [List.getElem_toArray, List.getElem_cons_zero, List.getElem_cons_succ, Act.put, List.setIfInBounds_toArray, List.set_cons_zero, List.set_cons_succ]
                    refine wpAnyH_take (i := 16) (v := ?v16t23) rfl (by kernel_rfl) (by kernel_rfl) (by kernel_rfl) (fun _ _ _ h => h) (Or.inl ⟨by rfl, ?y16t23⟩) S1 ?z16t23
                    case y16t23 => intro w_ hSw; go_simp; with_reducible rfl
                    try simp only [List.getElem_toArray, List.getElem_cons_zero, List.getElem_cons_succ, Act.put, List.setIfInBounds_toArray, List.set_cons_zero, List.set_cons_succ]
                    refine wpAnyH_take (i := 17) (v := ?v17t24) rfl (by kernel_rfl) (by kernel_rfl) (by kernel_rfl) (fun _ _ _ h => h) (Or.inl ⟨by rfl, ?y17t24⟩) S1 ?z17t24
                    case y17t24 => intro w_ hSw; (try dsimp only at hSw); go_simp; with_reducible rfl
                    try simp only [List.getElem_toArray, List.getElem_cons_zero, List.getElem_cons_succ, Act.put, List.setIfInBounds_toArray, List.set_cons_zero, List.set_cons_succ]
                    refine wpAnyH_take (i := 18) (v := ?v18t25) rfl (by kernel_rfl) (by kernel_rfl) (by kernel_rfl) (fun _ _ _ h => h) (Or.inl ⟨by rfl, ?y18t25⟩) S1 ?z18t25
                    case y18t25 => intro w_ hSw; go_simp; with_reducible rfl
                    try simp only [List.getElem_toArray, List.getElem_cons_zero, List.getElem_cons_succ, Act.put, List.setIfInBounds_toArray, List.set_cons_zero, List.set_cons_succ]
                    refine wpAnyH_take (i := 19) (v := ?v19t26) rfl (by kernel_rfl) (by kernel_rfl) (by kernel_rfl) (fun _ _ _ h => h) (Or.inl ⟨by rfl, ?y19t26⟩) S1 ?z19t26
                    case y19t26 => intro w_ hSw; go_simp; with_reducible rfl
                    try simp only [List.getElem_toArray, List.getElem_cons_zero, List.getElem_cons_succ, Act.put, List.setIfInBounds_toArray, List.set_cons_zero, List.set_cons_succ]
                    refine wpAnyH_take (i := 20) (v := ?v20t27) rfl (by kernel_rfl) (by kernel_rfl) (by kernel_rfl) (fun _ _ _ h => h) (Or.inl ⟨by rfl, ?y20t27⟩) S1 ?z20t27
                    case y20t27 => intro w_ hSw; go_simp; with_reducible rfl
                    try simp only [List.getElem_toArray, List.getElem_cons_zero, List.getElem_cons_succ, Act.put, List.setIfInBounds_toArray, List.set_cons_zero, List.set_cons_succ]
                    refine wpAnyH_take (i := 21) (v := ?v21t28) rfl (by kernel_rfl) (by kernel_rfl) (by kernel_rfl) (fun _ _ _ h => h) (Or.inl ⟨by rfl, ?y21t28⟩) S1 ?z21t28
                    case y21t28 => intro w_ hSw; go_simp; with_reducible rfl
                    try simp only [List.getElem_toArray, List.getElem_cons_zero, List.getElem_cons_succ, Act.put, List.setIfInBounds_toArray, List.set_cons_zero, List.set_cons_succ]
                    refine wpAnyH_take (i := 22) (v := ?v22t29) rfl (by kernel_rfl) (by kernel_rfl) (by kernel_rfl) (fun _ _ _ h => h) (Or.inl ⟨by rfl, ?y22t29⟩) S1 ?z22t29
                    case y22t29 => intro w_ hSw; go_simp; with_reducible rfl
                    try simp only [List.getElem_toArray, List.getElem_cons_zero, List.getElem_cons_succ, Act.put, List.setIfInBounds_toArray, List.set_cons_zero, List.set_cons_succ]
                    refine wpAnyH_take (i := 23) (v := ?v23t30) rfl (by kernel_rfl) (by kernel_rfl) (by kernel_rfl) (fun _ _ _ h => h) (Or.inl ⟨by rfl, ?y23t30⟩) S1 ?z23t30
                    case y23t30 => intro w_ hSw; go_simp; with_reducible rfl
                    try simp only [List.getElem_toArray, List.getElem_cons_zero, List.getElem_cons_succ, Act.put, List.setIfInBounds_toArray, List.set_cons_zero, List.set_cons_succ]
                    refine wpAnyH_take (i := 24) (v := ?v24t31) rfl (by kernel_rfl) (by kernel_rfl) (by kernel_rfl) (fun _ _ _ h => h) (Or.inl ⟨by rfl, ?y24t31⟩) S1 ?z24t31
                    case y24t31 => intro w_ hSw; (try dsimp only at hSw); go_simp; with_reducible rfl
                    try simp only [List.getElem_toArray, List.getElem_cons_zero, List.getElem_cons_succ, Act.put, List.setIfInBounds_toArray, List.set_cons_zero, List.set_cons_succ]
                    refine wpAnyH_take (i := 25) (v := ?v25t32) rfl (by kernel_rfl) (by kernel_rfl) (by kernel_rfl) (fun _ _ _ h => h) (Or.inl ⟨by rfl, ?y25t32⟩) S1 ?z25t32
                    case y25t32 => intro w_ hSw; go_simp; with_reducible rfl
                    try simp only [List.getElem_toArray, List.getElem_cons_zero, List.getElem_cons_succ, Act.put, List.setIfInBounds_toArray, List.set_cons_zero, List.set_cons_succ]
                    refine wpAnyH_take (i := 26) (v := ?v26t33) rfl (by kernel_rfl) (by kernel_rfl) (by kernel_rfl) (fun _ _ _ h => h) (Or.inl ⟨by rfl, ?y26t33⟩) S1 ?z26t33
                    case y26t33 => intro w_ hSw; go_simp; with_reducible rfl
                    try simp only [List.getElem_toArray, List.getElem_cons_zero, List.getElem_cons_succ, Act.put, List.setIfInBounds_toArray, List.set_cons_zero, List.set_cons_succ]
                    refine wpAnyH_take (i := 27) (v := ?v27t34) rfl (by kernel_rfl) (by kernel_rfl) (by kernel_rfl) (fun _ _ _ h => h) (Or.inl ⟨by rfl, ?y27t34⟩) S1 ?z27t34
                    case y27t34 => intro w_ hSw; (try dsimp only at hSw); go_simp; with_reducible rfl
                    try simp only [List.getElem_toArray, List.getElem_cons_zero, List.getElem_cons_succ, Act.put, List.setIfInBounds_toArray, List.set_cons_zero, List.set_cons_succ]
                    refine wpAnyH_take (i := 28) (v := ?v28t35) rfl (by kernel_rfl) (by kernel_rfl) (by kernel_rfl) (fun _ _ _ h => h) (Or.inl ⟨by rfl, ?y28t35⟩) S1 ?z28t35
                    case y28t35 => intro w_ hSw; go_simp; with_reducible rfl
                    try simp only [List.getElem_toArray, List.getElem_cons_zero, List.getElem_cons_succ, Act.put, List.setIfInBounds_toArray, List.set_cons_zero, List.set_cons_succ]
                    refine wpAnyH_take (i := 29) (v := ?v29t36) rfl (by kernel_rfl) (by kernel_rfl) (by kernel_rfl) (fun _ _ _ h => h) (Or.inl ⟨by rfl, ?y29t36⟩) S1 ?z29t36
                    case y29t36 => intro w_ hSw; go_simp; with_reducible rfl
                    try simp only [List.getElem_toArray, List.getElem_cons_zero, List.getElem_cons_succ, Act.put, List.setIfInBounds_toArray, List.set_cons_zero, List.set_cons_succ]
                    refine wpAnyH_ready (rs := [30]) (by kernel_rfl) (by simp) ?_
                    refine AllReadyH.cons rfl (fun K hK => ?_) AllReadyH.nil
                    go_simp
                    refine ((M _).out).mono ?_; rintro e y2 ⟨rfl, q2⟩
                    have S2 := Hs.out (y2) ⟨cellP S1.1 q2, cellP S1.2.1 q2, eight_past_at S1.2.2.1 q2, eight_past_at S1.2.2.2 q2⟩
                    have Dy2 := Lib.hid ((Dy1.out).trans (q2.mono (Dy1.out).size))
                    try go_wp2_with fail
                    refine hK.out _ _ S2 (fun _ => ?_)
                    clear hK K
                    try simp only [List.getElem_toArray, List.getElem_cons_zero, List.getElem_cons_succ, Act.put, List.setIfInBounds_toArray, List.set_cons_zero, List.set_cons_succ]
                    refine wpAnyH_ready (rs := [31]) (by kernel_rfl) (by simp) ?_
                    refine AllReadyH.cons rfl (fun K hK => ?_) AllReadyH.nil
                    refine step_cmp (by rfl) .eql 47 47 (.tmp 115) (.tmp 118) (by rfl) (agg ⟨0, false, 0, 0, false, z, 0, 0⟩) (agg ⟨0, false, 0, 0, false, z, 0, 0⟩) true (by rfl) (by rfl) (guard_ins _ _ _ _ _ _) (by rw [run_eql_ins]; simp) ?_
                    refine hK.out _ _ S2 (fun _ => ?_)
                    clear hK K
                    try simp only [List.getElem_toArray, List.getElem_cons_zero, List.getElem_cons_succ, Act.put, List.setIfInBounds_toArray, List.set_cons_zero, List.set_cons_succ]
                    refine wpAnyH_take (i := 32) (v := ?v32t37) rfl (by kernel_rfl) (by kernel_rfl) (by kernel_rfl) (fun _ _ _ h => h) (Or.inl ⟨by rfl, ?y32t37⟩) S2 ?z32t37
                    case y32t37 => intro w_ hSw; go_simp; with_reducible rfl
                    try simp only [List.getElem_toArray, List.getElem_cons_zero, List.getElem_cons_succ, Act.put, List.setIfInBounds_toArray, List.set_cons_zero, List.set_cons_succ]
                    refine wpAnyH_take (i := 33) (v := ?v33t38) rfl (by kernel_rfl) (by kernel_rfl) (by kernel_rfl) (fun _ _ _ h => h) (Or.inl ⟨by rfl, ?y33t38⟩) S2 ?z33t38
                    case y33t38 => intro w_ hSw; go_simp; with_reducible rfl
                    try simp only [List.getElem_toArray, List.getElem_cons_zero, List.getElem_cons_succ, Act.put, List.setIfInBounds_toArray, List.set_cons_zero, List.set_cons_succ]
                    refine wpAnyH_take (i := 34) (v := ?v34t39) rfl (by kernel_rfl) (by kernel_rfl) (by kernel_rfl) (fun _ _ _ h => h) (Or.inl ⟨by rfl, ?y34t39⟩) S2 ?z34t39
                    case y34t39 => intro w_ hSw; go_simp; with_reducible rfl
                    try simp only [List.getElem_toArray, List.getElem_cons_zero, List.getElem_cons_succ, Act.put, List.setIfInBounds_toArray, List.set_cons_zero, List.set_cons_succ]
                    refine wpAnyH_done (by kernel_rfl) ?_ _
                    go_wp2_with fail
                    go_roundw
                    case rel => exact ⟨i + 1, by omega, by go_num, Dy2⟩
                    case measure => simp [intOf]; omega
                  · have hdv : decide (i < n q) = false := by simpa using hlv
                    clear x8
                    generalize 1000003 * ((q : Int) + 7) + (i : Int) = z at *
                    have HTd := Lib.hid ((HTi.out).drew)
                    have Hs := Lib.hid (fun (W : World) (h : (fun w' => w'.cell? ⟨bG, q, none⟩ = some (.slice (some ⟨Yq, 0, none⟩) (n q + 64) cq) ∧ w'.cell? ⟨bL, off + q, none⟩ = some (.slice (aq) (n q) c2q) ∧ (w'.cell? ⟨Yq, i * 8, none⟩ = some (.int .u8 0) ∧ w'.cell? ⟨Yq, i * 8 + 1, none⟩ = some (.bool false) ∧ w'.cell? ⟨Yq, i * 8 + 2, none⟩ = some (.int .i64 0) ∧ w'.cell? ⟨Yq, i * 8 + 3, none⟩ = some (.int .i64 0) ∧ w'.cell? ⟨Yq, i * 8 + 4, none⟩ = some (.bool false) ∧ w'.cell? ⟨Yq, i * 8 + 5, none⟩ = some (.int .i64 z) ∧ w'.cell? ⟨Yq, i * 8 + 6, none⟩ = some (.int .i64 0) ∧ w'.cell? ⟨Yq, i * 8 + 7, none⟩ = some (.int .i64 0))) W) => h)
                    try dsimp only at Hs
                    go_wp2_with fail
                    refine wp_region_held_drew (S := fun w' => w'.cell? ⟨bG, q, none⟩ = some (.slice (some ⟨Yq, 0, none⟩) (n q + 64) cq) ∧ w'.cell? ⟨bL, off + q, none⟩ = some (.slice (aq) (n q) c2q) ∧ (w'.cell? ⟨Yq, i * 8, none⟩ = some (.int .u8 0) ∧ w'.cell? ⟨Yq, i * 8 + 1, none⟩ = some (.bool false) ∧ w'.cell? ⟨Yq, i * 8 + 2, none⟩ = some (.int .i64 0) ∧ w'.cell? ⟨Yq, i * 8 + 3, none⟩ = some (.int .i64 0) ∧ w'.cell? ⟨Yq, i * 8 + 4, none⟩ = some (.bool false) ∧ w'.cell? ⟨Yq, i * 8 + 5, none⟩ = some (.int .i64 z) ∧ w'.cell? ⟨Yq, i * 8 + 6, none⟩ = some (.int .i64 0) ∧ w'.cell? ⟨Yq, i * 8 + 7, none⟩ = some (.int .i64 0))) (by kernel_rfl) ⟨cG, cL, ⟨x0, x1, x2, x3, x4, x5, x6, x7⟩⟩ (fun S0 => ?_)
                    refine wpAnyH_take (i := 0) (v := ?v0t40) rfl (by kernel_rfl) (by kernel_rfl) (by kernel_rfl) (fun _ _ _ h => h) (Or.inl ⟨by rfl, ?y0t40⟩) S0 ?z0t40
                    case y0t40 => intro w_ hSw; go_simp; with_reducible rfl
                    try simp only [List.getElem_toArray, List.getElem_cons_zero, List.getElem_cons_succ, Act.put, List.setIfInBounds_toArray, List.set_cons_zero, List.set_cons_succ]
                    refine wpAnyH_take (i := 1) (v := ?v1t41) rfl (by kernel_rfl) (by kernel_rfl) (by kernel_rfl) (fun _ _ _ h => h) (Or.inl ⟨by rfl, ?y1t41⟩) S0 ?z1t41
                    case y1t41 => intro w_ hSw; go_simp; with_reducible rfl
                    try simp only [List.getElem_toArray, List.getElem_cons_zero, List.getElem_cons_succ, Act.put, List.setIfInBounds_toArray, List.set_cons_zero, List.set_cons_succ]
                    refine wpAnyH_take (i := 2) (v := ?v2t42) rfl (by kernel_rfl) (by kernel_rfl) (by kernel_rfl) (fun _ _ _ h => h) (Or.inl ⟨by rfl, ?y2t42⟩) S0 ?z2t42
                    case y2t42 => intro w_ hSw; go_simp; with_reducible rfl
                    try simp only [List.getElem_toArray, List.getElem_cons_zero, List.getElem_cons_succ, Act.put, List.setIfInBounds_toArray, List.set_cons_zero, List.set_cons_succ]
                    refine wpAnyH_take (i := 3) (v := ?v3t43) rfl (by kernel_rfl) (by kernel_rfl) (by kernel_rfl) (fun _ _ _ h => h) (Or.inl ⟨by rfl, ?y3t43⟩) S0 ?z3t43
                    case y3t43 => intro w_ hSw; (try dsimp only at hSw); go_simp; with_reducible rfl
                    try simp only [List.getElem_toArray, List.getElem_cons_zero, List.getElem_cons_succ, Act.put, List.setIfInBounds_toArray, List.set_cons_zero, List.set_cons_succ]
                    refine wpAnyH_take (i := 4) (v := ?v4t44) rfl (by kernel_rfl) (by kernel_rfl) (by kernel_rfl) (fun _ _ _ h => h) (Or.inl ⟨by rfl, ?y4t44⟩) S0 ?z4t44
                    case y4t44 => intro w_ hSw; go_simp; with_reducible rfl
                    try simp only [List.getElem_toArray, List.getElem_cons_zero, List.getElem_cons_succ, Act.put, List.setIfInBounds_toArray, List.set_cons_zero, List.set_cons_succ]
                    refine wpAnyH_take (i := 5) (v := ?v5t45) rfl (by kernel_rfl) (by kernel_rfl) (by kernel_rfl) (fun _ _ _ h => h) (Or.inl ⟨by rfl, ?y5t45⟩) S0 ?z5t45
                    case y5t45 => intro w_ hSw; go_simp; with_reducible rfl
                    try simp only [List.getElem_toArray, List.getElem_cons_zero, List.getElem_cons_succ, Act.put, List.setIfInBounds_toArray, List.set_cons_zero, List.set_cons_succ]
                    refine wpAnyH_take (i := 6) (v := ?v6t46) rfl (by kernel_rfl) (by kernel_rfl) (by kernel_rfl) (fun _ _ _ h => h) (Or.inl ⟨by rfl, ?y6t46⟩) S0 ?z6t46
                    case y6t46 => intro w_ hSw; (try dsimp only at hSw); go_simp; with_reducible rfl
                    try simp only [List.getElem_toArray, List.getElem_cons_zero, List.getElem_cons_succ, Act.put, List.setIfInBounds_toArray, List.set_cons_zero, List.set_cons_succ]
                    refine wpAnyH_take (i := 7) (v := ?v7t47) rfl (by kernel_rfl) (by kernel_rfl) (by kernel_rfl) (fun _ _ _ h => h) (Or.inl ⟨by rfl, ?y7t47⟩) S0 ?z7t47
                    case y7t47 => intro w_ hSw; go_simp; with_reducible rfl
                    try simp only [List.getElem_toArray, List.getElem_cons_zero, List.getElem_cons_succ, Act.put, List.setIfInBounds_toArray, List.set_cons_zero, List.set_cons_succ]
                    refine wpAnyH_take (i := 8) (v := ?v8t48) rfl (by kernel_rfl) (by kernel_rfl) (by kernel_rfl) (fun _ _ _ h => h) (Or.inl ⟨by rfl, ?y8t48⟩) S0 ?z8t48
                    case y8t48 => intro w_ hSw; go_simp; with_reducible rfl
                    try simp only [List.getElem_toArray, List.getElem_cons_zero, List.getElem_cons_succ, Act.put, List.setIfInBounds_toArray, List.set_cons_zero, List.set_cons_succ]
                    refine wpAnyH_ready (rs := [9]) (by kernel_rfl) (by simp) ?_
                    refine AllReadyH.cons rfl (fun K hK => ?_) AllReadyH.nil
                    go_simp
                    refine ((M _).out).mono ?_; rintro e y1 ⟨rfl, q1⟩
                    have S1 := Hs.out (y1) ⟨cellP S0.1 q1, cellP S0.2.1 q1, eight_past_at S0.2.2 q1⟩
                    have Dy1 := Lib.hid ((HTd.out).trans (q1.mono (HTd.out).size))
                    try go_wp2_with fail
                    refine hK.out _ _ S1 (fun _ => ?_)
                    clear hK K
                    try simp only [List.getElem_toArray, List.getElem_cons_zero, List.getElem_cons_succ, Act.put, List.setIfInBounds_toArray, List.set_cons_zero, List.set_cons_succ]
                    refine wpAnyH_ready (rs := [10]) (by kernel_rfl) (by simp) ?_
                    refine AllReadyH.cons rfl (fun K hK => ?_) AllReadyH.nil
                    refine step_cmp (by rfl) .eql 47 47 (.tmp 94) (.tmp 97) (by rfl) (agg ⟨0, false, 0, 0, false, z, 0, 0⟩) (agg ⟨0, false, 0, 0, false, z, 0, 0⟩) true (by rfl) (by rfl) (guard_ins _ _ _ _ _ _) (by rw [run_eql_ins]; simp) ?_
                    refine hK.out _ _ S1 (fun _ => ?_)
                    clear hK K
                    try simp only [List.getElem_toArray, List.getElem_cons_zero, List.getElem_cons_succ, Act.put, List.setIfInBounds_toArray, List.set_cons_zero, List.set_cons_succ]
                    refine wpAnyH_take (i := 11) (v := ?v11t49) rfl (by kernel_rfl) (by kernel_rfl) (by kernel_rfl) (fun _ _ _ h => h) (Or.inl ⟨by rfl, ?y11t49⟩) S1 ?z11t49
                    case y11t49 => intro w_ hSw; go_simp; with_reducible rfl
                    try simp only [List.getElem_toArray, List.getElem_cons_zero, List.getElem_cons_succ, Act.put, List.setIfInBounds_toArray, List.set_cons_zero, List.set_cons_succ]
                    refine wpAnyH_take (i := 12) (v := ?v12t50) rfl (by kernel_rfl) (by kernel_rfl) (by kernel_rfl) (fun _ _ _ h => h) (Or.inl ⟨by rfl, ?y12t50⟩) S1 ?z12t50
                    case y12t50 => intro w_ hSw; go_simp; with_reducible rfl
                    try simp only [List.getElem_toArray, List.getElem_cons_zero, List.getElem_cons_succ, Act.put, List.setIfInBounds_toArray, List.set_cons_zero, List.set_cons_succ]
                    refine wpAnyH_take (i := 13) (v := ?v13t51) rfl (by kernel_rfl) (by kernel_rfl) (by kernel_rfl) (fun _ _ _ h => h) (Or.inl ⟨by rfl, ?y13t51⟩) S1 ?z13t51
                    case y13t51 => intro w_ hSw; go_simp; with_reducible rfl
                    try simp only [List.getElem_toArray, List.getElem_cons_zero, List.getElem_cons_succ, Act.put, List.setIfInBounds_toArray, List.set_cons_zero, List.set_cons_succ]
                    refine wpAnyH_take (i := 14) (v := ?v14t52) rfl (by kernel_rfl) (by kernel_rfl) (by kernel_rfl) (fun _ _ _ h => h) (Or.inl ⟨by rfl, ?y14t52⟩) S1 ?z14t52
                    case y14t52 => intro w_ hSw; go_simp; with_reducible rfl
                    try simp only [List.getElem_toArray, List.getElem_cons_zero, List.getElem_cons_succ, Act.put, List.setIfInBounds_toArray, List.set_cons_zero, List.set_cons_succ]
                    refine wpAnyH_take (i := 15) (v := ?v15t53) rfl (by kernel_rfl) (by kernel_rfl) (by kernel_rfl) (fun _ _ _ h => h) (Or.inl ⟨by rfl, ?y15t53⟩) S1 ?z15t53
                    case y15t53 => intro w_ hSw; go_simp; with_reducible rfl
                    try simp only [List.getElem_toArray, List.getElem_cons_zero, List.getElem_cons_succ, Act.put, List.setIfInBounds_toArray, List.set_cons_zero, List.set_cons_succ]
                    refine wpAnyH_take (i := 16) (v := ?v16t54) rfl (by kernel_rfl) (by kernel_rfl) (by kernel_rfl) (fun _ _ _ h => h) (Or.inl ⟨by rfl, ?y16t54⟩) S1 ?z16t54
                    case y16t54 => intro w_ hSw; go_simp; with_reducible rfl
                    try simp only [List.getElem_toArray, List.getElem_cons_zero, List.getElem_cons_succ, Act.put, List.setIfInBounds_toArray, List.set_cons_zero, List.set_cons_succ]
                    refine wpAnyH_take (i := 17) (v := ?v17t55) rfl (by kernel_rfl) (by kernel_rfl) (by kernel_rfl) (fun _ _ _ h => h) (Or.inl ⟨by rfl, ?y17t55⟩) S1 ?z17t55
                    case y17t55 => intro w_ hSw; (try dsimp only at hSw); go_simp; with_reducible rfl
                    try simp only [List.getElem_toArray, List.getElem_cons_zero, List.getElem_cons_succ, Act.put, List.setIfInBounds_toArray, List.set_cons_zero, List.set_cons_succ]
                    refine wpAnyH_take (i := 18) (v := ?v18t56) rfl (by kernel_rfl) (by kernel_rfl) (by kernel_rfl) (fun _ _ _ h => h) (Or.inl ⟨by rfl, ?y18t56⟩) S1 ?z18t56
                    case y18t56 => intro w_ hSw; go_simp; with_reducible rfl
                    try simp only [List.getElem_toArray, List.getElem_cons_zero, List.getElem_cons_succ, Act.put, List.setIfInBounds_toArray, List.set_cons_zero, List.set_cons_succ]
                    refine wpAnyH_take (i := 19) (v := ?v19t57) rfl (by kernel_rfl) (by kernel_rfl) (by kernel_rfl) (fun _ _ _ h => h) (Or.inl ⟨by rfl, ?y19t57⟩) S1 ?z19t57
                    case y19t57 => intro w_ hSw; go_simp; with_reducible rfl
                    try simp only [List.getElem_toArray, List.getElem_cons_zero, List.getElem_cons_succ, Act.put, List.setIfInBounds_toArray, List.set_cons_zero, List.set_cons_succ]
                    refine wpAnyH_take (i := 20) (v := ?v20t58) rfl (by kernel_rfl) (by kernel_rfl) (by kernel_rfl) (fun _ _ _ h => h) (Or.inl ⟨by rfl, ?y20t58⟩) S1 ?z20t58
                    case y20t58 => intro w_ hSw; go_simp; with_reducible rfl
                    try simp only [List.getElem_toArray, List.getElem_cons_zero, List.getElem_cons_succ, Act.put, List.setIfInBounds_toArray, List.set_cons_zero, List.set_cons_succ]
                    refine wpAnyH_take (i := 21) (v := undef) rfl (by kernel_rfl) (by kernel_rfl) (by kernel_rfl) (fun _ _ _ h => h) (Or.inr ⟨by rfl, rfl⟩) S1 ?_
                    try simp only [List.getElem_toArray, List.getElem_cons_zero, List.getElem_cons_succ, Act.put, List.setIfInBounds_toArray, List.set_cons_zero, List.set_cons_succ]
                    refine wpAnyH_take (i := 22) (v := undef) rfl (by kernel_rfl) (by kernel_rfl) (by kernel_rfl) (fun _ _ _ h => h) (Or.inr ⟨by rfl, rfl⟩) S1 ?_
                    try simp only [List.getElem_toArray, List.getElem_cons_zero, List.getElem_cons_succ, Act.put, List.setIfInBounds_toArray, List.set_cons_zero, List.set_cons_succ]
                    refine wpAnyH_take (i := 23) (v := undef) rfl (by kernel_rfl) (by kernel_rfl) (by kernel_rfl) (fun _ _ _ h => h) (Or.inr ⟨by rfl, rfl⟩) S1 ?_
                    try simp only [List.getElem_toArray, List.getElem_cons_zero, List.getElem_cons_succ, Act.put, List.setIfInBounds_toArray, List.set_cons_zero, List.set_cons_succ]
                    refine wpAnyH_take (i := 24) (v := undef) rfl (by kernel_rfl) (by kernel_rfl) (by kernel_rfl) (fun _ _ _ h => h) (Or.inr ⟨by rfl, rfl⟩) S1 ?_
                    try simp only [List.getElem_toArray, List.getElem_cons_zero, List.getElem_cons_succ, Act.put, List.setIfInBounds_toArray, List.set_cons_zero, List.set_cons_succ]
                    refine wpAnyH_take (i := 25) (v := undef) rfl (by kernel_rfl) (by kernel_rfl) (by kernel_rfl) (fun _ _ _ h => h) (Or.inr ⟨by rfl, rfl⟩) S1 ?_
                    try simp only [List.getElem_toArray, List.getElem_cons_zero, List.getElem_cons_succ, Act.put, List.setIfInBounds_toArray, List.set_cons_zero, List.set_cons_succ]
                    refine wpAnyH_take (i := 26) (v := undef) rfl (by kernel_rfl) (by kernel_rfl) (by kernel_rfl) (fun _ _ _ h => h) (Or.inr ⟨by rfl, rfl⟩) S1 ?_
                    try simp only [List.getElem_toArray, List.getElem_cons_zero, List.getElem_cons_succ, Act.put, List.setIfInBounds_toArray, List.set_cons_zero, List.set_cons_succ]
                    refine wpAnyH_take (i := 27) (v := undef) rfl (by kernel_rfl) (by kernel_rfl) (by kernel_rfl) (fun _ _ _ h => h) (Or.inr ⟨by rfl, rfl⟩) S1 ?_
                    try simp only [List.getElem_toArray, List.getElem_cons_zero, List.getElem_cons_succ, Act.put, List.setIfInBounds_toArray, List.set_cons_zero, List.set_cons_succ]
                    refine wpAnyH_take (i := 28) (v := undef) rfl (by kernel_rfl) (by kernel_rfl) (by kernel_rfl) (fun _ _ _ h => h) (Or.inr ⟨by rfl, rfl⟩) S1 ?_
                    try simp only [List.getElem_toArray, List.getElem_cons_zero, List.getElem_cons_succ, Act.put, List.setIfInBounds_toArray, List.set_cons_zero, List.set_cons_succ]
                    refine wpAnyH_take (i := 29) (v := undef) rfl (by kernel_rfl) (by kernel_rfl) (by kernel_rfl) (fun _ _ _ h => h) (Or.inr ⟨by rfl, rfl⟩) S1 ?_
                    try simp only [List.getElem_toArray, List.getElem_cons_zero, List.getElem_cons_succ, Act.put, List.setIfInBounds_toArray, List.set_cons_zero, List.set_cons_succ]
                    refine wpAnyH_take (i := 30) (v := undef) rfl (by kernel_rfl) (by kernel_rfl) (by kernel_rfl) (fun _ _ _ h => h) (Or.inr ⟨by rfl, rfl⟩) S1 ?_
                    try simp only [List.getElem_toArray, List.getElem_cons_zero, List.getElem_cons_succ, Act.put, List.setIfInBounds_toArray, List.set_cons_zero, List.set_cons_succ]
                    refine wpAnyH_take (i := 31) (v := undef) rfl (by kernel_rfl) (by kernel_rfl) (by kernel_rfl) (fun _ _ _ h => h) (Or.inr ⟨by rfl, rfl⟩) S1 ?_
                    try simp only [List.getElem_toArray, List.getElem_cons_zero, List.getElem_cons_succ, Act.put, List.setIfInBounds_toArray, List.set_cons_zero, List.set_cons_succ]
                    refine wpAnyH_take (i := 32) (v := undef) rfl (by kernel_rfl) (by kernel_rfl) (by kernel_rfl) (fun _ _ _ h => h) (Or.inr ⟨by rfl, rfl⟩) S1 ?_
                    try simp only [List.getElem_toArray, List.getElem_cons_zero, List.getElem_cons_succ, Act.put, List.setIfInBounds_toArray, List.set_cons_zero, List.set_cons_succ]
                    refine wpAnyH_take (i := 33) (v := ?v33t59) rfl (by kernel_rfl) (by kernel_rfl) (by kernel_rfl) (fun _ _ _ h => h) (Or.inl ⟨by rfl, ?y33t59⟩) S1 ?z33t59
                    case y33t59 => intro w_ hSw; go_simp; with_reducible rfl
                    try simp only [List.getElem_toArray, List.getElem_cons_zero, List.getElem_cons_succ, Act.put, List.setIfInBounds_toArray, List.set_cons_zero, List.set_cons_succ]
                    refine wpAnyH_take (i := 34) (v := ?v34t60) rfl (by kernel_rfl) (by kernel_rfl) (by kernel_rfl) (fun _ _ _ h => h) (Or.inl ⟨by rfl, ?y34t60⟩) S1 ?z34t60
                    case y34t60 => intro w_ hSw; go_simp; with_reducible rfl
                    try simp only [List.getElem_toArray, List.getElem_cons_zero, List.getElem_cons_succ, Act.put, List.setIfInBounds_toArray, List.set_cons_zero, List.set_cons_succ]
                    refine wpAnyH_done (by kernel_rfl) ?_ _
                    go_wp2_with fail
                    go_roundw
                    case rel => exact ⟨i + 1, by omega, by go_num, Dy1⟩
                    case measure => simp [intOf]; omega
                · have hdi : decide (i < n q + 64) = false := by simpa using hli
                  go_wp2_with fail
                  go_roundw
                  case rel => exact ⟨q + 1, by omega, by go_num, HTi⟩
                  case measure => simp [intOf]; omega
            · have hd : decide (q < m) = false := by simpa using hqm
              have HS4 := Lib.hid ((S1.out).past (below_grownBy HT.out none) (fun X hX => by cases hX))
              have HL4 := Lib.hid ((HL.out).keep (below_grownBy HT.out none) (fun X hX => by cases hX))
              have HG4 := Lib.hid ((HG.out).keep (below_grownBy HT.out none) (fun X hX => by cases hX))
              clear HT hq hqm S1 HL HG
              go_wp2_with fail
              obtain ⟨wo, rfl⟩ : ∃ wo : World, wo = wr := ⟨_, rfl⟩
              go_loopw [11] (fun kk wr => ∃ (k : Nat) (gs : Nat → Value) (D : Nat → List Ins), k ≤ m ∧ kk = .int .i64 k ∧ Hid (∀ j, j < m → D j = if j < k then imarks j (n j) ++ imarks ((j : Int) + m) 64 else imarks j (n j + 64)) ∧ Hid (St w wr B vs gs m (fun j => imarks j (n j)) D) ∧ Hid (Lst wr bL off m vs) ∧ Hid (Lst wr bG 0 m gs)) (fun kk _ => m - (intOf kk).toNat)
              case atStart => exact ⟨0, _, _, Nat.zero_le _, rfl, Lib.hid (fun j hj => by simp), HS4, HL4, HG4⟩
              case round =>
                obtain ⟨k, gs, D, hk, rfl, HD, HS, HL, HG⟩ := hrel
                clear HS4 HL4 HG4
                by_cases hlt : k < m
                · have hd : decide (k < m) = true := by simpa using hlt
                  have hnb := HN.out k hlt
                  go_wp2_with (at_make; refine wpList_make_i rfl _ _ rfl rfl rfl ?_)
                  intro w1 ho1 hg1
                  have hX : wr.heap.size ≤ wr.heap.size := Nat.le_refl _
                  have O1 : OwnI w1 wr.heap.size (.slice (some ⟨wr.heap.size, 0, none⟩) 64 64) (part ((k : Int) + m).toNat 0 (List.replicate 64 noIns)) := by
                    rw [part_zero]; exact ho1
                  have HO1 := Lib.hid O1
                  have HG1 := Lib.hid hg1
                  clear ho1 hg1 O1 hX
                  obtain ⟨wb, hwb⟩ : ∃ wb : World, wb = wr := ⟨_, rfl⟩
                  rw [← hwb] at HO1 HG1 HS HL HG
                  have HWB := Lib.hid hwb
                  have hX : wr.heap.size = wb.heap.size := by rw [hwb]
                  rw [hX]
                  clear hwb hX
                  go_wp2_with fail
                  go_loopw [13] (fun ii wr => ∃ (i : Nat), i ≤ 64 ∧ ii = .int .i64 i ∧ Hid (OwnI wr wb.heap.size (.slice (some ⟨wb.heap.size, 0, none⟩) 64 64) (part ((k : Int) + m).toNat i (List.replicate 64 noIns))) ∧ Hid (wb.grownBy wr none)) (fun ii _ => 64 - (intOf ii).toNat)
                  case atStart => exact ⟨0, Nat.zero_le _, rfl, HO1, HG1⟩
                  case round =>
                    obtain ⟨i, hi, rfl, HOi, HGi⟩ := hrel
                    by_cases hli : i < 64
                    · have hdi : decide ((i : Int) < 64) = true := by simp; omega
                      have M := fun W => Lib.hid (markIns ((k : Int) + m) i (by omega) (by omega) (by omega) (by omega) W)
                      have ekm : ((((k : Int) + m).toNat : Nat) : Int) = (k : Int) + m := by omega
                      have EKM := Lib.hid ekm
                      clear ekm
                      go_wp2_with fail
                      refine ((M _).out).mono ?_; rintro e w' ⟨rfl, bm⟩
                      have HO2 := Lib.hid ((HOi.out).past bm)
                      have HG3 := Lib.hid (grownBy_trans HGi.out (below_grownBy bm none))
                      obtain ⟨cg, fg⟩ := own_at8 HO2.out
                      obtain ⟨x0, x1, x2, x3, x4, x5, x6, x7⟩ := cg i hli
                      have f0 := fg (i * 8)
                      have f1 := fg (i * 8 + 1)
                      have f2 := fg (i * 8 + 2)
                      have f3 := fg (i * 8 + 3)
                      have f4 := fg (i * 8 + 4)
                      have f5 := fg (i * 8 + 5)
                      have f6 := fg (i * 8 + 6)
                      have f7 := fg (i * 8 + 7)
                      have hst := (HO2.out).stored i (by rw [part_length (by simpa using hi)]; simpa using hli) (imark ((((k : Int) + m).toNat : Nat) : Int) i)
                      rw [part_set (by simpa using hli), EKM.out] at hst
                      have HST := Lib.hid hst
                      have HGS := Lib.hid (grown_step HG3.out (Nat.le_refl _) (put8_grown w' wb.heap.size (i * 8) (imark ((k : Int) + m) i)))
                      clear cg fg hst bm
                      go_wp2_with fail
                      go_roundw
                      case rel => exact ⟨i + 1, by omega, by go_num, HST, HGS⟩
                      case measure => simp [intOf]; omega
                    · have hdi : decide ((i : Int) < 64) = false := by simp; omega
                      have hi64 : i = 64 := by omega
                      subst hi64
                      have HSi := Lib.hid ((HS.out).past HGi.out (fun X hX => by cases hX))
                      have HLi := Lib.hid ((HL.out).keep HGi.out (fun X hX => by cases hX))
                      have HGG := Lib.hid ((HG.out).keep HGi.out (fun X hX => by cases hX))
                      have hmany := Lib.hid (HOi.out).inss
                      have hpa : part ((k : Int) + m).toNat 64 (List.replicate 64 noIns) = imarks ((k : Int) + m) 64 := by
                        have := part_all (k := ((k : Int) + m).toNat) (l := List.replicate 64 noIns)
                        rw [List.length_replicate] at this
                        rw [this, show ((((k : Int) + m).toNat : Nat) : Int) = (k : Int) + m from by omega]
                      rw [hpa] at hmany
                      have hrk := (HSi.out).row k hlt
                      obtain ⟨ak, ck, hsh⟩ := hrk.inss.shape
                      rw [imarks_length] at hsh
                      have cL := (HLi.out).cell hlt
                      rw [hsh] at cL hrk
                      have HRK := Lib.hid hrk
                      have HSH := Lib.hid hsh
                      have hl1 := imarks_length k (n k)
                      have hl2 := imarks_length ((k : Int) + m) 64
                      clear hrk hsh hpa HS HL HG HOi HO1 HG1
                      go_wp2_with (at_builtin; refine wpList_append_two _ rfl _ _ rfl B _ (imarks k (n k)) rfl HRK.out _ (imarks ((k : Int) + m) 64) rfl hmany.out (by rw [hl2]; decide) (by rw [hl1, hl2]; omega) ((HSi.out).base) ?_)
                      intro v2 w2 ho2 hG2
                      have hH := (HSi.out).grow hlt HRK.out (fun Y hY => by left; rw [HSH.out]; exact hY) (by show (imarks k (n k)).length ≤ _; exact Nat.le_refl _) (by show (imarks k (n k)).take (imarks k (n k)).length = imarks k (n k); exact List.take_length) ho2 hG2
                      obtain ⟨hS3, row, hg3, hrow3⟩ := hH
                      have htag : ∀ X, row = some X → Tg wr X := fun X hX => (HSi.out).at_tag hlt (hrow3 X hX)
                      have HL3 := Lib.hid ((HLi.out).keep hg3 htag)
                      have HG3 := Lib.hid ((HGG.out).keep hg3 htag)
                      obtain ⟨a2, c2, hs2⟩ := ho2.inss.shape
                      generalize hq2 : (imarks k (n k) ++ imarks ((k : Int) + m) 64).length = p2 at hs2
                      clear hq2
                      subst hs2
                      have HS3 := Lib.hid hS3
                      clear hS3 hg3 hrow3 htag ho2 hG2 HSi HLi HGG hl1 hl2 hmany cL
                      have cG := (HG3.out).cell hlt
                      have fG := (HG3.out).free k
                      rw [Nat.zero_add] at cG
                      have gst := grownBy_setCell w2 ⟨bG, k, none⟩ (.slice a2 p2 c2)
                      have S4 := Lib.hid ((HS3.out).past gst (fun X hX => by cases hX; exact ⟨hbG, (HG3.out).noBytes⟩))
                      have L4 := Lib.hid ((HL3.out).other gst (fun e => by have : bG = bL := Option.some.inj e; omega))
                      have G4 := Lib.hid ((HG3.out).set hlt (.slice a2 p2 c2))
                      clear gst HS3 HL3 HG3
                      go_wp2_with fail
                      go_roundw
                      case rel =>
                        refine ⟨k + 1, _, _, by omega, by go_num, Lib.hid (fun j hj => ?_), S4, L4, G4⟩
                        by_cases e : j = k
                        · subst e; rw [upd_same, if_pos (by omega)]
                        · rw [upd_other _ _ e, HD.out j hj]
                          by_cases h1 : j < k
                          · rw [if_pos h1, if_pos (by omega)]
                          · rw [if_neg h1, if_neg (by omega)]
                      case measure => simp [intOf]; omega
                · have hd : decide (k < m) = false := by simpa using hlt
                  have hkm : k = m := by omega
                  have S5 : Hid (St w wr B vs gs m (fun j => imarks j (n j)) (fun j => imarks j (n j) ++ imarks ((j : Int) + m) 64)) := Lib.hid ((HS.out).congr (fun _ _ => rfl) (fun _ _ => rfl) (fun j hj => by have := HD.out j hj; rwa [if_pos (by omega)] at this))
                  clear HD HS hkm
                  go_wp2_with fail
                  obtain ⟨wo, rfl⟩ : ∃ wo : World, wo = wr := ⟨_, rfl⟩
                  go_loopw [14] (fun kk wr => ∃ (q : Nat), q ≤ m ∧ kk = .int .i64 q ∧ Hid (Below wo.heap.size wo wr)) (fun kk _ => m - (intOf kk).toNat)
                  case atStart => exact ⟨0, Nat.zero_le _, rfl, Lib.hid (Below.refl _ _)⟩
                  case round =>
                    obtain ⟨q, hq, rfl, HT⟩ := hrel
                    by_cases hqm : q < m
                    · have hd : decide (q < m) = true := by simpa using hqm
                      have hnb := HN.out q hqm
                      obtain ⟨Yq, cq, hgq, -⟩ := own_pos ((S5.out).grw q hqm) (by rw [List.length_append, imarks_length, imarks_length]; omega)
                      rw [List.length_append, imarks_length, imarks_length] at hgq
                      have cG0 := (HG.out).cell hqm
                      rw [Nat.zero_add, hgq] at cG0
                      have hrowg := (S5.out).grw q hqm
                      rw [hgq] at hrowg
                      have KG := Lib.hid (own_at8 hrowg).1
                      obtain ⟨aq, c2q, hvq⟩ := ((S5.out).row q hqm).inss.shape
                      rw [imarks_length] at hvq
                      have cL0 := (HL.out).cell hqm
                      rw [hvq] at cL0
                      have hrowv := Lib.hid ((S5.out).row q hqm)
                      have HVQ := Lib.hid hvq
                      clear hrowg hgq hvq
                      go_wp2_with fail
                      go_loopw [15] (fun ii wr => ∃ (i : Nat), i ≤ n q ∧ ii = .int .i64 i ∧ Hid (Below wo.heap.size wo wr)) (fun ii _ => n q - (intOf ii).toNat)
                      case atStart => exact ⟨0, Nat.zero_le _, rfl, HT⟩
                      case round =>
                        obtain ⟨i, hi, rfl, HTi⟩ := hrel
                        have cG := cellP cG0 HTi.out
                        have cL := cellP cL0 HTi.out
                        by_cases hlv : i < n q
                        · have hdv : decide (i < n q) = true := by simpa using hlv
                          have x8 := KG.out i (by omega)
                          rw [ith_left (by rw [imarks_length]; exact hlv), ith_imarks hlv] at x8
                          obtain ⟨x0, x1, x2, x3, x4, x5, x6, x7⟩ := x8.past HTi.out
                          simp only [imark] at x0 x1 x2 x3 x4 x5 x6 x7
                          have q0 : 0 ≤ (q : Int) := by omega
                          have q1 : (q : Int) < (m : Int) := by omega
                          have i0 : 0 ≤ (i : Int) := by omega
                          have M := fun W => Lib.hid (markIns q i (by omega) (by omega) (by omega) (by omega) W)
                          have i1 : (i : Int) < ((n q + 64 : Nat) : Int) := by omega
                          have i1' : (i : Int) < (n q : Int) + 64 := by omega
                          have i2 : (i : Int) < (n q : Int) := by omega
                          have hrv := hrowv.out
                          obtain ⟨Yv, cv, hvv, -⟩ := own_pos hrv (by rw [imarks_length]; omega)
                          rw [imarks_length] at hvv
                          have haq : aq = some ⟨Yv, 0, none⟩ := by have := HVQ.out; rw [hvv] at this; cases this; rfl
                          subst haq
                          rw [hvv] at hrv
                          have v8 := (own_at8 hrv).1 i hlv
                          rw [ith_imarks hlv] at v8
                          obtain ⟨v0, v1, v2, v3, v4, v5, v6, v7⟩ := v8.past HTi.out
                          simp only [imark] at v0 v1 v2 v3 v4 v5 v6 v7
                          clear hrv hvv x8 v8
                          generalize 1000003 * ((q : Int) + 7) + (i : Int) = z at *
                          have HTd := Lib.hid ((HTi.out).drew)
                          have Hs := Lib.hid (fun (W : World) (h : (fun w' => w'.cell? ⟨bG, q, none⟩ = some (.slice (some ⟨Yq, 0, none⟩) (n q + 64) cq) ∧ w'.cell? ⟨bL, off + q, none⟩ = some (.slice (some ⟨Yv, 0, none⟩) (n q) c2q) ∧ (w'.cell? ⟨Yq, i * 8, none⟩ = some (.int .u8 0) ∧ w'.cell? ⟨Yq, i * 8 + 1, none⟩ = some (.bool false) ∧ w'.cell? ⟨Yq, i * 8 + 2, none⟩ = some (.int .i64 0) ∧ w'.cell? ⟨Yq, i * 8 + 3, none⟩ = some (.int .i64 0) ∧ w'.cell? ⟨Yq, i * 8 + 4, none⟩ = some (.bool false) ∧ w'.cell? ⟨Yq, i * 8 + 5, none⟩ = some (.int .i64 z) ∧ w'.cell? ⟨Yq, i * 8 + 6, none⟩ = some (.int .i64 0) ∧ w'.cell? ⟨Yq, i * 8 + 7, none⟩ = some (.int .i64 0)) ∧ (w'.cell? ⟨Yv, i * 8, none⟩ = some (.int .u8 0) ∧ w'.cell? ⟨Yv, i * 8 + 1, none⟩ = some (.bool false) ∧ w'.cell? ⟨Yv, i * 8 + 2, none⟩ = some (.int .i64 0) ∧ w'.cell? ⟨Yv, i * 8 + 3, none⟩ = some (.int .i64 0) ∧ w'.cell? ⟨Yv, i * 8 + 4, none⟩ = some (.bool false) ∧ w'.cell? ⟨Yv, i * 8 + 5, none⟩ = some (.int .i64 z) ∧ w'.cell? ⟨Yv, i * 8 + 6, none⟩ = some (.int .i64 0) ∧ w'.cell? ⟨Yv, i * 8 + 7, none⟩ = some (.int .i64 0))) W) => h)
                          try dsimp only at Hs
                          go_wp2_with fail
                          refine wp_region_held_drew (S := fun w' => w'.cell? ⟨bG, q, none⟩ = some (.slice (some ⟨Yq, 0, none⟩) (n q + 64) cq) ∧ w'.cell? ⟨bL, off + q, none⟩ = some (.slice (some ⟨Yv, 0, none⟩) (n q) c2q) ∧ (w'.cell? ⟨Yq, i * 8, none⟩ = some (.int .u8 0) ∧ w'.cell? ⟨Yq, i * 8 + 1, none⟩ = some (.bool false) ∧ w'.cell? ⟨Yq, i * 8 + 2, none⟩ = some (.int .i64 0) ∧ w'.cell? ⟨Yq, i * 8 + 3, none⟩ = some (.int .i64 0) ∧ w'.cell? ⟨Yq, i * 8 + 4, none⟩ = some (.bool false) ∧ w'.cell? ⟨Yq, i * 8 + 5, none⟩ = some (.int .i64 z) ∧ w'.cell? ⟨Yq, i * 8 + 6, none⟩ = some (.int .i64 0) ∧ w'.cell? ⟨Yq, i * 8 + 7, none⟩ = some (.int .i64 0)) ∧ (w'.cell? ⟨Yv, i * 8, none⟩ = some (.int .u8 0) ∧ w'.cell? ⟨Yv, i * 8 + 1, none⟩ = some (.bool false) ∧ w'.cell? ⟨Yv, i * 8 + 2, none⟩ = some (.int .i64 0) ∧ w'.cell? ⟨Yv, i * 8 + 3, none⟩ = some (.int .i64 0) ∧ w'.cell? ⟨Yv, i * 8 + 4, none⟩ = some (.bool false) ∧ w'.cell? ⟨Yv, i * 8 + 5, none⟩ = some (.int .i64 z) ∧ w'.cell? ⟨Yv, i * 8 + 6, none⟩ = some (.int .i64 0) ∧ w'.cell? ⟨Yv, i * 8 + 7, none⟩ = some (.int .i64 0))) (by kernel_rfl) ⟨cG, cL, ⟨x0, x1, x2, x3, x4, x5, x6, x7⟩, ⟨v0, v1, v2, v3, v4, v5, v6, v7⟩⟩ (fun S0 => ?_)
                          refine wpAnyH_take (i := 0) (v := ?v0t61) rfl (by kernel_rfl) (by kernel_rfl) (by kernel_rfl) (fun _ _ _ h => h) (Or.inl ⟨by rfl, ?y0t61⟩) S0 ?z0t61
                          case y0t61 => intro w_ hSw; go_simp; with_reducible rfl
                          try simp only [List.getElem_toArray, List.getElem_cons_zero, List.getElem_cons_succ, Act.put, List.setIfInBounds_toArray, List.set_cons_zero, List.set_cons_succ]
                          refine wpAnyH_take (i := 1) (v := ?v1t62) rfl (by kernel_rfl) (by kernel_rfl) (by kernel_rfl) (fun _ _ _ h => h) (Or.inl ⟨by rfl, ?y1t62⟩) S0 ?z1t62
                          case y1t62 => intro w_ hSw; go_simp; with_reducible rfl
                          try simp only [List.getElem_toArray, List.getElem_cons_zero, List.getElem_cons_succ, Act.put, List.setIfInBounds_toArray, List.set_cons_zero, List.set_cons_succ]
                          refine wpAnyH_take (i := 2) (v := ?v2t63) rfl (by kernel_rfl) (by kernel_rfl) (by kernel_rfl) (fun _ _ _ h => h) (Or.inl ⟨by rfl, ?y2t63⟩) S0 ?z2t63
                          case y2t63 => intro w_ hSw; go_simp; with_reducible rfl
                          try simp only [List.getElem_toArray, List.getElem_cons_zero, List.getElem_cons_succ, Act.put, List.setIfInBounds_toArray, List.set_cons_zero, List.set_cons_succ]
                          refine wpAnyH_take (i := 3) (v := ?v3t64) rfl (by kernel_rfl) (by kernel_rfl) (by kernel_rfl) (fun _ _ _ h => h) (Or.inl ⟨by rfl, ?y3t64⟩) S0 ?z3t64
                          case y3t64 => intro w_ hSw; (try dsimp only at hSw); go_simp; with_reducible rfl
                          try simp only [List.getElem_toArray, List.getElem_cons_zero, List.getElem_cons_succ, Act.put, List.setIfInBounds_toArray, List.set_cons_zero, List.set_cons_succ]
                          refine wpAnyH_take (i := 4) (v := ?v4t65) rfl (by kernel_rfl) (by kernel_rfl) (by kernel_rfl) (fun _ _ _ h => h) (Or.inl ⟨by rfl, ?y4t65⟩) S0 ?z4t65
                          case y4t65 => intro w_ hSw; go_simp; with_reducible rfl
                          try simp only [List.getElem_toArray, List.getElem_cons_zero, List.getElem_cons_succ, Act.put, List.setIfInBounds_toArray, List.set_cons_zero, List.set_cons_succ]
                          refine wpAnyH_take (i := 5) (v := ?v5t66) rfl (by kernel_rfl) (by kernel_rfl) (by kernel_rfl) (fun _ _ _ h => h) (Or.inl ⟨by rfl, ?y5t66⟩) S0 ?z5t66
                          case y5t66 => intro w_ hSw; go_simp; with_reducible rfl
                          try simp only [List.getElem_toArray, List.getElem_cons_zero, List.getElem_cons_succ, Act.put, List.setIfInBounds_toArray, List.set_cons_zero, List.set_cons_succ]
                          refine wpAnyH_take (i := 6) (v := ?v6t67) rfl (by kernel_rfl) (by kernel_rfl) (by kernel_rfl) (fun _ _ _ h => h) (Or.inl ⟨by rfl, ?y6t67⟩) S0 ?z6t67
                          case y6t67 => intro w_ hSw; (try dsimp only at hSw); go_simp; with_reducible rfl
                          try simp only [List.getElem_toArray, List.getElem_cons_zero, List.getElem_cons_succ, Act.put, List.setIfInBounds_toArray, List.set_cons_zero, List.set_cons_succ]
                          refine wpAnyH_take (i := 7) (v := ?v7t68) rfl (by kernel_rfl) (by kernel_rfl) (by kernel_rfl) (fun _ _ _ h => h) (Or.inl ⟨by rfl, ?y7t68⟩) S0 ?z7t68
                          case y7t68 => intro w_ hSw; go_simp; with_reducible rfl
                          try simp only [List.getElem_toArray, List.getElem_cons_zero, List.getElem_cons_succ, Act.put, List.setIfInBounds_toArray, List.set_cons_zero, List.set_cons_succ]
                          refine wpAnyH_take (i := 8) (v := ?v8t69) rfl (by kernel_rfl) (by kernel_rfl) (by kernel_rfl) (fun _ _ _ h => h) (Or.inl ⟨by rfl, ?y8t69⟩) S0 ?z8t69
                          case y8t69 => intro w_ hSw; go_simp; with_reducible rfl
                          try simp only [List.getElem_toArray, List.getElem_cons_zero, List.getElem_cons_succ, Act.put, List.setIfInBounds_toArray, List.set_cons_zero, List.set_cons_succ]
                          refine wpAnyH_ready (rs := [9]) (by kernel_rfl) (by simp) ?_
                          refine AllReadyH.cons rfl (fun K hK => ?_) AllReadyH.nil
                          go_simp
                          refine ((M _).out).mono ?_; rintro e y1 ⟨rfl, q1⟩
                          have S1 := Hs.out (y1) ⟨cellP S0.1 q1, cellP S0.2.1 q1, eight_past_at S0.2.2.1 q1, eight_past_at S0.2.2.2 q1⟩
                          have Dy1 := Lib.hid ((HTd.out).trans (q1.mono (HTd.out).size))
                          try go_wp2_with fail
                          refine hK.out _ _ S1 (fun _ => ?_)
                          clear hK K
                          try simp only [List.getElem_toArray, List.getElem_cons_zero, List.getElem_cons_succ, Act.put, List.setIfInBounds_toArray, List.set_cons_zero, List.set_cons_succ]
                          refine wpAnyH_ready (rs := [10]) (by kernel_rfl) (by simp) ?_
                          refine AllReadyH.cons rfl (fun K hK => ?_) AllReadyH.nil
                          refine step_cmp (by rfl) .eql 47 47 (.tmp 173) (.tmp 176) (by rfl) (agg ⟨0, false, 0, 0, false, z, 0, 0⟩) (agg ⟨0, false, 0, 0, false, z, 0, 0⟩) true (by rfl) (by rfl) (guard_ins _ _ _ _ _ _) (by rw [run_eql_ins]; simp) ?_
                          refine hK.out _ _ S1 (fun _ => ?_)
                          clear hK K
                          try simp only [List.getElem_toArray, List.getElem_cons_zero, List.getElem_cons_succ, Act.put, List.setIfInBounds_toArray, List.set_cons_zero, List.set_cons_succ]
                          refine wpAnyH_take (i := 11) (v := ?v11t70) rfl (by kernel_rfl) (by kernel_rfl) (by kernel_rfl) (fun _ _ _ h => h) (Or.inl ⟨by rfl, ?y11t70⟩) S1 ?z11t70
                          case y11t70 => intro w_ hSw; go_simp; with_reducible rfl
                          try simp only [List.getElem_toArray, List.getElem_cons_zero, List.getElem_cons_succ, Act.put, List.setIfInBounds_toArray, List.set_cons_zero, List.set_cons_succ]
                          refine wpAnyH_take (i := 12) (v := ?v12t71) rfl (by kernel_rfl) (by kernel_rfl) (by kernel_rfl) (fun _ _ _ h => h) (Or.inl ⟨by rfl, ?y12t71⟩) S1 ?z12t71
                          case y12t71 => intro w_ hSw; go_simp; with_reducible rfl
                          try simp only [List.getElem_toArray, List.getElem_cons_zero, List.getElem_cons_succ, Act.put, List.setIfInBounds_toArray, List.set_cons_zero, List.set_cons_succ]
                          refine wpAnyH_take (i := 13) (v := ?v13t72) rfl (by kernel_rfl) (by kernel_rfl) (by kernel_rfl) (fun _ _ _ h => h) (Or.inl ⟨by rfl, ?y13t72⟩) S1 ?z13t72
                          case y13t72 => intro w_ hSw; go_simp; with_reducible rfl
                          try simp only [List.getElem_toArray, List.getElem_cons_zero, List.getElem_cons_succ, Act.put, List.setIfInBounds_toArray, List.set_cons_zero, List.set_cons_succ]
                          refine wpAnyH_take (i := 14) (v := ?v14t73) rfl (by kernel_rfl) (by kernel_rfl) (by kernel_rfl) (fun _ _ _ h => h) (Or.inl ⟨by rfl, ?y14t73⟩) S1 ?z14t73
                          case y14t73 => intro w_ hSw; go_simp; with_reducible rfl
                          try simp only [List.getElem_toArray, List.getElem_cons_zero, List.getElem_cons_succ, Act.put, List.setIfInBounds_toArray, List.set_cons_zero, List.set_cons_succ]
                          refine wpAnyH_take (i := 15) (v := ?v15t74) rfl (by kernel_rfl) (by kernel_rfl) (by kernel_rfl) (fun _ _ _ h => h) (Or.inl ⟨by rfl, ?y15t74⟩) S1 ?z15t74
                          case y15t74 => intro w_ hSw; go_simp; with_reducible rfl
                          try simp only [List.getElem_toArray, List.getElem_cons_zero, List.getElem_cons_succ, Act.put, List.setIfInBounds_toArray, List.set_cons_zero, List.set_cons_succ]
                          refine wpAnyH_take (i := 16) (v := ?v16t75) rfl (by kernel_rfl) (by kernel_rfl) (by kernel_rfl) (fun _ _ _ h => h) (Or.inl ⟨by rfl, ?y16t75⟩) S1 ?z16t75
                          case y16t75 => intro w_ hSw; (try dsimp only at hSw); go_simp; with_reducible rfl
                          try simp only [List.getElem_toArray, List.getElem_cons_zero, List.getElem_cons_succ, Act.put, List.setIfInBounds_toArray, List.set_cons_zero, List.set_cons_succ]
                          refine wpAnyH_take (i := 17) (v := ?v17t76) rfl (by kernel_rfl) (by kernel_rfl) (by kernel_rfl) (fun _ _ _ h => h) (Or.inl ⟨by rfl, ?y17t76⟩) S1 ?z17t76
                          case y17t76 => intro w_ hSw; go_simp; with_reducible rfl
                          try simp only [List.getElem_toArray, List.getElem_cons_zero, List.getElem_cons_succ, Act.put, List.setIfInBounds_toArray, List.set_cons_zero, List.set_cons_succ]
                          refine wpAnyH_take (i := 18) (v := ?v18t77) rfl (by kernel_rfl) (by kernel_rfl) (by kernel_rfl) (fun _ _ _ h => h) (Or.inl ⟨by rfl, ?y18t77⟩) S1 ?z18t77
                          case y18t77 => intro w_ hSw; go_simp; with_reducible rfl
                          try simp only [List.getElem_toArray, List.getElem_cons_zero, List.getElem_cons_succ, Act.put, List.setIfInBounds_toArray, List.set_cons_zero, List.set_cons_succ]
                          refine wpAnyH_take (i := 19) (v := ?v19t78) rfl (by kernel_rfl) (by kernel_rfl) (by kernel_rfl) (fun _ _ _ h => h) (Or.inl ⟨by rfl, ?y19t78⟩) S1 ?z19t78
                          case y19t78 => intro w_ hSw; (try dsimp only at hSw); go_simp; with_reducible rfl
                          try simp only [List.getElem_toArray, List.getElem_cons_zero, List.getElem_cons_succ, Act.put, List.setIfInBounds_toArray, List.set_cons_zero, List.set_cons_succ]
                          refine wpAnyH_take (i := 20) (v := ?v20t79) rfl (by kernel_rfl) (by kernel_rfl) (by kernel_rfl) (fun _ _ _ h => h) (Or.inl ⟨by rfl, ?y20t79⟩) S1 ?z20t79
                          case y20t79 => intro w_ hSw; go_simp; with_reducible rfl
                          try simp only [List.getElem_toArray, List.getElem_cons_zero, List.getElem_cons_succ, Act.put, List.setIfInBounds_toArray, List.set_cons_zero, List.set_cons_succ]
                          refine wpAnyH_take (i := 21) (v := ?v21t80) rfl (by kernel_rfl) (by kernel_rfl) (by kernel_rfl) (fun _ _ _ h => h) (Or.inl ⟨by rfl, ?y21t80⟩) S1 ?z21t80
                          case y21t80 => intro w_ hSw; go_simp; with_reducible rfl
                          try simp only [List.getElem_toArray, List.getElem_cons_zero, List.getElem_cons_succ, Act.put, List.setIfInBounds_toArray, List.set_cons_zero, List.set_cons_succ]
                          refine wpAnyH_ready (rs := [22]) (by kernel_rfl) (by simp) ?_
                          refine AllReadyH.cons rfl (fun K hK => ?_) AllReadyH.nil
                          go_simp
                          refine ((M _).out).mono ?_; rintro e y2 ⟨rfl, q2⟩
                          have S2 := Hs.out (y2) ⟨cellP S1.1 q2, cellP S1.2.1 q2, eight_past_at S1.2.2.1 q2, eight_past_at S1.2.2.2 q2⟩
                          have Dy2 := Lib.hid ((Dy1.out).trans (q2.mono (Dy1.out).size))
                          try go_wp2_with fail
                          refine hK.out _ _ S2 (fun _ => ?_)
                          clear hK K
                          try simp only [List.getElem_toArray, List.getElem_cons_zero, List.getElem_cons_succ, Act.put, List.setIfInBounds_toArray, List.set_cons_zero, List.set_cons_succ]
                          refine wpAnyH_ready (rs := [23]) (by kernel_rfl) (by simp) ?_
                          refine AllReadyH.cons rfl (fun K hK => ?_) AllReadyH.nil
                          refine step_cmp (by rfl) .eql 47 47 (.tmp 186) (.tmp 189) (by rfl) (agg ⟨0, false, 0, 0, false, z, 0, 0⟩) (agg ⟨0, false, 0, 0, false, z, 0, 0⟩) true (by rfl) (by rfl) (guard_ins _ _ _ _ _ _) (by rw [run_eql_ins]; simp) ?_
                          refine hK.out _ _ S2 (fun _ => ?_)
                          clear hK K
                          try simp only [List.getElem_toArray, List.getElem_cons_zero, List.getElem_cons_succ, Act.put, List.setIfInBounds_toArray, List.set_cons_zero, List.set_cons_succ]
                          refine wpAnyH_take (i := 24) (v := ?v24t81) rfl (by kernel_rfl) (by kernel_rfl) (by kernel_rfl) (fun _ _ _ h => h) (Or.inl ⟨by rfl, ?y24t81⟩) S2 ?z24t81
                          case y24t81 => intro w_ hSw; go_simp; with_reducible rfl
                          try simp only [List.getElem_toArray, List.getElem_cons_zero, List.getElem_cons_succ, Act.put, List.setIfInBounds_toArray, List.set_cons_zero, List.set_cons_succ]
                          refine wpAnyH_take (i := 25) (v := ?v25t82) rfl (by kernel_rfl) (by kernel_rfl) (by kernel_rfl) (fun _ _ _ h => h) (Or.inl ⟨by rfl, ?y25t82⟩) S2 ?z25t82
                          case y25t82 => intro w_ hSw; go_simp; with_reducible rfl
                          try simp only [List.getElem_toArray, List.getElem_cons_zero, List.getElem_cons_succ, Act.put, List.setIfInBounds_toArray, List.set_cons_zero, List.set_cons_succ]
                          refine wpAnyH_done (by kernel_rfl) ?_ _
                          go_wp2_with fail
                          go_roundw
                          case rel => exact ⟨i + 1, by omega, by go_num, Dy2⟩
                          case measure => simp [intOf]; omega
                        · have hdv : decide (i < n q) = false := by simpa using hlv
                          go_wp2_with fail
                          go_roundw
                          case rel => exact ⟨q + 1, by omega, by go_num, HTi⟩
                          case measure => simp [intOf]; omega
                    · have hd : decide (q < m) = false := by simpa using hqm
                      go_wp2_with fail
                      go_ret
                      exact ⟨rfl, (S5.out).below.trans ((HT.out).mono (S5.out).base), (S5.out).kept.trans (spares_below HT.out)⟩
end Go.Proofs.YthfkmackodbmkaaGreatDoor.Ir
