/- Whether rows of bytes lie apart is told rightly: marks are written, each row is grown, all is looked at. -/
import Derived.Test.YtknkmblacaaegaaDoorSep
import Derived.StillTailTactics
import Derived.Outline
namespace Go.Proofs.YtknkmblacaaegaaDoor
open Go.RowKit
set_option linter.unusedVariables false
set_option linter.unusedSimpArgs false

/-- Row k: i marks, then what it had. -/
def part (k i : Nat) (l : List Int) : List Int := marks k i ++ l.drop i
theorem part_zero (k : Nat) (l : List Int) : part k 0 l = l := by simp [part, marks]
theorem part_length {k i : Nat} {l : List Int} (h : i ≤ l.length) : (part k i l).length = l.length := by simp [part, marks_length]; omega
theorem part_set {k i : Nat} {l : List Int} (h : i < l.length) : (part k i l).set i (mkb k i) = part k (i + 1) l := by
  unfold part
  rw [List.set_append_right _ _ (by rw [marks_length]; exact Nat.le_refl _), marks_length, Nat.sub_self, marks_succ, List.drop_eq_getElem_cons h, List.set_cons_zero, List.append_assoc]
  rfl
theorem part_all {k : Nat} {l : List Int} : part k l.length l = marks k l.length := by simp [part]

theorem sliceinfo : ∃ i, Tryd.prog.info? 22 = some i ∧ i.zero = some (.slice none 0 0) ∧ i.size = 1 ∧ i.bytes = 24 :=
  info_parts (by kernel_rfl : (Tryd.prog.info? 22).map (fun i => (i.zero, i.size, i.bytes)) = some (some (.slice none 0 0), 1, 24))

set_option maxHeartbeats 4000000 in
set_option maxRecDepth 100000 in
theorem flatBytes (bL off capL m B : Nat) (vs : Nat → Value) (n : Nat → Nat) (w : World) (hL : Lst w bL off m vs) (hR : Rowz w B vs m n) (hB : B ≤ w.heap.size) (hm : m ≤ 100000) (hn : ∀ j, j < m → n j ≤ 100000000) :
    Calls Tryd.prog 40 #[.slice (some ⟨bL, off, none⟩) m capL] w fun e w' => e = .returned (.bool true) ∧ Below B w w' ∧ Spares w w' := by
  obtain ⟨L, hLr⟩ : ∃ L : Nat → List Int, ∀ j, j < m → (L j).length = n j ∧ Owy w B (vs j) (L j) :=
    ⟨fun j => if h : j < m then (hR.row j h).choose else [], fun j hj => by simp only [hj, dif_pos]; exact (hR.row j hj).choose_spec⟩
  have HN := Lib.hid hn
  have HLn := Lib.hid (fun j (hj : j < m) => (hLr j hj).1)
  have S0 : St w w B vs (fun _ => .slice none 0 0) m L (fun _ => []) :=
    ⟨fun j hj => (hLr j hj).2, fun j hj => Owy.nil _ _, (fun i j hi hj hne Y ha hb => by
      rcases ha with ha | ha
      · rcases hb with hb | hb
        · exact hR.sep i j hi hj hne Y ha hb
        · cases hb
      · cases ha), Below.refl _ _, hB, Spares.refl _⟩
  have HS0 := Lib.hid S0
  have HL0 := Lib.hid hL
  clear hLr hR hn S0 hL
  go_enter Tryd.func40, Tryd.ntmps40
  go_wp2_with fail
  go_loopw [3] (fun kk wr => ∃ (k : Nat) (C : Nat → List Int), k ≤ m ∧ kk = .int .i64 k ∧ Hid (∀ j, j < m → C j = if j < k then marks j (n j) else L j) ∧ Hid (St w wr B vs (fun _ => .slice none 0 0) m C (fun _ => [])) ∧ Hid (Lst wr bL off m vs)) (fun kk _ => m - (intOf kk).toNat)
  case atStart => exact ⟨0, L, Nat.zero_le _, rfl, Lib.hid (fun j hj => by simp), HS0, HL0⟩
  case round =>
    obtain ⟨k, C, hk, rfl, HC, HS, HL⟩ := hrel
    by_cases hlt : k < m
    · have hd : decide (k < m) = true := by simpa using hlt
      have hk0 : C k = L k := by have := HC.out k hlt; rw [if_neg (Nat.lt_irrefl _)] at this; exact this
      have hnk : (L k).length = n k := HLn.out k hlt
      have hnb := HN.out k hlt
      obtain ⟨ao, ck, hsh⟩ := ((HS.out).row k hlt).bs.shape
      rw [hk0, hnk] at hsh
      have HSH := Lib.hid hsh
      have HNK := Lib.hid hnk
      have HI0 : Hid (St w wr B vs (fun _ => .slice none 0 0) m (upd C k (part k 0 (L k))) (fun _ => [])) := Lib.hid ((HS.out).congr (fun _ _ => rfl) (fun j hj => by
        by_cases e : j = k
        · subst e; rw [upd_same, part_zero, hk0]
        · rw [upd_other _ _ e]) (fun _ _ => rfl))
      clear hsh hnk hk0
      go_wp2_with fail
      obtain ⟨wo, rfl⟩ : ∃ wo : World, wo = wr := ⟨_, rfl⟩
      go_loopw [4] (fun ii wi => ∃ i : Nat, i ≤ n k ∧ ii = .int .i64 i ∧ Hid (St w wi B vs (fun _ => .slice none 0 0) m (upd C k (part k i (L k))) (fun _ => [])) ∧ Hid (Lst wi bL off m vs)) (fun ii _ => n k - (intOf ii).toNat)
      case atStart => exact ⟨0, Nat.zero_le _, rfl, HI0, HL⟩
      case round =>
        obtain ⟨i, hi, rfl, HSi, HLi⟩ := hrel
        clear HI0
        have cL := (HLi.out).cell hlt
        rw [HSH.out] at cL
        by_cases hli : i < n k
        · have hdi : decide (i < n k) = true := by simpa using hli
          have hrow := (HSi.out).row k hlt
          rw [upd_same] at hrow
          have hpl : (part k i (L k)).length = n k := by rw [part_length (by rw [HNK.out]; exact hi), HNK.out]
          obtain ⟨g, c, hvk, hglt⟩ := owy_pos hrow (by omega)
          rw [hpl] at hvk
          have hao : ao = some ⟨g, 0, none⟩ := by have := HSH.out; rw [hvk] at this; cases this; rfl
          have hck : ck = c := by have := HSH.out; rw [hvk] at this; cases this; rfl
          subst hao hck
          rw [hvk] at hrow
          obtain ⟨cg, fg⟩ := owy_cells hrow
          have cgi := cg i hli
          have fgi := fg i
          have HR1 := Lib.hid (hrow.stored i (mkb k i))
          have HVK := Lib.hid hvk
          clear cg fg hrow hvk hpl
          have M := fun W => Lib.hid ((markByte k i (by omega) (by omega) (by omega) (by omega) W).mono fun e w' ⟨h1, h2⟩ => (show e = _ ∧ w' = W from ⟨h2, h1.symm⟩))
          go_wp2_with fail
          refine wp_region_still_tail 9 (by kernel_rfl) (by kernel_rfl) ?_
          simp only [List.take_succ_cons, List.take_zero, List.drop_succ_cons, List.drop_zero]
          repeat still_step
          still_call ((M _).out)
          repeat still_step
          refine wpStill_nil ?_
          change wpList _ _ _ _ _ wr.drew
          have S1 := Lib.hid (((HSi.out).drew).write hlt (grownBy_setCell wr.drew ⟨g, i, none⟩ (.int .u8 (mkb k i))) (fun X hX => by cases hX; left; rw [HVK.out]; rfl) (by rw [HVK.out]; exact HR1.out) (Owy.nil _ _) (fun Y hY => by cases hY) (g' := .slice none 0 0) (d := []))
          have L1 := Lib.hid ((HLi.out).keep (w' := wr.drew.setCell ⟨g, i, none⟩ (.int .u8 (mkb k i))) (grownBy_trans (b := wr.drew) (row := some g) ⟨rfl, rfl, rfl, Nat.le_refl _, fun _ _ _ => rfl⟩ (grownBy_setCell wr.drew ⟨g, i, none⟩ _)) (fun X hX => by cases hX; exact (HSi.out).at_tag hlt (by left; rw [HVK.out]; rfl)))
          have S2 := Lib.hid ((S1.out).congr (C' := upd C k (part k (i + 1) (L k))) (gs' := fun _ => .slice none 0 0) (D' := fun _ => []) (fun j hj => by rw [upd_const]) (fun j hj => by rw [upd_upd, part_set (by rw [HNK.out]; exact hli)]) (fun j hj => by rw [upd_const]))
          clear S1
          go_wp2_with fail
          go_roundw
          case rel => exact ⟨i + 1, by omega, by go_num, S2, L1⟩
          case measure => simp [intOf]; omega
        · have hdi : decide (i < n k) = false := by simpa using hli
          have hin : i = n k := by omega
          have HE := Lib.hid hin
          clear hin
          go_wp2_with fail
          go_roundw
          case rel =>
            refine ⟨k + 1, _, by omega, by go_num, Lib.hid (fun j hj => ?_), HSi, HLi⟩
            by_cases e : j = k
            · subst e
              rw [upd_same, if_pos (by omega), HE.out, ← HNK.out, part_all, HNK.out]
            · rw [upd_other _ _ e, HC.out j hj]
              by_cases h1 : j < k
              · rw [if_pos h1, if_pos (by omega)]
              · rw [if_neg h1, if_neg (by omega)]
          case measure => simp [intOf]; omega
    · have hkm : m = k := by omega
      subst hkm
      have S1 : Hid (St w wr B vs (fun _ => .slice none 0 0) m (fun j => marks j (n j)) (fun _ => [])) := Lib.hid ((HS.out).congr (fun _ _ => rfl) (fun j hj => by have := HC.out j hj; rw [if_pos hj] at this; exact this) (fun _ _ => rfl))
      clear HS0 HL0 HLn HC HS hlt hk
      obtain ⟨i2, hi2, hz2, hs2, hb2⟩ := sliceinfo
      go_wp2_with (at_make; refine wpList_make_full _ rfl _ _ 29 rfl wr.heap.size 22 i2 (.slice none 0 0) 1 Tryd.underlying29 hi2 hz2 hs2 _ _ _ _ m rfl rfl rfl rfl (by rw [hb2]; omega) (by unfold maxLen; omega) (Nat.le_refl _) ?_)
      intro w1 ho1 hg1
      clear hi2 hz2 hs2 hb2
      have G1 : Lst w1 wr.heap.size 0 m (fun _ => .slice none 0 0) := by
        rw [toList_madeCells_one] at ho1
        exact (lst_made ho1).1
      have hbG : w.heap.size ≤ wr.heap.size := (S1.out).below.size
      have hbL : bL < wr.heap.size := (HL.out).lt
      have S2 := Lib.hid ((S1.out).past hg1 (fun X hX => by cases hX))
      have HL2 := Lib.hid ((HL.out).keep hg1 (fun X hX => by cases hX))
      have HG2 := Lib.hid G1
      clear ho1 hg1 G1 S1 HL
      generalize wr.heap.size = bG at *
      go_wp2_with fail
      obtain ⟨wo, rfl⟩ : ∃ wo : World, wo = wr := ⟨_, rfl⟩
      go_loopw [6] (fun kk wr => ∃ (k : Nat) (gs : Nat → Value) (D : Nat → List Int), k ≤ m ∧ kk = .int .i64 k ∧ Hid (∀ j, j < k → D j = marks j (n j + 64)) ∧ Hid (St w wr B vs gs m (fun j => marks j (n j)) D) ∧ Hid (Lst wr bL off m vs) ∧ Hid (Lst wr bG 0 m gs)) (fun kk _ => m - (intOf kk).toNat)
      case atStart => exact ⟨0, _, _, Nat.zero_le _, rfl, Lib.hid (fun j hj => by omega), S2, HL2, HG2⟩
      case round =>
        obtain ⟨k, gs, D, hk, rfl, HD, HS, HL, HG⟩ := hrel
        clear S2 HL2 HG2
        by_cases hlt : k < m
        · have hd : decide (k < m) = true := by simpa using hlt
          have hnb := HN.out k hlt
          have hrk := (HS.out).row k hlt
          obtain ⟨ak, ck, hsh⟩ := hrk.bs.shape
          rw [marks_length] at hsh
          have HSH := Lib.hid hsh
          have cL := (HL.out).cell hlt
          rw [hsh] at cL
          have HA := Lib.hid ((HS.out).alias hlt)
          clear hrk hsh
          go_wp2_with fail
          obtain ⟨wo2, rfl⟩ : ∃ wo2 : World, wo2 = wr := ⟨_, rfl⟩
          go_loopw [7, 8] (fun gg ii wr => ∃ (i : Nat) (ag : Option Addr) (cg : Nat), i ≤ 64 ∧ ii = .int .i64 i ∧ gg = .slice ag (n k + i) cg ∧ Hid (St w wr B vs (upd gs k (.slice ag (n k + i) cg)) m (fun j => marks j (n j)) (upd D k (marks k (n k + i)))) ∧ Hid (Lst wr bL off m vs) ∧ Hid (Lst wr bG 0 m gs)) (fun _ ii _ => 64 - (intOf ii).toNat)
          case atStart => exact ⟨0, ak, ck, Nat.zero_le _, rfl, rfl, Lib.hid (by have := HA.out; rw [HSH.out] at this; exact this), HL, HG⟩
          case round =>
            obtain ⟨i, ag, cg, hi, rfl, rfl, HSi, HLi, HGi⟩ := hrel
            clear cL
            have cL := (HLi.out).cell hlt
            rw [HSH.out] at cL
            by_cases hli : i < 64
            · have hdi : decide ((i : Int) < 64) = true := by simp; omega
              have M := Lib.hid (markByte k ((n k : Int) + i) (by omega) (by omega) (by omega) (by omega))
              go_wp2_with fail
              refine (M.out _).mono ?_; rintro e w' ⟨rfl, rfl⟩
              have hgk := (HSi.out).grw k hlt
              rw [upd_same, upd_same] at hgk
              have hgl := marks_length k (n k + i)
              go_wp2_with (at_builtin; refine wpList_append_owy _ rfl _ _ rfl B _ (marks k (n k + i)) rfl (hgk.alloc _) _ [_] rfl (bs_lit _ _) (by simp) (by rw [hgl]; simp; omega) (by have := (HSi.out).base; simp; omega) ?_)
              intro v2 w2 ho2 hG2
              have hH := ((HSi.out).alloc (.cells #[.int .u8 (mkb k ((n k : Int) + i))] 5)).grow hlt (hgk.alloc _) (fun Y hY => by right; rw [upd_same]; exact hY) (by show (marks k (n k)).length ≤ _; rw [marks_length, marks_length]; omega) (by show (marks k (n k + i)).take (marks k (n k)).length = marks k (n k); rw [marks_length]; exact marks_take (by omega)) ho2 hG2
              obtain ⟨hS3, row, hg3, hrow3⟩ := hH
              have gA := World.grownBy_alloc wr (.cells #[.int .u8 (mkb k ((n k : Int) + i))] 5) none
              have htag : ∀ X, row = some X → Tg (wr.alloc (.cells #[.int .u8 (mkb k ((n k : Int) + i))] 5)) X := fun X hX => ((HSi.out).alloc _).at_tag hlt (hrow3 X hX)
              have L3 := Lib.hid (((HLi.out).alloc (.cells #[.int .u8 (mkb k ((n k : Int) + i))] 5)).keep hg3 htag)
              have G3 := Lib.hid (((HGi.out).alloc (.cells #[.int .u8 (mkb k ((n k : Int) + i))] 5)).keep hg3 htag)
              obtain ⟨ag2, cg2, hs2⟩ := ho2.bs.shape
              have hlen2 : (marks k (n k + i) ++ [mkb k ((n k : Int) + i)]).length = n k + (i + 1) := by rw [List.length_append, marks_length]; rfl
              rw [hlen2] at hs2
              subst hs2
              have hmk : marks k (n k + i) ++ [mkb k ((n k : Int) + i)] = marks k (n k + (i + 1)) := by
                rw [show n k + (i + 1) = (n k + i) + 1 from rfl, marks_succ]; norm_cast
              rw [upd_upd, upd_upd, hmk] at hS3
              have H3 := Lib.hid hS3
              clear hS3 hg3 hrow3 gA htag hlen2 hmk ho2 hG2 hgk hgl HSi HLi HGi
              go_wp2_with fail
              go_roundw
              case rel => exact ⟨i + 1, ag2, cg2, by omega, by go_num, by go_num, H3, L3, G3⟩
              case measure => simp [intOf]; omega
            · have hdi : decide ((i : Int) < 64) = false := by simp; omega
              have hi64 : i = 64 := by omega
              subst hi64
              have cG := (HGi.out).cell hlt
              have fG := (HGi.out).free k
              rw [Nat.zero_add] at cG
              have gst := grownBy_setCell wr ⟨bG, k, none⟩ (.slice ag (n k + 64) cg)
              have S3 := Lib.hid ((HSi.out).past gst (fun X hX => by cases hX; exact ⟨hbG, (HGi.out).noBytes⟩))
              have L3 := Lib.hid ((HLi.out).other gst (fun e => by have : bG = bL := Option.some.inj e; omega))
              have G3 := Lib.hid ((HGi.out).set hlt (.slice ag (n k + 64) cg))
              clear gst HSi HLi HGi HA
              go_wp2_with fail
              go_roundw
              case rel =>
                refine ⟨k + 1, _, _, by omega, by go_num, Lib.hid (fun j hj => ?_), S3, L3, G3⟩
                by_cases e : j = k
                · subst e; rw [upd_same]
                · rw [upd_other _ _ e]; exact HD.out j (by omega)
              case measure => simp [intOf]; omega
        · have hkm : k = m := by omega
          have S1 : Hid (St w wr B vs gs m (fun j => marks j (n j)) (fun j => marks j (n j + 64))) := Lib.hid ((HS.out).congr (fun _ _ => rfl) (fun _ _ => rfl) (fun j hj => HD.out j (by omega)))
          clear HD HS hkm
          go_wp2_with fail
          obtain ⟨wo, rfl⟩ : ∃ wo : World, wo = wr := ⟨_, rfl⟩
          go_loopw [9] (fun kk wr => ∃ (q : Nat), q ≤ m ∧ kk = .int .i64 q ∧ Hid (Still wo wr)) (fun kk _ => m - (intOf kk).toNat)
          case atStart => exact ⟨0, Nat.zero_le _, rfl, Lib.hid (Still.refl _)⟩
          case round =>
            obtain ⟨q, hq, rfl, HT⟩ := hrel
            by_cases hqm : q < m
            · have hd : decide (q < m) = true := by simpa using hqm
              have hnb := HN.out q hqm
              obtain ⟨Yq, cq, hgq, -⟩ := owy_pos ((S1.out).grw q hqm) (by rw [marks_length]; omega)
              rw [marks_length] at hgq
              have cG0 := (HG.out).cell hqm
              rw [Nat.zero_add, hgq] at cG0
              have hrowg := (S1.out).grw q hqm
              rw [hgq] at hrowg
              have KG := Lib.hid (owy_cells hrowg).1
              obtain ⟨aq, c2q, hvq⟩ := ((S1.out).row q hqm).bs.shape
              rw [marks_length] at hvq
              have cL0 := (HL.out).cell hqm
              rw [hvq] at cL0
              have hrowv := Lib.hid ((S1.out).row q hqm)
              have HVQ := Lib.hid hvq
              clear hrowg hgq hvq
              go_wp2_with fail
              go_loopw [10] (fun ii wr => ∃ (i : Nat), i ≤ n q + 64 ∧ ii = .int .i64 i ∧ Hid (Still wo wr)) (fun ii _ => n q + 64 - (intOf ii).toNat)
              case atStart => exact ⟨0, Nat.zero_le _, rfl, HT⟩
              case round =>
                obtain ⟨i, hi, rfl, HTi⟩ := hrel
                have cG := ((HTi.out).cell ⟨bG, q, none⟩).trans cG0
                have cL := ((HTi.out).cell ⟨bL, off + q, none⟩).trans cL0
                by_cases hli : i < n q + 64
                · have hdi : decide (i < n q + 64) = true := by simpa using hli
                  have cg := ((HTi.out).cell ⟨Yq, i, none⟩).trans (KG.out i hli)
                  rw [nth_marks hli] at cg
                  have M := fun W => Lib.hid ((markByte q i (by omega) (by omega) (by omega) (by omega) W).mono fun e w' ⟨h1, h2⟩ => (show e = _ ∧ w' = W from ⟨h2, h1.symm⟩))
                  by_cases hlv : i < n q
                  · have hdv : decide (i < n q) = true := by simpa using hlv
                    have hrv := hrowv.out
                    obtain ⟨Yv, cv, hvv, -⟩ := owy_pos hrv (by rw [marks_length]; omega)
                    rw [marks_length] at hvv
                    have haq : aq = some ⟨Yv, 0, none⟩ := by have := HVQ.out; rw [hvv] at this; cases this; rfl
                    subst haq
                    rw [hvv] at hrv
                    have cvi := ((HTi.out).cell ⟨Yv, i, none⟩).trans ((owy_cells hrv).1 i hlv)
                    rw [nth_marks hlv] at cvi
                    generalize mkb q i = z at cg M cvi
                    clear hrv hvv
                    go_wp2_with fail
                    go_quiet ((go_at_call 18; exact Calls.quiet_of_same (M _).out))
                    go_wp2_with fail
                    go_roundw
                    case rel => exact ⟨i + 1, by omega, by go_num, Lib.hid ((HTi.out).drewN _)⟩
                    case measure => simp [intOf]; omega
                  · have hdv : decide (i < n q) = false := by simpa using hlv
                    generalize mkb q i = z at cg M
                    go_wp2_with fail
                    go_quiet ((go_at_call 18; exact Calls.quiet_of_same (M _).out))
                    go_wp2_with fail
                    go_roundw
                    case rel => exact ⟨i + 1, by omega, by go_num, Lib.hid ((HTi.out).drewN _)⟩
                    case measure => simp [intOf]; omega
                · have hdi : decide (i < n q + 64) = false := by simpa using hli
                  go_wp2_with fail
                  go_roundw
                  case rel => exact ⟨q + 1, by omega, by go_num, HTi⟩
                  case measure => simp [intOf]; omega
            · have hd : decide (q < m) = false := by simpa using hqm
              have HS4 := Lib.hid ((S1.out).still HT.out)
              have HL4 := Lib.hid ((HL.out).still HT.out)
              have HG4 := Lib.hid ((HG.out).still HT.out)
              clear HT hq hqm S1 HL HG
              obtain ⟨i5, hi5, hz5, hs5, hb5⟩ := u8info
              have HI5 := Lib.hid hi5
              have HZ5 := Lib.hid hz5
              have HS5 := Lib.hid hs5
              have HB5 := Lib.hid hb5
              clear hi5 hz5 hs5 hb5
              go_wp2_with fail
              obtain ⟨wo, rfl⟩ : ∃ wo : World, wo = wr := ⟨_, rfl⟩
              go_loopw [11] (fun kk wr => ∃ (k : Nat) (gs : Nat → Value) (D : Nat → List Int), k ≤ m ∧ kk = .int .i64 k ∧ Hid (∀ j, j < m → D j = if j < k then marks j (n j) ++ marks ((j : Int) + m) 64 else marks j (n j + 64)) ∧ Hid (St w wr B vs gs m (fun j => marks j (n j)) D) ∧ Hid (Lst wr bL off m vs) ∧ Hid (Lst wr bG 0 m gs)) (fun kk _ => m - (intOf kk).toNat)
              case atStart => exact ⟨0, _, _, Nat.zero_le _, rfl, Lib.hid (fun j hj => by simp), HS4, HL4, HG4⟩
              case round =>
                obtain ⟨k, gs, D, hk, rfl, HD, HS, HL, HG⟩ := hrel
                clear HS4 HL4 HG4
                by_cases hlt : k < m
                · have hd : decide (k < m) = true := by simpa using hlt
                  have hnb := HN.out k hlt
                  go_wp2_with (at_make; refine wpList_make_full _ rfl _ _ 22 rfl wr.heap.size 5 i5 (.int .u8 0) 1 Tryd.underlying22 HI5.out HZ5.out HS5.out _ _ _ _ 64 rfl rfl rfl rfl (by have := HB5.out; rw [this]; decide) (by unfold maxLen; omega) (Nat.le_refl _) ?_)
                  intro w1 ho1 hg1
                  rw [toList_madeCells_one] at ho1
                  have hX : wr.heap.size ≤ wr.heap.size := Nat.le_refl _
                  have O1 : Own w1 wr.heap.size (.slice (some ⟨wr.heap.size, 0, none⟩) 64 64) (part ((k : Int) + m).toNat 0 (List.replicate 64 0)) := by
                    rw [part_zero]
                    unfold Own
                    simpa [bv] using ho1
                  have HO1 := Lib.hid O1
                  have HG1 := Lib.hid hg1
                  clear ho1 hg1 O1 hX
                  obtain ⟨wb, hwb⟩ : ∃ wb : World, wb = wr := ⟨_, rfl⟩
                  rw [← hwb] at HO1 HG1 HS HL HG
                  have HWB := Lib.hid hwb
                  have hX : wr.heap.size = wb.heap.size := by rw [hwb]
                  rw [hX]
                  clear hwb hX
                  go_wp2_with fail
                  go_loopw [13] (fun ii wr => ∃ (i : Nat), i ≤ 64 ∧ ii = .int .i64 i ∧ Hid (Own wr wb.heap.size (.slice (some ⟨wb.heap.size, 0, none⟩) 64 64) (part ((k : Int) + m).toNat i (List.replicate 64 0))) ∧ Hid (wb.grownBy wr none)) (fun ii _ => 64 - (intOf ii).toNat)
                  case atStart => exact ⟨0, Nat.zero_le _, rfl, HO1, HG1⟩
                  case round =>
                    obtain ⟨i, hi, rfl, HOi, HGi⟩ := hrel
                    by_cases hli : i < 64
                    · have hdi : decide ((i : Int) < 64) = true := by simp; omega
                      obtain ⟨cg, fg⟩ := own_cells HOi.out
                      have cgi := cg i hli
                      have fgi := fg i
                      have M := Lib.hid (markByte ((k : Int) + m) i (by omega) (by omega) (by omega) (by omega))
                      have ekm : ((((k : Int) + m).toNat : Nat) : Int) = (k : Int) + m := by omega
                      have EKM := Lib.hid ekm
                      have hst := (HOi.out).stored i (mkb ((((k : Int) + m).toNat : Nat) : Int) i)
                      rw [part_set (by simpa using hli), EKM.out] at hst
                      have HST := Lib.hid hst
                      clear cg fg hst ekm
                      go_wp2_with fail
                      refine (M.out _).mono ?_; rintro e w' ⟨rfl, rfl⟩
                      go_wp2_with fail
                      go_roundw
                      case rel => exact ⟨i + 1, by omega, by go_num, HST, Lib.hid (grown_step HGi.out (Nat.le_refl _) (grownBy_setCell wr ⟨wb.heap.size, i, none⟩ _))⟩
                      case measure => simp [intOf]; omega
                    · have hdi : decide ((i : Int) < 64) = false := by simp; omega
                      have hi64 : i = 64 := by omega
                      subst hi64
                      have HSi := Lib.hid ((HS.out).past HGi.out (fun X hX => by cases hX))
                      have HLi := Lib.hid ((HL.out).keep HGi.out (fun X hX => by cases hX))
                      have HGG := Lib.hid ((HG.out).keep HGi.out (fun X hX => by cases hX))
                      have hmany := Lib.hid (HOi.out).bs
                      have hpa : part ((k : Int) + m).toNat 64 (List.replicate 64 0) = marks ((k : Int) + m) 64 := by
                        have := part_all (k := ((k : Int) + m).toNat) (l := List.replicate 64 (0 : Int))
                        rw [List.length_replicate] at this
                        rw [this, show ((((k : Int) + m).toNat : Nat) : Int) = (k : Int) + m from by omega]
                      rw [hpa] at hmany
                      have hrk := (HSi.out).row k hlt
                      obtain ⟨ak, ck, hsh⟩ := hrk.bs.shape
                      rw [marks_length] at hsh
                      have cL := (HLi.out).cell hlt
                      rw [hsh] at cL hrk
                      have HRK := Lib.hid hrk
                      have HSH := Lib.hid hsh
                      have hl1 := marks_length k (n k)
                      have hl2 := marks_length ((k : Int) + m) 64
                      clear hrk hsh hpa HS HL HG HOi HO1 HG1
                      go_wp2_with (at_builtin; refine wpList_append_owy _ rfl _ _ rfl B _ (marks k (n k)) rfl HRK.out _ (marks ((k : Int) + m) 64) rfl hmany.out (by rw [hl2]; decide) (by rw [hl1, hl2]; omega) ((HSi.out).base) ?_)
                      intro v2 w2 ho2 hG2
                      have hH := (HSi.out).grow hlt HRK.out (fun Y hY => by left; rw [HSH.out]; exact hY) (by show (marks k (n k)).length ≤ _; exact Nat.le_refl _) (by show (marks k (n k)).take (marks k (n k)).length = marks k (n k); exact List.take_length) ho2 hG2
                      obtain ⟨hS3, row, hg3, hrow3⟩ := hH
                      have htag : ∀ X, row = some X → Tg wr X := fun X hX => (HSi.out).at_tag hlt (hrow3 X hX)
                      have HL3 := Lib.hid ((HLi.out).keep hg3 htag)
                      have HG3 := Lib.hid ((HGG.out).keep hg3 htag)
                      obtain ⟨a2, c2, hs2⟩ := ho2.bs.shape
                      generalize hq2 : (marks k (n k) ++ marks ((k : Int) + m) 64).length = p2 at hs2
                      clear hq2
                      subst hs2
                      have HS3 := Lib.hid hS3
                      clear hS3 hg3 hrow3 htag ho2 hG2 HSi HLi HGG hl1 hl2 hmany cL
                      have cG := (HG3.out).cell hlt
                      have fG := (HG3.out).free k
                      rw [Nat.zero_add] at cG
                      have gst := grownBy_setCell w2 ⟨bG, k, none⟩ (.slice a2 p2 c2)
                      have S4 := Lib.hid ((HS3.out).past gst (fun X hX => by cases hX; exact ⟨hbG, (HG3.out).noBytes⟩))
                      have L4 := Lib.hid ((HL3.out).other gst (fun e => by have : bG = bL := Option.some.inj e; omega))
                      have G4 := Lib.hid ((HG3.out).set hlt (.slice a2 p2 c2))
                      clear gst HS3 HL3 HG3
                      go_wp2_with fail
                      go_roundw
                      case rel =>
                        refine ⟨k + 1, _, _, by omega, by go_num, Lib.hid (fun j hj => ?_), S4, L4, G4⟩
                        by_cases e : j = k
                        · subst e; rw [upd_same, if_pos (by omega)]
                        · rw [upd_other _ _ e, HD.out j hj]
                          by_cases h1 : j < k
                          · rw [if_pos h1, if_pos (by omega)]
                          · rw [if_neg h1, if_neg (by omega)]
                      case measure => simp [intOf]; omega
                · have hd : decide (k < m) = false := by simpa using hlt
                  have hkm : k = m := by omega
                  have S5 : Hid (St w wr B vs gs m (fun j => marks j (n j)) (fun j => marks j (n j) ++ marks ((j : Int) + m) 64)) := Lib.hid ((HS.out).congr (fun _ _ => rfl) (fun _ _ => rfl) (fun j hj => by have := HD.out j hj; rwa [if_pos (by omega)] at this))
                  clear HD HS hkm
                  go_wp2_with fail
                  obtain ⟨wo, rfl⟩ : ∃ wo : World, wo = wr := ⟨_, rfl⟩
                  go_loopw [14] (fun kk wr => ∃ (q : Nat), q ≤ m ∧ kk = .int .i64 q ∧ Hid (Still wo wr)) (fun kk _ => m - (intOf kk).toNat)
                  case atStart => exact ⟨0, Nat.zero_le _, rfl, Lib.hid (Still.refl _)⟩
                  case round =>
                    obtain ⟨q, hq, rfl, HT⟩ := hrel
                    by_cases hqm : q < m
                    · have hd : decide (q < m) = true := by simpa using hqm
                      have hnb := HN.out q hqm
                      obtain ⟨Yq, cq, hgq, -⟩ := owy_pos ((S5.out).grw q hqm) (by rw [List.length_append, marks_length, marks_length]; omega)
                      rw [List.length_append, marks_length, marks_length] at hgq
                      have cG0 := (HG.out).cell hqm
                      rw [Nat.zero_add, hgq] at cG0
                      have hrowg := (S5.out).grw q hqm
                      rw [hgq] at hrowg
                      have KG := Lib.hid (owy_cells hrowg).1
                      obtain ⟨aq, c2q, hvq⟩ := ((S5.out).row q hqm).bs.shape
                      rw [marks_length] at hvq
                      have cL0 := (HL.out).cell hqm
                      rw [hvq] at cL0
                      have hrowv := Lib.hid ((S5.out).row q hqm)
                      have HVQ := Lib.hid hvq
                      clear hrowg hgq hvq
                      go_wp2_with fail
                      go_loopw [15] (fun ii wr => ∃ (i : Nat), i ≤ n q ∧ ii = .int .i64 i ∧ Hid (Still wo wr)) (fun ii _ => n q - (intOf ii).toNat)
                      case atStart => exact ⟨0, Nat.zero_le _, rfl, HT⟩
                      case round =>
                        obtain ⟨i, hi, rfl, HTi⟩ := hrel
                        have cG := ((HTi.out).cell ⟨bG, q, none⟩).trans cG0
                        have cL := ((HTi.out).cell ⟨bL, off + q, none⟩).trans cL0
                        by_cases hlv : i < n q
                        · have hdv : decide (i < n q) = true := by simpa using hlv
                          have cg := ((HTi.out).cell ⟨Yq, i, none⟩).trans (KG.out i (by omega))
                          rw [nth_append_left (by rw [marks_length]; exact hlv), nth_marks hlv] at cg
                          have M := fun W => Lib.hid ((markByte q i (by omega) (by omega) (by omega) (by omega) W).mono fun e w' ⟨h1, h2⟩ => (show e = _ ∧ w' = W from ⟨h2, h1.symm⟩))
                          have hrv := hrowv.out
                          obtain ⟨Yv, cv, hvv, -⟩ := owy_pos hrv (by rw [marks_length]; omega)
                          rw [marks_length] at hvv
                          have haq : aq = some ⟨Yv, 0, none⟩ := by have := HVQ.out; rw [hvv] at this; cases this; rfl
                          subst haq
                          rw [hvv] at hrv
                          have cvi := ((HTi.out).cell ⟨Yv, i, none⟩).trans ((owy_cells hrv).1 i hlv)
                          rw [nth_marks hlv] at cvi
                          generalize mkb q i = z at cg M cvi
                          clear hrv hvv
                          go_wp2_with fail
                          go_quiet ((go_at_call 18; exact Calls.quiet_of_same (M _).out))
                          go_wp2_with fail
                          go_roundw
                          case rel => exact ⟨i + 1, by omega, by go_num, Lib.hid ((HTi.out).drewN _)⟩
                          case measure => simp [intOf]; omega
                        · have hdv : decide (i < n q) = false := by simpa using hlv
                          go_wp2_with fail
                          go_roundw
                          case rel => exact ⟨q + 1, by omega, by go_num, HTi⟩
                          case measure => simp [intOf]; omega
                    · have hd : decide (q < m) = false := by simpa using hqm
                      go_wp2_with fail
                      go_ret
                      exact ⟨rfl, (S5.out).below.trans ((HT.out).below B), (S5.out).kept.trans (spares_still HT.out)⟩
end Go.Proofs.YtknkmblacaaegaaDoor
