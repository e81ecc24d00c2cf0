/- The way of WireReads: both readers read alike, round by round; what was told lies apart. -/
import Derived.Test.YtggbpdkejkmakaaGreatLoop
import Derived.Test.YtggbpdkejkmakaaGreatSameEnt
namespace Go.Proofs.YtggbpdkejkmakaaGreat
open Go.RowKit
set_option linter.unusedVariables false
set_option linter.unusedSimpArgs false

theorem Is.at {w : World} {v : Value} {l : List Int} (h : Is w v l) (hl : 0 < l.length) :
    ∃ b off cap, v = .slice (some ⟨b, off, none⟩) l.length cap ∧ b < w.heap.size ∧ ∀ j, j < l.length → w.cell? ⟨b, off + j, none⟩ = some (.int .i64 (nth l j)) := by
  obtain ⟨ao, cap, rfl, h1, h2, h3, h4⟩ := h
  cases ao with
  | none => have := h3 rfl; subst this; exact absurd hl (Nat.lt_irrefl _)
  | some a =>
    have h0 := h4 a rfl 0 hl
    obtain ⟨b, off, s⟩ := a
    have hs : s = none := by simpa [Addr.add] using World.cell?_spot h0
    subst hs
    refine ⟨b, off, cap, rfl, World.block_lt_of_cell? w _ h0, fun j hj => ?_⟩
    rw [← add_none]; exact h4 _ rfl j hj
theorem Is.shape {w : World} {v : Value} {l : List Int} (h : Is w v l) : ∃ ao cap, v = .slice ao l.length cap := by
  obtain ⟨ao, cap, hv, _⟩ := h; exact ⟨ao, cap, hv⟩
theorem Is.len {w : World} {v : Value} {l : List Int} (h : Is w v l) : l.length ≤ 9223372036854775807 := by
  obtain ⟨ao, cap, rfl, h1, h2, _⟩ := h; unfold maxLen at h2; omega

/-- Ahead of the loop. -/
theorem rs_start {w w1 w2 w3 w4 w5 : World} {ga R D : Nat} {l : List Int} (b1 : Below w.heap.size w w1) (hga : w.heap.size ≤ ga) (hgl : ga < w1.heap.size) (hR : w1.heap.size ≤ R) (b2 : Below w1.heap.size w1 w2) (hr : Rdr w2 R (some l))
    (kR : ∀ w' g, g < w1.heap.size → w2.grownBy w' (some g) → Rdr w' R (some l)) (hD : w2.heap.size ≤ D) (b3 : Below w2.heap.size w2 w3) (hd : Ref w3 D (some l)) (kD : ∀ w' g, g < w2.heap.size → w3.grownBy w' (some g) → Ref w' D (some l))
    (hs : Below w3.heap.size w3 w4) (hg : w4.grownBy w5 (some ga)) : RS w w5 w5.heap.size R D (.slice none 0 0) [] (some l) (some l) := by
  have h1 := b1.size
  have h2 := b2.size
  have h3 := b3.size
  have h4 := hs.size
  have h5 := hg.size
  have h6 := hr.lt
  have h7 := hd.lt
  have g34 : w3.grownBy w4 (some ga) := below_grownBy hs _
  have g35 : w3.grownBy w5 (some ga) := grownBy_trans g34 hg
  have g25 : w2.grownBy w5 (some ga) := grownBy_trans (below_grownBy b3 _) g35
  refine ⟨kR _ _ hgl g25, kD _ _ (by omega) g35, by omega, by omega, by omega, by omega, by omega, Nat.le_refl _, OwnL.nil _ _, fun j hj => (by cases hj), fun i j hi => (by cases hi), ?_⟩
  have k1 : Below w.heap.size w w3 := (b1.trans (b2.mono h1)).trans (b3.mono (by omega))
  exact (k1.trans (hs.mono (by omega))).grown hg (by omega) (fun k hk => by cases hk; exact hga)

theorem six_other {w w' : World} {X b : Nat} {c0 c1 c2 c3 c4 c5 : Value} (hg : w.grownBy w' (some X)) (hne : X ≠ b)
    (h : w.cell? ⟨b, 0, none⟩ = some c0 ∧ w.cell? ⟨b, 1, none⟩ = some c1 ∧ w.cell? ⟨b, 2, none⟩ = some c2 ∧ w.cell? ⟨b, 3, none⟩ = some c3 ∧ w.cell? ⟨b, 4, none⟩ = some c4 ∧ w.cell? ⟨b, 5, none⟩ = some c5) :
    w'.cell? ⟨b, 0, none⟩ = some c0 ∧ w'.cell? ⟨b, 1, none⟩ = some c1 ∧ w'.cell? ⟨b, 2, none⟩ = some c2 ∧ w'.cell? ⟨b, 3, none⟩ = some c3 ∧ w'.cell? ⟨b, 4, none⟩ = some c4 ∧ w'.cell? ⟨b, 5, none⟩ = some c5 := by
  have hn : some b ≠ some X := fun e => hne (Option.some.inj e).symm
  obtain ⟨h0, h1, h2, h3, h4, h5⟩ := h
  exact ⟨hg.cell (a := ⟨b, 0, none⟩) h0 hn, hg.cell (a := ⟨b, 1, none⟩) h1 hn, hg.cell (a := ⟨b, 2, none⟩) h2 hn, hg.cell (a := ⟨b, 3, none⟩) h3 hn, hg.cell (a := ⟨b, 4, none⟩) h4 hn, hg.cell (a := ⟨b, 5, none⟩) h5 hn⟩

theorem pick3 (x : Int) (w : World) (hx : (Lit.int .i64 x).wf = true) : ∃ m : Int, (m = 0 ∨ m = 1 ∨ m = 2) ∧ Calls Tryz.prog 23 #[.int .i64 x, .int .i64 3] w fun e w' => w = w' ∧ e = .returned (.int .i64 m) := by
  refine ⟨x % 3, by omega, ?_⟩
  refine (pick x 3 w hx (by omega)).mono fun e w' ⟨h1, h2⟩ => ⟨h1, by rw [h2]; rfl⟩

set_option maxHeartbeats 8000000 in
set_option maxRecDepth 100000 in
theorem wireReads (l ops : List Int) (ub uo : Value) (w : World) (hb : Bs w ub l) (hoc : Oct l) (ho : Is w uo ops) (hwf : ∀ j, j < ops.length → (Lit.int .i64 (nth ops j)).wf = true) (hl : l.length ≤ 20000) :
    Calls Tryz.prog 6 #[ub, uo] w fun e w' => e = .returned (.bool true) ∧ Below w.heap.size w w' := by
  obtain ⟨ab, cb, hsb⟩ := hb.shape
  obtain ⟨ao, co, hso⟩ := ho.shape
  have holen := ho.len
  have HB := Lib.hid hb
  have HO := Lib.hid ho
  have HC := Lib.hid hoc
  have HF := Lib.hid hwf
  subst hsb hso
  have LB := Lib.hid (lentBytes _ l w hb (by omega))
  clear hb hoc ho hwf
  go_enter Tryz.func6, Tryz.ntmps6
  go_wp2_with fail
  refine (LB.out).mono ?_; rintro e w1 ⟨v1, rfl, hl1, b1⟩
  have HB1 := Lib.hid ((HB.out).past b1)
  have HN := Lib.hid (newReader2 v1 l w1 hl1.bs HC.out (by omega))
  obtain ⟨ga, hva, hga, hgl, hrow⟩ := hl1.row
  have L1 := Lib.hid hl1
  have K1 := Lib.hid b1
  have GR := Lib.hid hrow
  subst hva
  clear hl1 b1 LB hrow
  go_wp2_with fail
  refine (HN.out).mono ?_; rintro e w2 ⟨R, rfl, hR, hrd, b2, kR⟩
  have HM := Lib.hid (refNew _ l w2 ((HB1.out).past b2) HC.out (by omega))
  have L2 := Lib.hid ((L1.out).past b2)
  have K2 := Lib.hid b2
  have KR := Lib.hid kR
  have HR := Lib.hid hrd
  have HB2 := Lib.hid ((HB1.out).past b2)
  clear HN b2 kR hrd HB1 L1
  go_wp2_with fail
  refine (HM.out).mono ?_; rintro e w3 ⟨D, rfl, hD, hrf, b3, kD⟩
  have L3 := Lib.hid ((L2.out).past b3)
  have K3 := Lib.hid b3
  have KD := Lib.hid kD
  have HD := Lib.hid hrf
  have HB3 := Lib.hid ((HB2.out).past b3)
  have HK := Lib.hid (keptBytes' (L3.out) (HB3.out) (by omega))
  clear HM b3 kD hrf HB2 L2
  go_wp2_with fail
  refine (HK.out).mono ?_; rintro e w4 ⟨rfl, hst⟩
  have K4 := Lib.hid hst
  have hrow4 : RowOf w4 ga (l.length + 12) := by
    obtain ⟨g, hv, _, _, hr⟩ := ((L3.out).past hst).row
    cases hv
    exact hr
  have HV := Lib.hid (overBytes ga l.length w4 hrow4 (by omega))
  clear hst HK hrow4 L3 HB3 GR
  go_wp2_with fail
  refine (HV.out).mono ?_; rintro e w5 ⟨rfl, hg⟩
  have S0 := Lib.hid (rs_start K1.out hga hgl hR K2.out HR.out KR.out hD K3.out HD.out KD.out K4.out hg)
  clear hg HV K1 K2 K3 K4 HR KR HD KD hR hD hga hgl
  go_wp2_with fail
  go_loopw [8, 9] (fun tu i wr => ∃ (k : Nat) (vs : List Value) (st : Option (List Int)) (tv : Value), tv = tu ∧ k ≤ ops.length ∧ k ≤ 300 ∧ i = .int .i64 k ∧ Hid (vs.length ≤ k) ∧ Hid (Len 20000 st) ∧ Hid (RS w wr w5.heap.size R D tv vs st st)) (fun _ i _ => 300 - (intOf i).toNat)
  case atStart => exact ⟨0, [], some l, _, rfl, Nat.zero_le _, Nat.zero_le _, rfl, Lib.hid (Nat.le_refl _), Lib.hid (fun l' h => by cases h; exact hl), S0⟩
  case round =>
    obtain ⟨k, vs, st, tv, rfl, hk, hk3, rfl, HVS, HLN, HS⟩ := hrel
    clear S0
    by_cases hlt : k < ops.length ∧ k < 300
    · obtain ⟨hlt, hl3⟩ := hlt
      have hd : decide (k < ops.length) = true := by simpa using hlt
      have hd3 : decide ((k : Int) < 300) = true := by simp; omega
      obtain ⟨bo, off, co', hsh, hbo, cells⟩ := (HO.out).at (by omega)
      have hao : ao = some ⟨bo, off, none⟩ := by cases hsh; rfl
      subst hao
      have ck : wr.cell? ⟨bo, off + k, none⟩ = some (.int .i64 (nth ops k)) := ((HS.out).below.cell (p := ⟨bo, off + k, none⟩) hbo).trans (cells k hlt)
      obtain ⟨m, hm, hp⟩ := pick3 (nth ops k) wr (HF.out k hlt)
      have HP := Lib.hid hp
      clear hsh cells hp hbo
      generalize nth ops k = x at *
      go_wp2_with fail
      refine (HP.out).mono ?_; rintro e wp ⟨rfl, rfl⟩
      clear HP ck
      have hbase := (HS.out).base1
      rcases hm with rfl | rfl | rfl
      · have M1 := Lib.hid (rdrNumber R st _ (HS.out).rdr)
        have M2 := fun W (h : Ref W D st) => Lib.hid (refRdrNumber D st W h)
        have HL' := Lib.hid (len_num HLN.out)
        generalize ans rdNum 0 st = an at *
        obtain ⟨x0, st'⟩ := an
        go_wp2_with fail
        refine (M1.out).mono ?_; rintro e y1 ⟨rfl, hr, hg⟩
        have S1 := Lib.hid ((HS.out).rd hg hr)
        have m2 := M2 _ (S1.out).ref
        clear hr hg M1 M2
        have hxx : (x0 != x0) = false := by simp
        go_wp2_with fail
        refine (m2.out).mono ?_; rintro e y2 ⟨rfl, hr, hg⟩
        have T := Lib.hid ((S1.out).rf hg hr)
        clear hr hg m2 S1 HS
        obtain ⟨vs', hvs⟩ : ∃ vs', vs' = vs := ⟨_, rfl⟩
        subst hvs
        have HV' := Lib.hid (Nat.le_succ_of_le HVS.out)
        have B1 := Lib.hid (bad R st' _ (T.out).rdr)
        have B2 := fun W (h : Ref W D st') => Lib.hid (refBad D st' W h)
        have B3 := fun W (h : Rdr W R st') => Lib.hid (done R st' W h)
        have B4 := fun W (h : Ref W D st') => Lib.hid (refDone D st' W h)
        generalize st'.isNone = bn at *
        generalize isDone st' = dn at *
        go_wp2_with fail
        refine (B1.out).mono ?_; rintro e z1 ⟨rfl, rfl⟩
        have q2 := B2 _ (T.out).ref
        go_wp2_with fail
        refine (q2.out).mono ?_; rintro e z2 ⟨rfl, rfl⟩
        have q3 := B3 _ (T.out).rdr
        clear q2 B1 B2
        have hbn : (bn != bn) = false := by simp
        have hdn : (dn != dn) = false := by simp
        go_wp2_with fail
        refine (q3.out).mono ?_; rintro e z3 ⟨rfl, rfl⟩
        have q4 := B4 _ (T.out).ref
        clear q3 B3
        go_wp2_with fail
        refine (q4.out).mono ?_; rintro e z4 ⟨rfl, hst⟩
        have T2 := Lib.hid ((T.out).past (hst.below _))
        clear hst q4 B4 T
        go_wp2_with fail
        go_roundw
        case rel => exact ⟨k + 1, vs', st', _, rfl, by omega, by omega, by go_num, HV', HL', T2⟩
        case measure => simp [intOf]; omega
      · have M1 := Lib.hid (rdrBytes R st _ (HS.out).rdr ((HLN.out).short (by omega)))
        have M2 := fun W (h : Ref W D st) => Lib.hid (refRdrBytes D st W h ((HLN.out).short (by omega)))
        have HL' := Lib.hid (len_bytes HLN.out).1
        have HLD := Lib.hid (len_bytes HLN.out).2
        generalize ans rdBytes [] st = an at *
        obtain ⟨d0, st'⟩ := an
        go_wp2_with fail
        refine (M1.out).mono ?_; rintro e y1 ⟨v1, rfl, ho1, hr, hg⟩
        obtain ⟨a1, c1, hs1⟩ := ho1.bs.shape
        have NW := Lib.hid ((HS.out).newTo ho1)
        have O1 := Lib.hid (ho1.mono hbase)
        have S1 := Lib.hid ((HS.out).rd hg hr)
        have m2 := M2 _ (S1.out).ref
        subst hs1
        clear hr hg M1 M2 ho1
        go_wp2_with fail
        refine (m2.out).mono ?_; rintro e y2 ⟨v2, rfl, ho2, hr, hg⟩
        obtain ⟨a2, c2, hs2⟩ := ho2.bs.shape
        have O2 := Lib.hid ((O1.out).kept hg (Or.inr (fun e => by have := ((O1.out).lt _ e).1; have := (S1.out).ltD; omega)))
        have S2 := Lib.hid ((S1.out).rf hg hr)
        have Q := Lib.hid (sameBytes_yes (O2.out).bs ho2.bs rfl)
        subst hs2
        clear hr hg m2 ho2 S1 O1
        go_wp2_with fail
        refine (Q.out).mono ?_; rintro e y3 ⟨rfl, hb3⟩
        have S3 := Lib.hid (((S2.out).past hb3).past (alloc_below y3 (.cells #[.slice a1 d0.length c1] 23)))
        have O3 := Lib.hid (((O2.out).below hb3 (Nat.le_refl _)).alloc (.cells #[.slice a1 d0.length c1] 23))
        clear hb3 Q S2 O2 HS
        have hvl : vs.length ≤ 1000000 := by have := HVS.out; omega
        have hcell : (y3.alloc (.cells #[.slice a1 d0.length c1] 23)).cell? ⟨y3.heap.size, 0, none⟩ = some (.slice a1 d0.length c1) := by simp
        have HCL := Lib.hid hcell
        clear hcell
        go_wp2_with (at_builtin; refine wpList_append_l _ rfl _ _ rfl w5.heap.size _ vs rfl (S3.out).told y3.heap.size (.slice a1 d0.length c1) rfl rfl HCL.out hvl (S3.out).base1 ?_)
        intro tv' y4 ho4 hg4
        have T := Lib.hid ((S3.out).tell O3.out HLD.out NW.out ho4 hg4)
        clear ho4 hg4 S3 O3 NW HCL hvl
        have HV' : Hid ((vs ++ [Value.slice a1 d0.length c1]).length ≤ k + 1) := Lib.hid (by have := HVS.out; simp; omega)
        generalize vs ++ [Value.slice a1 d0.length c1] = vs' at *
        have B1 := Lib.hid (bad R st' _ (T.out).rdr)
        have B2 := fun W (h : Ref W D st') => Lib.hid (refBad D st' W h)
        have B3 := fun W (h : Rdr W R st') => Lib.hid (done R st' W h)
        have B4 := fun W (h : Ref W D st') => Lib.hid (refDone D st' W h)
        generalize st'.isNone = bn at *
        generalize isDone st' = dn at *
        go_wp2_with fail
        refine (B1.out).mono ?_; rintro e z1 ⟨rfl, rfl⟩
        have q2 := B2 _ (T.out).ref
        go_wp2_with fail
        refine (q2.out).mono ?_; rintro e z2 ⟨rfl, rfl⟩
        have q3 := B3 _ (T.out).rdr
        clear q2 B1 B2
        have hbn : (bn != bn) = false := by simp
        have hdn : (dn != dn) = false := by simp
        go_wp2_with fail
        refine (q3.out).mono ?_; rintro e z3 ⟨rfl, rfl⟩
        have q4 := B4 _ (T.out).ref
        clear q3 B3
        go_wp2_with fail
        refine (q4.out).mono ?_; rintro e z4 ⟨rfl, hst⟩
        have T2 := Lib.hid ((T.out).past (hst.below _))
        clear hst q4 B4 T
        go_wp2_with fail
        go_roundw
        case rel => exact ⟨k + 1, vs', st', _, rfl, by omega, by omega, by go_num, HV', HL', T2⟩
        case measure => simp [intOf]; omega
      · have M1 := Lib.hid ((rdrEntry R st _ (HS.out).rdr ((HLN.out).short (by omega))))
        have M2 := fun W (h : Ref W D st) => Lib.hid (refRdrEntry D st W h ((HLN.out).short (by omega)))
        have HL' := Lib.hid (len_ent HLN.out).1
        have HLD := Lib.hid (len_ent HLN.out).2
        generalize ans rdEnt zeroEnt st = an at *
        obtain ⟨⟨t0, k0, v0, s0, g0, d0⟩, st'⟩ := an
        go_wp2_with fail
        refine (M1.out).mono ?_; rintro e y1 ⟨v1, rfl, ho1, hr, hg⟩
        obtain ⟨a1, c1, hs1⟩ := ho1.bs.shape
        have NW := Lib.hid ((HS.out).newTo ho1)
        have O1 := Lib.hid (ho1.mono hbase)
        have S1 := Lib.hid ((HS.out).rd hg hr)
        subst hs1
        clear hr hg M1 ho1
        generalize hW : y1.alloc (Obj.cells #[.int .i64 t0, .int .u8 k0, .int .i64 v0, .int .i64 s0, .bool g0, .slice a1 d0.length c1] 28) = W
        have hbW : Below y1.heap.size y1 W := by rw [← hW]; exact alloc_below y1 _
        have X0 : Blk W y1.heap.size (.int .i64 t0) (.int .u8 k0) (.int .i64 v0) (.int .i64 s0) (.bool g0) (.slice a1 d0.length c1) := by rw [← hW]; exact heap_alloc_new y1 _
        have HW := Lib.hid hW
        have hXlt : y1.heap.size < W.heap.size := blk_lt X0
        have hdr : Below W.heap.size W W.drew := (Below.refl _ _).drew
        have S2 := Lib.hid (((S1.out).past hbW).past hdr)
        have O2 := Lib.hid (((O1.out).below hbW (Nat.le_refl _)).below hdr (Nat.le_refl _))
        have hne : D ≠ y1.heap.size := by have := (S1.out).ref.lt; omega
        have m2 := Lib.hid ((M2 _ (S2.out).ref).out.mono fun e w' ⟨v, h1, h2, h3⟩ => by
          obtain ⟨a, c, hs⟩ := h2.bs.shape
          subst hs
          exact (⟨a, c, h1, h2, h3⟩ : ∃ a c, e = .returned (.agg #[.int .i64 t0, .int .u8 k0, .int .i64 v0, .int .i64 s0, .bool g0, .slice a d0.length c]) ∧ Own w' W.drew.heap.size (.slice a d0.length c) d0 ∧ Ref w' D st' ∧ W.drew.grownBy w' (some D)))
        have SE := X0.cells
        obtain ⟨x0, x1, x2, x3, x4, x5⟩ := X0.cells
        have HX0 := Lib.hid X0
        clear hW hbW X0 S1 O1 HS M2 hdr
        go_wp2_with fail
        rw [HW.out]
        go_region_held3 (fun w' => w'.cell? ⟨y1.heap.size, 0, none⟩ = some (.int .i64 t0) ∧ w'.cell? ⟨y1.heap.size, 1, none⟩ = some (.int .u8 k0) ∧ w'.cell? ⟨y1.heap.size, 2, none⟩ = some (.int .i64 v0) ∧ w'.cell? ⟨y1.heap.size, 3, none⟩ = some (.int .i64 s0) ∧ w'.cell? ⟨y1.heap.size, 4, none⟩ = some (.bool g0) ∧ w'.cell? ⟨y1.heap.size, 5, none⟩ = some (.slice a1 d0.length c1)) (first | (with_reducible assumption) | (with_reducible exact six_drew SE)) (first | (go_at_call 30; refine (m2.out).mono ?_; rintro e y2 ⟨a2, c2, rfl, ho2, hr2, hg2⟩; have X2 := six_other hg2 hne (six_drew SE)) | (go_at_call 29; refine (sameEnt t0 k0 v0 s0 g0 d0 _ _ _ ((O2.out).kept hg2 (Or.inr (fun e => by have := ((O2.out).lt _ e).1; have := (S2.out).ltD; omega))).bs ho2.bs).mono ?_; rintro e y3 ⟨rfl, hb3⟩; have X3 := six_past hb3 (by with_reducible assumption)))
        all_goals
          have T1 := Lib.hid (((S2.out).rf hg2 hr2).past hb3)
          have O3 := Lib.hid (((O2.out).kept hg2 (Or.inr (fun e => by have := ((O2.out).lt _ e).1; have := (S2.out).ltD; omega))).below hb3 (Nat.le_refl _))
          have S3 := Lib.hid ((T1.out).past (alloc_below y3 (.cells #[.slice a1 d0.length c1] 23)))
          have O4 := Lib.hid ((O3.out).alloc (.cells #[.slice a1 d0.length c1] 23))
          obtain ⟨-, -, -, -, -, x5⟩ := X3
          clear hg2 hr2 hb3 X2 S2 O2 T1 O3 m2 SE x0 x1 x2 x3 x4 ho2
          have hvl : vs.length ≤ 1000000 := by have := HVS.out; omega
          have hcell : (y3.alloc (.cells #[.slice a1 d0.length c1] 23)).cell? ⟨y3.heap.size, 0, none⟩ = some (.slice a1 d0.length c1) := by simp
          have HCL := Lib.hid hcell
          clear hcell
          go_wp2_with (at_builtin; refine wpList_append_l _ rfl _ _ rfl w5.heap.size _ vs rfl (S3.out).told y3.heap.size (.slice a1 d0.length c1) rfl rfl HCL.out hvl (S3.out).base1 ?_)
          intro tv' y4 ho4 hg4
          have T := Lib.hid ((S3.out).tell O4.out HLD.out NW.out ho4 hg4)
          clear ho4 hg4 S3 O4 NW HCL hvl x5
          have HV' : Hid ((vs ++ [Value.slice a1 d0.length c1]).length ≤ k + 1) := Lib.hid (by have := HVS.out; simp; omega)
          generalize vs ++ [Value.slice a1 d0.length c1] = vs' at *
          have B1 := Lib.hid (bad R st' _ (T.out).rdr)
          have B2 := fun W (h : Ref W D st') => Lib.hid (refBad D st' W h)
          have B3 := fun W (h : Rdr W R st') => Lib.hid (done R st' W h)
          have B4 := fun W (h : Ref W D st') => Lib.hid (refDone D st' W h)
          generalize st'.isNone = bn at *
          generalize isDone st' = dn at *
          go_wp2_with fail
          refine (B1.out).mono ?_; rintro e z1 ⟨rfl, rfl⟩
          have q2 := B2 _ (T.out).ref
          go_wp2_with fail
          refine (q2.out).mono ?_; rintro e z2 ⟨rfl, rfl⟩
          have q3 := B3 _ (T.out).rdr
          clear q2 B1 B2
          have hbn : (bn != bn) = false := by simp
          have hdn : (dn != dn) = false := by simp
          go_wp2_with fail
          refine (q3.out).mono ?_; rintro e z3 ⟨rfl, rfl⟩
          have q4 := B4 _ (T.out).ref
          clear q3 B3
          go_wp2_with fail
          refine (q4.out).mono ?_; rintro e z4 ⟨rfl, hst⟩
          have T2 := Lib.hid ((T.out).past (hst.below _))
          clear hst q4 B4 T
          go_wp2_with fail
          go_roundw
          case rel => exact ⟨k + 1, vs', st', _, rfl, by omega, by omega, by go_num, HV', HL', T2⟩
          case measure => simp [intOf]; omega
    · obtain ⟨n, hRow, hn⟩ := (HS.out).rowy
      have hvl : vs.length ≤ 100000 := by have := HVS.out; omega
      have QA := Lib.hid (apartBytes tv vs n w5.heap.size wr (HS.out).told.vals hRow (HS.out).base1 hvl hn)
      have HBW := Lib.hid (HS.out).below
      have HB0 := (HS.out).base0
      clear hRow hn hvl HS
      by_cases h1 : k < ops.length
      · have hd : decide (k < ops.length) = true := by simpa using h1
        have hd3 : decide ((k : Int) < 300) = false := by simp; omega
        go_wp2_with fail
        refine (QA.out).mono ?_; rintro e z1 ⟨rfl, hz⟩
        have HZ := Lib.hid ((HBW.out).trans (hz.mono HB0))
        clear hz QA HBW
        go_wp2_with fail
        refine (awake _).mono ?_; rintro e z3 ⟨rfl, z4⟩
        go_wp2_with fail
        go_ret
        exact ⟨rfl, (HZ.out).trans (z4.mono (HZ.out).size)⟩
      · have hd : decide (k < ops.length) = false := by simpa using h1
        go_wp2_with fail
        refine (QA.out).mono ?_; rintro e z1 ⟨rfl, hz⟩
        have HZ := Lib.hid ((HBW.out).trans (hz.mono HB0))
        clear hz QA HBW
        go_wp2_with fail
        refine (awake _).mono ?_; rintro e z3 ⟨rfl, z4⟩
        go_wp2_with fail
        go_ret
        exact ⟨rfl, (HZ.out).trans (z4.mono (HZ.out).size)⟩

set_option maxHeartbeats 1000000 in
set_option maxRecDepth 100000 in
theorem wireReads_far (l ops : List Int) (ub uo : Value) (w : World) (hb : Bs w ub l) (ho : Is w uo ops) (hl : 20000 < l.length) :
    Calls Tryz.prog 6 #[ub, uo] w fun e w' => e = .returned (.bool true) ∧ Below w.heap.size w w' := by
  obtain ⟨ab, cb, hsb⟩ := hb.shape
  have lb := hb.len
  subst hsb
  clear hb ho
  generalize l.length = nb at *
  go_enter Tryz.func6, Tryz.ntmps6
  go_wp2_with fail
  refine (awake _).mono ?_; rintro e w1 ⟨rfl, b1⟩
  go_wp2_with fail
  go_ret
  exact ⟨rfl, b1⟩
end Go.Proofs.YtggbpdkejkmakaaGreat
