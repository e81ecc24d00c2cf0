/- As many instructions as may be, and one more (InsLong). -/
import Derived.Test.YtmkhcgfbeeimaaaDoorInsLawK
namespace Go.Proofs.YtmkhcgfbeeimaaaDoor
open Go.RowKit
set_option linter.unusedVariables false
set_option linter.unusedSimpArgs false
set_option maxRecDepth 100000

def exitI : Ins := ⟨28, false, 0, 0, false, 0, 0, 0⟩
def exits (n : Nat) : List Ins := List.replicate n exitI
theorem exits_length (n : Nat) : (exits n).length = n := by simp [exits]
theorem exits_succ (n : Nat) : exits (n + 1) = exits n ++ [exitI] := by simp [exits, List.replicate_succ']
theorem ith_exits {n j : Nat} (h : j < n) : ith (exits n) j = exitI := by
  rw [ith_of (by rw [exits_length]; exact h)]; simp [exits]
theorem exits_rights (n : Nat) : rights (exits n) = true := rights_of fun j hj => by
  rw [exits_length] at hj; rw [ith_exits hj]; decide
theorem exits_wf (n : Nat) : ∀ j, j < (exits n).length → InsWf (ith (exits n) j) := fun j hj => (tame (rights_ith (exits_rights n) hj)).wf
/-- The first one with a number that it may not have. -/
def badI : Ins := ⟨28, false, 0, 0, false, 0, 1, 0⟩
def bads (n : Nat) : List Ins := badI :: exits (n - 1)
theorem bads_length {n : Nat} (h : 0 < n) : (bads n).length = n := by simp [bads, exits_length]; omega
theorem bads_wf {n : Nat} : ∀ j, j < (bads n).length → InsWf (ith (bads n) j) := fun j hj => by
  cases j with
  | zero => rw [show ith (bads n) 0 = badI from rfl]; exact ⟨by decide, by decide, by decide, by decide, by decide, by decide, by decide, by decide, by decide, by decide, by decide, by decide⟩
  | succ j =>
    have h1 : j < (exits (n - 1)).length := by simpa [bads] using hj
    have : ith (bads n) (j + 1) = ith (exits (n - 1)) j := by simp [bads, ith, List.getD]
    rw [this]; exact exits_wf _ j h1
theorem bads_rights (n : Nat) : rights (bads n) = false := by
  have : right badI = false := by decide
  simp [rights, bads, this]
theorem exits_put (n : Nat) : putE (exits n) = if 4096 < n then 3 else 0 := by
  unfold putE; rw [exits_length, exits_rights]; rfl
theorem bads_put {n : Nat} (h : 0 < n) : putE (bads n) = if 4096 < n then 3 else 4 := by
  unfold putE; rw [bads_length h, bads_rights]; simp
/-- Their bytes, written as far as some. -/
def rawB (n k : Nat) : List Int := encs (exits k) ++ List.replicate (8 * n - 8 * k) 0
theorem exit_enc : enc exitI = 28 :: List.replicate 7 0 := by decide
theorem rawB_zero (n : Nat) : rawB n 0 = List.replicate (8 * n) 0 := by simp [rawB, encs, exits]
theorem rawB_length {n k : Nat} (h : k ≤ n) : (rawB n k).length = 8 * n := by
  unfold rawB; rw [List.length_append, encs_length, exits_length, List.length_replicate]; omega
theorem rawB_full (n : Nat) : rawB n n = encs (exits n) := by simp [rawB]
theorem rawB_step {n k : Nat} (h : k < n) : rawB n (k + 1) = (rawB n k).set (8 * k) 28 := by
  have hl : (encs (exits k)).length = 8 * k := by rw [encs_length, exits_length]
  have e1 : List.replicate (8 * n - 8 * k) (0 : Int) = 0 :: (List.replicate 7 0 ++ List.replicate (8 * n - 8 * (k + 1)) 0) := by
    rw [List.replicate_append_replicate, ← List.replicate_succ]
    congr 1; omega
  have e2 : rawB n k = encs (exits k) ++ (0 :: (List.replicate 7 0 ++ List.replicate (8 * n - 8 * (k + 1)) 0)) := by unfold rawB; rw [e1]
  rw [e2, List.set_append_right _ _ (by omega), hl, Nat.sub_self, List.set_cons_zero]
  unfold rawB
  rw [exits_succ, encs_append, encs_one, exit_enc, List.append_assoc]
  rfl
theorem own_raw {w : World} {base g n k : Nat} {m : Nat} (hm : m = 8 * n) (h : Own w base (.slice (some ⟨g, 0, none⟩) m m) (rawB n k)) (hk : k < n) :
    Own (w.setCell ⟨g, 8 * k, none⟩ (.int .u8 28)) base (.slice (some ⟨g, 0, none⟩) m m) (rawB n (k + 1)) ∧ w.grownBy (w.setCell ⟨g, 8 * k, none⟩ (.int .u8 28)) (some g) := by
  unfold Own at h ⊢
  rw [rawB_length (by omega), ← hm] at h ⊢
  have := World.ownsRow.stored h (8 * k) (.int .u8 28)
  rw [rawB_step hk]
  refine ⟨?_, this.2⟩
  have e : bv ((rawB n k).set (8 * k) 28) = (bv (rawB n k)).set (8 * k) (.int .u8 28) := by simp [bv, List.map_set]
  rw [e]; exact this.1
theorem own_bad {w : World} {base g n cap : Nat} (h : OwnI w base (.slice (some ⟨g, 0, none⟩) n cap) (exits n)) (hn : 0 < n) :
    OwnI (w.setCell ⟨g, 6, none⟩ (.int .i64 1)) base (.slice (some ⟨g, 0, none⟩) n cap) (bads n) ∧ w.grownBy (w.setCell ⟨g, 6, none⟩ (.int .i64 1)) (some g) ∧ w.cell? ⟨g, 6, none⟩ = some (.int .i64 0) ∧ w.frozen? ⟨g, 6, none⟩ = false := by
  unfold OwnI at h ⊢
  rw [exits_length] at h
  rw [bads_length hn]
  have hs := World.ownsRow.stored h 6 (.int .i64 1)
  obtain ⟨m, rfl⟩ : ∃ m, n = m + 1 := ⟨n - 1, by omega⟩
  have e : icl (exits (m + 1)) = icells exitI ++ icl (exits m) := by
    rw [show exits (m + 1) = [exitI] ++ exits m from by simp [exits, List.replicate_succ], icl_append, icl_one]
  have e2 : icl (bads (m + 1)) = (icl (exits (m + 1))).set 6 (.int .i64 1) := by
    rw [e, show bads (m + 1) = [badI] ++ exits m from rfl, icl_append, icl_one]
    rfl
  rw [e2]
  refine ⟨hs.1, hs.2, ?_, World.ownsRow.frozenAt h 6⟩
  have hi := (show OwnI w base (.slice (some ⟨g, 0, none⟩) (m + 1) cap) (exits (m + 1)) by unfold OwnI; rw [exits_length]; exact h).inss
  obtain ⟨b, o, he, A⟩ := hi.at0 (by rw [exits_length]; omega)
  cases he
  rw [ith_exits (by omega)] at A
  exact A.c6
theorem OwnI.at_block {w : World} {base n : Nat} {v : Value} {l : List Ins} (h : OwnI w base v l) (hl : l.length = n) (hn : 0 < n) : ∃ g cap, v = .slice (some ⟨g, 0, none⟩) n cap ∧ base ≤ g := by
  rcases h.2 with ⟨rfl, h0⟩ | ⟨g, cap, cur, rfl, hb, _⟩
  · omega
  · exact ⟨g, cap, by rw [hl], hb⟩
theorem exits_get (n : Nat) : getE (encs (exits n)) = if 4096 < n then 3 else 0 := by
  have hl : (encs (exits n)).length = 8 * n := by rw [encs_length, exits_length]
  by_cases h : 4096 < n
  · rw [if_pos h]; exact getE_long (by omega)
  · rw [if_neg h]
    have hp : putE (exits n) = 0 := by rw [exits_put, if_neg h]
    have := (get_put hp n (by rw [exits_length]; exact Nat.le_refl _)).1
    unfold putI at this
    rw [if_pos hp, List.take_of_length_le (by omega)] at this
    exact this
theorem exits_got {n : Nat} (h : ¬ 4096 < n) : (getI (encs (exits n))).length = n := by
  have hl : (encs (exits n)).length = 8 * n := by rw [encs_length, exits_length]
  have hg : getE (encs (exits n)) = 0 := by rw [exits_get, if_neg h]
  unfold getI; rw [if_pos hg, decs_length, hl]; omega
theorem exits_oct (n : Nat) : Oct (encs (exits n)) := encs_oct (exits_rights n)

/-- The instructions that are put. -/
def long (bad : Bool) (n : Nat) : List Ins := if bad = true then bads n else exits n
structure IsPut (bad : Bool) (n : Nat) : Prop where
  pos : 0 < n
  few : n ≤ 4101
theorem IsPut.len {bad : Bool} {n : Nat} (h : IsPut bad n) : (long bad n).length = n := by unfold long; split; exact bads_length h.pos; exact exits_length n
theorem IsPut.wf {bad : Bool} {n : Nat} (h : IsPut bad n) : ∀ j, j < (long bad n).length → InsWf (ith (long bad n) j) := by unfold long; split; exact bads_wf; exact exits_wf n
theorem IsPut.err {bad : Bool} {n : Nat} (h : IsPut bad n) : putE (long bad n) = if 4096 < n then 3 else if bad = true then 4 else 0 := by
  unfold long; cases bad
  · simp [exits_put]
  · simp [bads_put h.pos]
set_option maxHeartbeats 16000000 in
theorem insLongOf (z : Int) (bad : Bool) (w : World) (T : Tab w) (hz : (Lit.int .i64 z).wf = true) : Calls Tryd.prog 5 #[.int .i64 z, .bool bad] w (Says true w) := by
  have HT := Lib.hid T
  obtain ⟨c, hc, PK⟩ : ∃ c : Nat, c < 12 ∧ ∀ W, Calls Tryd.prog 26 #[.int .i64 z, .int .i64 12] W fun e w' => W = w' ∧ e = .returned (.int .i64 c) := by
    have a0 := Int.emod_nonneg z (show (12 : Int) ≠ 0 by omega)
    have a1 := Int.emod_lt_of_pos z (show (0 : Int) < 12 by omega)
    obtain ⟨c, hc⟩ := Int.eq_ofNat_of_zero_le a0
    refine ⟨c, by omega, fun W => (pick z 12 W hz (by omega)).mono fun e w' ⟨h1, h2⟩ => ⟨h1, ?_⟩⟩
    rw [h2, if_neg (by omega), hc]
  have HP := Lib.hid PK
  obtain ⟨N, hN⟩ : ∃ N, N = 4090 + c := ⟨_, rfl⟩
  have HN := Lib.hid hN
  have WN : IntKind.i64.wrap (4090 + (c : Int)) = (N : Int) := by rw [IntKind.wrap_i64]; omega
  have hN1 : 4090 ≤ N ∧ N ≤ 4101 := by omega
  have HB := Lib.hid hN1
  clear T PK hz hN hN1
  go_enter Tryd.func5, Tryd.ntmps5
  go_wp2_with fail
  refine (awake _ HT.out).mono ?_; rintro e w1 ⟨rfl, b1⟩
  have B1 := Lib.hid b1
  have T1 := Lib.hid ((HT.out).past b1)
  clear b1
  go_wp2_with fail
  go_loopw [5, 6] (fun s i wr => ∃ (k : Nat) (sv : Value), k ≤ N ∧ i = .int .i64 k ∧ s = sv ∧ Hid (OwnI wr w1.heap.size sv (exits k)) ∧ Hid (Below w1.heap.size w1 wr)) (fun _ i _ => N - (intOf i).toNat)
  case atStart => exact ⟨0, _, Nat.zero_le _, rfl, rfl, Lib.hid (OwnI.nil _ _), Lib.hid (Below.refl _ _)⟩
  case round =>
    obtain ⟨k, sv, hk, rfl, rfl, HO, HBW⟩ := hrel
    go_wp2_with fail
    refine ((HP.out) _).mono ?_; rintro e w_ ⟨rfl, rfl⟩
    by_cases hlt : k < N
    · have hd : decide ((k : Int) < (N : Int)) = true := by simp; omega
      have hd2 : decide (k < N) = true := by simpa using hlt
      have hb := HB.out
      have HM := Lib.hid (inss_one wr exitI)
      have HO2 := Lib.hid ((HO.out).alloc (Obj.cells #[.int .u8 28, .bool false, .int .i64 0, .int .i64 0, .bool false, .int .i64 0, .int .i64 0, .int .i64 0] 27))
      have B2 := Lib.hid ((HBW.out).alloc (HBW.out).size (Obj.cells #[.int .u8 28, .bool false, .int .i64 0, .int .i64 0, .bool false, .int .i64 0, .int .i64 0, .int .i64 0] 27))
      go_wp2_with (at_builtin; refine wpList_append_i _ rfl _ _ rfl w1.heap.size _ (exits k) rfl HO2.out _ [exitI] rfl HM.out (by rw [exits_length]; simp; omega) (B2.out).size ?_)
      intro v3 w3 ho3 hg3
      have B3 := Lib.hid ((B2.out).grown hg3 (B2.out).size (fun j hj => ((HO2.out).lt j hj).1))
      rw [← exits_succ] at ho3
      have HO3 := Lib.hid ho3
      obtain ⟨a3, c3, hv3⟩ := ho3.shape
      clear ho3 hg3
      go_wp2_with fail
      go_roundw
      case rel => exact ⟨k + 1, v3, by omega, by go_num, rfl, HO3, B3⟩
      case measure => simp [intOf]; omega
    · have hd : decide ((k : Int) < (N : Int)) = false := by simp; omega
      have hd2 : decide (k < N) = false := by simpa using hlt
      have hkn : k = N := by omega
      subst hkn
      have hN0 : 0 < k := by have := (HB.out).1; omega
      obtain ⟨g, cap, hv, hg⟩ := (HO.out).at_block (exits_length k) hN0
      subst hv
      have HG := Lib.hid hg
      obtain ⟨bo, bg, bc, bf⟩ := own_bad HO.out hN0
      have HBO := Lib.hid bo
      have HBG := Lib.hid bg
      have IP := Lib.hid (show IsPut bad k from ⟨hN0, (HB.out).2⟩)
      have hb1 := (HB.out).1
      have hb2 := (HB.out).2
      clear bo bg hg hd2
      go_upto_if 27 with fail
      go_cut [4] (fun r wx => r = .bool false ∧ Hid (OwnI wx w1.heap.size (.slice (some ⟨g, 0, none⟩) k cap) (long bad k)) ∧ Hid (Below w1.heap.size w1 wx))
      case first =>
        cases bad with
        | false =>
          go_wp2_with fail
          go_meet
          exact ⟨rfl, HO, HBW⟩
        | true =>
          have u1 : (0 : Int) < (k : Int) := by omega
          go_wp2_with fail
          go_meet
          exact ⟨rfl, HBO, Lib.hid ((HBW.out).grown HBG.out (HBW.out).size (fun j h => by cases h; exact HG.out))⟩
      case rest =>
      obtain ⟨rfl, HO2, HBW2⟩ := hcut
      clear bc bf HBO HBG HO HBW
      have T2 := Lib.hid ((T1.out).past HBW2.out)
      have B2 := Lib.hid ((B1.out).trans ((HBW2.out).mono (B1.out).size))
      have PU := putP (.slice (some ⟨g, 0, none⟩) k cap) (long bad k) _ T2.out (HO2.out).inss (by rw [(IP.out).len]; omega) (IP.out).wf
      have hpl : putE (long bad k) = 0 → (putI (long bad k)).length = 8 * k := fun h => by unfold putI; rw [if_pos h, encs_length, (IP.out).len]
      have hpe := (IP.out).err
      generalize putE (long bad k) = pe at PU hpl hpe
      generalize putI (long bad k) = pl at PU hpl
      have HPU := Lib.hid PU
      have HPL := Lib.hid hpl
      have HPE := Lib.hid hpe
      clear PU hpl hpe
      go_wp2_with fail
      refine (HPU.out).mono ?_; rintro e w5 ⟨v5, rfl, o5, b5⟩
      have B5 := Lib.hid ((B2.out).trans (b5.mono (B2.out).size))
      have T5 := Lib.hid ((T2.out).past b5)
      obtain ⟨a5, c5, hv5⟩ := o5.bs.shape
      generalize hpq : pl.length = q at *
      subst hv5
      clear o5 b5 hpq
      have W8 : IntKind.i64.wrap (8 * (k : Int)) = ((8 * k : Nat) : Int) := by rw [IntKind.wrap_i64]; omega
      go_upto_region 12 with fail
      go_cut [9, 74] (fun r9 r wx => ∃ lb : Bool, r9 = .bool lb ∧ r = .bool false ∧ wx = w5 ∧ Hid (lb = decide (4096 < k)))
      case first =>
        have h1 := HPE.out
        by_cases lg : 4096 < k
        · have dl : decide (4096 < k) = true := by simpa using lg
          rw [if_pos lg] at h1
          subst h1
          go_wp2_with fail
          go_meet
          exact ⟨_, rfl, rfl, rfl, Lib.hid dl.symm⟩
        · have dl : decide (4096 < k) = false := by simpa using lg
          rw [if_neg lg] at h1
          cases bad with
          | true =>
            rw [if_pos rfl] at h1
            subst h1
            go_wp2_with fail
            go_meet
            exact ⟨_, rfl, rfl, rfl, Lib.hid dl.symm⟩
          | false =>
            rw [if_neg (by decide)] at h1
            subst h1
            have hq := HPL.out rfl
            subst hq
            go_wp2_with fail
            go_meet
            exact ⟨_, rfl, rfl, rfl, Lib.hid dl.symm⟩
      case rest =>
      obtain ⟨lb, rfl, rfl, rfl, HLB⟩ := hcut
      obtain ⟨i0, hi, hz, hs1, hb1'⟩ := u8info
      have HI := Lib.hid hi
      have HZ := Lib.hid hz
      have HS1 := Lib.hid hs1
      have HBY := Lib.hid hb1'
      clear hi hz hs1 hb1'
      go_wp2_with (at_make; refine wpList_make_full _ rfl _ _ 34 rfl wc.heap.size 5 i0 (.int .u8 0) 1 Tryd.underlying34 HI.out HZ.out HS1.out _ _ _ _ (8 * k) rfl rfl (by first | rfl | omega) (by first | rfl | omega) (by have := HBY.out; rw [this]; omega) (by unfold maxLen; omega) (Nat.le_refl _) ?_)
      intro w6 hown6 hg6
      have O6 : Own w6 wc.heap.size (.slice (some ⟨wc.heap.size, 0, none⟩) (8 * k) (8 * k)) (rawB k 0) := by
        rw [rawB_zero]
        unfold Own
        rw [List.length_replicate]
        have e : (madeCells #[Value.int .u8 0] (8 * k)).toList = bv (List.replicate (8 * k) 0) := by
          rw [toList_madeCells_one]; simp [bv]
        rw [← e]; exact hown6
      have HO6 := Lib.hid O6
      have B6 := Lib.hid ((Below.refl wc.heap.size wc).grown hg6 (Nat.le_refl _) (fun k h => by cases h))
      obtain ⟨G, hG⟩ : ∃ G, G = wc.heap.size := ⟨_, rfl⟩
      rw [← hG] at HO6 B6 ⊢
      have HGG := Lib.hid hG
      clear hown6 hg6 O6 hG
      go_wp2_with fail
      go_loopw [11] (fun i wr => ∃ j p : Nat, j ≤ k ∧ Hid (p = 8 * j) ∧ i = .int .i64 p ∧ Hid (Own wr G (.slice (some ⟨G, 0, none⟩) (8 * k) (8 * k)) (rawB k j)) ∧ Hid (Below G wc wr)) (fun i _ => 8 * k - (intOf i).toNat)
      case atStart => exact ⟨0, 0, Nat.zero_le _, Lib.hid rfl, rfl, HO6, B6⟩
      case round =>
        obtain ⟨j, p, hj, HPJ, rfl, HOj, HBj⟩ := hrel
        by_cases hlt : j < k
        · have hp8 : p < 8 * k := by have := HPJ.out; omega
          have hd : decide ((p : Int) < 8 * (k : Int)) = true := by simp; omega
          have hd2 : decide (p < 8 * k) = true := by simpa using hp8
          have p0 : 0 ≤ (p : Int) := by omega
          have p1 : (p : Int) < ((8 * k : Nat) : Int) := by omega
          have p2 : (p : Int) < 8 * (k : Int) := by omega
          have hl := rawB_length (n := k) (k := j) (by omega)
          have hcell : wr.cell? ⟨G, p, none⟩ = some (.int .u8 (nth (rawB k j) p)) := by
            have := HOj.out.bs
            obtain ⟨b, off, c, hv, -, -, -, cells⟩ := this.at (by omega)
            rw [hl] at hv
            cases hv
            have := cells p (by omega)
            simpa using this
          have hfz : wr.frozen? ⟨G, p, none⟩ = false := by
            have := HOj.out
            unfold Own at this
            rw [hl] at this
            exact World.ownsRow.frozenAt this p
          obtain ⟨on, gn⟩ := own_raw (m := 8 * k) rfl HOj.out hlt
          rw [← HPJ.out] at on gn
          have HON := Lib.hid on
          have HGN := Lib.hid gn
          have Wp : IntKind.i64.wrap ((p : Int) + 8) = ((p + 8 : Nat) : Int) := by rw [IntKind.wrap_i64]; omega
          generalize nth (rawB k j) p = y at hcell
          clear on gn hl
          go_wp2_with fail
          go_roundw
          case rel => exact ⟨j + 1, p + 8, by omega, Lib.hid (by rw [HPJ.out]; omega), by first | rfl | go_num, HON, Lib.hid ((HBj.out).grown HGN.out (by have := (HBj.out).size; have := HGG.out; omega) (fun j h => by cases h; exact Nat.le_refl _))⟩
          case measure => simp [intOf]; omega
        · have hjk : j = k := by omega
          subst hjk
          have hd : decide ((p : Int) < 8 * (j : Int)) = false := by simp; have := HPJ.out; omega
          have hd2 : decide (p < 8 * j) = false := by simp; have := HPJ.out; omega
          have W9 := (Below.mono (HBj.out) (Nat.le_of_eq HGG.out.symm))
          have B7 := Lib.hid ((B5.out).trans (W9.mono (B5.out).size))
          have T7 := Lib.hid ((T5.out).past W9)
          have GP := getP (.slice (some ⟨G, 0, none⟩) (8 * j) (8 * j)) (rawB j j) _ T7.out HOj.out.bs (by rw [rawB_full]; exact exits_oct j) (by rw [rawB_length (Nat.le_refl j)]; omega)
          rw [rawB_full, exits_get] at GP
          have HGP := Lib.hid GP
          have HGE := Lib.hid (fun (h : ¬ 4096 < j) => exits_got h)
          have HGN := Lib.hid (fun (h : 4096 < j) => show getI (encs (exits j)) = [] from getI_not (by rw [exits_get, if_pos h]; decide))
          clear GP W9
          generalize getI (encs (exits j)) = gi at HGP HGE HGN
          by_cases lg : 4096 < j
          · have hlb : lb = true := by rw [HLB.out]; simpa using lg
            subst hlb
            rw [if_pos lg, HGN.out lg] at HGP
            go_wp2_with fail
            refine (HGP.out).mono ?_; rintro e w9 ⟨v9, rfl, o9, b9⟩
            obtain ⟨a9, c9, hv9⟩ := o9.shape
            subst hv9
            go_wp2_with fail
            go_ret
            exact ⟨rfl, (B7.out).trans (b9.mono (B7.out).size)⟩
          · have hlb : lb = false := by rw [HLB.out]; simpa using lg
            subst hlb
            rw [if_neg lg] at HGP
            go_wp2_with fail
            refine (HGP.out).mono ?_; rintro e w9 ⟨v9, rfl, o9, b9⟩
            obtain ⟨a9, c9, hv9⟩ := o9.shape
            rw [HGE.out lg] at hv9
            subst hv9
            go_wp2_with fail
            go_ret
            exact ⟨by first | rfl | (simp; done), (B7.out).trans (b9.mono (B7.out).size)⟩
end Go.Proofs.YtmkhcgfbeeimaaaDoor
