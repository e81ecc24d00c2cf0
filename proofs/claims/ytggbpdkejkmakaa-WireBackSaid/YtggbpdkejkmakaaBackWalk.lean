/- The way of WireBack: what was written is read, in its order; of a beginning the reader is bad. -/
import Derived.Test.YtggbpdkejkmakaaBackKit
import Derived.Deep.RegionHeld3
import Derived.Deep.DeepCutAuto
namespace Go.Proofs.Ytggbpdkejkmakaa
open Go.RowKit
set_option linter.unusedVariables false
set_option linter.unusedSimpArgs false

theorem behind_len {st : Option (List Int)} {rest : List Int} (h : Behind st rest) : Len rest.length st := fun p hp => by
  obtain ⟨q, _, e⟩ := h p hp
  rw [← e, List.length_append]; omega
theorem Bs.form {w : World} {v : Value} {l : List Int} (h : Bs w v l) : ∃ a p c, v = .slice a p c := by
  obtain ⟨a, c, h⟩ := h.shape; exact ⟨a, _, c, h⟩
theorem pickIn (x : Int) (n : Nat) (w : World) (hx : (Lit.int .i64 x).wf = true) (hn : n ≤ 1000000000000) (h0 : 0 < n) : ∃ c : Nat, c < n ∧ Calls Try.prog 24 #[.int .i64 x, .int .i64 n] w fun e w' => w = w' ∧ e = .returned (.int .i64 c) := by
  have a0 := Int.emod_nonneg x (show (n : Int) ≠ 0 by omega)
  have a1 := Int.emod_lt_of_pos x (show (0 : Int) < n by omega)
  obtain ⟨c, hc⟩ := Int.eq_ofNat_of_zero_le a0
  refine ⟨c, by omega, (pick x n w hx (by omega)).mono fun e w' ⟨h1, h2⟩ => ⟨h1, ?_⟩⟩
  rw [h2, if_neg (by omega), hc]

/-- What both readers do, given where they stand. -/
theorem rNum {w0 w : World} {R S : Nat} {n : Int} {T : List Int} {s2 : Option (List Int)} (h : WB w0 w R S (some (num8 n ++ T)) s2) (n0 : -9223372036854775808 ≤ n) (n1 : n ≤ 9223372036854775807) :
    Calls Try.prog 25 #[.pointer (some ⟨R, 0, none⟩)] w fun e w' => e = .returned (.int .i64 n) ∧ WB w0 w' R S (some T) s2 ∧ w.grownBy w' (some R) := by
  have := rdrNumber R _ w h.r
  rw [ans_num8 n T n0 n1] at this
  exact this.mono fun e w' ⟨h1, h2, h3⟩ => ⟨h1, h.left h3 h2, h3⟩
theorem rByt {w0 w : World} {R S : Nat} {l T : List Int} {s2 : Option (List Int)} (h : WB w0 w R S (some (len8 l ++ T)) s2) (hl : l.length ≤ 20000) (hT : T.length ≤ 1000000) :
    Calls Try.prog 27 #[.pointer (some ⟨R, 0, none⟩)] w fun e w' => ∃ a c, e = .returned (.slice a l.length c) ∧ Bs w' (.slice a l.length c) l ∧ WB w0 w' R S (some T) s2 ∧ w.grownBy w' (some R) := by
  have := rdrBytes R _ w h.r (fun p hp => by cases hp; rw [List.length_append, len8_length]; omega)
  rw [ans_len8 l T (by omega)] at this
  exact this.mono fun e w' ⟨v, h1, h2, h3, h4⟩ => by
    obtain ⟨a, c, hs⟩ := h2.bs.shape
    subst hs
    exact ⟨a, c, h1, h2.bs, h.left h4 h3, h4⟩
theorem rEnt {w0 w : World} {R S : Nat} {x : Ent} {T : List Int} {s2 : Option (List Int)} (h : WB w0 w R S (some (entB x ++ T)) s2) (hx : Fits x) (hl : x.d.length ≤ 1000000) (hT : T.length ≤ 1000000) :
    Calls Try.prog 29 #[.pointer (some ⟨R, 0, none⟩)] w fun e w' => ∃ a c, e = .returned (.agg #[.int .i64 x.t, .int .u8 x.k, .int .i64 x.v, .int .i64 x.s, .bool x.g, .slice a x.d.length c]) ∧ Bs w' (.slice a x.d.length c) x.d ∧ WB w0 w' R S (some T) s2 ∧ w.grownBy w' (some R) := by
  have := rdrEntry R _ w h.r (fun p hp => by cases hp; rw [List.length_append, entB_length]; omega)
  rw [ans_ent x T hx] at this
  exact this.mono fun e w' ⟨v, h1, h2, h3, h4⟩ => by
    obtain ⟨a, c, hs⟩ := h2.bs.shape
    subst hs
    exact ⟨a, c, h1, h2.bs, h.left h4 h3, h4⟩
theorem sNum {w0 w : World} {R S : Nat} {n : Int} {T : List Int} {s1 s2 : Option (List Int)} (h : WB w0 w R S s1 s2) (hb : Behind s2 (num8 n ++ T)) :
    Calls Try.prog 25 #[.pointer (some ⟨S, 0, none⟩)] w fun e w' => ∃ (m : Int) (t : Option (List Int)), e = .returned (.int .i64 m) ∧ WB w0 w' R S s1 t ∧ Behind t T :=
  (rdrNumber S _ w h.s).mono fun e w' ⟨h1, h2, h3⟩ => ⟨_, _, h1, h.right h3 h2, behind_num hb⟩
theorem sByt {w0 w : World} {R S : Nat} {l T : List Int} {s1 s2 : Option (List Int)} (h : WB w0 w R S s1 s2) (hb : Behind s2 (len8 l ++ T)) (hl : l.length ≤ 20000) (hT : T.length ≤ 1000000) :
    Calls Try.prog 27 #[.pointer (some ⟨S, 0, none⟩)] w fun e w' => ∃ (a : Option Addr) (m c : Nat) (t : Option (List Int)), e = .returned (.slice a m c) ∧ WB w0 w' R S s1 t ∧ Behind t T :=
  (rdrBytes S _ w h.s ((behind_len hb).short (by rw [List.length_append, len8_length]; omega))).mono fun e w' ⟨v, h1, h2, h3, h4⟩ => by
    obtain ⟨a, c, hs⟩ := h2.bs.shape
    rw [hs] at h1
    exact ⟨a, _, c, _, h1, h.right h4 h3, behind_bytes (by omega) hb⟩
theorem sEnt {w0 w : World} {R S : Nat} {x : Ent} {T : List Int} {s1 s2 : Option (List Int)} (h : WB w0 w R S s1 s2) (hb : Behind s2 (entB x ++ T)) (hl : x.d.length ≤ 1000000) (hT : T.length ≤ 1000000) :
    Calls Try.prog 29 #[.pointer (some ⟨S, 0, none⟩)] w fun e w' => ∃ (z0 z1 z2 z3 : Int) (z4 : Bool) (z5 : Value) (t : Option (List Int)), e = .returned (.agg #[.int .i64 z0, .int .u8 z1, .int .i64 z2, .int .i64 z3, .bool z4, z5]) ∧ WB w0 w' R S s1 t ∧ Behind t T :=
  (rdrEntry S _ w h.s ((behind_len hb).short (by rw [List.length_append, entB_length]; omega))).mono fun e w' ⟨v, h1, h2, h3, h4⟩ =>
    ⟨_, _, _, _, _, _, _, h1, h.right h4 h3, behind_ent (by omega) hb⟩
theorem rDone {w0 w : World} {R S : Nat} {T : List Int} {s2 : Option (List Int)} (h : WB w0 w R S (some T) s2) (hT : 0 < T.length) :
    Calls Try.prog 34 #[.pointer (some ⟨R, 0, none⟩)] w fun e w' => w = w' ∧ e = .returned (.bool false) :=
  (done R _ w h.r).mono fun e w' ⟨h1, h2⟩ => ⟨h1, by rw [h2]; have : isDone (some T) = false := by simp [isDone]; intro e; rw [e] at hT; cases hT
                                                     rw [this]⟩
theorem wb_mk1 {w wc y1 y2 : World} {R S : Nat} {s1 s2 : Option (List Int)} (h : Below w.heap.size w wc) (hR : wc.drew.heap.size ≤ R) (r : Rdr y1 R s1) (b1 : Below wc.drew.heap.size wc.drew y1) (hS : y1.heap.size ≤ S) (s : Rdr y2 S s2) (b2 : Below y1.heap.size y1 y2) : WB w y2 R S s1 s2 := by
  have hd : Below w.heap.size w wc.drew := h.drew
  have h1 := hd.size
  have h2 := b1.size
  have h3 := r.lt
  exact ⟨r.keep (below_grownBy b2 none) (fun k hk => by cases hk), s, by omega, by omega, by omega, (hd.trans (b1.mono h1)).trans (b2.mono (by omega))⟩
theorem wb_mk2 {w wc y1 y2 : World} {R S : Nat} {s1 s2 : Option (List Int)} (h : Below w.heap.size w wc) (hS : wc.drew.heap.size ≤ S) (s : Rdr y1 S s2) (b1 : Below wc.drew.heap.size wc.drew y1) (hR : y1.heap.size ≤ R) (r : Rdr y2 R s1) (b2 : Below y1.heap.size y1 y2) : WB w y2 R S s1 s2 := by
  have hd : Below w.heap.size w wc.drew := h.drew
  have h1 := hd.size
  have h2 := b1.size
  have h3 := s.lt
  exact ⟨r, s.keep (below_grownBy b2 none) (fun k hk => by cases hk), by omega, by omega, by omega, (hd.trans (b1.mono h1)).trans (b2.mono (by omega))⟩
theorem EntAt.six {w : World} {b o : Nat} {x : Ent} {u : Value} (h : EntAt w b o x u) :
    w.cell? ⟨b, o, none⟩ = some (.int .i64 x.t) ∧ w.cell? ⟨b, o + 1, none⟩ = some (.int .u8 x.k) ∧ w.cell? ⟨b, o + 2, none⟩ = some (.int .i64 x.v) ∧ w.cell? ⟨b, o + 3, none⟩ = some (.int .i64 x.s) ∧ w.cell? ⟨b, o + 4, none⟩ = some (.bool x.g) ∧ w.cell? ⟨b, o + 5, none⟩ = some u :=
  ⟨h.c0, h.c1, h.c2, h.c3, h.c4, h.c5⟩
theorem flatE_drop_len (xs : List Ent) (k : Nat) : (flatE (xs.drop k)).length ≤ (flatE xs).length := by
  have e : flatE xs = flatE (xs.take k) ++ flatE (xs.drop k) := by
    unfold flatE
    rw [← List.flatten_append, ← List.map_append, List.take_append_drop]
  rw [e, List.length_append]; omega
theorem flatE_oct {xs : List Ent} (h : ∀ j, j < xs.length → Oct (eth xs j).d) : Oct (flatE xs) := by
  intro n hn
  simp only [flatE, List.mem_flatten, List.mem_map] at hn
  obtain ⟨_, ⟨x, hx, rfl⟩, hn⟩ := hn
  obtain ⟨j, hj, rfl⟩ := List.getElem_of_mem hx
  have := h j hj
  rw [eth_of hj] at this
  exact entB_oct this n hn
set_option maxHeartbeats 8000000 in
set_option maxRecDepth 100000 in
theorem wireBack (n cut : Int) (xs : List Ent) (l : List Int) (uv ub : Value) (w : World) (hx : Es w uv xs) (hb : Bs w ub l) (hoc : Oct l) (n0 : -9223372036854775808 ≤ n) (n1 : n ≤ 9223372036854775807) (hc : (Lit.int .i64 cut).wf = true) :
    Calls Try.prog 6 #[uv, .int .i64 n, ub, .int .i64 cut] w fun e w' => e = .returned (.bool true) ∧ Below w.heap.size w w' := by
  obtain ⟨av, cv, hsv⟩ := hx.shape
  obtain ⟨ab, cb, hsb⟩ := hb.shape
  have hxl := hx.len
  have hbl := hb.len
  have HX := Lib.hid hx
  have HB := Lib.hid hb
  have HO := Lib.hid hoc
  have HC := Lib.hid hc
  subst hsv hsb
  clear hx hb hoc hc
  go_enter Try.func6, Try.ntmps6
  go_wp2_with fail
  refine (awake _).mono ?_; rintro e w1 ⟨rfl, b1⟩
  have B1 := Lib.hid b1
  have E := Lib.hid (entriesOf _ xs w1 ((HX.out).past b1))
  clear b1
  go_wp2_with fail
  refine (E.out).mono ?_; rintro e w2 ⟨⟨m, rfl, hm⟩, hst⟩
  have HM := Lib.hid hm
  have B2 := Lib.hid ((B1.out).trans (hst.below _))
  clear hm hst E B1
  by_cases hm : m ≤ 2500
  · have hd1 : decide ((2500 : Int) < m) = false := by simp; omega
    by_cases hxs : xs.length ≤ 200
    · have hd2 : decide ((200 : Int) < xs.length) = false := by simp; omega
      by_cases hll : l.length ≤ 20000
      · have hd3 : decide ((20000 : Int) < l.length) = false := by simp; omega
        have HE := Lib.hid ((HM.out) hm)
        have NN := fun W => Lib.hid ((wireNumber n W).mono fun e w' h => h.shaped (n := 8) rfl)
        go_wp2_with fail
        refine ((NN _).out).mono ?_; rintro e w3 ⟨a1, c1, rfl, o1, b3⟩
        have B3 := Lib.hid ((B2.out).trans (b3.mono (B2.out).size))
        have HY := Lib.hid ((wireBytes _ l w3 ((HB.out).past (B3.out)) (by omega)).mono fun e w' h => h.shaped (len8_length l))
        have O1 := Lib.hid o1.bs
        clear o1 b3 NN B2
        go_wp2_with fail
        refine (HY.out).mono ?_; rintro e w4 ⟨a2, c2, rfl, o2, b4⟩
        have B4 := Lib.hid ((B3.out).trans (b4.mono (B3.out).size))
        have J := Lib.hid (joinTwo (w := w4) ((O1.out).past b4) o2.bs (by rw [num8_length, len8_length]; omega))
        clear o2 b4 HY O1 B3
        go_wp2_with fail
        refine (J.out).mono ?_; rintro e w5 ⟨v5, rfl, o5, b5⟩
        have B5 := Lib.hid ((B4.out).trans (b5.mono (B4.out).size))
        obtain ⟨a5, p5, c5, hs5⟩ := o5.bs.form
        have S5 := Lib.hid o5.bs
        subst hs5
        clear o5 b5 J B4
        go_wp2_with fail
        go_loopw [9, 10] (fun va i wr => ∃ (k : Nat) (aA : Option Addr) (pA cA : Nat), va = .slice aA pA cA ∧ k ≤ xs.length ∧ i = .int .i64 k ∧ Hid (Bs wr (.slice aA pA cA) (num8 n ++ len8 l ++ flatE (xs.take k))) ∧ Hid (Below w.heap.size w wr)) (fun _ i _ => xs.length - (intOf i).toNat)
        case atStart => exact ⟨0, _, _, _, rfl, Nat.zero_le _, rfl, Lib.hid (by simpa [flatE] using S5.out), B5⟩
        case round =>
          obtain ⟨k, aA, pA, cA, rfl, hk, rfl, HA, HW⟩ := hrel
          clear S5 B5
          by_cases hlt : k < xs.length
          · have hd : decide (k < xs.length) = true := by simpa using hlt
            obtain ⟨b, off, c, u, hs, hwf, hE⟩ := ((HX.out).past (HW.out)).at hlt
            have hao : av = some ⟨b, off, none⟩ := by cases hs; rfl
            subst hao
            have HT := Lib.hid (show flatE (xs.take (k + 1)) = flatE (xs.take k) ++ entB (eth xs k) by rw [take_eth hlt, flatE_snoc])
            have hdl := eig_each hlt
            have hfl := flatE_length (xs.take k)
            have hel := eig_le xs k
            have htl : (xs.take k).length ≤ xs.length := by rw [List.length_take]; omega
            have hsum := HE.out
            have hLA : (num8 n ++ len8 l ++ flatE (xs.take k)).length + (48 + (eth xs k).d.length) ≤ 1000000 := by
              rw [List.length_append, List.length_append, num8_length, len8_length]; omega
            have hdl2 : (eth xs k).d.length ≤ 1000000 := by omega
            have HLA := Lib.hid hLA
            clear hs hfl hel htl hsum hLA hdl
            generalize eth xs k = x at *
            obtain ⟨xt, xk, xv, xse, xg, xd⟩ := x
            obtain ⟨c0, c1', c2', c3', c4', c5', hbs⟩ := hE
            obtain ⟨au, cu, hu⟩ := hbs.shape
            subst hu
            dsimp only at *
            have WE := Lib.hid ((wireEntry xt xk xv xse xg _ xd wr hbs (by omega) hwf.k0 (by have := hwf.k1; dsimp only at this; omega)).mono fun e w' h => h.shaped (ent8_length xt xk xv xse xg xd))
            clear hwf hbs
            go_wp2_with fail
            refine (WE.out).mono ?_; rintro e y1 ⟨a3, c3, rfl, o3, b3⟩
            have W1 := Lib.hid ((HW.out).trans (b3.mono (HW.out).size))
            have J := Lib.hid (joinTwo (w := y1) ((HA.out).past b3) o3.bs (by rw [ent8_length]; have := HLA.out; omega))
            clear o3 b3 WE HA c0 c1' c2' c3' c4' c5' HW
            go_wp2_with fail
            refine (J.out).mono ?_; rintro e y2 ⟨v6, rfl, o6, b6⟩
            have W2 := Lib.hid ((W1.out).trans (b6.mono (W1.out).size))
            have A2 : Hid (Bs y2 v6 (num8 n ++ len8 l ++ flatE (xs.take (k + 1)))) := Lib.hid (by rw [HT.out, ← List.append_assoc]; exact o6.bs)
            obtain ⟨a6, p6, c6, hs6⟩ := o6.bs.form
            subst hs6
            clear o6 b6 J W1
            go_wp2_with fail
            go_roundw
            case rel => exact ⟨k + 1, _, _, _, rfl, by omega, by go_num, A2, W2⟩
            case measure => simp [intOf]; omega
          · obtain rfl : k = xs.length := by omega
            have hd : decide (xs.length < xs.length) = false := by simp
            have hA0 := HA.out
            rw [List.take_of_length_le (Nat.le_refl _), List.append_assoc] at hA0
            have hfl := flatE_length xs
            have hsum := HE.out
            have hF : (flatE xs).length ≤ 400000 := by omega
            have hAl : (num8 n ++ (len8 l ++ flatE xs)).length = 16 + l.length + (flatE xs).length := by rw [List.length_append, List.length_append, num8_length, len8_length]; omega
            have HF := Lib.hid hF
            have hAo : Oct (num8 n ++ (len8 l ++ flatE xs)) := (num8_oct n).append ((len8_oct HO.out).append (flatE_oct fun j hj => by
              obtain ⟨_, _, _, _, _, hwf, _⟩ := (HX.out).at hj
              exact hwf.oct))
            clear hfl hsum
            obtain ⟨A, hA⟩ : ∃ A, num8 n ++ (len8 l ++ flatE xs) = A := ⟨_, rfl⟩
            rw [hA] at hA0 hAl hAo
            have HAE := Lib.hid hA
            have hAp : pA = A.length := by obtain ⟨_, _, h⟩ := hA0.shape; cases h; rfl
            subst hAp
            have hcA : A.length ≤ cA := by obtain ⟨_, _, h, h1, _⟩ := hA0; cases h; exact h1
            have h1A : 0 < A.length ∧ A.length ≤ 1000000 := by omega
            have HBA := Lib.hid hA0
            have HOA := Lib.hid hAo
            obtain ⟨hA1, hA2⟩ := h1A
            clear hA hA0 hAo hAl HA hF
            obtain ⟨c, hcl, hp⟩ := pickIn cut A.length wr HC.out (by omega) hA1
            have HP := Lib.hid hp
            clear hp
            go_wp2_with fail
            refine (HP.out).mono ?_; rintro e wp ⟨rfl, rfl⟩
            clear HP
            have N1 := fun W (h : Bs W (.slice aA A.length cA) A) => Lib.hid (newReader2 _ A W h HOA.out (by omega))
            have N2 := fun W (h : Bs W (.slice aA c cA) (A.take c)) => Lib.hid (newReader2 _ (A.take c) W h ((HOA.out).take c) (by rw [List.length_take]; omega))
            have HBC := Lib.hid ((HBA.out).take (n := c) (by omega))
            have hsl := slice_to aA A.length cA c (by omega)
            have HNE := Lib.hid (Nat.ne_of_lt hcl)
            go_upto_region 11 with fail
            go_cut [11, 12] (fun sr ss wx => ∃ R S : Nat, sr = .pointer (some ⟨R, 0, none⟩) ∧ ss = .pointer (some ⟨S, 0, none⟩) ∧ Hid (WB w wx R S (some A) (some (A.take c))))
            case first =>
              go_region_held3 (fun w' => True) (trivial) (first | (refine step_slice_to (by rfl) (.tmp 55) (.tmp 56) (by rfl) _ _ (.slice aA c cA) (by rfl) (by rfl) hsl ?_) | (go_at_call 21; ((with_reducible refine ((N1 _ (by first | (with_reducible exact (HBA.out).drew') | (with_reducible exact ((HBA.out).drew').past bS))).out).mono ?_); rintro e yr ⟨R, rfl, hR, rdR, bR, -⟩)) | (go_at_call 21; ((with_reducible refine ((N2 _ (by first | (with_reducible exact (HBC.out).drew') | (with_reducible exact ((HBC.out).drew').past bR))).out).mono ?_); rintro e ys ⟨S, rfl, hS, rdS, bS, -⟩)))
              all_goals
                first
                | (with_reducible have WQ := Lib.hid (wb_mk1 HW.out hR rdR bR hS rdS bS))
                | (with_reducible have WQ := Lib.hid (wb_mk2 HW.out hS rdS bS hR rdR bR))
                go_wp2_with fail
                go_meet
                exact ⟨_, _, rfl, rfl, WQ⟩
            case rest =>
              obtain ⟨R, S, rfl, rfl, HWB⟩ := hcut
              have BH : Hid (Behind (some (A.take c)) A) := Lib.hid (fun p hp => by
                cases hp
                exact ⟨A.drop c, (fun e => by have := congrArg List.length e; rw [List.length_drop] at this; simp at this; omega), List.take_append_drop c A⟩)
              generalize some (A.take c) = st at *
              rw [← HAE.out] at HWB BH
              clear N1 N2 HBC hsl HNE hcl hA1 hA2 HBA HOA HAE hcA
              have HFl := HF.out
              have hT : (len8 l ++ flatE xs).length ≤ 1000000 := by rw [List.length_append, len8_length]; omega
              have D1 := Lib.hid (rDone (HWB.out) (by rw [List.length_append, num8_length]; omega))
              have M1 := fun W s2 (h : WB w W R S (some (num8 n ++ (len8 l ++ flatE xs))) s2) => Lib.hid (rNum h n0 n1)
              have M2 := fun W s2 (h : WB w W R S (some (len8 l ++ flatE xs)) s2) => Lib.hid (rByt h hll (by omega))
              have M3 := fun W s1 s2 (h : WB w W R S s1 s2) (hb : Behind s2 (num8 n ++ (len8 l ++ flatE xs))) => Lib.hid (sNum h hb)
              have M4 := fun W s1 s2 (h : WB w W R S s1 s2) (hb : Behind s2 (len8 l ++ flatE xs)) => Lib.hid (sByt h hb hll (by omega))
              clear hT HFl
              have hnn : (n != n) = false := by simp
              go_wp2_with fail
              refine (D1.out).mono ?_; rintro e z1 ⟨rfl, rfl⟩
              have m1 := M1 _ _ HWB.out
              clear D1 M1 HWB
              go_wp2_with fail
              refine (m1.out).mono ?_; rintro e z2 ⟨rfl, hw, -⟩
              have m2 := M2 _ _ hw
              clear m1 M2 hw
              go_wp2_with fail
              refine (m2.out).mono ?_; rintro e z3 ⟨a7, c7, rfl, hbs, hw, -⟩
              have Q := Lib.hid (sameBytes_yes hbs ((HB.out).past hw.below) rfl)
              have HWB := Lib.hid hw
              clear m2 hbs hw
              go_wp2_with fail
              refine (Q.out).mono ?_; rintro e z4 ⟨rfl, b4⟩
              have m3 := M3 _ _ _ ((HWB.out).past b4) BH.out
              clear M3 Q b4 HWB BH
              go_wp2_with fail
              refine (m3.out).mono ?_; rintro e z5 ⟨q5, st5, rfl, hw, hbh⟩
              have m4 := M4 _ _ _ hw hbh
              clear M4 m3 hw hbh
              go_wp2_with fail
              refine (m4.out).mono ?_; rintro e z6 ⟨a8, p8, c8, st6, rfl, hw, hbh⟩
              have HWB := Lib.hid hw
              have HBH := Lib.hid hbh
              clear m4 hw hbh
              go_wp2_with fail
              go_loopw [13] (fun i wr => ∃ (k : Nat) (s2 : Option (List Int)), k ≤ xs.length ∧ i = .int .i64 k ∧ Hid (WB w wr R S (some (flatE (xs.drop k))) s2) ∧ Hid (Behind s2 (flatE (xs.drop k)))) (fun i _ => xs.length - (intOf i).toNat)
              case atStart => exact ⟨0, st6, Nat.zero_le _, rfl, HWB, HBH⟩
              case round =>
                obtain ⟨k, s2, hk, rfl, HW2, HB2⟩ := hrel
                clear HWB HBH
                by_cases hlt : k < xs.length
                · have hd : decide (k < xs.length) = true := by simpa using hlt
                  obtain ⟨b, off, cc, u, hs, hwf, hE⟩ := (HX.out).at hlt
                  have hao : av = some ⟨b, off, none⟩ := by cases hs; rfl
                  subst hao
                  have hD : flatE (xs.drop k) = entB (eth xs k) ++ flatE (xs.drop (k + 1)) := by rw [drop_eth hlt, flatE_cons]
                  have hdl := eig_each hlt
                  have hsum := HE.out
                  have hT : (flatE (xs.drop (k + 1))).length ≤ 1000000 := by have := flatE_drop_len xs (k + 1); have := HF.out; omega
                  have hxd : (eth xs k).d.length ≤ 1000000 := by omega
                  have hW := HW2.out
                  have hBh := HB2.out
                  rw [hD] at hW hBh
                  have hpos : 0 < (entB (eth xs k) ++ flatE (xs.drop (k + 1))).length := by rw [List.length_append, entB_length]; omega
                  have hfits : Fits (eth xs k) := ⟨hwf.t0, hwf.t1, hwf.k0, hwf.k1, hwf.v0, hwf.v1, hwf.s0, hwf.s1, by omega⟩
                  have hdr : Below wr.heap.size wr wr.drew := (Below.refl _ _).drew
                  have DN := Lib.hid (rDone (hW.past hdr) hpos)
                  have RE := Lib.hid (rEnt (hW.past hdr) hfits hxd hT)
                  have SE := fun W s1 s2 (h : WB w W R S s1 s2) (hb : Behind s2 (entB (eth xs k) ++ flatE (xs.drop (k + 1)))) => Lib.hid (sEnt h hb hxd hT)
                  have HBH := Lib.hid hBh
                  have HEE := Lib.hid hE
                  have E0 := hE.past hW.below
                  have hlen : (eth xs k).d.length ≤ 1000000 := hxd
                  clear hs hwf hD hdl hsum hT hxd hW hBh hpos hfits hdr hE HW2 HB2
                  generalize hTT : flatE (xs.drop (k + 1)) = T at *
                  have HTT := Lib.hid hTT
                  clear hTT
                  generalize eth xs k = x at *
                  obtain ⟨xt, xk, xv, xse, xg, xd⟩ := x
                  dsimp only at *
                  obtain ⟨au, cu, hu⟩ := E0.bs.shape
                  dsimp only at hu
                  subst hu
                  have SX := (E0.past (show Below wr.heap.size wr wr.drew from (Below.refl _ _).drew)).six
                  dsimp only at SX
                  obtain ⟨x0, x1, x2, x3, x4, x5⟩ := E0.six
                  dsimp only at x0 x1 x2 x3 x4
                  clear E0
                  go_upto_region 19 with fail
                  go_region_held3 (fun w' => w'.cell? ⟨b, off + k * 6, none⟩ = some (.int .i64 xt) ∧ w'.cell? ⟨b, off + k * 6 + 1, none⟩ = some (.int .u8 xk) ∧ w'.cell? ⟨b, off + k * 6 + 2, none⟩ = some (.int .i64 xv) ∧ w'.cell? ⟨b, off + k * 6 + 3, none⟩ = some (.int .i64 xse) ∧ w'.cell? ⟨b, off + k * 6 + 4, none⟩ = some (.bool xg) ∧ w'.cell? ⟨b, off + k * 6 + 5, none⟩ = some (.slice au xd.length cu)) (with_reducible assumption) (first | (go_at_call 34; refine (DN.out).mono ?_; rintro e w' ⟨rfl, rfl⟩) | (go_at_call 29; refine (RE.out).mono ?_; rintro e y1 ⟨a9, c9, rfl, hbs1, hw1, -⟩; have X1 := ((HEE.out).past hw1.below).six; dsimp only at X1) | (go_at_call 30; refine (sameEnt xt xk xv xse xg xd _ _ _ hbs1 ((HEE.out).past hw1.below).bs).mono ?_; rintro e y2 ⟨rfl, b2⟩; have X2 := ((HEE.out).past (hw1.past b2).below).six; dsimp only at X2))
                  all_goals
                    have q := SE _ _ _ (hw1.past b2) HBH.out
                    clear X1 X2 hbs1 b2 hw1 SE DN RE SX x0 x1 x2 x3 x4 x5 HBH HEE
                    go_wp2_with fail
                    refine (q.out).mono ?_; rintro e y3 ⟨z0, z1, z2, z3, z4, z5, s3, rfl, hw3, hb3⟩
                    rw [← HTT.out] at hw3 hb3
                    have W3 := Lib.hid hw3
                    have B3 := Lib.hid hb3
                    clear q hw3 hb3 HTT
                    go_wp2_with fail
                    go_roundw
                    case rel => exact ⟨k + 1, s3, by omega, by go_num, W3, B3⟩
                    case measure => simp [intOf]; omega
                · obtain rfl : k = xs.length := by omega
                  have hd : decide (xs.length < xs.length) = false := by simp
                  have hW := HW2.out
                  have hBh := HB2.out
                  rw [List.drop_length, flatE_nil] at hW hBh
                  obtain rfl := hBh.end
                  have F1 := Lib.hid ((done R _ wr hW.r).mono fun e w' ⟨h1, h2⟩ => (show wr = w' ∧ e = Ending.returned (.bool true) from ⟨h1, h2⟩))
                  have F2 := Lib.hid ((bad R _ wr hW.r).mono fun e w' ⟨h1, h2⟩ => (show wr = w' ∧ e = Ending.returned (.bool false) from ⟨h1, h2⟩))
                  have F3 := Lib.hid ((bad S _ wr hW.s).mono fun e w' ⟨h1, h2⟩ => (show wr = w' ∧ e = Ending.returned (.bool true) from ⟨h1, h2⟩))
                  have F4 := Lib.hid ((done S _ wr hW.s).mono fun e w' ⟨h1, h2⟩ => (show wr = w' ∧ e = Ending.returned (.bool false) from ⟨h1, h2⟩))
                  have F5 := Lib.hid ((rdrNumber R _ wr hW.r).mono fun e w' ⟨h1, h2, h3⟩ => (show e = Ending.returned (.int .i64 0) ∧ WB w w' R S none none from ⟨h1, hW.left h3 h2⟩))
                  clear hW hBh HW2 HB2
                  go_wp2_with fail
                  refine (F1.out).mono ?_; rintro e w' ⟨rfl, rfl⟩
                  go_wp2_with fail
                  refine (F2.out).mono ?_; rintro e w' ⟨rfl, rfl⟩
                  go_wp2_with fail
                  refine (F3.out).mono ?_; rintro e w' ⟨rfl, rfl⟩
                  go_wp2_with fail
                  refine (F4.out).mono ?_; rintro e w' ⟨rfl, rfl⟩
                  go_wp2_with fail
                  refine (F5.out).mono ?_; rintro e y1 ⟨rfl, hw⟩
                  have HW := Lib.hid hw.below
                  have F6 := Lib.hid ((bad R _ y1 hw.r).mono fun e w' ⟨h1, h2⟩ => (show y1 = w' ∧ e = Ending.returned (.bool true) from ⟨h1, h2⟩))
                  clear hw F1 F2 F3 F4 F5
                  go_wp2_with fail
                  refine (F6.out).mono ?_; rintro e w' ⟨rfl, rfl⟩
                  go_wp2_with fail
                  go_ret
                  exact ⟨rfl, HW.out⟩
      · have hd3 : decide ((20000 : Int) < l.length) = true := by simp; omega
        go_wp2_with fail
        go_ret
        exact ⟨rfl, B2.out⟩
    · have hd2 : decide ((200 : Int) < xs.length) = true := by simp; omega
      go_wp2_with fail
      go_ret
      exact ⟨rfl, B2.out⟩
  · have hd1 : decide ((2500 : Int) < m) = true := by simp; omega
    go_wp2_with fail
    go_ret
    exact ⟨rfl, B2.out⟩
end Go.Proofs.Ytggbpdkejkmakaa
