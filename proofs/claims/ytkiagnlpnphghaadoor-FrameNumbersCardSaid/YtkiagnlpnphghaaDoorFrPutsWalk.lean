/- FramePuts is true. -/
import Derived.Test.YtkiagnlpnphghaaDoorFrAwake
import Derived.Test.YtkiagnlpnphghaaDoorFrRefPut
namespace Go.Proofs.YtkiagnlpnphghaaDoor
open Go.RowKit
set_option linter.unusedVariables false
set_option linter.unusedSimpArgs false

/-- Two rows that were made one behind the other. -/
theorem rowy_two {w : World} {B lo : Nat} {v1 v2 : Value} {x1 x2 : List Int} (h1 : Own w B v1 x1) (hlt : ∀ Y, v1.ownBlock = some Y → Y < lo) (h2 : Own w lo v2 x2) (hB : B ≤ lo) : Rowy w B (vth [v1, v2]) 2 (fun j => if j = 0 then x1.length else x2.length) := by
  have key : ∀ Y, v1.ownBlock = some Y → v2.ownBlock = some Y → False := fun Y e1 e2 => by
    have k2 := (h2.lt Y e2).1
    have k1 := hlt Y e1
    omega
  refine ⟨fun j hj => ?_, fun i j hi hj hne Y e1 e2 => ?_⟩
  · rcases (show j = 0 ∨ j = 1 by omega) with rfl | rfl
    · exact ⟨x1, rfl, h1⟩
    · exact ⟨x2, rfl, h2.mono hB⟩
  · rcases (show i = 0 ∨ i = 1 by omega) with rfl | rfl <;> rcases (show j = 0 ∨ j = 1 by omega) with rfl | rfl
    · exact hne rfl
    · exact key Y e1 e2
    · exact key Y e2 e1
    · exact hne rfl
theorem Rowy.past {w w' : World} {B : Nat} {vs : Nat → Value} {m : Nat} {n : Nat → Nat} (h : Rowy w B vs m n) (hb : Below w.heap.size w w') : Rowy w' B vs m n :=
  ⟨fun j hj => by obtain ⟨l, hl, o⟩ := h.row j hj; exact ⟨l, hl, o.below hb (Nat.le_refl _)⟩, h.sep⟩

set_option maxHeartbeats 4000000 in
set_option maxRecDepth 100000 in
theorem framePutsOf (v : Value) (vs : List Value) (fs : List Fr) (w : World) (T : Tab w) (h : Frs w v vs fs) (ho : Octs fs) (hsh : Short fs) :
    Calls Tryd.prog 3 #[v] w (Gives (.bool true) w) := by
  obtain ⟨ao, cap, hshp⟩ := h.shape
  have AW := fun W T => Lib.hid (awakeOf W T)
  have G := Lib.hid (great v vs fs w h hsh)
  have OW := fun ht => Lib.hid (ownOf v vs fs w h ht)
  have TH := fun W (hb : Below w.heap.size w W) ht => Lib.hid (theirs v vs fs W (h.past hb) ht)
  have HT := Lib.hid T
  have H := Lib.hid h
  have HO := Lib.hid ho
  subst hshp
  clear T h ho hsh
  generalize hn : fs.length = n at *
  have hN := Lib.hid hn
  clear hn
  go_enter Tryd.func3, Tryd.ntmps3
  go_wp2_with fail
  refine (G.out).mono ?_; rintro e w0 ⟨g, rfl, rfl, hg⟩
  cases g
  · have ht := Lib.hid (hg rfl)
    clear hg
    have hm := Lib.hid (show n + total fs ≤ 20000 by have := ht.out; have := hN.out; omega)
    have LB := Lib.hid (OW hm.out)
    go_wp2_with fail
    refine (LB.out).mono ?_; rintro e w1 ⟨a1, c1, us, rfl, l1, b1⟩
    rw [hN.out] at l1
    have hfl := Lib.hid (show (frms fs).length ≤ 1000000000 by rw [frms_total]; have := ht.out; have := hN.out; omega)
    have P1 := Lib.hid (put _ us fs w1 ((HT.out).past b1) l1.frs HO.out hfl.out)
    have HL1 := Lib.hid l1
    have B1 := Lib.hid b1
    clear l1 b1
    rw [hN.out]
    go_wp2_with fail
    refine (P1.out).mono ?_; rintro e w2 ⟨a2, n2, c2, rfl, o2, b2⟩
    have B2 := Lib.hid (bel_trans B1.out b2)
    have P2 := Lib.hid (put _ us fs w2 ((HT.out).past B2.out) ((HL1.out).frs.past b2) HO.out hfl.out)
    have O2 := Lib.hid o2
    have C2 := Lib.hid b2
    clear o2 b2
    go_wp2_with fail
    refine (P2.out).mono ?_; rintro e w3 ⟨a3, n3, c3, rfl, o3, b3⟩
    have B3 := Lib.hid (bel_trans B2.out b3)
    have C3 := Lib.hid (bel_trans C2.out b3)
    have R3 := Lib.hid (rowy_two ((O2.out).below b3 (Nat.le_refl _)) (fun Y e => ((O2.out).lt Y e).2) o3 (C2.out).size)
    have D2 := Lib.hid ((O2.out).bs.past b3)
    have TH3 := TH w3 B3.out hm.out
    clear b3 o3
    go_wp2_with fail
    refine (TH3.out).mono ?_; rintro e w4 ⟨a4, c4, rfl, o4, b4⟩
    rw [hN.out]
    rw [hN.out] at o4
    have B4 := Lib.hid (bel_trans B3.out b4)
    have C4 := Lib.hid (bel_trans C3.out b4)
    have f4 := o4.frs fun j hj => by obtain ⟨_, _, _, _, _, hf⟩ := ((H.out).past B4.out).at hj; exact hf.bs
    have RP := Lib.hid (refPut _ vs fs w4 f4 HO.out hfl.out)
    have D4 := Lib.hid ((D2.out).past b4)
    have R4 := Lib.hid (R3.out.past b4)
    clear o4 b4 f4
    go_wp2_with fail
    refine (RP.out).mono ?_; rintro e w5 ⟨a5, n5, c5, rfl, o5, b5⟩
    have B5 := Lib.hid (bel_trans B4.out b5)
    have C5 := Lib.hid (bel_trans C4.out b5)
    have R5 := Lib.hid (R4.out.past b5)
    have hXl : (if putErr fs = 0 then frms fs else []).length ≤ 100000000 := by
      have : (frms fs).length ≤ 100000000 := by rw [frms_total]; have := ht.out; have := hN.out; omega
      split
      · exact this
      · simp
    have SB := Lib.hid (sameBytes _ _ _ _ w5 ((D4.out).past b5) o5.bs)
    clear o5 b5
    generalize (if putErr fs = 0 then frms fs else []) = X at *
    generalize putErr fs = er at *
    have hdd : decide (X = X) = true := by simp
    have hee : (er != er) = false := by simp
    rw [hdd] at SB
    clear hdd
    go_wp2_with fail
    refine (SB.out).mono ?_; rintro e w6 ⟨rfl, s6⟩
    have B6 := Lib.hid (bel_past B5.out s6.past)
    have C6 := Lib.hid (bel_past C5.out s6.past)
    have R6 := Lib.hid (R5.out.past s6.past)
    clear s6 hee SB
    have hnl : n ≤ 20000 := by have := hm.out; omega
    go_wp2_with fail
    go_loopw [10] (fun i wr => ∃ k : Nat, k ≤ n ∧ i = .int .i64 k ∧ Still w6 wr) (fun i _ => n - (intOf i).toNat)
    case atStart => exact ⟨0, Nat.zero_le _, rfl, Still.refl _⟩
    case round =>
      obtain ⟨k, hk, rfl, hst⟩ := hrel
      by_cases hlt : k < n
      · have hd : decide (k < n) = true := by simpa using hlt
        have BR := Lib.hid (bel_past B6.out hst.past)
        have LX := (HL1.out).past (bel_past C6.out hst.past)
        obtain ⟨b, off, cap1, hsh, hbl, hf⟩ := LX.frs.at (j := k) (by have := hN.out; omega)
        obtain ⟨b2, off2, cap2, hsh2, hbl2, hf2⟩ := ((H.out).past BR.out).at (j := k) (by have := hN.out; omega)
        have hao : a1 = some ⟨b, off, none⟩ := by cases hsh; rfl
        have hao2 : ao = some ⟨b2, off2, none⟩ := by cases hsh2; rfl
        subst hao hao2
        have f0 := hf.c0
        have f1 := hf.c1
        have g0 := hf2.c0
        have g1 := hf2.c1
        have fb := hf.bs
        have gb := hf2.bs
        have fl := LX.lent k (by have := hN.out; omega)
        have hdl := total_each (fs := fs) (k := k) (by have := hN.out; omega)
        have hdm : (fth fs k).2.length ≤ 20000 := by have := hm.out; omega
        clear hdl
        generalize fth fs k = f at *
        obtain ⟨fk, d⟩ := f
        have f0 : wr.cell? ⟨b, off + k * 2, none⟩ = some (.int .i64 fk) := f0
        have g0 : wr.cell? ⟨b2, off2 + k * 2, none⟩ = some (.int .i64 fk) := g0
        obtain ⟨ak, ck, hsk⟩ := fb.shape
        obtain ⟨al, cl, hsl⟩ := gb.shape
        rw [hsk] at f1 fl
        rw [hsl] at g1 gb
        have KB := fun m => Lib.hid (keptBytes _ _ _ d (wr.drewN m) (fl.past (Still.past ⟨m, rfl⟩)) (gb.drewN m) (by have : d.length ≤ 20000 := hdm; omega))
        have hkk : (fk != fk) = false := by simp
        have i0 : (0 : Int) ≤ (k : Int) := by omega
        have i1 : (k : Int) < (n : Int) := by omega
        clear LX hf hf2 hsh hsh2 hsk hsl fb gb fl hdm
        generalize d.length = m at *
        go_wp2_with fail
        go_quiet ((go_at_call 15; exact Calls.quiet_tells (KB _).out))
        have hst6 : Still w6 (wr.drewN nq) := hst.trans ⟨nq, rfl⟩
        go_wp2_with fail
        go_roundw
        case rel => exact ⟨k + 1, by omega, by go_num, hst6⟩
        case measure => simp [intOf]; omega
      · have hd : decide (k < n) = false := by simpa using hlt
        have hk' : k = n := by omega
        subst hk'
        have BR := Lib.hid (bel_past B6.out hst.past)
        have RA := Lib.hid ((R6.out.past hst.past).past (alloc_below wr (.cells #[.slice a2 n2 c2, .slice a3 n3 c3] 27)))
        have hB1 : w1.heap.size ≤ wr.heap.size := (bel_past C6.out hst.past).size
        have hX := Lib.hid hXl
        have AP := Lib.hid (apartBytes (.slice (some ⟨wr.heap.size, 0, none⟩) 2 2) [.slice a2 n2 c2, .slice a3 n3 c3] _ _ (wr.alloc (.cells #[.slice a2 n2 c2, .slice a3 n3 c3] 27)) (vals_lit wr [.slice a2 n2 c2, .slice a3 n3 c3] (by simp)) RA.out (by simp; have := (B1.out).size; omega) (by simp) (fun j hj => by have := hX.out; by_cases h0 : j = 0 <;> simp [h0] <;> omega))
        go_wp2_with fail
        refine (AP.out).mono ?_; rintro e w7 ⟨rfl, b7⟩
        have B7 := Lib.hid (((BR.out).alloc (BR.out).size (.cells #[.slice a2 n2 c2, .slice a3 n3 c3] 27)).trans (b7.mono (B1.out).size))
        clear b7
        go_wp2_with fail
        refine ((AW w7 ((HT.out).past B7.out)).out).mono ?_; rintro e w8 ⟨rfl, b8⟩
        go_wp2_with fail
        go_ret
        exact ⟨rfl, bel_trans B7.out b8⟩
  · clear OW TH hg
    go_wp2_with fail
    refine ((AW w HT.out).out).mono ?_; rintro e w1 ⟨rfl, b1⟩
    go_wp2_with fail
    go_ret
    exact ⟨rfl, b1⟩
end Go.Proofs.YtkiagnlpnphghaaDoor
