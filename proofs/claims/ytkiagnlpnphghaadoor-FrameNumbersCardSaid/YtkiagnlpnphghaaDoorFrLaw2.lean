/- Contract of what holds both Scans against each other. -/
import Derived.Test.YtkiagnlpnphghaaDoorFrLaw1
namespace Go.Proofs.YtkiagnlpnphghaaDoor
open Go.RowKit
set_option linter.unusedVariables false
set_option linter.unusedSimpArgs false

/-- Both have scanned: the program's frames, the document's, what was lent. -/
structure S3 (w1 w : World) (u v v1 v2 : Value) (vs1 vs2 : List Value) (fs : List Fr) (l : List Int) : Prop where
  lent : Lent w1 w1.heap.size u l ∨ ∃ b, b ≤ w1.heap.size ∧ Lent w1 b u l
  bs : Bs w1 v l
  f1 : Frs w v1 vs1 fs
  f2 : Frs w v2 vs2 fs
  told : Told w w1.heap.size vs1 fs
  bel : Below w1.heap.size w1 w
theorem S3.past {w1 w w' : World} {u v v1 v2 : Value} {vs1 vs2 : List Value} {fs : List Fr} {l : List Int} (h : S3 w1 w u v v1 v2 vs1 vs2 fs l) (hb : Below w.heap.size w w') : S3 w1 w' u v v1 v2 vs1 vs2 fs l :=
  ⟨h.lent, h.bs, h.f1.past hb, h.f2.past hb, h.told.past hb, bel_past h.bel hb⟩
theorem S3.len {w1 w : World} {u v v1 v2 : Value} {vs1 vs2 : List Value} {fs : List Fr} {l : List Int} (h : S3 w1 w u v v1 v2 vs1 vs2 fs l) : ∃ b, Lent w1 b u l := by
  rcases h.lent with h | ⟨b, _, h⟩
  · exact ⟨_, h⟩
  · exact ⟨b, h⟩
theorem Told.frs {t : TypeId} {w : World} {b b2 : Nat} {v : Value} {vs : List Value} {fs : List Fr} (h : Told w b vs fs) (ho : OwnF t w b2 v vs fs) : Frs w v vs fs := ho.frs fun j hj => (h.rows j hj).bs
theorem scan_len {l : List Int} (ho : Oct l) : (scan l).1.length * 9 ≤ l.length ∧ ∀ j, j < (scan l).1.length → (fth (scan l).1 j).2.length ≤ l.length := by
  obtain ⟨h1, h2, h3⟩ := put_scan l.length (l := l) (Nat.le_refl _) ho
  have h4 := frms_le (scan l).1
  have h5 : (frms (scan l).1).length ≤ l.length := by rw [h3, List.length_take]; omega
  refine ⟨by omega, fun j hj => ?_⟩
  have := total_each hj
  have := frms_total (scan l).1
  omega

theorem OwnL.lt' {w : World} {base : Nat} {v : Value} {vs : List Value} (h : OwnL w base v vs) : ∀ k, v.ownBlock = some k → base ≤ k := fun k hk => (World.ownsRow.lt h k hk).1
set_option maxHeartbeats 4000000 in
set_option maxRecDepth 100000 in
theorem scansOf (v : Value) (l : List Int) (w : World) (T : Tab w) (h : Bs w v l) (ho : Oct l) (hlen : l.length ≤ 800000) :
    Calls Tryd.prog 19 #[v] w (Gives (.bool true) w) := by
  obtain ⟨ao, cap, hsh⟩ := h.shape
  have H := Lib.hid h
  have LB := Lib.hid ((lentBytes v l w h (by omega)).mono fun e w' h => h.shaped rfl)
  have HO := Lib.hid ho
  have HL := Lib.hid hlen
  have HT := Lib.hid T
  have SL := Lib.hid (scan_len ho)
  subst hsh
  clear h ho hlen T
  generalize hn : l.length = n at *
  have hN := Lib.hid hn
  clear hn
  go_enter Tryd.func19, Tryd.ntmps19
  go_wp2_with fail
  refine (LB.out).mono ?_; rintro e w1 ⟨g, rfl, hl1, b1⟩
  have SC := Lib.hid (scanOf _ l w1 ((HT.out).past b1) hl1.bs HO.out (by have := hN.out; have := HL.out; omega))
  have HL1 := Lib.hid hl1
  have HB1 := Lib.hid b1
  clear hl1 b1
  go_wp2_with fail
  refine (SC.out).mono ?_; rintro e w2 ⟨a1, n1, c1, vs1, rfl, o1, t1, b2, hn1⟩
  have RS := Lib.hid (refScan _ l w2 ((H.out).past (bel_trans HB1.out b2)) HO.out (by have := hN.out; have := HL.out; omega))
  have HO1 := Lib.hid o1
  have HT1 := Lib.hid t1
  have HB2 := Lib.hid b2
  have HN1 := Lib.hid hn1
  clear o1 t1 b2 hn1
  go_wp2_with fail
  refine (RS.out).mono ?_; rintro e w3 ⟨a2, n2, c2, vs2, rfl, o2, t2, b3, hn2⟩
  have X3 : S3 w1 w3 (.slice (some ⟨g, 0, none⟩) n (n + 12)) (.slice ao n cap) (.slice a1 n1 c1) (.slice a2 n2 c2) vs1 vs2 (scan l).1 l :=
    ⟨Or.inr ⟨_, (HB1.out).size, HL1.out⟩, (H.out).past HB1.out, ((HT1.out).past b3).frs ((HO1.out).past b3), t2.frs o2, (HT1.out).past b3, bel_past HB2.out b3⟩
  have hnn : n2 = n1 := by rw [← hn2, HN1.out]
  subst hnn
  have hv1 := Lib.hid X3.f1.1
  have hnf := HN1.out
  have KB := fun W (hb : Below w1.heap.size w1 W) => Lib.hid (keptBytes (.slice (some ⟨g, 0, none⟩) n (n + 12)) (.slice ao n cap) w.heap.size l W ((HL1.out).below hb (Nat.le_refl _)) (((H.out).past HB1.out).past hb) (by have := hN.out; have := HL.out; omega))
  have HX3 := Lib.hid X3
  have HBB := Lib.hid (bel_past (bel_trans HB1.out HB2.out) b3)
  clear X3 o2 t2 b3 hn2
  have H9 := SL.out.1
  rw [hnf] at H9
  have HNF := Lib.hid hnf
  clear hnf
  have hn2 : n2 ≤ 800000 := by have := HL.out; omega
  generalize (scan l).2.1 = us at *
  generalize (scan l).2.2 = sp at *
  have e1 : ((us : Int) != (us : Int)) = false := by simp
  have e2 : (sp != sp) = false := by simp
  have e3 : ((n2 : Int) != (n2 : Int)) = false := by simp
  have e4 : (n2 != n2) = false := by simp
  have e5 : (us != us) = false := by simp
  go_wp2_with fail
  refine ((KB w3 (HX3.out).bel).out).mono ?_; rintro e w4 ⟨rfl, hs4⟩
  have HX4 := Lib.hid ((HX3.out).past hs4.past)
  have HB4 := Lib.hid (bel_past HBB.out hs4.past)
  clear hs4
  go_wp2
  go_loopw [10, 11] (fun t i wr => ∃ (k : Nat) (a : Option Addr) (c : Nat), k ≤ n2 ∧ i = .int .i64 k ∧ t = .slice a k c ∧ Hid (OwnL wr w4.heap.size (.slice a k c) (vs1.take k)) ∧ Hid (Below w4.heap.size w4 wr)) (fun _ i _ => n2 - (intOf i).toNat)
  case atStart => exact ⟨0, _, _, Nat.zero_le _, rfl, rfl, Lib.hid (OwnL.nil _ _), Lib.hid (Below.refl _ _)⟩
  case round =>
    obtain ⟨k, a, c, hk, rfl, rfl, HOL, HB5⟩ := hrel
    by_cases hlt : k < n2
    · have hd : decide (k < n2) = true := by simpa using hlt
      have X := (HX4.out).past HB5.out
      obtain ⟨b, off, cap1, hsh, hbl, hf⟩ := X.f1.at (j := k) (by have := HNF.out; omega)
      obtain ⟨b2, off2, cap2, hsh2, hbl2, hf2⟩ := X.f2.at (j := k) (by have := HNF.out; omega)
      have hao : a1 = some ⟨b, off, none⟩ := by cases hsh; rfl
      have hao2 : a2 = some ⟨b2, off2, none⟩ := by cases hsh2; rfl
      subst hao hao2
      have f0 := hf.c0
      have f1 := hf.c1
      have g0 := hf2.c0
      have g1 := hf2.c1
      have fb := hf.bs
      have gb := hf2.bs
      have hvk := Lib.hid (vth_take (vs := vs1) (k := k) (by have := hv1.out; have := HNF.out; omega))
      generalize fth (scan l).1 k = f at *
      obtain ⟨fk, d⟩ := f
      have f0 : wr.cell? ⟨b, off + k * 2, none⟩ = some (.int .i64 fk) := f0
      have g0 : wr.cell? ⟨b2, off2 + k * 2, none⟩ = some (.int .i64 fk) := g0
      obtain ⟨ak, ck, hsk⟩ := fb.shape
      obtain ⟨al, cl, hsl⟩ := gb.shape
      rw [hsk] at f1 fb hvk
      rw [hsl] at g1 gb
      have HS := fun m => Lib.hid (sameBytes _ _ d d (wr.drewN m) (fb.drewN m) (gb.drewN m))
      have hdd : decide (d = d) = true := by simp
      rw [hdd] at HS
      have hkk : (fk != fk) = false := by simp
      have i0 : (0 : Int) ≤ (k : Int) := by omega
      have i1 : (k : Int) < (n2 : Int) := by omega
      have hkm := Lib.hid (show (vs1.take k).length ≤ 1000000 by rw [List.length_take]; have := HN1.out; have := hv1.out; have := HNF.out; have := HL.out; have := hN.out; omega)
      have hlk := Lib.hid (show (vs1.take (k + 1)).length = k + 1 by rw [List.length_take]; have := hv1.out; have := HNF.out; omega)
      clear X hf hf2 hsh hsh2 hsk hsl fb gb hdd
      generalize d.length = m at *
      go_wp2
      go_quiet ((go_at_call 14; exact Calls.quiet_tells (HS _).out))
      have hst6 : Still wr (wr.drewN nq) := ⟨nq, rfl⟩
      have DQ := Lib.hid (bel_past HB5.out hst6.past)
      have OQ := Lib.hid ((HOL.out).below hst6.past (Nat.le_refl _))
      have f6 : (wr.drewN nq).cell? ⟨b, off + k * 2 + 1, none⟩ = some (.slice ak m ck) := (hst6.cell _).trans f1
      clear hst6
      generalize wr.drewN nq = wq at *
      have HU := Lib.hid (show (wq.alloc (.cells #[.slice ak m ck] 27)).cell? ⟨wq.heap.size, 0, none⟩ = some (.slice ak m ck) by simp)
      have D6 := Lib.hid (bel_past DQ.out (alloc_below wq (.cells #[.slice ak m ck] 27)))
      have O6 := Lib.hid ((OQ.out).below (alloc_below wq (.cells #[.slice ak m ck] 27)) (Nat.le_refl _))
      go_wp2_with (at_builtin; refine wpList_append_l _ rfl _ _ rfl w4.heap.size _ (vs1.take k) rfl O6.out wq.heap.size (.slice ak m ck) rfl rfl HU.out hkm.out (D6.out).size ?_)
      intro v' w' hn6 hg6
      have B7 := Lib.hid ((D6.out).grown hg6 (D6.out).size (fun j e => ((O6.out).lt' j e)))
      rw [hvk.out] at hn6
      obtain ⟨a7, c7, hs7⟩ := hn6.shape
      rw [hlk.out] at hs7
      have O7 := Lib.hid hn6
      clear hn6 hg6
      subst hs7
      go_wp2
      go_roundw
      case rel => exact ⟨k + 1, a7, c7, by omega, by go_num, rfl, O7, B7⟩
      case measure => simp [intOf]; omega
    · have hd : decide (k < n2) = false := by simpa using hlt
      have hk' : k = n2 := by omega
      subst hk'
      have hvt : vs1.take k = vs1 := List.take_of_length_le (by have := hv1.out; have := HNF.out; omega)
      have X := (HX4.out).past HB5.out
      have hol := HOL.out
      rw [hvt] at hol
      have hlf : vs1.length = (scan l).1.length := hv1.out
      have hB1 : w1.heap.size ≤ wr.heap.size := X.bel.size
      have AP := Lib.hid (apartBytes (.slice a k c) vs1 (fun j => (fth (scan l).1 j).2.length) w1.heap.size wr hol.vals (by rw [hlf]; exact X.told.rowy) hB1 (by rw [hlf, HNF.out]; have := HL.out; omega) (fun j hj => by have := SL.out.2 j (by rw [← hlf]; exact hj); have := HL.out; omega))
      have HXX := Lib.hid X
      clear X hol hvt hlf
      go_wp2_with fail
      refine (AP.out).mono ?_; rintro e w8 ⟨rfl, b8⟩
      have B8 := (HXX.out).bel.trans b8
      have K8 := KB w8 B8
      have HB8 := Lib.hid B8
      clear b8 B8
      go_wp2_with fail
      refine (K8.out).mono ?_; rintro e w9 ⟨rfl, hs9⟩
      go_wp2
      go_ret
      exact ⟨rfl, bel_past ((HB1.out).trans ((HB8.out).mono (HB1.out).size)) hs9.past⟩
end Go.Proofs.YtkiagnlpnphghaaDoor
