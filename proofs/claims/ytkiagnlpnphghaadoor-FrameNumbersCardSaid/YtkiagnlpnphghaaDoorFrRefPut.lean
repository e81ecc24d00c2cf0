/- Contract of the document's Put. -/
import Derived.Test.YtkiagnlpnphghaaDoorFrRef
namespace Go.Proofs.YtkiagnlpnphghaaDoor
open Go.RowKit
set_option linter.unusedVariables false
set_option linter.unusedSimpArgs false

set_option maxHeartbeats 4000000 in
set_option maxRecDepth 100000 in
theorem refPut (v : Value) (vs : List Value) (fs : List Fr) (w : World) (h : Frs w v vs fs) (ho : Octs fs) (hlen : (frms fs).length ≤ 1000000000) :
    Calls Tryd.prog 12 #[v] w (PutAns fs w) := by
  obtain ⟨ao, cap, hsh⟩ := h.shape
  have hln := h.len
  have H := Lib.hid h
  have HO := Lib.hid ho
  have HL := Lib.hid hlen
  subst hsh
  clear h ho hlen
  generalize hn : fs.length = n at *
  have hN := Lib.hid hn
  clear hn
  go_enter Tryd.func12, Tryd.ntmps12
  go_wp2
  go_loopw [4, 5] (fun s i wr => ∃ (k : Nat) (a : Option Addr) (p c : Nat), k ≤ n ∧ i = .int .i64 k ∧ s = .slice a p c ∧ Hid (Own wr w.heap.size (.slice a p c) (frms (fs.take k))) ∧ Hid (Below w.heap.size w wr) ∧ Hid (putErr fs = putErr (fs.drop k))) (fun _ i _ => n - (intOf i).toNat)
  case atStart => exact ⟨0, _, _, _, Nat.zero_le _, rfl, rfl, Lib.hid (Own.nil _ _), Lib.hid (Below.refl _ _), Lib.hid rfl⟩
  case round =>
    obtain ⟨k, a, p, c, hk, rfl, rfl, HOW, HB, HE⟩ := hrel
    by_cases hlt : k < n
    · have hd : decide (k < n) = true := by simpa using hlt
      obtain ⟨b, off, cap', hsh, hbl, hf0⟩ := (H.out).at (j := k) (by have := hN.out; omega)
      have hao : ao = some ⟨b, off, none⟩ := by cases hsh; rfl
      subst hao
      have hok := HO.out (fth fs k) (fth_mem (by have := hN.out; omega))
      have htk := Lib.hid (frms_take (fs := fs) (k := k) (by have := hN.out; omega))
      have hle := Lib.hid (frms_take_le fs (k + 1))
      have hE1 := Lib.hid (putErr_arg (fs := fs) (k := k) (by have := hN.out; omega))
      have hE2 := Lib.hid (putErr_long (fs := fs) (k := k) (by have := hN.out; omega))
      have hE3 := Lib.hid (putErr_drop (fs := fs) (k := k) (by have := hN.out; omega))
      generalize fth fs k = f at *
      obtain ⟨fk, d⟩ := f
      obtain ⟨ak, ck, hsk⟩ := hf0.bs.shape
      have hf := hf0.past (HB.out)
      have f0 := hf.c0
      have f1 := hf.c1
      have fb := hf.bs
      rw [hsk] at f1 fb
      have FB := Lib.hid fb
      have HK := Lib.hid hok
      have hdl := fb.len
      clear hf hf0 hsh hsk fb hok
      have f0 : wr.cell? ⟨b, off + k * 2, none⟩ = some (.int .i64 fk) := f0
      generalize hdn : d.length = m at *
      have HM := Lib.hid hdn
      clear hdn
      by_cases ha : fk < 0
      · have HEE := Lib.hid ((HE.out).trans (hE1.out (Or.inl ha)))
        clear hE1 hE2 hE3
        go_wp2
        refine bodyPost_ret (v := .tuple #[.slice none 0 0, .int .i64 2]) (by simp [results, Tryd.results12, go_sem]) rfl ?_
        exact ⟨none, 0, 0, by rw [HEE.out], by rw [HEE.out]; exact Own.nil _ _, HB.out⟩
      · by_cases hb : 255 < fk
        · have HEE := Lib.hid ((HE.out).trans (hE1.out (Or.inr hb)))
          have ha' : 0 ≤ fk := by omega
          clear hE1 hE2 hE3
          go_wp2
          refine bodyPost_ret (v := .tuple #[.slice none 0 0, .int .i64 2]) (by simp [results, Tryd.results12, go_sem]) rfl ?_
          exact ⟨none, 0, 0, by rw [HEE.out], by rw [HEE.out]; exact Own.nil _ _, HB.out⟩
        · have ha' : 0 ≤ fk := by omega
          have hb' : fk ≤ 255 := by omega
          by_cases hl : 262144 < m
          · have HEE := Lib.hid ((HE.out).trans (hE2.out (by omega) hl))
            have hdl2 : decide ((262144 : Int) < m) = true := by simp; omega
            clear hE1 hE2 hE3 ha hb
            go_wp2
            refine bodyPost_ret (v := .tuple #[.slice none 0 0, .int .i64 3]) (by simp [results, Tryd.results12, go_sem]) rfl ?_
            exact ⟨none, 0, 0, by rw [HEE.out], by rw [HEE.out]; exact Own.nil _ _, HB.out⟩
          · have HEE := Lib.hid ((HE.out).trans (hE3.out (by omega) hl))
            have hdl2 : decide ((262144 : Int) < m) = false := by simp; omega
            have ON := Lib.hid (refOne fk (.slice ak m ck) d wr FB.out HK.out ⟨ha', hb', by show d.length ≤ 262144; have := HM.out; omega⟩)
            rw [HM.out] at ON
            have hp := (HOW.out).slen'
            have hlen2 : (frms (fs.take k)).length + (frm (fk, d)).length ≤ 140737488355328 := by
              have h1 := hle.out; rw [htk.out, List.length_append] at h1; have := HL.out; omega
            have HLN := Lib.hid hlen2
            clear hE1 hE2 hE3 ha hb hp hlen2
            go_wp2_with fail
            refine (ON.out).mono ?_; rintro e w1 ⟨a1, c1, rfl, o1, b1⟩
            have OW1 := Lib.hid ((HOW.out).below b1 (Nat.le_refl _))
            have B1 := Lib.hid (bel_past HB.out b1)
            have O1 := Lib.hid o1.bs
            clear o1 b1
            go_wp2_with (at_builtin; refine wpList_append_bs _ rfl _ _ rfl w.heap.size _ _ rfl OW1.out _ (frm (fk, d)) rfl O1.out HLN.out (B1.out).size ?_)
            intro v' w' hn hg
            have B2 := Lib.hid ((B1.out).grown hg (B1.out).size (fun j e => ((OW1.out).lt j e).1))
            rw [← htk.out] at hn
            obtain ⟨a3, c3, hs3⟩ := hn.bs.shape
            have HN3 := Lib.hid hn
            obtain ⟨p3, hp3⟩ : ∃ p3, (frms (fs.take (k + 1))).length = p3 := ⟨_, rfl⟩
            rw [hp3] at hs3
            clear hn hg hp3
            subst hs3
            go_wp2
            go_roundw
            case rel => exact ⟨k + 1, a3, p3, c3, by omega, by go_num, rfl, HN3, B2, HEE⟩
            case measure => simp [intOf]; omega
    · have hd : decide (k < n) = false := by simpa using hlt
      have hk' : k = n := by omega
      subst hk'
      have HE0 := Lib.hid (show putErr fs = 0 by rw [HE.out, List.drop_of_length_le (by have := hN.out; omega)]; rfl)
      have HT := Lib.hid (show fs.take k = fs from List.take_of_length_le (by have := hN.out; omega))
      clear HE
      go_wp2
      refine bodyPost_ret (v := .tuple #[.slice a p c, .int .i64 0]) (by simp [results, Tryd.results12, go_sem]) rfl ?_
      exact ⟨a, p, c, by rw [HE0.out], by rw [HE0.out, if_pos rfl]; have := HOW.out; rwa [HT.out] at this, HB.out⟩
end Go.Proofs.YtkiagnlpnphghaaDoor
