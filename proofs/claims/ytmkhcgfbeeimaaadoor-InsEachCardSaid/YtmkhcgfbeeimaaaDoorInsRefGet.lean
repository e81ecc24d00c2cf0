/- The document's side: the instructions that bytes are. -/
import Derived.Test.YtmkhcgfbeeimaaaDoorInsOne
import Derived.Test.YtmkhcgfbeeimaaaDoorInsGet
namespace Go.Proofs.YtmkhcgfbeeimaaaDoor
open Go.RowKit
set_option linter.unusedVariables false
set_option linter.unusedSimpArgs false
set_option maxRecDepth 100000

theorem slice_mid (b off n cap p q : Nat) (h1 : p ≤ q) (h2 : q ≤ n) (h3 : n ≤ cap) (W : World) :
    (Instr.slice 34 (.slice (some ⟨b, off, none⟩) n cap) (some (.int .i64 (p : Nat))) (some (.int .i64 (q : Nat))) none).run Tryd.prog W = .ok (.slice (tailA b off cap p) (q - p) (cap - p)) W := by
  have he : Tryd.prog.underlying 34 = some (.slice (Tryd.prog.elem 34)) := by kernel_rfl
  obtain ⟨i, hi, _, hs1, _⟩ := u8info
  have hel : Tryd.prog.elem 34 = 5 := by kernel_rfl
  rw [run_slice_lh (w := W) 34 (some ⟨b, off, none⟩) n cap he .i64 .i64 (p : Nat) (q : Nat) (by omega) (by omega) (by omega)]
  rw [hel]
  have hsz : (sizeOf 5).run Tryd.prog W = .ok 1 W := by simp [sizeOf, typeInfo, hi, hs1]
  rw [hsz]
  simp only [Result.andThen, sliced, Int.toNat_natCast, tailA]
  by_cases h : cap = p
  · simp [h]
  · simp [h, add_none]
theorem mid_bs {w : World} {b off n cap p q : Nat} {l : List Int} (h : Bs w (.slice (some ⟨b, off, none⟩) n cap) l) (h1 : p ≤ q) (h2 : q ≤ l.length) (h3 : n ≤ cap) (hn : l.length = n) : Bs w (.slice (tailA b off cap p) (q - p) (cap - p)) ((l.drop p).take (q - p)) :=
  (tail_drop h (by omega) (by omega)).take (by rw [List.length_drop]; omega)

set_option maxHeartbeats 4000000 in
theorem refGet (v : Value) (bs : List Int) (w : World) (h : Bs w v bs) (ho : Oct bs) (hlen : bs.length ≤ 140737488351232) : Calls Tryd.prog 22 #[v] w (Got (getI bs) (getE bs) w) := by
  obtain ⟨ao, cap, hsh⟩ := h.shape
  have H := Lib.hid h
  subst hsh
  have HOC := Lib.hid ho
  obtain ⟨PL, hPL⟩ : ∃ x, x = getI bs := ⟨_, rfl⟩
  obtain ⟨PE, hPE⟩ : ∃ x, x = getE bs := ⟨_, rfl⟩
  rw [← hPL, ← hPE]
  have HPL := Lib.hid hPL
  have HPE := Lib.hid hPE
  clear h ho hPL hPE
  generalize hn : bs.length = n at *
  have hN := Lib.hid hn
  clear hn
  go_enter Tryd.func22, Tryd.ntmps22
  by_cases hbig : 32768 < n
  · have d0 : decide (32768 < n) = true := by simpa using hbig
    go_wp2_with fail
    go_ret2
    have e : PE = 3 := by rw [HPE.out]; exact getE_long (by have := hN.out; omega)
    exact ⟨_, by rw [e]; rfl, by rw [HPL.out, getI_not (by rw [← HPE.out, e]; decide)]; exact OwnI.nil _ _, Below.refl _ _⟩
  have d0 : decide (32768 < n) = false := by simpa using hbig
  by_cases hodd : n % 8 = 0
  case neg =>
    have d1 : ((n : Int) % 8 == 0) = false := by simp; omega
    have d2 : ((n : Int) % 8 != 0) = true := by simp; omega
    have d3 : ¬ (n : Int) % 8 = 0 := by omega
    go_wp2_with fail
    go_ret2
    have e : PE = 4 := by rw [HPE.out]; exact getE_odd (by have := hN.out; omega) (by have := hN.out; omega)
    exact ⟨_, by rw [e]; rfl, by rw [HPL.out, getI_not (by rw [← HPE.out, e]; decide)]; exact OwnI.nil _ _, Below.refl _ _⟩
  case pos =>
    have hm : n = 8 * (n / 8) := by omega
    have HM := Lib.hid hm
    have hbg := Lib.hid (show n ≤ 32768 by omega)
    clear hm
    obtain ⟨m, hmm⟩ : ∃ m, m = n / 8 := ⟨_, rfl⟩
    rw [← hmm] at HM
    have d3 : (n : Int) % 8 = 0 := by have := HM.out; omega
    clear hmm hodd
    go_wp2_with fail
    clear d3
    go_loopw [4, 5] (fun s i wr => ∃ (k k8 : Nat) (a2 : Option Addr) (c2 : Nat), k ≤ m ∧ k8 = 8 * k ∧ i = .int .i64 k8 ∧ s = .slice a2 k c2 ∧ Hid (oks bs k) ∧ Hid (OwnI wr w.heap.size (.slice a2 k c2) (decs bs k)) ∧ Hid (Below w.heap.size w wr)) (fun _ i _ => n - (intOf i).toNat)
    case atStart => exact ⟨0, 0, none, 0, Nat.zero_le _, rfl, rfl, rfl, Lib.hid (fun j hj => absurd hj (Nat.not_lt_zero _)), Lib.hid (OwnI.nil _ _), Lib.hid (Below.refl _ _)⟩
    case round =>
      obtain ⟨k, k8, a2, c2, hk, hk8, rfl, rfl, HK, HO, HB⟩ := hrel
      by_cases hlt : k < m
      · have hk8n : k8 + 8 ≤ n := by have := HM.out; omega
        have HK8 := Lib.hid hk8
        obtain ⟨b, off, c, hsh, hc1, hc2, -, -⟩ := (H.out).at (by have := hN.out; omega)
        rw [hN.out] at hsh hc1
        obtain ⟨rfl, rfl⟩ : ao = some ⟨b, off, none⟩ ∧ cap = c := by cases hsh; exact ⟨rfl, rfl⟩
        have hcl : (bs.drop k8).take (k8 + 8 - k8) = chunk bs k := by unfold chunk; rw [hk8, show 8 * k + 8 - 8 * k = 8 from by omega]
        have h8 : (chunk bs k).length = 8 := chunk_length (by have := hN.out; omega)
        have hoc : Oct (chunk bs k) := ((HOC.out).drop _).take _
        have HMB := Lib.hid (show Bs w (.slice (tailA b off cap k8) 8 (cap - k8)) (chunk bs k) by
          have := mid_bs (p := k8) (q := k8 + 8) H.out (by omega) (by have := hN.out; omega) hc1 hN.out
          rw [hcl] at this
          rwa [show k8 + 8 - k8 = 8 from by omega] at this)
        have HSL : ∀ W, (Instr.slice 34 (.slice (some ⟨b, off, none⟩) n cap) (some (.int .i64 (k8 : Nat))) (some (.int .i64 ((k8 + 8 : Nat) : Int))) none).run Tryd.prog W = .ok (.slice (tailA b off cap k8) 8 (cap - k8)) W := fun W => by
          have := slice_mid b off n cap k8 (k8 + 8) (by omega) hk8n hc1 W
          rwa [show k8 + 8 - k8 = 8 from by omega] at this
        have HOK := Lib.hid (fun (h : okI (chunk bs k) = true) => show oks bs (k + 1) from fun j hj => by
          by_cases e : j = k
          · rw [e]; exact h
          · exact HK.out j (by omega))
        have HBAD := Lib.hid (fun (h : okI (chunk bs k) = false) => show getE bs = 4 from getE_bad (by have := hN.out; omega) (by have := hN.out; have := HM.out; omega) (k := k) (by have := hN.out; have := HM.out; omega) h)
        have HDS := Lib.hid (decs_succ bs k)
        have HC8 := Lib.hid h8
        have HCO := Lib.hid hoc
        clear hcl h8 hoc hsh
        generalize chunk bs k = cb at *
        generalize tailA b off cap k8 = ta at HMB HSL
        have hW : IntKind.i64.wrap ((k8 : Int) + 8) = ((k8 + 8 : Nat) : Int) := by rw [IntKind.wrap_i64]; omega
        have hW2 : ((k8 : Int) + 8) = ((k8 + 8 : Nat) : Int) := by omega
        have hd : decide ((k8 : Int) < (n : Int)) = true := by simp; omega
        have hd2 : decide (k8 < n) = true := by simp; omega
        have ON := Lib.hid (fun W (h : Bs W (.slice ta 8 (cap - k8)) cb) => refOne _ cb W h HC8.out HCO.out)
        have HK16 := Lib.hid (show k8 + 8 = 8 * (k + 1) by omega)
        have hk16 : k8 ≤ k8 + 8 := by omega
        have hlt8 : k8 < n := by omega
        clear hk8 hW2
        generalize k8 + 8 = k16 at *
        go_wp2_with fail
        refine ((ON.out) _ ((HMB.out).past HB.out)).mono ?_; rintro e w3 ⟨rfl, b3⟩
        have B3 := Lib.hid ((HB.out).trans (b3.mono (HB.out).size))
        have HO3 := Lib.hid ((HO.out).past b3)
        clear b3 ON
        generalize dec cb = x at *
        obtain ⟨xo, xn, xd, xs, xu, xf, xm, xz⟩ := x
        unfold agg
        simp only
        cases hk8 : okI cb with
        | false =>
          go_wp2_with fail
          go_ret2
          have e : PE = 4 := by rw [HPE.out]; exact HBAD.out hk8
          exact ⟨_, by rw [e]; rfl, by rw [HPL.out, getI_not (by rw [← HPE.out, e]; decide)]; exact OwnI.nil _ _, (B3.out).alloc (B3.out).size _⟩
        | true =>
          have HK1 := Lib.hid (HOK.out hk8)
          clear HOK HBAD
          have HO4 := Lib.hid (((HO3.out).alloc (Obj.cells #[.int .u8 xo, .bool xn, .int .i64 xd, .int .i64 xs, .bool xu, .int .i64 xf, .int .i64 xm, .int .i64 xz] 27)).alloc (Obj.cells #[.int .u8 xo, .bool xn, .int .i64 xd, .int .i64 xs, .bool xu, .int .i64 xf, .int .i64 xm, .int .i64 xz] 27))
          have B4 := Lib.hid ((B3.out).alloc (B3.out).size (Obj.cells #[.int .u8 xo, .bool xn, .int .i64 xd, .int .i64 xs, .bool xu, .int .i64 xf, .int .i64 xm, .int .i64 xz] 27))
          have B5 := Lib.hid ((B4.out).alloc (B4.out).size (Obj.cells #[.int .u8 xo, .bool xn, .int .i64 xd, .int .i64 xs, .bool xu, .int .i64 xf, .int .i64 xm, .int .i64 xz] 27))
          have HM1 := Lib.hid (inss_one (w3.alloc (Obj.cells #[.int .u8 xo, .bool xn, .int .i64 xd, .int .i64 xs, .bool xu, .int .i64 xf, .int .i64 xm, .int .i64 xz] 27)) ⟨xo, xn, xd, xs, xu, xf, xm, xz⟩)
          have hsz : (w3.alloc (Obj.cells #[.int .u8 xo, .bool xn, .int .i64 xd, .int .i64 xs, .bool xu, .int .i64 xf, .int .i64 xm, .int .i64 xz] 27)).heap.size = w3.heap.size + 1 := by simp
          rw [hsz] at HM1
          have HKL := Lib.hid (show (decs bs k).length = k from decs_length bs k)
          clear hsz
          go_wp2_with (at_builtin; refine wpList_append_i _ rfl _ _ rfl w.heap.size _ (decs bs k) rfl HO4.out _ [⟨xo, xn, xd, xs, xu, xf, xm, xz⟩] rfl HM1.out (by have := HKL.out; have := HM.out; have := hbg.out; simp; omega) (B5.out).size ?_)
          intro v8 w8 ho8 hg8
          have B8 := Lib.hid ((B5.out).grown hg8 (B5.out).size (fun j hj => ((HO4.out).lt j hj).1))
          obtain ⟨a8, c8, hv8⟩ : ∃ a8 c8, v8 = .slice a8 (k + 1) c8 := by
            obtain ⟨a, c, h⟩ := ho8.shape
            exact ⟨a, c, by rw [h, List.length_append, HKL.out]; rfl⟩
          subst hv8
          rw [← HDS.out] at ho8
          have HO8 := Lib.hid ho8
          clear ho8 hg8
          go_wp2_with fail
          go_roundw
          case rel =>
            exact ⟨k + 1, k16, a8, c8, by omega, HK16.out, rfl, rfl, HK1, HO8, B8⟩
          case measure => have := HK16.out; have := HK8.out; simp [intOf]; omega
      · have hkm : k = m := by omega
        have hkn : k8 = n := by have := HM.out; omega
        clear hk8
        subst hkn
        go_wp2_with fail
        go_ret2
        have hok := getI_all (b := bs) (by have := hN.out; omega) (by have := hN.out; have := HM.out; omega) (by rw [show bs.length / 8 = k from by have := hN.out; have := HM.out; omega]; exact HK.out)
        rw [show bs.length / 8 = k from by have := hN.out; have := HM.out; omega] at hok
        refine ⟨_, by rw [HPE.out, hok.1]; rfl, ?_, HB.out⟩
        rw [HPL.out, hok.2]
        exact HO.out
end Go.Proofs.YtmkhcgfbeeimaaaDoor
