/- The program: the instructions that bytes are. -/
import Derived.Test.YtmkhcgfbeeimaaaDoorInsPut
import Derived.Test.YtmkhcgfbeeimaaaDoorInsOf
import Derived.Test.YtmkhcgfbeeimaaaDoorInsLent
import Derived.Laws.Cover3
namespace Go.Proofs.YtmkhcgfbeeimaaaDoor
open Go.RowKit
set_option linter.unusedVariables false
set_option linter.unusedSimpArgs false
set_option maxRecDepth 100000

/-- Where a slice stands behind its first c bytes. -/
def tailA (b off cap c : Nat) : Option Addr := if cap = c then some ⟨b, off, none⟩ else some ⟨b, off + c, none⟩
theorem slice_from (b off n cap c : Nat) (h2 : c ≤ n) (h3 : c ≤ cap) (W : World) :
    (Instr.slice 34 (.slice (some ⟨b, off, none⟩) n cap) (some (.int .i64 (c : Nat))) none none).run Tryd.prog W = .ok (.slice (tailA b off cap c) (n - c) (cap - c)) W := by
  have he : Tryd.prog.underlying 34 = some (.slice (Tryd.prog.elem 34)) := by kernel_rfl
  obtain ⟨i, hi, _, hs1, _⟩ := u8info
  have hel : Tryd.prog.elem 34 = 5 := by kernel_rfl
  rw [run_slice_l (w := W) 34 (some ⟨b, off, none⟩) n cap he .i64 (c : Nat) (by omega) (by omega)]
  rw [hel]
  have hsz : (sizeOf 5).run Tryd.prog W = .ok 1 W := by simp [sizeOf, typeInfo, hi, hs1]
  rw [hsz]
  simp only [Result.andThen, sliced, Int.toNat_natCast, tailA]
  by_cases h : cap = c
  · simp [h]
  · simp [h, add_none]
theorem tail_drop {w : World} {b off m cap c : Nat} {l : List Int} (h : Bs w (.slice (some ⟨b, off, none⟩) m cap) l) (hc : c ≤ l.length) (h3 : c ≤ cap) : Bs w (.slice (tailA b off cap c) (m - c) (cap - c)) (l.drop c) := by
  have := h.drop hc
  unfold tailA
  by_cases h : cap = c
  · rw [if_pos (by omega)] at this; rw [if_pos h]; exact this
  · rw [if_neg (by omega)] at this; rw [if_neg h]
    simpa [add_none] using this
/-- e returns instructions and an Errno; what was there is as it was. -/
def Got (l : List Ins) (n : Int) (w : World) (e : Ending) (w' : World) : Prop := ∃ v, e = .returned (.tuple #[v, .int .i64 n]) ∧ OwnI w' w.heap.size v l ∧ Below w.heap.size w w'

theorem getE_long {b : List Int} (h : 32768 < b.length) : getE b = 3 := by unfold getE; rw [if_pos h]
theorem getE_odd {b : List Int} (h : ¬ 32768 < b.length) (h2 : b.length % 8 ≠ 0) : getE b = 4 := by unfold getE; rw [if_neg h, if_pos h2]
theorem getE_bad {b : List Int} (h : ¬ 32768 < b.length) (h2 : b.length % 8 = 0) {k : Nat} (hk : k < b.length / 8) (hb : okI (chunk b k) = false) : getE b = 4 := by
  unfold getE; rw [if_neg h, if_neg (by omega), if_neg]
  intro ho; rw [ho k hk] at hb; cases hb
theorem getI_not {b : List Int} (h : getE b ≠ 0) : getI b = [] := by unfold getI; rw [if_neg h]
theorem getI_all {b : List Int} (h : ¬ 32768 < b.length) (h2 : b.length % 8 = 0) (ho : oks b (b.length / 8)) : getE b = 0 ∧ getI b = decs b (b.length / 8) := by
  have : getE b = 0 := getE_zero.2 ⟨by omega, h2, ho⟩
  exact ⟨this, by unfold getI; rw [if_pos this]⟩

set_option maxHeartbeats 4000000 in
theorem getP (v : Value) (bs : List Int) (w : World) (T : Tab w) (h : Bs w v bs) (ho : Oct bs) (hlen : bs.length ≤ 140737488351232) : Calls Tryd.prog 21 #[v] w (Got (getI bs) (getE bs) w) := by
  obtain ⟨i0, hi, hz, hs1, hb1⟩ := insInfo
  have HI := Lib.hid hi
  have HZ := Lib.hid hz
  have HS1 := Lib.hid hs1
  have HB1 := Lib.hid hb1
  clear hi hz hs1 hb1
  obtain ⟨ao, cap, hsh⟩ := h.shape
  have H := Lib.hid h
  subst hsh
  have HT := Lib.hid T
  have HOC := Lib.hid ho
  obtain ⟨PL, hPL⟩ : ∃ x, x = getI bs := ⟨_, rfl⟩
  obtain ⟨PE, hPE⟩ : ∃ x, x = getE bs := ⟨_, rfl⟩
  rw [← hPL, ← hPE]
  have HPL := Lib.hid hPL
  have HPE := Lib.hid hPE
  clear h T ho hPL hPE
  generalize hn : bs.length = n at *
  have hN := Lib.hid hn
  clear hn
  go_enter Tryd.func21, Tryd.ntmps21
  by_cases hbig : 32768 < n
  · have d0 : decide (32768 < n) = true := by simpa using hbig
    go_wp2_with fail
    go_ret2
    have e : PE = 3 := by rw [HPE.out]; exact getE_long (by have := hN.out; omega)
    exact ⟨_, by rw [e]; rfl, by rw [HPL.out, getI_not (by rw [← HPE.out, e]; decide)]; exact OwnI.nil _ _, Below.refl _ _⟩
  have d0 : decide (32768 < n) = false := by simpa using hbig
  by_cases hodd : n % 8 = 0
  case neg =>
    have d1 : ((n : Int) % 8 == 0) = false := by simp; omega
    have d2 : ((n : Int) % 8 != 0) = true := by simp; omega
    have d3 : ¬ (n : Int) % 8 = 0 := by omega
    go_wp2_with fail
    go_ret2
    have e : PE = 4 := by rw [HPE.out]; exact getE_odd (by have := hN.out; omega) (by have := hN.out; omega)
    exact ⟨_, by rw [e]; rfl, by rw [HPL.out, getI_not (by rw [← HPE.out, e]; decide)]; exact OwnI.nil _ _, Below.refl _ _⟩
  case pos =>
    have hm : n = 8 * (n / 8) := by omega
    have HM := Lib.hid hm
    clear hm hodd
    obtain ⟨m, hmm⟩ : ∃ m, m = n / 8 := ⟨_, rfl⟩
    rw [← hmm] at HM
    have d3 : (n : Int) % 8 = 0 := by have := HM.out; omega
    have d4 : (n : Int) / 8 = (m : Int) := by have := HM.out; omega
    clear hmm
    go_wp2_with (at_make; refine wpList_make_own _ rfl _ _ 22 rfl w.heap.size 27 i0 (agg noIns) 8 Tryd.underlying22 HI.out HZ.out HS1.out _ _ _ m rfl rfl (by first | rfl | omega) (by have := HB1.out; rw [this]; have := HM.out; omega) (by unfold maxLen; have := HM.out; omega) (Nat.le_refl _) ?_)
    intro w0 hown0 hgrow0
    have HO0 := Lib.hid (made_i hown0)
    have B0 := Lib.hid ((Below.refl w.heap.size w).grown hgrow0 (Nat.le_refl _) (fun k h => by cases h))
    clear hown0 hgrow0
    go_wp2_with fail
    go_loopw [0, 4] (fun bv s wr => ∃ (k : Nat) (a1 : Option Addr) (c1 : Nat) (a2 : Option Addr) (c2 : Nat), k ≤ m ∧ bv = .slice a1 (8 * (m - k)) c1 ∧ s = .slice a2 k c2 ∧ Hid (oks bs k) ∧ Hid (Bs w (.slice a1 (8 * (m - k)) c1) (bs.drop (8 * k))) ∧ Hid (OwnI wr w.heap.size (.slice a2 k c2) (decs bs k)) ∧ Hid (Below w.heap.size w wr)) (fun bv _ _ => match bv with | .slice _ r _ => r | _ => 0)
    case atStart => exact ⟨0, ao, cap, some ⟨w.heap.size, 0, none⟩, m, Nat.zero_le _, by rw [HM.out]; rfl, rfl, Lib.hid (fun j hj => absurd hj (Nat.not_lt_zero _)), Lib.hid (by rw [Nat.sub_zero, ← HM.out]; simpa using H.out), HO0, B0⟩
    case round =>
      obtain ⟨k, a1, c1, a2, c2, hk, rfl, rfl, HK, HBS, HO, HB⟩ := hrel
      by_cases hlt : k < m
      · obtain ⟨r, hr⟩ : ∃ r, r = 8 * (m - k) := ⟨_, rfl⟩
        have hr8 : 8 ≤ r := by omega
        have HRR := Lib.hid hr
        have HBS' := HBS.out
        rw [← hr] at HBS'
        have hlr : (bs.drop (8 * k)).length = r := by rw [List.length_drop]; have := hN.out; have := HM.out; omega
        obtain ⟨b, off, c, hsh, hc1, hc2, -, cells⟩ := HBS'.at (by omega)
        rw [hlr] at hsh hc1
        obtain ⟨rfl, rfl⟩ : a1 = some ⟨b, off, none⟩ ∧ c1 = c := by cases hsh; exact ⟨rfl, rfl⟩
        rw [← hr]
        have HB2S := Lib.hid HBS'
        have HC1 := Lib.hid (And.intro hc1 hc2)
        have hcl : chunk bs k = (bs.drop (8 * k)).take 8 := rfl
        have hcn : ∀ j, j < 8 → wr.cell? ⟨b, off + j, none⟩ = some (.int .u8 (nth (chunk bs k) j)) := fun j hj => by
          rw [hcl, nth_take hj]; exact cellP (cells j (by omega)) HB.out
        have h8 : (chunk bs k).length = 8 := chunk_length (by have := hN.out; have := HM.out; omega)
        have hoc : Oct (chunk bs k) := ((HOC.out).drop _).take _
        have hop := hoc.nth (j := 0) (by omega)
        have OKE := Lib.hid (okP_eq hop.1 hop.2)
        have HOK := Lib.hid (fun (h : okI (chunk bs k) = true) => show oks bs (k + 1) from fun j hj => by
          by_cases e : j = k
          · rw [e]; exact h
          · exact HK.out j (by omega))
        have HBAD := Lib.hid (fun (h : okI (chunk bs k) = false) => show getE bs = 4 from getE_bad (by have := hN.out; omega) (by have := hN.out; have := HM.out; omega) (k := k) (by have := hN.out; have := HM.out; omega) h)
        have HDS := Lib.hid (decs_succ bs k)
        have IO := Lib.hid (fun W => insOf (chunk bs k) h8 hoc W)
        have RI := Lib.hid (fun W => rightP (decP (chunk bs k)) (show 0 ≤ nth (chunk bs k) 0 % 32 by omega) (show nth (chunk bs k) 0 % 32 ≤ 255 by omega) W)
        have WO := Lib.hid (fun (h : right (decP (chunk bs k)) = true) => wordOf (decP (chunk bs k)) h)
        have HOP : okP (chunk bs k) = (right (decP (chunk bs k)) && decide (enc (decP (chunk bs k)) = chunk bs k)) := rfl
        have HOP := Lib.hid HOP
        have H8 := Lib.hid h8
        clear cells HBS' hsh hop hoc hcl h8
        generalize chunk bs k = cb at *
        have z0 : wr.cell? ⟨b, off, none⟩ = _ := hcn 0 (by decide)
        have z1 := hcn 1 (by decide)
        have z2 := hcn 2 (by decide)
        have z3 := hcn 3 (by decide)
        have z4 := hcn 4 (by decide)
        have z5 := hcn 5 (by decide)
        have z6 := hcn 6 (by decide)
        have z7 := hcn 7 (by decide)
        clear hcn
        have u0 : decide (0 < r) = true := by simp; omega
        have u1 : (8 : Int) ≤ (c1 : Int) := by omega
        have u2 : (0 : Int) < (r : Int) := by omega
        unfold wagg at IO
        have HA : ∀ W, (Instr.arrayAt 55 (.slice (some ⟨b, off, none⟩) 8 c1)).run Tryd.prog W = .ok (.pointer (some ⟨b, off, none⟩)) W := fun W => run_arrayAt (P := Tryd.prog) W 55 5 8 (some ⟨b, off, none⟩) 8 c1 (by kernel_rfl) (Nat.le_refl 8)
        have OW := Lib.hid (oc_new wr 55 (.int .u8 (nth cb 0)) (.int .u8 (nth cb 1)) (.int .u8 (nth cb 2)) (.int .u8 (nth cb 3)) (.int .u8 (nth cb 4)) (.int .u8 (nth cb 5)) (.int .u8 (nth cb 6)) (.int .u8 (nth cb 7)))
        have B1 := Lib.hid ((HB.out).alloc (HB.out).size (Obj.cells #[.int .u8 (nth cb 0), .int .u8 (nth cb 1), .int .u8 (nth cb 2), .int .u8 (nth cb 3), .int .u8 (nth cb 4), .int .u8 (nth cb 5), .int .u8 (nth cb 6), .int .u8 (nth cb 7)] 55))
        have HO1 := Lib.hid ((HO.out).alloc (Obj.cells #[.int .u8 (nth cb 0), .int .u8 (nth cb 1), .int .u8 (nth cb 2), .int .u8 (nth cb 3), .int .u8 (nth cb 4), .int .u8 (nth cb 5), .int .u8 (nth cb 6), .int .u8 (nth cb 7)] 55))
        have HOcell := Lib.hid HBS
        go_wp2_with fail
        refine ((IO.out) _).mono ?_; rintro e w3 ⟨rfl, b3⟩
        have OW3 := Lib.hid ((OW.out).past b3)
        have B3 := Lib.hid ((B1.out).trans (b3.mono (B1.out).size))
        have HO3 := Lib.hid ((HO1.out).past b3)
        clear b3 IO z0 z1 z2 z3 z4 z5 z6 z7
        generalize decP cb = x at *
        obtain ⟨xo, xn, xd, xs, xu, xf, xm, xz⟩ := x
        unfold agg at RI WO ⊢
        simp only at RI WO ⊢
        have OI := Lib.hid (oc_new w3 27 (.int .u8 xo) (.bool xn) (.int .i64 xd) (.int .i64 xs) (.bool xu) (.int .i64 xf) (.int .i64 xm) (.int .i64 xz))
        have B4 := Lib.hid ((B3.out).alloc (B3.out).size (Obj.cells #[.int .u8 xo, .bool xn, .int .i64 xd, .int .i64 xs, .bool xu, .int .i64 xf, .int .i64 xm, .int .i64 xz] 27))
        have HO4 := Lib.hid ((HO3.out).alloc (Obj.cells #[.int .u8 xo, .bool xn, .int .i64 xd, .int .i64 xs, .bool xu, .int .i64 xf, .int .i64 xm, .int .i64 xz] 27))
        have OW4 := Lib.hid ((OW3.out).alloc (Obj.cells #[.int .u8 xo, .bool xn, .int .i64 xd, .int .i64 xs, .bool xu, .int .i64 xf, .int .i64 xm, .int .i64 xz] 27))
        have S0 := And.intro (eight_past_at (OI.out).cells ((Below.refl _ (w3.alloc (Obj.cells #[.int .u8 xo, .bool xn, .int .i64 xd, .int .i64 xs, .bool xu, .int .i64 xf, .int .i64 xm, .int .i64 xz] 27))).drew)) (eight_past_at (OW4.out).cells ((Below.refl _ (w3.alloc (Obj.cells #[.int .u8 xo, .bool xn, .int .i64 xd, .int .i64 xs, .bool xu, .int .i64 xf, .int .i64 xm, .int .i64 xz] 27))).drew))
        cases hr : right ⟨xo, xn, xd, xs, xu, xf, xm, xz⟩ with
        | false =>
          go_wp2_with fail
          refine wp_region_held_drew (S := (fun w' => (w'.cell? ⟨w3.heap.size, 0, none⟩ = some (.int .u8 xo) ∧ w'.cell? ⟨w3.heap.size, 1, none⟩ = some (.bool xn) ∧ w'.cell? ⟨w3.heap.size, 2, none⟩ = some (.int .i64 xd) ∧ w'.cell? ⟨w3.heap.size, 3, none⟩ = some (.int .i64 xs) ∧ w'.cell? ⟨w3.heap.size, 4, none⟩ = some (.bool xu) ∧ w'.cell? ⟨w3.heap.size, 5, none⟩ = some (.int .i64 xf) ∧ w'.cell? ⟨w3.heap.size, 6, none⟩ = some (.int .i64 xm) ∧ w'.cell? ⟨w3.heap.size, 7, none⟩ = some (.int .i64 xz)) ∧ (w'.cell? ⟨wr.heap.size, 0, none⟩ = some (.int .u8 (nth cb 0)) ∧ w'.cell? ⟨wr.heap.size, 1, none⟩ = some (.int .u8 (nth cb 1)) ∧ w'.cell? ⟨wr.heap.size, 2, none⟩ = some (.int .u8 (nth cb 2)) ∧ w'.cell? ⟨wr.heap.size, 3, none⟩ = some (.int .u8 (nth cb 3)) ∧ w'.cell? ⟨wr.heap.size, 4, none⟩ = some (.int .u8 (nth cb 4)) ∧ w'.cell? ⟨wr.heap.size, 5, none⟩ = some (.int .u8 (nth cb 5)) ∧ w'.cell? ⟨wr.heap.size, 6, none⟩ = some (.int .u8 (nth cb 6)) ∧ w'.cell? ⟨wr.heap.size, 7, none⟩ = some (.int .u8 (nth cb 7))))) (by kernel_rfl) S0 (fun S0 => ?_)
          refine wpAnyH_take (i := 0) (v := ?v0t1) rfl (by kernel_rfl) (by kernel_rfl) (by kernel_rfl) (fun _ _ _ h => h) (Or.inl ⟨by rfl, ?y0t1⟩) S0 ?z0t1
          case y0t1 => intro w_ hSw; (try dsimp only at hSw); go_simp; with_reducible rfl
          try simp only [List.getElem_toArray, List.getElem_cons_zero, List.getElem_cons_succ, Act.put, List.setIfInBounds_toArray, List.set_cons_zero, List.set_cons_succ]
          refine wpAnyH_ready (rs := [1]) (by kernel_rfl) (by simp) ?_
          refine AllReadyH.cons rfl (fun K hK => ?_) AllReadyH.nil
          go_simp
          refine ((RI.out) _).mono ?_; rintro e w5 ⟨rfl, b5⟩; have S1 := And.intro (eight_past_at S0.1 b5) (eight_past_at S0.2 b5)
          try go_wp2_with fail
          refine hK.out _ _ S1 (fun _ => ?_)
          clear hK K
          try rw [hr]
          try simp only [List.getElem_toArray, List.getElem_cons_zero, List.getElem_cons_succ, Act.put, List.setIfInBounds_toArray, List.set_cons_zero, List.set_cons_succ]
          refine wpAnyH_take (i := 2) (v := ?v2t2) rfl (by kernel_rfl) (by kernel_rfl) (by kernel_rfl) (fun _ _ _ h => h) (Or.inl ⟨by rfl, ?y2t2⟩) S1 ?z2t2
          case y2t2 => intro w_ hSw; go_simp; with_reducible rfl
          try simp only [List.getElem_toArray, List.getElem_cons_zero, List.getElem_cons_succ, Act.put, List.setIfInBounds_toArray, List.set_cons_zero, List.set_cons_succ]
          refine wpAnyH_take (i := 3) (v := ?v3t3) rfl (by kernel_rfl) (by kernel_rfl) (by kernel_rfl) (fun _ _ _ h => h) (Or.inl ⟨by rfl, ?y3t3⟩) S1 ?z3t3
          case y3t3 => intro w_ hSw; go_simp; with_reducible rfl
          try simp only [List.getElem_toArray, List.getElem_cons_zero, List.getElem_cons_succ, Act.put, List.setIfInBounds_toArray, List.set_cons_zero, List.set_cons_succ]
          refine wpAnyH_take (i := 4) (v := undef) rfl (by kernel_rfl) (by kernel_rfl) (by kernel_rfl) (fun _ _ _ h => h) (Or.inr ⟨by rfl, rfl⟩) S1 ?_
          try simp only [List.getElem_toArray, List.getElem_cons_zero, List.getElem_cons_succ, Act.put, List.setIfInBounds_toArray, List.set_cons_zero, List.set_cons_succ]
          refine wpAnyH_take (i := 5) (v := undef) rfl (by kernel_rfl) (by kernel_rfl) (by kernel_rfl) (fun _ _ _ h => h) (Or.inr ⟨by rfl, rfl⟩) S1 ?_
          try simp only [List.getElem_toArray, List.getElem_cons_zero, List.getElem_cons_succ, Act.put, List.setIfInBounds_toArray, List.set_cons_zero, List.set_cons_succ]
          refine wpAnyH_take (i := 6) (v := undef) rfl (by kernel_rfl) (by kernel_rfl) (by kernel_rfl) (fun _ _ _ h => h) (Or.inr ⟨by rfl, rfl⟩) S1 ?_
          try simp only [List.getElem_toArray, List.getElem_cons_zero, List.getElem_cons_succ, Act.put, List.setIfInBounds_toArray, List.set_cons_zero, List.set_cons_succ]
          refine wpAnyH_take (i := 7) (v := undef) rfl (by kernel_rfl) (by kernel_rfl) (by kernel_rfl) (fun _ _ _ h => h) (Or.inr ⟨by rfl, rfl⟩) S1 ?_
          try simp only [List.getElem_toArray, List.getElem_cons_zero, List.getElem_cons_succ, Act.put, List.setIfInBounds_toArray, List.set_cons_zero, List.set_cons_succ]
          refine wpAnyH_take (i := 8) (v := ?v8t4) rfl (by kernel_rfl) (by kernel_rfl) (by kernel_rfl) (fun _ _ _ h => h) (Or.inl ⟨by rfl, ?y8t4⟩) S1 ?z8t4
          case y8t4 => intro w_ hSw; go_simp; with_reducible rfl
          try simp only [List.getElem_toArray, List.getElem_cons_zero, List.getElem_cons_succ, Act.put, List.setIfInBounds_toArray, List.set_cons_zero, List.set_cons_succ]
          refine wpAnyH_done (by kernel_rfl) ?_ _
          go_wp2_with fail
          go_ret2
          have ek : okI cb = false := by rw [← (OKE.out).1, HOP.out, hr, Bool.false_and]
          have e : PE = 4 := by rw [HPE.out]; exact HBAD.out ek
          exact ⟨_, by rw [e]; rfl, by rw [HPL.out, getI_not (by rw [← HPE.out, e]; decide)]; exact OwnI.nil _ _, (B4.out).trans (((Below.refl _ (w3.alloc (Obj.cells #[.int .u8 xo, .bool xn, .int .i64 xd, .int .i64 xs, .bool xu, .int .i64 xf, .int .i64 xm, .int .i64 xz] 27))).drew.trans (b5.mono (Nat.le_refl _))).mono (B4.out).size)⟩
        | true =>
          have WQ := Lib.hid (WO.out hr)
          have HLE := enc_length ⟨xo, xn, xd, xs, xu, xf, xm, xz⟩
          have HEV := Lib.hid (show sameW (enc ⟨xo, xn, xd, xs, xu, xf, xm, xz⟩) cb = okI cb by rw [← (OKE.out).1, HOP.out, hr, Bool.true_and]; rfl)
          clear WO
          generalize enc ⟨xo, xn, xd, xs, xu, xf, xm, xz⟩ = eb at WQ HEV HLE
          have HNE := fun W => neq_word (a := eb) (b := cb) HLE H8.out W
          rw [HEV.out] at HNE
          unfold wagg at WQ
          clear HLE
          cases hk8 : okI cb with
          | false =>
            rw [hk8] at HNE
            go_wp2_with fail
            refine wp_region_held_drew (S := (fun w' => (w'.cell? ⟨w3.heap.size, 0, none⟩ = some (.int .u8 xo) ∧ w'.cell? ⟨w3.heap.size, 1, none⟩ = some (.bool xn) ∧ w'.cell? ⟨w3.heap.size, 2, none⟩ = some (.int .i64 xd) ∧ w'.cell? ⟨w3.heap.size, 3, none⟩ = some (.int .i64 xs) ∧ w'.cell? ⟨w3.heap.size, 4, none⟩ = some (.bool xu) ∧ w'.cell? ⟨w3.heap.size, 5, none⟩ = some (.int .i64 xf) ∧ w'.cell? ⟨w3.heap.size, 6, none⟩ = some (.int .i64 xm) ∧ w'.cell? ⟨w3.heap.size, 7, none⟩ = some (.int .i64 xz)) ∧ (w'.cell? ⟨wr.heap.size, 0, none⟩ = some (.int .u8 (nth cb 0)) ∧ w'.cell? ⟨wr.heap.size, 1, none⟩ = some (.int .u8 (nth cb 1)) ∧ w'.cell? ⟨wr.heap.size, 2, none⟩ = some (.int .u8 (nth cb 2)) ∧ w'.cell? ⟨wr.heap.size, 3, none⟩ = some (.int .u8 (nth cb 3)) ∧ w'.cell? ⟨wr.heap.size, 4, none⟩ = some (.int .u8 (nth cb 4)) ∧ w'.cell? ⟨wr.heap.size, 5, none⟩ = some (.int .u8 (nth cb 5)) ∧ w'.cell? ⟨wr.heap.size, 6, none⟩ = some (.int .u8 (nth cb 6)) ∧ w'.cell? ⟨wr.heap.size, 7, none⟩ = some (.int .u8 (nth cb 7))))) (by kernel_rfl) S0 (fun S0 => ?_)
            refine wpAnyH_take (i := 0) (v := ?v0t5) rfl (by kernel_rfl) (by kernel_rfl) (by kernel_rfl) (fun _ _ _ h => h) (Or.inl ⟨by rfl, ?y0t5⟩) S0 ?z0t5
            case y0t5 => intro w_ hSw; (try dsimp only at hSw); go_simp; with_reducible rfl
            try simp only [List.getElem_toArray, List.getElem_cons_zero, List.getElem_cons_succ, Act.put, List.setIfInBounds_toArray, List.set_cons_zero, List.set_cons_succ]
            refine wpAnyH_ready (rs := [1]) (by kernel_rfl) (by simp) ?_
            refine AllReadyH.cons rfl (fun K hK => ?_) AllReadyH.nil
            go_simp
            refine ((RI.out) _).mono ?_; rintro e w5 ⟨rfl, b5⟩; have S1 := And.intro (eight_past_at S0.1 b5) (eight_past_at S0.2 b5)
            have B5 := Lib.hid ((B4.out).trans (((Below.refl _ (w3.alloc (Obj.cells #[.int .u8 xo, .bool xn, .int .i64 xd, .int .i64 xs, .bool xu, .int .i64 xf, .int .i64 xm, .int .i64 xz] 27))).drew.trans (b5.mono (Nat.le_refl _))).mono (B4.out).size))
            try go_wp2_with fail
            refine hK.out _ _ S1 (fun _ => ?_)
            clear hK K
            try rw [hr]
            try simp only [List.getElem_toArray, List.getElem_cons_zero, List.getElem_cons_succ, Act.put, List.setIfInBounds_toArray, List.set_cons_zero, List.set_cons_succ]
            refine wpAnyH_take (i := 2) (v := ?v2t6) rfl (by kernel_rfl) (by kernel_rfl) (by kernel_rfl) (fun _ _ _ h => h) (Or.inl ⟨by rfl, ?y2t6⟩) S1 ?z2t6
            case y2t6 => intro w_ hSw; go_simp; with_reducible rfl
            try simp only [List.getElem_toArray, List.getElem_cons_zero, List.getElem_cons_succ, Act.put, List.setIfInBounds_toArray, List.set_cons_zero, List.set_cons_succ]
            refine wpAnyH_take (i := 3) (v := ?v3t7) rfl (by kernel_rfl) (by kernel_rfl) (by kernel_rfl) (fun _ _ _ h => h) (Or.inl ⟨by rfl, ?y3t7⟩) S1 ?z3t7
            case y3t7 => intro w_ hSw; go_simp; with_reducible rfl
            try simp only [List.getElem_toArray, List.getElem_cons_zero, List.getElem_cons_succ, Act.put, List.setIfInBounds_toArray, List.set_cons_zero, List.set_cons_succ]
            refine wpAnyH_take (i := 4) (v := ?v4t8) rfl (by kernel_rfl) (by kernel_rfl) (by kernel_rfl) (fun _ _ _ h => h) (Or.inl ⟨by rfl, ?y4t8⟩) S1 ?z4t8
            case y4t8 => intro w_ hSw; (try dsimp only at hSw); go_simp; with_reducible rfl
            try simp only [List.getElem_toArray, List.getElem_cons_zero, List.getElem_cons_succ, Act.put, List.setIfInBounds_toArray, List.set_cons_zero, List.set_cons_succ]
            refine wpAnyH_take (i := 6) (v := ?v6t9) rfl (by kernel_rfl) (by kernel_rfl) (by kernel_rfl) (fun _ _ _ h => h) (Or.inl ⟨by rfl, ?y6t9⟩) S1 ?z6t9
            case y6t9 => intro w_ hSw; (try dsimp only at hSw); go_simp; with_reducible rfl
            try simp only [List.getElem_toArray, List.getElem_cons_zero, List.getElem_cons_succ, Act.put, List.setIfInBounds_toArray, List.set_cons_zero, List.set_cons_succ]
            refine wpAnyH_ready (rs := [5]) (by kernel_rfl) (by simp) ?_
            refine AllReadyH.cons rfl (fun K hK => ?_) AllReadyH.nil
            go_simp
            refine ((WQ.out) _ ((HT.out).past B5.out)).mono ?_; rintro e w6 ⟨rfl, b6⟩; have S2 := And.intro (eight_past_at S1.1 b6) (eight_past_at S1.2 b6)
            have B6 := Lib.hid ((B5.out).trans (b6.mono (B5.out).size))
            try go_wp2_with fail
            refine hK.out _ _ S2 (fun _ => ?_)
            clear hK K
            try simp only [List.getElem_toArray, List.getElem_cons_zero, List.getElem_cons_succ, Act.put, List.setIfInBounds_toArray, List.set_cons_zero, List.set_cons_succ]
            refine wpAnyH_take (i := 7) (v := ?v7t10) rfl (by kernel_rfl) (by kernel_rfl) (by kernel_rfl) (fun _ _ _ h => h) (Or.inl ⟨by rfl, ?y7t10⟩) S2 ?z7t10
            case y7t10 => intro w_ hSw; go_simp; with_reducible rfl
            try simp only [List.getElem_toArray, List.getElem_cons_zero, List.getElem_cons_succ, Act.put, List.setIfInBounds_toArray, List.set_cons_zero, List.set_cons_succ]
            refine wpAnyH_take (i := 8) (v := ?v8t11) rfl (by kernel_rfl) (by kernel_rfl) (by kernel_rfl) (fun _ _ _ h => h) (Or.inl ⟨by rfl, ?y8t11⟩) S2 ?z8t11
            case y8t11 => intro w_ hSw; go_simp; with_reducible rfl
            try simp only [List.getElem_toArray, List.getElem_cons_zero, List.getElem_cons_succ, Act.put, List.setIfInBounds_toArray, List.set_cons_zero, List.set_cons_succ]
            refine wpAnyH_done (by kernel_rfl) ?_ _
            go_wp2_with fail
            go_ret2
            have e : PE = 4 := by rw [HPE.out]; exact HBAD.out hk8
            exact ⟨_, by rw [e]; rfl, by rw [HPL.out, getI_not (by rw [← HPE.out, e]; decide)]; exact OwnI.nil _ _, B6.out⟩
          | true =>
            rw [hk8] at HNE
            go_wp2_with fail
            refine wp_region_held_drew (S := (fun w' => (w'.cell? ⟨w3.heap.size, 0, none⟩ = some (.int .u8 xo) ∧ w'.cell? ⟨w3.heap.size, 1, none⟩ = some (.bool xn) ∧ w'.cell? ⟨w3.heap.size, 2, none⟩ = some (.int .i64 xd) ∧ w'.cell? ⟨w3.heap.size, 3, none⟩ = some (.int .i64 xs) ∧ w'.cell? ⟨w3.heap.size, 4, none⟩ = some (.bool xu) ∧ w'.cell? ⟨w3.heap.size, 5, none⟩ = some (.int .i64 xf) ∧ w'.cell? ⟨w3.heap.size, 6, none⟩ = some (.int .i64 xm) ∧ w'.cell? ⟨w3.heap.size, 7, none⟩ = some (.int .i64 xz)) ∧ (w'.cell? ⟨wr.heap.size, 0, none⟩ = some (.int .u8 (nth cb 0)) ∧ w'.cell? ⟨wr.heap.size, 1, none⟩ = some (.int .u8 (nth cb 1)) ∧ w'.cell? ⟨wr.heap.size, 2, none⟩ = some (.int .u8 (nth cb 2)) ∧ w'.cell? ⟨wr.heap.size, 3, none⟩ = some (.int .u8 (nth cb 3)) ∧ w'.cell? ⟨wr.heap.size, 4, none⟩ = some (.int .u8 (nth cb 4)) ∧ w'.cell? ⟨wr.heap.size, 5, none⟩ = some (.int .u8 (nth cb 5)) ∧ w'.cell? ⟨wr.heap.size, 6, none⟩ = some (.int .u8 (nth cb 6)) ∧ w'.cell? ⟨wr.heap.size, 7, none⟩ = some (.int .u8 (nth cb 7))))) (by kernel_rfl) S0 (fun S0 => ?_)
            refine wpAnyH_take (i := 0) (v := ?v0t12) rfl (by kernel_rfl) (by kernel_rfl) (by kernel_rfl) (fun _ _ _ h => h) (Or.inl ⟨by rfl, ?y0t12⟩) S0 ?z0t12
            case y0t12 => intro w_ hSw; (try dsimp only at hSw); go_simp; with_reducible rfl
            try simp only [List.getElem_toArray, List.getElem_cons_zero, List.getElem_cons_succ, Act.put, List.setIfInBounds_toArray, List.set_cons_zero, List.set_cons_succ]
            refine wpAnyH_ready (rs := [1]) (by kernel_rfl) (by simp) ?_
            refine AllReadyH.cons rfl (fun K hK => ?_) AllReadyH.nil
            go_simp
            refine ((RI.out) _).mono ?_; rintro e w5 ⟨rfl, b5⟩; have S1 := And.intro (eight_past_at S0.1 b5) (eight_past_at S0.2 b5)
            have B5 := Lib.hid ((B4.out).trans (((Below.refl _ (w3.alloc (Obj.cells #[.int .u8 xo, .bool xn, .int .i64 xd, .int .i64 xs, .bool xu, .int .i64 xf, .int .i64 xm, .int .i64 xz] 27))).drew.trans (b5.mono (Nat.le_refl _))).mono (B4.out).size))
            try go_wp2_with fail
            refine hK.out _ _ S1 (fun _ => ?_)
            clear hK K
            try rw [hr]
            try simp only [List.getElem_toArray, List.getElem_cons_zero, List.getElem_cons_succ, Act.put, List.setIfInBounds_toArray, List.set_cons_zero, List.set_cons_succ]
            refine wpAnyH_take (i := 2) (v := ?v2t13) rfl (by kernel_rfl) (by kernel_rfl) (by kernel_rfl) (fun _ _ _ h => h) (Or.inl ⟨by rfl, ?y2t13⟩) S1 ?z2t13
            case y2t13 => intro w_ hSw; go_simp; with_reducible rfl
            try simp only [List.getElem_toArray, List.getElem_cons_zero, List.getElem_cons_succ, Act.put, List.setIfInBounds_toArray, List.set_cons_zero, List.set_cons_succ]
            refine wpAnyH_take (i := 3) (v := ?v3t14) rfl (by kernel_rfl) (by kernel_rfl) (by kernel_rfl) (fun _ _ _ h => h) (Or.inl ⟨by rfl, ?y3t14⟩) S1 ?z3t14
            case y3t14 => intro w_ hSw; go_simp; with_reducible rfl
            try simp only [List.getElem_toArray, List.getElem_cons_zero, List.getElem_cons_succ, Act.put, List.setIfInBounds_toArray, List.set_cons_zero, List.set_cons_succ]
            refine wpAnyH_take (i := 4) (v := ?v4t15) rfl (by kernel_rfl) (by kernel_rfl) (by kernel_rfl) (fun _ _ _ h => h) (Or.inl ⟨by rfl, ?y4t15⟩) S1 ?z4t15
            case y4t15 => intro w_ hSw; (try dsimp only at hSw); go_simp; with_reducible rfl
            try simp only [List.getElem_toArray, List.getElem_cons_zero, List.getElem_cons_succ, Act.put, List.setIfInBounds_toArray, List.set_cons_zero, List.set_cons_succ]
            refine wpAnyH_take (i := 6) (v := ?v6t16) rfl (by kernel_rfl) (by kernel_rfl) (by kernel_rfl) (fun _ _ _ h => h) (Or.inl ⟨by rfl, ?y6t16⟩) S1 ?z6t16
            case y6t16 => intro w_ hSw; (try dsimp only at hSw); go_simp; with_reducible rfl
            try simp only [List.getElem_toArray, List.getElem_cons_zero, List.getElem_cons_succ, Act.put, List.setIfInBounds_toArray, List.set_cons_zero, List.set_cons_succ]
            refine wpAnyH_ready (rs := [5]) (by kernel_rfl) (by simp) ?_
            refine AllReadyH.cons rfl (fun K hK => ?_) AllReadyH.nil
            go_simp
            refine ((WQ.out) _ ((HT.out).past B5.out)).mono ?_; rintro e w6 ⟨rfl, b6⟩; have S2 := And.intro (eight_past_at S1.1 b6) (eight_past_at S1.2 b6)
            have B6 := Lib.hid ((B5.out).trans (b6.mono (B5.out).size))
            try go_wp2_with fail
            refine hK.out _ _ S2 (fun _ => ?_)
            clear hK K
            try simp only [List.getElem_toArray, List.getElem_cons_zero, List.getElem_cons_succ, Act.put, List.setIfInBounds_toArray, List.set_cons_zero, List.set_cons_succ]
            refine wpAnyH_take (i := 7) (v := ?v7t17) rfl (by kernel_rfl) (by kernel_rfl) (by kernel_rfl) (fun _ _ _ h => h) (Or.inl ⟨by rfl, ?y7t17⟩) S2 ?z7t17
            case y7t17 => intro w_ hSw; go_simp; with_reducible rfl
            try simp only [List.getElem_toArray, List.getElem_cons_zero, List.getElem_cons_succ, Act.put, List.setIfInBounds_toArray, List.set_cons_zero, List.set_cons_succ]
            refine wpAnyH_take (i := 8) (v := ?v8t18) rfl (by kernel_rfl) (by kernel_rfl) (by kernel_rfl) (fun _ _ _ h => h) (Or.inl ⟨by rfl, ?y8t18⟩) S2 ?z8t18
            case y8t18 => intro w_ hSw; go_simp; with_reducible rfl
            try simp only [List.getElem_toArray, List.getElem_cons_zero, List.getElem_cons_succ, Act.put, List.setIfInBounds_toArray, List.set_cons_zero, List.set_cons_succ]
            refine wpAnyH_done (by kernel_rfl) ?_ _
            obtain ⟨q0, q1, q2, q3, q4, q5, q6, q7⟩ := S2.1
            have HO5 := Lib.hid ((((HO4.out).past ((Below.refl _ (w3.alloc (Obj.cells #[.int .u8 xo, .bool xn, .int .i64 xd, .int .i64 xs, .bool xu, .int .i64 xf, .int .i64 xm, .int .i64 xz] 27))).drew)).past b5).past b6)
            have HO6 := Lib.hid ((HO5.out).alloc (Obj.cells #[.int .u8 xo, .bool xn, .int .i64 xd, .int .i64 xs, .bool xu, .int .i64 xf, .int .i64 xm, .int .i64 xz] 27))
            have B7 := Lib.hid ((B6.out).alloc (B6.out).size (Obj.cells #[.int .u8 xo, .bool xn, .int .i64 xd, .int .i64 xs, .bool xu, .int .i64 xf, .int .i64 xm, .int .i64 xz] 27))
            have HM1 := Lib.hid (inss_one w6 ⟨xo, xn, xd, xs, xu, xf, xm, xz⟩)
            have HKL := Lib.hid (show (decs bs k).length = k from decs_length bs k)
            have HX := Lib.hid (show (⟨xo, xn, xd, xs, xu, xf, xm, xz⟩ : Ins) = dec cb from (OKE.out).2 hk8)
            clear S0 S1 S2 b5 b6
            go_wp2_with (at_builtin; refine wpList_append_i _ rfl _ _ rfl w.heap.size _ (decs bs k) rfl HO6.out _ [⟨xo, xn, xd, xs, xu, xf, xm, xz⟩] rfl HM1.out (by have := HKL.out; have := HM.out; simp; omega) (B7.out).size ?_)
            intro v8 w8 ho8 hg8
            have B8 := Lib.hid ((B7.out).grown hg8 (B7.out).size (fun j hj => ((HO6.out).lt j hj).1))
            obtain ⟨a8, c8, hv8⟩ := ho8.shape
            rw [List.length_append, HKL.out] at hv8
            subst hv8
            rw [HX.out, ← HDS.out] at ho8
            have HO8 := Lib.hid ho8
            have HK1 := Lib.hid (HOK.out hk8)
            clear ho8 hg8
            have HSL : ∀ W, (Instr.slice 34 (.slice (some ⟨b, off, none⟩) (8 * (m - k)) c1) (some (.int .i64 8)) none none).run Tryd.prog W = .ok (.slice (tailA b off c1 8) (8 * (m - k) - 8) (c1 - 8)) W := fun W => slice_from b off (8 * (m - k)) c1 8 (by omega) (by omega) W
            have HTD := Lib.hid (show Bs w (.slice (tailA b off c1 8) (8 * (m - (k + 1))) (c1 - 8)) (bs.drop (8 * (k + 1))) by
              have h1 := tail_drop (c := 8) HBS.out (by rw [List.length_drop]; have := hN.out; have := HM.out; omega) (by omega)
              rw [List.drop_drop] at h1
              rw [show 8 * (m - (k + 1)) = 8 * (m - k) - 8 from by omega, show 8 * (k + 1) = 8 * k + 8 from by omega]
              exact h1)
            generalize tailA b off c1 8 = ta at HSL HTD
            go_wp2_with fail
            go_roundw
            case rel => exact ⟨k + 1, ta, c1 - 8, a8, c8, by omega, by rw [show 8 * (m - (k + 1)) = 8 * (m - k) - 8 from by omega], by first | rfl | simp, HK1, HTD, by first | exact HO8 | simpa using HO8, B8⟩
            case measure => simp; omega
      · have hd : decide (k < m) = false := by simpa using hlt
        have hkm : k = m := by omega
        subst hkm
        have HR0 : 8 * (k - k) = 0 := by omega
        rw [HR0]
        go_wp2_with fail
        go_ret2
        have hok := getI_all (b := bs) (by have := hN.out; omega) (by have := hN.out; have := HM.out; omega) (by rw [show bs.length / 8 = k from by have := hN.out; have := HM.out; omega]; exact HK.out)
        rw [show bs.length / 8 = k from by have := hN.out; have := HM.out; omega] at hok
        refine ⟨_, by rw [HPE.out, hok.1]; rfl, ?_, HB.out⟩
        rw [HPL.out, hok.2]
        exact HO.out
end Go.Proofs.YtmkhcgfbeeimaaaDoor
