/- Contracts of the document's frames: one frame's bytes, Put. -/
import Derived.Test.YtkiagnlpnphghaaDoorFrPut
namespace Go.Proofs.YtkiagnlpnphghaaDoor
open Go.RowKit
set_option linter.unusedVariables false
set_option linter.unusedSimpArgs false

/-- A frame's block, and what lay before it, kept. -/
abbrev Fb (w0 w : World) (E : Nat) (k : Int) (v : Value) : Prop := w.cell? ⟨E, 0, none⟩ = some (.int .i64 k) ∧ w.cell? ⟨E, 1, none⟩ = some v ∧ Below w0.heap.size w0 w
theorem Fb.past {w0 w w' : World} {E : Nat} {k : Int} {v : Value} (h : Fb w0 w E k v) (hb : Below w.heap.size w w') : Fb w0 w' E k v :=
  ⟨(hb.cell (p := ⟨E, 0, none⟩) (World.block_lt_of_cell? w _ h.1)).trans h.1, (hb.cell (p := ⟨E, 1, none⟩) (World.block_lt_of_cell? w _ h.2.1)).trans h.2.1, h.2.2.trans (hb.mono h.2.2.size)⟩
theorem Fb.alloc {w0 w : World} {E : Nat} {k : Int} {v : Value} (h : Fb w0 w E k v) (o : Obj) : Fb w0 (w.alloc o) E k v := h.past (alloc_below w o)
theorem Fb.alloc_drew {w0 w : World} {E : Nat} {k : Int} {v : Value} (h : Fb w0 w.drew E k v) (o : Obj) : Fb w0 (w.alloc o).drew E k v := h.alloc o
theorem Fb.grown {w0 w w' : World} {E : Nat} {k : Int} {v : Value} {row : Option Nat} (h : Fb w0 w E k v) (hg : w.grownBy w' row) (hr : ∀ j, row = some j → w0.heap.size ≤ j) (hE : E < w0.heap.size) : Fb w0 w' E k v :=
  ⟨hg.cell (a := ⟨E, 0, none⟩) h.1 (fun e => by have h1 := hr E e.symm; omega), hg.cell (a := ⟨E, 1, none⟩) h.2.1 (fun e => by have h1 := hr E e.symm; omega), h.2.2.grown hg h.2.2.size (fun j e => hr j e)⟩
theorem own_lit1 (w : World) (base : Nat) (x : Int) (h : base ≤ w.heap.size) : Own (w.alloc (.cells #[.int .u8 x] 5)) base (.slice (some ⟨w.heap.size, 0, none⟩) 1 1) [x] := by
  have := World.ownsRow_lit (size := 1) (base := base) w #[.int .u8 x] 1 (e := 5) h (by unfold maxLen; omega) rfl
  simpa [Own, bv] using this

/-- What the first five bytes' making has come to. -/
structure R1 (w wx : World) (E : Nat) (k : Int) (v : Value) (u : Value) (l : List Int) : Prop where
  c0 : wx.cell? ⟨E, 0, none⟩ = some (.int .i64 k)
  c1 : wx.cell? ⟨E, 1, none⟩ = some v
  own : Own wx (E + 1) u l
  bel : Below w.heap.size w wx
  e : w.heap.size = E
theorem R1.lt {w wx : World} {E : Nat} {k : Int} {v u : Value} {l : List Int} (h : R1 w wx E k v u l) : E + 1 ≤ wx.heap.size := World.block_lt_of_cell? wx _ h.c0
theorem R1.past {w wx wy : World} {E : Nat} {k : Int} {v u : Value} {l : List Int} (h : R1 w wx E k v u l) (hb : Below wx.heap.size wx wy) : R1 w wy E k v u l :=
  ⟨(hb.cell (p := ⟨E, 0, none⟩) h.lt).trans h.c0, (hb.cell (p := ⟨E, 1, none⟩) h.lt).trans h.c1, h.own.below hb (Nat.le_refl _), bel_past h.bel hb, h.e⟩
/-- Another row than its own was written. -/
theorem R1.grown {w wx wy : World} {E : Nat} {k : Int} {v u : Value} {l : List Int} {row : Option Nat} (h : R1 w wx E k v u l) (hg : wx.grownBy wy row) (hr : ∀ j, row = some j → E + 1 ≤ j ∧ u.ownBlock ≠ some j) : R1 w wy E k v u l :=
  ⟨hg.cell (a := ⟨E, 0, none⟩) h.c0 (fun e => by have h1 := (hr E e.symm).1; omega), hg.cell (a := ⟨E, 1, none⟩) h.c1 (fun e => by have h1 := (hr E e.symm).1; omega), h.own.kept hg (by
    cases hv : u.ownBlock with
    | none => exact Or.inl rfl
    | some j => exact Or.inr (fun e => (hr j e.symm).2 hv)), h.bel.grown hg h.bel.size (fun j e => by have := (hr j e).1; have := h.e; omega), h.e⟩
/-- Its own row was written. -/
theorem R1.added {w wx wy : World} {E : Nat} {k : Int} {v u u' : Value} {l l' : List Int} (h : R1 w wx E k v u l) (hg : wx.grownBy wy u.ownBlock) (ho : Own wy (E + 1) u' l') : R1 w wy E k v u' l' :=
  ⟨hg.cell (a := ⟨E, 0, none⟩) h.c0 (fun e => by have h1 := (h.own.lt E e.symm).1; omega), hg.cell (a := ⟨E, 1, none⟩) h.c1 (fun e => by have h1 := (h.own.lt E e.symm).1; omega), ho,
    h.bel.grown hg h.bel.size (fun j e => by have := (h.own.lt j e).1; have := h.e; omega), h.e⟩
theorem Own.slen' {w : World} {base n c : Nat} {ao : Option Addr} {l : List Int} (h : Own w base (.slice ao n c) l) : n = l.length := by
  obtain ⟨a, cap, hv⟩ := h.bs.shape
  cases hv; rfl
abbrev Cc (w : World) (E : Nat) (k : Int) (v : Value) : Prop := w.cell? ⟨E, 0, none⟩ = some (.int .i64 k) ∧ w.cell? ⟨E, 1, none⟩ = some v
theorem R1.cc {w wx : World} {E : Nat} {k : Int} {v u : Value} {l : List Int} (h : R1 w wx E k v u l) : Cc wx E k v := ⟨h.c0, h.c1⟩

set_option maxHeartbeats 4000000 in
set_option maxRecDepth 100000 in
theorem refOne (k : Int) (v : Value) (d : List Int) (w : World) (h : Bs w v d) (ho : Oct d) (hf : OkFr (k, d)) :
    Calls Tryd.prog 26 #[.agg #[.int .i64 k, v]] w (Shaped (9 + d.length) (frm (k, d)) w) := by
  obtain ⟨h0, h1, hd⟩ := hf
  have h0 : 0 ≤ k := h0
  have h1 : k ≤ 255 := h1
  have hd : d.length ≤ 262144 := hd
  obtain ⟨av, cv, hsh⟩ := h.shape
  have H := Lib.hid h
  have HO := Lib.hid ho
  subst hsh
  clear h ho
  have F0 := FrBox.new 46 w k (.slice av d.length cv)
  have B0 := alloc_below w (.cells #[.int .i64 k, .slice av d.length cv] 46)
  have hsz : (w.alloc (.cells #[.int .i64 k, .slice av d.length cv] 46)).heap.size = w.heap.size + 1 := by simp
  have HM := Lib.hid (show d.length = d.length from rfl)
  have FO := fun W => Lib.hid (refFour d.length W (by omega) (by omega))
  have hm := hd
  generalize hW : w.alloc (.cells #[.int .i64 k, .slice av d.length cv] 46) = W at *
  have HW := Lib.hid hW
  clear hW
  generalize hE : w.heap.size = E at *
  have HE := Lib.hid hE
  clear hE
  obtain ⟨c0, c1⟩ := (F0.past (drew_below W)).cells
  have HF0 := Lib.hid F0
  have HB0 := Lib.hid B0
  have S0 : Fb W W.drew E k (.slice av d.length cv) := ⟨c0, c1, drew_below W⟩
  have SA : Fb W (W.alloc (.cells #[.int .u8 k] 5)).drew E k (.slice av d.length cv) := Fb.alloc_drew S0 _
  have OA : Own (W.alloc (.cells #[.int .u8 k] 5)).drew (E + 1) (.slice (some ⟨E + 1, 0, none⟩) 1 1) [k] := by
    have := own_lit1 W (E + 1) k (by omega)
    rw [hsz] at this
    exact this
  have hw4 : 0 < (w4 (d.length : Int)).length := by rw [w4_length]; decide
  have hwk : IntKind.u8.wrap k = k := by rw [IntKind.wrap_u8']; omega
  have hwl : IntKind.u32.wrap (d.length : Int) = d.length := by rw [IntKind.wrap_u32']; omega
  clear F0 B0 c0 c1
  generalize hdl : d.length = m at *
  have HDL := Lib.hid hdl
  clear hdl
  go_enter Tryd.func26, Tryd.ntmps26
  go_wp2_with fail
  rw [HE.out, HW.out]
  go_upto_region 1 with fail
  go_cut [3] (fun s wx => ∃ a n c, s = .slice a n c ∧ Hid (R1 w wx E k (.slice av m cv) (.slice a n c) (head5 (k, d))))
  case first =>
    go_region_held3 (fun w' => w'.cell? ⟨E, 0, none⟩ = some (.int .i64 k) ∧ w'.cell? ⟨E, 1, none⟩ = some (.slice av m cv) ∧ Below W.heap.size W w') (first | (with_reducible assumption) | (with_reducible exact Fb.alloc (by with_reducible assumption) _)) (first | (go_at_call 36; refine ((FO _).out).mono ?_; rintro e w1 ⟨a1, q1, rfl, o1, b1⟩; (first | (with_reducible have S1 := S0.past b1) | ((with_reducible have S1 := SA.past b1); have OA1 := OA.below b1 (Nat.le_refl _)))) | (refine step_append_bs (by rfl) (.tmp 8) (.tmp 13) (by rfl) (E + 1) (.slice (some ⟨E + 1, 0, none⟩) 1 1) [k] (by rfl) OA1 (.slice a1 4 q1) (w4 m) (by rfl) o1.bs hw4 5 rfl (by omega) (by rw [← hsz]; exact S1.2.2.size) ?_; intro a2 q2 w2 o2 g2; have S2 := S1.grown g2 (fun j e => by have := (OA1.lt j e).1; omega) (by omega)) | (refine step_append_bs (by rfl) (.tmp 8) (.tmp 13) (by rfl) (E + 1) (.slice (some ⟨w1.heap.size, 0, none⟩) 1 1) [k] (by rfl) (own_lit1 w1 (E + 1) k (by rw [← hsz]; exact S1.2.2.size)) (.slice a1 4 q1) (w4 m) (by rfl) (o1.bs.alloc _) hw4 5 rfl (by omega) (by rw [← hsz]; exact (S1.alloc _).2.2.size) ?_; intro a2 q2 w2 o2 g2; have S2 := (S1.alloc (.cells #[.int .u8 k] 5)).grown g2 (fun j e => by have e2 : w1.heap.size = j := Option.some.inj e; have := S1.2.2.size; omega) (by omega)))
    all_goals
      have R := Lib.hid (R1.mk (w := w) (u := .slice a2 5 q2) (l := head5 (k, d)) S2.1 S2.2.1 (by have := o2; rw [← HDL.out] at this; exact this) (by rw [HE.out]; exact (HB0.out).trans (S2.2.2.mono (by omega))) HE.out)
      go_wp2_with fail
      go_meet
      exact ⟨_, _, _, rfl, R⟩
  case rest =>
    obtain ⟨a, n, c, rfl, HR⟩ := hcut
    clear S0 SA OA hw4 FO
    have hn5 : n = 5 := (HR.out).own.slen'
    subst hn5
    have C0 := ((HR.out).past (drew_below wc)).cc
    have RA := ((HR.out).past (alloc_below wc (.cells #[] 5))).past (drew_below _)
    have CA := RA.cc
    have hE1 : E + 1 ≤ wc.heap.size := (HR.out).lt
    have MA : Own (wc.alloc (.cells #[] 5)).drew wc.heap.size (.slice (some ⟨wc.heap.size, 0, none⟩) 0 0) [] := made_now wc _ (Nat.le_refl _)
    have hza : wc.heap.size ≤ (wc.alloc (.cells #[] 5)).drew.heap.size := Nat.le_trans (alloc_below wc (.cells #[] 5)).size (drew_below _).size
    have hna : ∀ j, wc.heap.size ≤ j → E + 1 ≤ j ∧ (Value.slice a 5 c).ownBlock ≠ some j := fun j hj => ⟨by omega, fun e3 => by have := ((HR.out).own.lt j e3).2; omega⟩
    have hne : ∀ j, (Value.slice (some ⟨wc.heap.size, 0, none⟩) 0 0).ownBlock = some j → E + 1 ≤ j ∧ (Value.slice a 5 c).ownBlock ≠ some j := fun j e => by
      have e2 : wc.heap.size = j := Option.some.inj e
      refine ⟨by omega, fun e3 => ?_⟩
      have := ((HR.out).own.lt j e3).2
      omega
    have h5 : 0 < (head5 (k, d)).length := by rw [head5_length]; decide
    have ho5 := head5_oct (f := (k, d)) ⟨h0, h1, by show d.length ≤ 262144; have := HDL.out; omega⟩
    have SU := fun v4 y4 (h4 : Bs y4 v4 (head5 (k, d) ++ d)) => Lib.hid (refSum v4 _ y4 h4 (ho5.append HO.out))
    have hl5 : (head5 (k, d)).length + d.length ≤ 140737488355328 := by rw [head5_length]; have := HDL.out; omega
    have HH := Lib.hid hl5
    have HHE := Lib.hid hE1
    clear hl5 hE1
    go_wp2_with fail
    go_region_held3 (fun w' => w'.cell? ⟨E, 0, none⟩ = some (.int .i64 k) ∧ w'.cell? ⟨E, 1, none⟩ = some (.slice av m cv)) (first | (with_reducible assumption)) (first | (go_at_call 18; refine ((SU _ _ o4.bs).out).mono ?_; rintro e w5 ⟨rfl, rfl⟩) | (refine step_append_bs (by rfl) (.tmp 15) (.tmp 16) (by rfl) wc.heap.size (.slice (some ⟨wc.heap.size, 0, none⟩) 0 0) [] (by rfl) MA (.slice a 5 c) (head5 (k, d)) (by rfl) RA.own.bs h5 5 rfl (by decide) hza ?_; intro a3 q3 w3 o3 g3; rw [List.nil_append] at o3; have R3 := RA.grown g3 hne; have C3 := R3.cc; have hz3 := Nat.le_trans hza g3.size) | (refine step_append_any (by rfl) (.tmp 17) (.tmp 19) (by rfl) wc.heap.size (.slice a3 5 q3) (head5 (k, d)) (by rfl) o3 (.slice av m cv) d (by rfl) ((H.out).past R3.bel) HH.out hz3 ?_; intro v4 y4 o4 g4; have R4 := R3.grown g4 (fun j e => hna j (o3.lt j e).1); have C4 := R4.cc))
    have HR4 := Lib.hid R4
    have hb := sumOf_bound (f := (k, d)) ⟨h0, h1, by show d.length ≤ 262144; have := HDL.out; omega⟩ HO.out
    have HSB := Lib.hid hb
    have FO := fun W => Lib.hid (refFour (sumOf (k, d)) W hb.1 hb.2)
    have hso : ((crc (head5 (k, d) ++ d) : Nat) : Int) = sumOf (k, d) := rfl
    have C5 := ((HR4.out).past (drew_below y4)).cc
    have R5 := Lib.hid ((HR4.out).past (drew_below y4))
    clear R4 C4 R3 C3 RA CA MA o3 o4 g3 g4 hb SU hz3 hza hne hna h5 C0
    rw [hso]
    clear hso
    have hw4s : 0 < (w4 (sumOf (k, d))).length := by rw [w4_length]; decide
    have hp9 : (head5 (k, d)).length + (w4 (sumOf (k, d))).length = 9 := by rw [head5_length, w4_length]
    have h9 : 9 ≤ 140737488355328 := by decide
    have hl9 := Lib.hid (show (head5 (k, d) ++ w4 (sumOf (k, d))).length + d.length ≤ 140737488355328 by rw [List.length_append, hp9]; have := HDL.out; omega)
    generalize hsm : sumOf (k, d) = sm at *
    have HSM := Lib.hid hsm
    clear hsm
    go_wp2_with fail
    go_region_held3 (fun w' => w'.cell? ⟨E, 0, none⟩ = some (.int .i64 k) ∧ w'.cell? ⟨E, 1, none⟩ = some (.slice av m cv)) (first | (with_reducible assumption)) (first | (go_at_call 36; refine ((FO _).out).mono ?_; rintro e w6 ⟨a6, q6, rfl, o6, b6⟩; have R6 := (R5.out).past b6; have C6 := R6.cc) | (refine step_append_bs (by rfl) (.tmp 22) (.tmp 24) (by rfl) (E + 1) (.slice a 5 c) (head5 (k, d)) (by rfl) R6.own (.slice a6 4 q6) (w4 sm) (by rfl) o6.bs hw4s 9 hp9 h9 R6.lt ?_; intro a7 q7 w7 o7 g7; have R7 := R6.added g7 o7; have C7 := R7.cc) | (refine step_append_any (by rfl) (.tmp 25) (.tmp 27) (by rfl) (E + 1) (.slice a7 9 q7) (head5 (k, d) ++ w4 sm) (by rfl) o7 (.slice av m cv) d (by rfl) ((H.out).past R7.bel) hl9.out R7.lt ?_; intro v8 w8 o8 g8; have R8 := R7.added g8 o8; have C8 := R8.cc))
    have hlast : head5 (k, d) ++ w4 sm ++ d = frm (k, d) := by rw [← HSM.out]; rfl
    obtain ⟨a8, q8, hs8⟩ := o8.bs.shape
    rw [hlast] at o8 hs8
    rw [frm_length] at hs8
    have hs9 : v8 = .slice a8 (9 + m) q8 := by rw [hs8]; show Value.slice a8 (9 + d.length) q8 = _; rw [HDL.out]
    clear hs8
    have HO8 := Lib.hid o8
    have HB8 := Lib.hid R8.bel
    clear o8 g8 R8 C8 R7 C7 R6 C6 o7 g7 hlast
    subst hs9
    go_wp2_with fail
    go_ret
    exact ⟨a8, q8, rfl, (HO8.out).mono (by rw [HE.out]; omega), HB8.out⟩
end Go.Proofs.YtkiagnlpnphghaaDoor
