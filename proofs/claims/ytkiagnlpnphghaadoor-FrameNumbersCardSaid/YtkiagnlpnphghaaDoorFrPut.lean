/- Contract of Put: the frames' bytes, one behind the other, or the first error. -/
import Derived.Test.YtkiagnlpnphghaaDoorFrames
import Derived.Deep.RegionHeld3
import Derived.Deep.RegionLaw
import Derived.Deep.DeepCutAuto
namespace Go.Proofs.YtkiagnlpnphghaaDoor
open Go.RowKit
set_option linter.unusedVariables false
set_option linter.unusedSimpArgs false

/-- Block b is one cell of type t that holds v. -/
def Cel (t : TypeId) (w : World) (b : Nat) (v : Value) : Prop := w.heap[b]? = some (.cells #[v] t (0, 0))
theorem Cel.lt {t : TypeId} {w : World} {b : Nat} {v : Value} (h : Cel t w b v) : b < w.heap.size := (Array.getElem?_eq_some_iff.1 h).1
theorem Cel.cell {t : TypeId} {w : World} {b : Nat} {v : Value} (h : Cel t w b v) : w.cell? ⟨b, 0, none⟩ = some v := by rw [cell_of_row w b 0 _ _ _ h]; rfl
theorem Cel.free {t : TypeId} {w : World} {b : Nat} {v : Value} (h : Cel t w b v) : w.frozen? ⟨b, 0, none⟩ = false := by simp [World.frozen?, show w.heap[b]? = _ from h]
theorem Cel.set {t : TypeId} {w : World} {b : Nat} {v : Value} (h : Cel t w b v) (u : Value) : Cel t (w.setCell ⟨b, 0, none⟩ u) b u := by
  unfold Cel at h ⊢
  simp only [World.setCell, Array.getElem?_modify, h]
  simp
theorem Cel.grown {t : TypeId} {w w' : World} {b : Nat} {v : Value} {row : Option Nat} (h : Cel t w b v) (hg : w.grownBy w' row) (hr : row ≠ some b) : Cel t w' b v := (hg.block b h.lt (fun e => hr e.symm)).trans h
theorem Cel.past {t : TypeId} {w w' : World} {b : Nat} {v : Value} (h : Cel t w b v) (hb : Below w.heap.size w w') : Cel t w' b v := (hb.block b h.lt).trans h
theorem Cel.drewN {t : TypeId} {w : World} {b : Nat} {v : Value} (h : Cel t w b v) (n : Nat) : Cel t (w.drewN n) b v := by unfold Cel at *; simpa using h
theorem Cel.new (t : TypeId) (w : World) (v : Value) : Cel t (w.alloc (.cells #[v] t)) w.heap.size v := heap_alloc_new w _
theorem Cel.noBytes {t : TypeId} {w : World} {b : Nat} {v : Value} (h : Cel t w b v) (ht : t ≠ 5) : NoBytes w b := by
  intro cur fr hb
  rw [show w.heap[b]? = _ from h] at hb
  simp at hb
  exact ht hb.2.1

/-- What the joining has come to: b's cell holds the bytes l, err's cell nothing. -/
structure JS (w wr : World) (l : List Int) (v : Value) : Prop where
  cb : Cel 27 wr w.heap.size v
  ce : Cel 28 wr (w.heap.size + 1) (.int .i64 0)
  own : Own wr (w.heap.size + 2) v l
  bel : Below w.heap.size w wr

theorem JS.past {w wr w' : World} {l : List Int} {v : Value} (h : JS w wr l v) (hb : Below wr.heap.size wr w') : JS w w' l v :=
  ⟨h.cb.past hb, h.ce.past hb, h.own.below hb (Nat.le_refl _), h.bel.trans (hb.mono h.bel.size)⟩
theorem JS.far {w wr : World} {l : List Int} {v : Value} (h : JS w wr l v) : w.heap.size + 2 ≤ wr.heap.size := h.ce.lt
/-- Bytes were added to b's row: not yet stored. -/
theorem JS.added {w wr w' : World} {l : List Int} {v : Value} (h : JS w wr l v) (hg : wr.grownBy w' v.ownBlock) : Cel 27 w' w.heap.size v ∧ Cel 28 w' (w.heap.size + 1) (.int .i64 0) ∧ Below w.heap.size w w' :=
  ⟨h.cb.grown hg (fun e => by have := (h.own.lt _ e).1; omega), h.ce.grown hg (fun e => by have := (h.own.lt _ e).1; omega), h.bel.grown hg h.bel.size (fun k hk => by have := (h.own.lt k hk).1; omega)⟩
theorem JS.stored {w wr w' : World} {l l' : List Int} {v v' : Value} (h : JS w wr l v) (hg : wr.grownBy w' v.ownBlock) (ho : Own w' (w.heap.size + 2) v' l') : JS w (w'.setCell ⟨w.heap.size, 0, none⟩ v') l' v' := by
  obtain ⟨c1, c2, b⟩ := h.added hg
  have g := grownBy_setCell w' ⟨w.heap.size, 0, none⟩ v'
  refine ⟨c1.set _, c2.grown g (fun e => by have : w.heap.size = w.heap.size + 1 := Option.some.inj e; omega), ho.kept g ?_, b.setCell (p := ⟨w.heap.size, 0, none⟩) (Nat.le_refl _) _⟩
  cases hv : v'.ownBlock with
  | none => exact Or.inl rfl
  | some k => exact Or.inr (fun e => by have h1 := (ho.lt k hv).1; have : k = w.heap.size := Option.some.inj e; omega)
/-- What is there is stored once more. -/
theorem JS.again {w wr : World} {l : List Int} {v : Value} (h : JS w wr l v) : JS w ((wr.setCell ⟨w.heap.size, 0, none⟩ v).setCell ⟨w.heap.size + 1, 0, none⟩ (.int .i64 0)) l v := by
  have h1 := h.stored (grownBy_refl wr _) h.own
  have g := grownBy_setCell (wr.setCell ⟨w.heap.size, 0, none⟩ v) ⟨w.heap.size + 1, 0, none⟩ (.int .i64 0)
  refine ⟨h1.cb.grown g (fun e => by have : w.heap.size + 1 = w.heap.size := Option.some.inj e; omega), h1.ce.set _, h1.own.kept g ?_, h1.bel.setCell (p := ⟨w.heap.size + 1, 0, none⟩) (Nat.le_succ _) _⟩
  cases hv : v.ownBlock with
  | none => exact Or.inl rfl
  | some k => exact Or.inr (fun e => by have h1 := (h.own.lt k hv).1; have : k = w.heap.size + 1 := Option.some.inj e; omega)
theorem drew_below (w : World) : Below w.heap.size w w.drew := (Below.refl _ _).drew
/-- What was put is dropped. -/
theorem JS.dropped {w wr : World} {l : List Int} {v : Value} (h : JS w wr l v) (n : Int) :
    Cel 27 ((wr.setCell ⟨w.heap.size, 0, none⟩ (.slice none 0 0)).setCell ⟨w.heap.size + 1, 0, none⟩ (.int .i64 n)).drew w.heap.size (.slice none 0 0) ∧
      Cel 28 ((wr.setCell ⟨w.heap.size, 0, none⟩ (.slice none 0 0)).setCell ⟨w.heap.size + 1, 0, none⟩ (.int .i64 n)).drew (w.heap.size + 1) (.int .i64 n) ∧
      Below w.heap.size w ((wr.setCell ⟨w.heap.size, 0, none⟩ (.slice none 0 0)).setCell ⟨w.heap.size + 1, 0, none⟩ (.int .i64 n)).drew := by
  have g1 := grownBy_setCell wr ⟨w.heap.size, 0, none⟩ (.slice none 0 0)
  have g2 := grownBy_setCell (wr.setCell ⟨w.heap.size, 0, none⟩ (.slice none 0 0)) ⟨w.heap.size + 1, 0, none⟩ (.int .i64 n)
  have e1 := (h.cb.set (.slice none 0 0)).grown g2 (fun e => by have : w.heap.size + 1 = w.heap.size := Option.some.inj e; omega)
  have e2 := (h.ce.grown g1 (fun e => by have : w.heap.size = w.heap.size + 1 := Option.some.inj e; omega)).set (.int .i64 n)
  exact ⟨e1.past (drew_below _), e2.past (drew_below _), ((h.bel.setCell (p := ⟨w.heap.size, 0, none⟩) (Nat.le_refl _) _).setCell (p := ⟨w.heap.size + 1, 0, none⟩) (Nat.le_succ _) _).trans ((drew_below _).mono (by simp [World.setCell]; exact h.bel.size))⟩
/-- Block b is a frame: its kind and its bytes. -/
def FrBox (t : TypeId) (w : World) (b : Nat) (k : Int) (v : Value) : Prop := w.heap[b]? = some (.cells #[.int .i64 k, v] t (0, 0))
theorem FrBox.lt {t : TypeId} {w : World} {b : Nat} {k : Int} {v : Value} (h : FrBox t w b k v) : b < w.heap.size := (Array.getElem?_eq_some_iff.1 h).1
theorem FrBox.cells {t : TypeId} {w : World} {b : Nat} {k : Int} {v : Value} (h : FrBox t w b k v) : w.cell? ⟨b, 0, none⟩ = some (.int .i64 k) ∧ w.cell? ⟨b, 1, none⟩ = some v :=
  ⟨by rw [cell_of_row w b 0 _ _ _ h]; rfl, by rw [cell_of_row w b 1 _ _ _ h]; rfl⟩
theorem FrBox.free {t : TypeId} {w : World} {b : Nat} {k : Int} {v : Value} (h : FrBox t w b k v) (i : Nat) : w.frozen? ⟨b, i, none⟩ = false := by simp [World.frozen?, show w.heap[b]? = _ from h]
theorem FrBox.past {t : TypeId} {w w' : World} {b : Nat} {k : Int} {v : Value} (h : FrBox t w b k v) (hb : Below w.heap.size w w') : FrBox t w' b k v := (hb.block b h.lt).trans h
theorem FrBox.grown {t : TypeId} {w w' : World} {b : Nat} {k : Int} {v : Value} {row : Option Nat} (h : FrBox t w b k v) (hg : w.grownBy w' row) (hr : row ≠ some b) : FrBox t w' b k v := (hg.block b h.lt (fun e => hr e.symm)).trans h
theorem FrBox.new (t : TypeId) (w : World) (k : Int) (v : Value) : FrBox t (w.alloc (.cells #[.int .i64 k, v] t)) w.heap.size k v := heap_alloc_new w _
theorem Own.bytes {w : World} {base : Nat} {v : Value} {l : List Int} (h : Own w base v l) {k : Nat} (hk : v.ownBlock = some k) : ∃ cur, w.heap[k]? = some (.cells cur 5 (0, 0)) := by
  rcases h.2 with ⟨rfl, _⟩ | ⟨g, c, cur, rfl, _, hg, _⟩
  · cases hk
  · cases hk; exact ⟨cur, hg⟩
/-- A frame's block is no row of bytes. -/
theorem FrBox.other {t : TypeId} {w : World} {b : Nat} {k : Int} {v u : Value} {base : Nat} {l : List Int} (h : FrBox t w b k v) (ht : t ≠ 5) (ho : Own w base u l) : u.ownBlock ≠ some b := fun e => by
  obtain ⟨cur, hc⟩ := ho.bytes e
  rw [show w.heap[b]? = _ from h] at hc
  simp at hc
  exact ht hc.2

/-- What Put answers. -/
def PutAns (fs : List Fr) (w : World) (e : Ending) (w' : World) : Prop :=
  ∃ a n c, e = .returned (.tuple #[.slice a n c, .int .i64 (putErr fs)]) ∧ Own w' w.heap.size (.slice a n c) (if putErr fs = 0 then frms fs else []) ∧ Below w.heap.size w w'

/-- The closure that is deferred: a frame's error is taken up, what was put is dropped. -/
theorem catchJoined (b e : Nat) (a0 : Option Addr) (n0 c0 : Nat) (ev : Int) (n : Int) (older : List PanicEntry) (w : World)
    (hb : w.cell? ⟨b, 0, none⟩ = some (.slice a0 n0 c0)) (he : w.cell? ⟨e, 0, none⟩ = some (.int .i64 ev)) (fb : w.frozen? ⟨b, 0, none⟩ = false) (fe : w.frozen? ⟨e, 0, none⟩ = false) (hne : b ≠ e) :
    CallsD Tryd.prog 34 #[.pointer (some ⟨b, 0, none⟩), .pointer (some ⟨e, 0, none⟩)] (.panicking ({ v := .iface 28 (.int .i64 n), recovered := false } :: older)) w fun r u' w' =>
      r = .returned (.tuple #[]) ∧ u' = .panicking ({ v := .iface 28 (.int .i64 n), recovered := true } :: older) ∧ w' = ((w.setCell ⟨b, 0, none⟩ (.slice none 0 0)).setCell ⟨e, 0, none⟩ (.int .i64 n)).drew := by
  refine callsD_of_wpS Tryd.func34 rfl fun c₀ cs hu => ?_
  have hta : ∀ W : World, (Instr.typeAssert (.iface 28 (.int .i64 n)) 20 28 false).run Tryd.prog W = .ok (.int .i64 n) W := fun W => by kernel_rfl
  apply wpS_seq
  apply wpS_region
  simp [wpOpsS, go_sem, recoverD, hu, Tryd.ntmps34, Exit.thenS]
  refine wpS_seq ?_
  apply wpS_region
  simp [wpOpsS, go_sem, recoverD, hu, Tryd.ntmps34, Exit.thenS]
  refine wpS_cond (t := true) (by simp [Act.eval, Array.replicate]) ?_
  simp only [if_true]
  refine wpS_of_wp ?_
  go_region
  all_goals simp [bodyPostS, results, Tryd.results34]
/-- .. where it returned: nothing. -/
theorem idleJoined (b e : Nat) (w : World) :
    CallsD Tryd.prog 34 #[.pointer (some ⟨b, 0, none⟩), .pointer (some ⟨e, 0, none⟩)] .returning w fun r u' w' => r = .returned (.tuple #[]) ∧ u' = .returning ∧ w' = w := by
  refine callsD_of_wpS Tryd.func34 rfl fun c₀ cs hu => ?_
  apply wpS_seq
  apply wpS_region
  simp [wpOpsS, go_sem, recoverD, hu, Tryd.ntmps34, Exit.thenS]
  refine wpS_seq ?_
  apply wpS_region
  simp [wpOpsS, go_sem, recoverD, hu, Tryd.ntmps34, Exit.thenS]
  refine wpS_cond (t := false) (by simp [Act.eval, Array.replicate]) ?_
  simp only [Bool.false_eq_true, if_false]
  refine wpS_of_wp (wp_skip ?_)
  cases c₀
  simp_all [bodyPostS, results, Tryd.results34]

theorem putErr_drop {fs : List Fr} {k : Nat} (h : k < fs.length) (ha : ¬ ((fth fs k).1 < 0 ∨ 255 < (fth fs k).1)) (hl : ¬ 262144 < (fth fs k).2.length) : putErr (fs.drop k) = putErr (fs.drop (k + 1)) := by
  rw [drop_fth h, putErr, if_neg ha, if_neg hl]
theorem putErr_arg {fs : List Fr} {k : Nat} (h : k < fs.length) (ha : (fth fs k).1 < 0 ∨ 255 < (fth fs k).1) : putErr (fs.drop k) = 2 := by
  rw [drop_fth h, putErr, if_pos ha]
theorem putErr_long {fs : List Fr} {k : Nat} (h : k < fs.length) (ha : ¬ ((fth fs k).1 < 0 ∨ 255 < (fth fs k).1)) (hl : 262144 < (fth fs k).2.length) : putErr (fs.drop k) = 3 := by
  rw [drop_fth h, putErr, if_neg ha, if_pos hl]
def Octs (fs : List Fr) : Prop := ∀ f ∈ fs, Oct f.2

set_option maxHeartbeats 4000000 in
set_option maxRecDepth 100000 in
theorem joined (v : Value) (vs : List Value) (fs : List Fr) (w : World) (T : Tab w) (h : Frs w v vs fs) (ho : Octs fs) (hlen : (frms fs).length ≤ 1000000000) :
    Calls Tryd.prog 25 #[v] w (PutAns fs w) := by
  have hmf : ∀ (fn : Fn) (first cap : Array Value) (w : World), (Instr.makeFunc fn first cap).run Tryd.prog w = .ok (.func fn first cap) w := fun _ _ _ _ => rfl
  obtain ⟨ao, cap, hsh⟩ := h.shape
  have hln := h.len
  have H := Lib.hid h
  have TT := Lib.hid T
  have HO := Lib.hid ho
  have HL := Lib.hid hlen
  have J0 : JS w ((w.alloc (.cells #[.slice none 0 0] 27)).alloc (.cells #[.int .i64 0] 28)) [] (.slice none 0 0) :=
    ⟨(Cel.new _ _ _).past (alloc_below _ _), by have := Cel.new 28 (w.alloc (.cells #[.slice none 0 0] 27)) (.int .i64 0); simpa using this, Own.nil _ _, ((alloc_below _ _)).alloc (by simp) _⟩
  have HJ0 := Lib.hid J0
  subst hsh
  clear h T ho hlen J0
  generalize hn : fs.length = n at *
  have hN := Lib.hid hn
  clear hn
  generalize hW : (w.alloc (.cells #[.slice none 0 0] 27)).alloc (.cells #[.int .i64 0] 28) = W at *
  have HW := Lib.hid hW
  clear hW
  go_enter_defers Tryd.func25, Tryd.ntmps25
  go_wp2_with fail
  rw [HW.out]
  go_loopw [9] (fun i wr => ∃ (k : Nat) (u : Value), k ≤ n ∧ i = .int .i64 k ∧ Hid (JS w wr (frms (fs.take k)) u) ∧ Hid (putErr fs = putErr (fs.drop k))) (fun i _ => n - (intOf i).toNat)
  case atStart => exact ⟨0, _, Nat.zero_le _, rfl, HJ0, Lib.hid rfl⟩
  case round =>
    obtain ⟨k, u, hk, rfl, HJ, HE⟩ := hrel
    by_cases hlt : k < n
    · have hd : decide (k < n) = true := by simpa using hlt
      obtain ⟨b, off, cap', hsh, hbl, hf0⟩ := (H.out).at (j := k) (by have := hN.out; omega)
      have hao : ao = some ⟨b, off, none⟩ := by cases hsh; rfl
      subst hao
      have hok := HO.out (fth fs k) (fth_mem (by have := hN.out; omega))
      have htk := Lib.hid (frms_take (fs := fs) (k := k) (by have := hN.out; omega))
      have hle := Lib.hid (frms_take_le fs (k + 1))
      have hE1 := Lib.hid (putErr_arg (fs := fs) (k := k) (by have := hN.out; omega))
      have hE2 := Lib.hid (putErr_long (fs := fs) (k := k) (by have := hN.out; omega))
      have hE3 := Lib.hid (putErr_drop (fs := fs) (k := k) (by have := hN.out; omega))
      generalize fth fs k = f at *
      obtain ⟨fk, d⟩ := f
      obtain ⟨ak, ck, hsk⟩ := hf0.bs.shape
      have fb := hf0.bs
      have hf := hf0.past (HJ.out).bel
      have f0 := hf.c0
      have f1 := hf.c1
      rw [hsk] at f1 fb
      have FB := Lib.hid fb
      have HK := Lib.hid hok
      have hdl := fb.len
      clear hf hf0 hsh hsk fb hok
      have f0 : wr.cell? ⟨b, off + k * 2, none⟩ = some (.int .i64 fk) := f0
      generalize hdn : d.length = m at *
      have HM := Lib.hid hdn
      clear hdn
      have JW := (HJ.out).past (alloc_below wr (.cells #[.int .i64 fk, .slice ak m ck] 36))
      have FW := FrBox.new 36 wr fk (.slice ak m ck)
      have BW := (FB.out).past JW.bel
      have hEw : w.heap.size + 2 ≤ wr.heap.size := (HJ.out).far
      go_wp2_with fail
      clear f0 f1
      generalize hE : wr.heap.size = E at *
      generalize hW1 : wr.alloc (.cells #[.int .i64 fk, .slice ak m ck] 36) = W1 at *
      have HW1 := Lib.hid hW1
      have HEE := Lib.hid hE
      clear hW1 hE
      have JV := Lib.hid (JW.past (drew_below W1))
      have FV := Lib.hid (FW.past (drew_below W1))
      have BV := Lib.hid (BW.past (drew_below W1))
      have c0 := (JV.out).cb.cell
      have fz0 := (JV.out).cb.free
      obtain ⟨c1, c2⟩ := (FV.out).cells
      clear FW JW BW
      by_cases hgood : OkFr (fk, d)
      · have HD := Lib.hid (headOk fk (.slice ak m ck) d W1.drew ((TT.out).past (JV.out).bel) BV.out HK.out hgood)
        have HG := Lib.hid hgood
        clear hgood
        obtain ⟨p, hp⟩ : ∃ p, (frms (fs.take k)).length + 9 = p := ⟨_, rfl⟩
        have HP := Lib.hid hp
        clear hp
        have hp1 : p ≤ 140737488355328 := by have := HP.out; have h1 := hle.out; rw [htk.out, List.length_append, frm_length] at h1; have := HL.out; omega
        go_region_law (first | (go_simp; go_at_call 35; refine (HD.out).mono ?_; rintro e w1 ⟨a1, q1, rfl, o1, b1⟩; have J1 := (JV.out).past b1; have F1 := (FV.out).past b1; have c3 := J1.cb.cell; have fz3 := J1.cb.free; obtain ⟨c4, c5⟩ := F1.cells) | (refine step_append_bs (by rfl) (.tmp 13) (.tmp 15) (by rfl) (w.heap.size + 2) u (frms (fs.take k)) (by rfl) J1.own (.slice a1 9 q1) (head9 (fk, d)) (by rfl) o1.bs (by rw [head9_length]; decide) p (by rw [head9_length]; exact HP.out) hp1 J1.far ?_; intro a2 q2 w2 o2 g2; obtain ⟨x1, x2, x3⟩ := J1.added g2; have c6 := x1.cell; have fz6 := x1.free))
        all_goals
          have J2 := J1.stored g2 o2
          have F2 : FrBox 36 (w2.setCell ⟨w.heap.size, 0, none⟩ (.slice a2 p q2)) E fk (.slice ak m ck) := (F1.grown g2 (F1.other (by decide) J1.own)).grown (grownBy_setCell w2 ⟨w.heap.size, 0, none⟩ (.slice a2 p q2)) (fun e => by have : w.heap.size = E := Option.some.inj e; omega)
          have B2 := (FB.out).past J2.bel
          clear x1 x2 x3 c6 fz6 o2 g2
          generalize w2.setCell ⟨w.heap.size, 0, none⟩ (.slice a2 p q2) = W2 at *
          have d0 := J2.cb.cell
          have dz := J2.cb.free
          obtain ⟨-, d2⟩ := F2.cells
          have HJ2 := Lib.hid J2
          clear J2 F2 F1 J1 o1 b1
          have hp2 : (frms (fs.take k) ++ head9 (fk, d)).length + d.length ≤ 140737488355328 := by
            have h1 := hle.out; rw [htk.out, List.length_append, frm_length] at h1; have := HL.out; rw [List.length_append, head9_length]; simp only at h1; omega
          have HP2 := Lib.hid hp2
          have HB2 := Lib.hid B2
          clear hp2 B2
          go_wp2_with (at_builtin; refine wpList_append_bs _ rfl _ _ rfl (w.heap.size + 2) _ _ rfl (HJ2.out).own _ d rfl HB2.out HP2.out (HJ2.out).far ?_)
          intro v3 w3 o3 g3
          obtain ⟨x1, x2, x3⟩ := (HJ2.out).added g3
          have c6 := x1.cell
          have fz6 := x1.free
          have J3 := Lib.hid ((HJ2.out).stored g3 o3)
          obtain ⟨a3, q3, hs3⟩ := o3.bs.shape
          obtain ⟨p3, hp3⟩ : ∃ p3, (frms (fs.take k) ++ (head9 (fk, d) ++ d)).length = p3 := ⟨_, rfl⟩
          rw [hp3] at hs3
          clear o3 g3 x1 x2 x3 hp3
          subst hs3
          go_wp2_with fail
          go_roundw
          case rel =>
            refine ⟨k + 1, .slice a3 p3 q3, by omega, by go_num, ?_, Lib.hid ?_⟩
            · rw [htk.out]
              exact J3
            · rw [HE.out]
              have h1 := (HG.out).1
              have h2 := (HG.out).2.1
              have h3 := (HG.out).2.2
              simp only at h1 h2 h3
              exact hE3.out (by omega) (by have := HM.out; omega)
          case measure => simp [intOf]; omega
      · obtain ⟨en, hen, hen0, HD⟩ : ∃ en : Int, putErr fs = en ∧ en ≠ 0 ∧ Hid (Calls Tryd.prog 35 #[.agg #[.int .i64 fk, .slice ak m ck]] W1.drew fun e w' => e = Thrown en ∧ Below W1.drew.heap.size W1.drew w') := by
          by_cases ha : fk < 0 ∨ 255 < fk
          · exact ⟨2, (HE.out).trans (hE1.out ha), by decide, Lib.hid (headArg fk _ _ ha)⟩
          · have hl : 262144 < d.length := by unfold OkFr at hgood; simp only at hgood; omega
            exact ⟨3, (HE.out).trans (hE2.out ha (by have := HM.out; omega)), by decide, Lib.hid (headLong fk _ d _ BV.out (by omega) (by omega) hl)⟩
        clear hgood hE1 hE2 hE3
        refine wp_region_any (by kernel_rfl) ?_
        change wpAny _ _ _ _ _ _ _ (World.drew _)
        refine wpAny_ready (rs := [0, 1]) (by kernel_rfl) (by simp) ?_
        refine AllReady.cons rfl (fun K hK => ?_) (AllReady.cons rfl (fun K hK => ?_) AllReady.nil)
        · go_simp
          refine hK _ _ ?_; clear hK K
          refine wpAny_ready (rs := [1]) (by kernel_rfl) (by simp) ?_
          refine AllReady.cons rfl (fun K hK => ?_) AllReady.nil
          go_simp
          refine hK _ _ ?_; clear hK K
          refine wpAny_ready (rs := [2]) (by kernel_rfl) (by simp) ?_
          refine AllReady.cons rfl (fun K hK => ?_) AllReady.nil
          clear hK
          go_simp
          refine (HD.out).mono ?_
          rintro e w1 ⟨rfl, b1⟩
          unfold Thrown
          go_wp2
          have J1 := (JV.out).past b1
          obtain ⟨au, cu, hu⟩ := J1.own.bs.shape
          refine leaves_cons (f := 34) (args := #[.pointer (some ⟨w.heap.size, 0, none⟩), .pointer (some ⟨w.heap.size + 1, 0, none⟩)]) (by simp) (by simp [go_sem]) ?_
          refine (catchJoined w.heap.size (w.heap.size + 1) au _ cu 0 en [] w1 (by rw [← hu]; exact J1.cb.cell) J1.ce.cell J1.cb.free J1.ce.free (by omega)).mono ?_
          rintro e u' w'' ⟨rfl, rfl, rfl⟩
          obtain ⟨z1, z2, z3⟩ := J1.dropped en
          generalize ((w1.setCell ⟨w.heap.size, 0, none⟩ (.slice none 0 0)).setCell ⟨w.heap.size + 1, 0, none⟩ (.int .i64 en)).drew = V at *
          have y1 := z1.cell
          have y2 := z2.cell
          refine ⟨.tuple #[.slice none 0 0, .int .i64 en], by simp [results, Tryd.results25, go_sem, y1, y2], ?_⟩
          exact ⟨none, 0, 0, by rw [hen], by rw [hen, if_neg hen0]; exact Own.nil _ _, z3⟩
        · go_simp
          refine hK _ _ ?_; clear hK K
          refine wpAny_ready (rs := [0, 2]) (by kernel_rfl) (by simp) ?_
          refine AllReady.cons rfl (fun K hK => ?_) (AllReady.cons rfl (fun K hK => ?_) AllReady.nil)
          · go_simp
            refine hK _ _ ?_; clear hK K
            refine wpAny_ready (rs := [2]) (by kernel_rfl) (by simp) ?_
            refine AllReady.cons rfl (fun K hK => ?_) AllReady.nil
            clear hK
            go_simp
            refine (HD.out).mono ?_
            rintro e w1 ⟨rfl, b1⟩
            unfold Thrown
            go_wp2
            have J1 := (JV.out).past b1
            obtain ⟨au, cu, hu⟩ := J1.own.bs.shape
            refine leaves_cons (f := 34) (args := #[.pointer (some ⟨w.heap.size, 0, none⟩), .pointer (some ⟨w.heap.size + 1, 0, none⟩)]) (by simp) (by simp [go_sem]) ?_
            refine (catchJoined w.heap.size (w.heap.size + 1) au _ cu 0 en [] w1 (by rw [← hu]; exact J1.cb.cell) J1.ce.cell J1.cb.free J1.ce.free (by omega)).mono ?_
            rintro e u' w'' ⟨rfl, rfl, rfl⟩
            obtain ⟨z1, z2, z3⟩ := J1.dropped en
            generalize ((w1.setCell ⟨w.heap.size, 0, none⟩ (.slice none 0 0)).setCell ⟨w.heap.size + 1, 0, none⟩ (.int .i64 en)).drew = V at *
            have y1 := z1.cell
            have y2 := z2.cell
            refine ⟨.tuple #[.slice none 0 0, .int .i64 en], by simp [results, Tryd.results25, go_sem, y1, y2], ?_⟩
            exact ⟨none, 0, 0, by rw [hen], by rw [hen, if_neg hen0]; exact Own.nil _ _, z3⟩
          · clear hK
            go_simp
            refine (HD.out).mono ?_
            rintro e w1 ⟨rfl, b1⟩
            unfold Thrown
            go_wp2
            have J1 := (JV.out).past b1
            obtain ⟨au, cu, hu⟩ := J1.own.bs.shape
            refine leaves_cons (f := 34) (args := #[.pointer (some ⟨w.heap.size, 0, none⟩), .pointer (some ⟨w.heap.size + 1, 0, none⟩)]) (by simp) (by simp [go_sem]) ?_
            refine (catchJoined w.heap.size (w.heap.size + 1) au _ cu 0 en [] w1 (by rw [← hu]; exact J1.cb.cell) J1.ce.cell J1.cb.free J1.ce.free (by omega)).mono ?_
            rintro e u' w'' ⟨rfl, rfl, rfl⟩
            obtain ⟨z1, z2, z3⟩ := J1.dropped en
            generalize ((w1.setCell ⟨w.heap.size, 0, none⟩ (.slice none 0 0)).setCell ⟨w.heap.size + 1, 0, none⟩ (.int .i64 en)).drew = V at *
            have y1 := z1.cell
            have y2 := z2.cell
            refine ⟨.tuple #[.slice none 0 0, .int .i64 en], by simp [results, Tryd.results25, go_sem, y1, y2], ?_⟩
            exact ⟨none, 0, 0, by rw [hen], by rw [hen, if_neg hen0]; exact Own.nil _ _, z3⟩
    · have hd : decide (k < n) = false := by simpa using hlt
      have hk' : k = n := by omega
      have e0 : putErr fs = 0 := by
        rw [HE.out, List.drop_of_length_le (by have := hN.out; omega)]; rfl
      have et : fs.take k = fs := List.take_of_length_le (by have := hN.out; omega)
      rw [et] at HJ
      have HE0 := Lib.hid e0
      obtain ⟨au, cu, hu⟩ := (HJ.out).own.bs.shape
      subst hu
      have c0 := (HJ.out).cb.cell
      have z0 := (HJ.out).cb.free
      have c1 := (HJ.out).ce.cell
      have z1 := (HJ.out).ce.free
      have J2 := (HJ.out).again
      clear e0 et HE
      generalize (frms fs).length = p at *
      have HJ2 := Lib.hid J2
      clear J2
      go_wp2
      refine leaves_cons (f := 34) (args := #[.pointer (some ⟨w.heap.size, 0, none⟩), .pointer (some ⟨w.heap.size + 1, 0, none⟩)]) (by simp) (by simp [go_sem]) ?_
      refine (idleJoined w.heap.size (w.heap.size + 1) _).mono ?_
      rintro e u' w'' ⟨rfl, rfl, rfl⟩
      have J3 := HJ2.out
      generalize (wr.setCell ⟨w.heap.size, 0, none⟩ (.slice au p cu)).setCell ⟨w.heap.size + 1, 0, none⟩ (.int .i64 0) = V at *
      have y1 := J3.cb.cell
      have y2 := J3.ce.cell
      refine ⟨.tuple #[.slice au p cu, .int .i64 0], by simp [results, Tryd.results25, go_sem, y1, y2], ?_⟩
      exact ⟨au, p, cu, by rw [HE0.out], by rw [HE0.out, if_pos rfl]; exact (J3.own).mono (by omega), J3.bel⟩

theorem put (v : Value) (vs : List Value) (fs : List Fr) (w : World) (T : Tab w) (h : Frs w v vs fs) (ho : Octs fs) (hlen : (frms fs).length ≤ 1000000000) :
    Calls Tryd.prog 11 #[v] w (PutAns fs w) := by
  have J := Lib.hid (joined v vs fs w T h ho hlen)
  obtain ⟨ao, cap, hsh⟩ := h.shape
  clear h ho hlen T
  subst hsh
  go_enter Tryd.func11, Tryd.ntmps11
  go_wp2_with fail
  refine (J.out).mono ?_
  rintro e w1 ⟨a, n, c, rfl, h1, h2⟩
  have H1 := Lib.hid h1
  clear h1
  go_wp2
  refine bodyPost_ret (v := .tuple #[.slice a n c, .int .i64 (putErr fs)]) (by simp [results, Tryd.results11, go_sem]) rfl ?_
  exact ⟨a, n, c, rfl, H1.out, h2⟩
end Go.Proofs.YtkiagnlpnphghaaDoor
