/- Contracts of package wire's Reader: Number, Bytes and Entry, of one that is good or bad, and of none. -/
import Derived.Test.YtggbpdkejkmakaaGreatReadEnt
namespace Go.Proofs.YtggbpdkejkmakaaGreat
open Go.RowKit
set_option linter.unusedVariables false
set_option linter.unusedSimpArgs false

/-- A state's answer, and the next state. -/
def ans {α : Type} (rd : List Int → Option (α × List Int)) (z : α) : Option (List Int) → α × Option (List Int)
  | some l => match rd l with
    | some (a, r) => (a, some r)
    | none => (z, none)
  | none => (z, none)
theorem ans_some {α : Type} {rd : List Int → Option (α × List Int)} {z a : α} {l r : List Int} (h : rd l = some (a, r)) : ans rd z (some l) = (a, some r) := by simp [ans, h]
theorem ans_none {α : Type} {rd : List Int → Option (α × List Int)} {z : α} {l : List Int} (h : rd l = none) : ans rd z (some l) = (z, none) := by simp [ans, h]
/-- How many bytes are left at most. -/
def Short (st : Option (List Int)) : Prop := ∀ l, st = some l → l.length ≤ 140737488351232

theorem readInt (R b : Nat) (st : Option (List Int)) (w : World) (h : Rdr w R st) (hb : w.cell? ⟨b, 0, none⟩ = some (.pointer (some ⟨R, 0, none⟩))) :
    Calls Tryz.prog 40 #[.pointer (some ⟨R, 0, none⟩), .func (.func 41) #[] #[.pointer (some ⟨b, 0, none⟩)]] w (Answers R (.int .i64 (ans rdNum 0 st).1) (ans rdNum 0 st).2 w) := by
  cases st with
  | none => exact readInt_bad R b w h
  | some l =>
    cases hn : rdNum l with
    | none => rw [ans_none hn]; exact readInt_none R b l w h hb hn
    | some p => obtain ⟨a, r⟩ := p; rw [ans_some hn]; exact readInt_some R b l w h hb hn

set_option maxRecDepth 100000 in
theorem rdrNumber (R : Nat) (st : Option (List Int)) (w : World) (h : Rdr w R st) :
    Calls Tryz.prog 24 #[.pointer (some ⟨R, 0, none⟩)] w (Answers R (.int .i64 (ans rdNum 0 st).1) (ans rdNum 0 st).2 w) := by
  have hmf : ∀ (fn : Fn) (first cap : Array Value) (w : World), (Instr.makeFunc fn first cap).run Tryz.prog w = .ok (.func fn first cap) w := fun _ _ _ _ => rfl
  have T := Lib.hid (readInt R w.heap.size st (w.alloc (Obj.cells #[.pointer (some ⟨R, 0, none⟩)] 40)) (h.grown (alloc_grown _ _ _)) (by simp))
  generalize ans rdNum 0 st = an at *
  clear h
  go_enter Tryz.func24, Tryz.ntmps24
  go_wp2_with fail
  refine (T.out).mono ?_
  rintro e w1 ⟨rfl, hL, hg⟩
  go_wp2_with fail
  go_ret
  exact ⟨rfl, hL, grownBy_trans (alloc_grown _ _ _) hg⟩

theorem readBytes (R b : Nat) (st : Option (List Int)) (w : World) (h : Rdr w R st) (hb : w.cell? ⟨b, 0, none⟩ = some (.pointer (some ⟨R, 0, none⟩))) (hs : Short st) :
    Calls Tryz.prog 43 #[.pointer (some ⟨R, 0, none⟩), .func (.func 44) #[] #[.pointer (some ⟨b, 0, none⟩)]] w (AnswersNew R (ans rdBytes [] st).1 (ans rdBytes [] st).2 w) := by
  cases st with
  | none => exact readBytes_bad R b w h
  | some l =>
    cases hn : rdBytes l with
    | none => rw [ans_none hn]; exact readBytes_none R b l w h hb hn
    | some p => obtain ⟨a, r⟩ := p; rw [ans_some hn]; exact readBytes_some R b l w h hb hn (hs l rfl)

set_option maxRecDepth 100000 in
theorem rdrBytes (R : Nat) (st : Option (List Int)) (w : World) (h : Rdr w R st) (hs : Short st) :
    Calls Tryz.prog 26 #[.pointer (some ⟨R, 0, none⟩)] w (AnswersNew R (ans rdBytes [] st).1 (ans rdBytes [] st).2 w) := by
  have hmf : ∀ (fn : Fn) (first cap : Array Value) (w : World), (Instr.makeFunc fn first cap).run Tryz.prog w = .ok (.func fn first cap) w := fun _ _ _ _ => rfl
  have T := Lib.hid (readBytes R w.heap.size st (w.alloc (Obj.cells #[.pointer (some ⟨R, 0, none⟩)] 40)) (h.grown (alloc_grown _ _ _)) (by simp) hs)
  generalize ans rdBytes [] st = an at *
  clear h
  go_enter Tryz.func26, Tryz.ntmps26
  go_wp2_with fail
  refine (T.out).mono ?_
  rintro e w1 ⟨v1, rfl, ho, hL, hg⟩
  go_wp2_with fail
  go_ret
  exact ⟨v1, rfl, ho.mono (by simp), hL, grownBy_trans (alloc_grown _ _ _) hg⟩

theorem readEnt (R b : Nat) (st : Option (List Int)) (w : World) (h : Rdr w R st) (hb : w.cell? ⟨b, 0, none⟩ = some (.pointer (some ⟨R, 0, none⟩))) (hs : Short st) :
    Calls Tryz.prog 46 #[.pointer (some ⟨R, 0, none⟩), .func (.func 47) #[] #[.pointer (some ⟨b, 0, none⟩)]] w (AnswersEnt R (ans rdEnt zeroEnt st).1 (ans rdEnt zeroEnt st).2 w) := by
  cases st with
  | none => exact readEnt_bad R b w h
  | some l =>
    cases hn : rdEnt l with
    | none => rw [ans_none hn]; exact readEnt_none R b l w h hb hn
    | some p => obtain ⟨a, r⟩ := p; rw [ans_some hn]; exact readEnt_some R b l w h hb hn (hs l rfl)

set_option maxHeartbeats 1000000 in
set_option maxRecDepth 100000 in
theorem rdrEntry (R : Nat) (st : Option (List Int)) (w : World) (h : Rdr w R st) (hs : Short st) :
    Calls Tryz.prog 28 #[.pointer (some ⟨R, 0, none⟩)] w (AnswersEnt R (ans rdEnt zeroEnt st).1 (ans rdEnt zeroEnt st).2 w) := by
  have hmf : ∀ (fn : Fn) (first cap : Array Value) (w : World), (Instr.makeFunc fn first cap).run Tryz.prog w = .ok (.func fn first cap) w := fun _ _ _ _ => rfl
  have hlt := h.lt
  have g0 : w.grownBy ((w.alloc (Obj.cells #[.pointer (some ⟨R, 0, none⟩)] 40)).alloc (Obj.cells #[.int .i64 0, .int .u8 0, .int .i64 0, .int .i64 0, .bool false, .slice none 0 0] 28)) none := grownBy_trans (alloc_grown _ _ _) (alloc_grown _ _ _)
  have h0 := h.grown g0
  have B0 : Blk ((w.alloc (Obj.cells #[.pointer (some ⟨R, 0, none⟩)] 40)).alloc (Obj.cells #[.int .i64 0, .int .u8 0, .int .i64 0, .int .i64 0, .bool false, .slice none 0 0] 28)) (w.heap.size + 1) (.int .i64 0) (.int .u8 0) (.int .i64 0) (.int .i64 0) (.bool false) (.slice none 0 0) := by
    have := blk_new (w.alloc (Obj.cells #[.pointer (some ⟨R, 0, none⟩)] 40)); simpa using this
  have hcell : ((w.alloc (Obj.cells #[.pointer (some ⟨R, 0, none⟩)] 40)).alloc (Obj.cells #[.int .i64 0, .int .u8 0, .int .i64 0, .int .i64 0, .bool false, .slice none 0 0] 28)).cell? ⟨w.heap.size, 0, none⟩ = some (.pointer (some ⟨R, 0, none⟩)) := by simp
  generalize hW : (w.alloc (Obj.cells #[.pointer (some ⟨R, 0, none⟩)] 40)).alloc (Obj.cells #[.int .i64 0, .int .u8 0, .int .i64 0, .int .i64 0, .bool false, .slice none 0 0] 28) = W at *
  have HW := Lib.hid hW
  have hs' : W.heap.size = w.heap.size + 2 := by rw [← hW]; simp
  have HS := Lib.hid hs'
  clear hW hs'
  have T := Lib.hid ((readEnt R w.heap.size st W h0 hcell hs).mono fun e w' h => answersEnt_shaped h)
  generalize ans rdEnt zeroEnt st = an at *
  obtain ⟨x, st'⟩ := an
  have HG0 := Lib.hid g0
  have HB0 := Lib.hid B0
  clear h h0 g0 B0
  go_enter Tryz.func28, Tryz.ntmps28
  go_wp2_with fail
  rw [HW.out]
  go_wp2_with fail
  refine (T.out).mono ?_
  rintro e w1 ⟨ax, dl, cx, rfl, ho, hL, hg⟩
  have B1 := (HB0.out).keep hg (fun e => by have : R = w.heap.size + 1 := Option.some.inj e; omega)
  obtain ⟨r0, r1, r2, r3, r4, r5⟩ := B1.cells
  have fr := B1.free
  have g0 := HG0.out
  have K := Lib.hid (wrote_all (base := W.heap.size) hlt (grownBy_trans ⟨g0.os, g0.tape, g0.output, g0.size, fun k hk hne => g0.block k hk (by simp)⟩ hg) (by omega) B1 ho (by have := HS.out; omega) hL (.int .i64 x.t) (.int .u8 x.k) (.int .i64 x.v) (.int .i64 x.s) (.bool x.g) (.slice ax dl cx))
  clear ho hL hg B1 g0
  go_wp2_with fail
  show bodyPost _ _ _ _ _ (wrote w1 (w.heap.size + 1) (.int .i64 x.t) (.int .u8 x.k) (.int .i64 x.v) (.int .i64 x.s) (.bool x.g) (.slice ax dl cx))
  generalize wrote w1 (w.heap.size + 1) (.int .i64 x.t) (.int .u8 x.k) (.int .i64 x.v) (.int .i64 x.s) (.bool x.g) (.slice ax dl cx) = V at *
  obtain ⟨k1, k2, k3, k4⟩ := K.out
  obtain ⟨z0, z1, z2, z3, z4, z5⟩ := k1.cells
  exact bodyPost_ret (v := .agg #[.int .i64 x.t, .int .u8 x.k, .int .i64 x.v, .int .i64 x.s, .bool x.g, .slice ax dl cx]) (by simp [results, Tryz.results28, go_sem, z0, z1, z2, z3, z4, z5]) rfl ⟨_, rfl, k4, k2, k3⟩

set_option maxRecDepth 100000 in
theorem readInt_nil (b : Nat) (w : World) :
    Calls Tryz.prog 40 #[.pointer none, .func (.func 41) #[] #[.pointer (some ⟨b, 0, none⟩)]] w fun e w' => e = .returned (.int .i64 0) ∧ Below w.heap.size w w' := by
  have b0 := Lib.hid (bad_nil (w.alloc (Obj.cells #[.pointer none] 40)))
  go_enter_defers Tryz.func40, Tryz.ntmps40
  go_wp2_with fail
  refine (b0.out).mono ?_; rintro e w' ⟨rfl, rfl⟩
  go_wp2
  refine ⟨_, results_tmp rfl _ _ _, ?_⟩
  exact ⟨rfl, (Below.refl _ _).alloc (Nat.le_refl _) _⟩
set_option maxRecDepth 100000 in
theorem rdrNumber_nil (w : World) :
    Calls Tryz.prog 24 #[.pointer none] w fun e w' => e = .returned (.int .i64 0) ∧ Below w.heap.size w w' := by
  have hmf : ∀ (fn : Fn) (first cap : Array Value) (w : World), (Instr.makeFunc fn first cap).run Tryz.prog w = .ok (.func fn first cap) w := fun _ _ _ _ => rfl
  have T := Lib.hid (readInt_nil w.heap.size (w.alloc (Obj.cells #[.pointer none] 40)))
  go_enter Tryz.func24, Tryz.ntmps24
  go_wp2_with fail
  refine (T.out).mono ?_
  rintro e w1 ⟨rfl, hb⟩
  go_wp2_with fail
  go_ret
  exact ⟨rfl, below_alloc hb⟩

set_option maxRecDepth 100000 in
theorem readBytes_nil (b : Nat) (w : World) :
    Calls Tryz.prog 43 #[.pointer none, .func (.func 44) #[] #[.pointer (some ⟨b, 0, none⟩)]] w fun e w' => e = .returned (.slice none 0 0) ∧ Below w.heap.size w w' := by
  have b0 := Lib.hid (bad_nil (w.alloc (Obj.cells #[.pointer none] 40)))
  go_enter_defers Tryz.func43, Tryz.ntmps43
  go_wp2_with fail
  refine (b0.out).mono ?_; rintro e w' ⟨rfl, rfl⟩
  go_wp2
  refine ⟨_, results_tmp rfl _ _ _, ?_⟩
  exact ⟨rfl, (Below.refl _ _).alloc (Nat.le_refl _) _⟩
set_option maxRecDepth 100000 in
theorem rdrBytes_nil (w : World) :
    Calls Tryz.prog 26 #[.pointer none] w fun e w' => e = .returned (.slice none 0 0) ∧ Below w.heap.size w w' := by
  have hmf : ∀ (fn : Fn) (first cap : Array Value) (w : World), (Instr.makeFunc fn first cap).run Tryz.prog w = .ok (.func fn first cap) w := fun _ _ _ _ => rfl
  have T := Lib.hid (readBytes_nil w.heap.size (w.alloc (Obj.cells #[.pointer none] 40)))
  go_enter Tryz.func26, Tryz.ntmps26
  go_wp2_with fail
  refine (T.out).mono ?_
  rintro e w1 ⟨rfl, hb⟩
  go_wp2_with fail
  go_ret
  exact ⟨rfl, below_alloc hb⟩

theorem below_wrote {w w1 : World} {b : Nat} (h : Below w.heap.size w w1) (hb : w.heap.size ≤ b) (c0 c1 c2 c3 c4 c5 : Value) : Below w.heap.size w (wrote w1 b c0 c1 c2 c3 c4 c5) :=
  h.grown (wrote_grown w1 b c0 c1 c2 c3 c4 c5) h.size (fun k hk => by cases hk; exact hb)
set_option maxHeartbeats 1000000 in
set_option maxRecDepth 100000 in
theorem readEnt_nil (b : Nat) (w : World) :
    Calls Tryz.prog 46 #[.pointer none, .func (.func 47) #[] #[.pointer (some ⟨b, 0, none⟩)]] w fun e w' => e = .returned (.agg #[.int .i64 0, .int .u8 0, .int .i64 0, .int .i64 0, .bool false, .slice none 0 0]) ∧ Below w.heap.size w w' := by
  have hmf : ∀ (fn : Fn) (first cap : Array Value) (w : World), (Instr.makeFunc fn first cap).run Tryz.prog w = .ok (.func fn first cap) w := fun _ _ _ _ => rfl
  have g0 : Below w.heap.size w ((w.alloc (Obj.cells #[.pointer none] 40)).alloc (Obj.cells #[.int .i64 0, .int .u8 0, .int .i64 0, .int .i64 0, .bool false, .slice none 0 0] 28)) := ((Below.refl _ _).alloc (Nat.le_refl _) _).alloc (by simp) _
  have B0 : Blk ((w.alloc (Obj.cells #[.pointer none] 40)).alloc (Obj.cells #[.int .i64 0, .int .u8 0, .int .i64 0, .int .i64 0, .bool false, .slice none 0 0] 28)) (w.heap.size + 1) (.int .i64 0) (.int .u8 0) (.int .i64 0) (.int .i64 0) (.bool false) (.slice none 0 0) := by
    have := blk_new (w.alloc (Obj.cells #[.pointer none] 40)); simpa using this
  generalize hW : (w.alloc (Obj.cells #[.pointer none] 40)).alloc (Obj.cells #[.int .i64 0, .int .u8 0, .int .i64 0, .int .i64 0, .bool false, .slice none 0 0] 28) = W at *
  have HW := Lib.hid hW
  have hs' : W.heap.size = w.heap.size + 2 := by rw [← hW]; simp
  have HS := Lib.hid hs'
  clear hW hs'
  have T := Lib.hid (bad_nil W)
  have HG0 := Lib.hid g0
  have HB0 := Lib.hid B0
  clear g0 B0
  go_enter_defers Tryz.func46, Tryz.ntmps46
  go_wp2_with fail
  rw [HW.out]
  go_wp2_with fail
  refine (T.out).mono ?_
  rintro e w1 ⟨rfl, rfl⟩
  have B1 := HB0.out
  obtain ⟨r0, r1, r2, r3, r4, r5⟩ := B1.cells
  have fr := B1.free
  have K := Lib.hid (wrote_blk B1 (.int .i64 0) (.int .u8 0) (.int .i64 0) (.int .i64 0) (.bool false) (.slice none 0 0))
  have L := Lib.hid (below_wrote (w := w) (b := w.heap.size + 1) (HG0.out) (by omega) (.int .i64 0) (.int .u8 0) (.int .i64 0) (.int .i64 0) (.bool false) (.slice none 0 0))
  clear B1
  go_wp2_with fail
  show bodyPostD _ _ _ _ _ (wrote W (w.heap.size + 1) (.int .i64 0) (.int .u8 0) (.int .i64 0) (.int .i64 0) (.bool false) (.slice none 0 0))
  generalize wrote W (w.heap.size + 1) (.int .i64 0) (.int .u8 0) (.int .i64 0) (.int .i64 0) (.bool false) (.slice none 0 0) = V at *
  obtain ⟨z0, z1, z2, z3, z4, z5⟩ := (K.out).cells
  refine ⟨.agg #[.int .i64 0, .int .u8 0, .int .i64 0, .int .i64 0, .bool false, .slice none 0 0], by simp [results, Tryz.results46, go_sem, z0, z1, z2, z3, z4, z5], ?_⟩
  exact ⟨rfl, L.out⟩

set_option maxHeartbeats 1000000 in
set_option maxRecDepth 100000 in
theorem rdrEntry_nil (w : World) :
    Calls Tryz.prog 28 #[.pointer none] w fun e w' => e = .returned (.agg #[.int .i64 0, .int .u8 0, .int .i64 0, .int .i64 0, .bool false, .slice none 0 0]) ∧ Below w.heap.size w w' := by
  have hmf : ∀ (fn : Fn) (first cap : Array Value) (w : World), (Instr.makeFunc fn first cap).run Tryz.prog w = .ok (.func fn first cap) w := fun _ _ _ _ => rfl
  have g0 : Below w.heap.size w ((w.alloc (Obj.cells #[.pointer none] 40)).alloc (Obj.cells #[.int .i64 0, .int .u8 0, .int .i64 0, .int .i64 0, .bool false, .slice none 0 0] 28)) := ((Below.refl _ _).alloc (Nat.le_refl _) _).alloc (by simp) _
  have B0 : Blk ((w.alloc (Obj.cells #[.pointer none] 40)).alloc (Obj.cells #[.int .i64 0, .int .u8 0, .int .i64 0, .int .i64 0, .bool false, .slice none 0 0] 28)) (w.heap.size + 1) (.int .i64 0) (.int .u8 0) (.int .i64 0) (.int .i64 0) (.bool false) (.slice none 0 0) := by
    have := blk_new (w.alloc (Obj.cells #[.pointer none] 40)); simpa using this
  generalize hW : (w.alloc (Obj.cells #[.pointer none] 40)).alloc (Obj.cells #[.int .i64 0, .int .u8 0, .int .i64 0, .int .i64 0, .bool false, .slice none 0 0] 28) = W at *
  have HW := Lib.hid hW
  have hs' : W.heap.size = w.heap.size + 2 := by rw [← hW]; simp
  have HS := Lib.hid hs'
  clear hW hs'
  have T := Lib.hid (readEnt_nil w.heap.size W)
  have HG0 := Lib.hid g0
  have HB0 := Lib.hid B0
  clear g0 B0
  go_enter Tryz.func28, Tryz.ntmps28
  go_wp2_with fail
  rw [HW.out]
  go_wp2_with fail
  refine (T.out).mono ?_
  rintro e w1 ⟨rfl, hb⟩
  have hb' := HG0.out
  have B1 := (HB0.out).keep (below_grownBy hb none) (fun e => by cases e)
  obtain ⟨r0, r1, r2, r3, r4, r5⟩ := B1.cells
  have fr := B1.free
  have K := Lib.hid (wrote_blk B1 (.int .i64 0) (.int .u8 0) (.int .i64 0) (.int .i64 0) (.bool false) (.slice none 0 0))
  have L := Lib.hid (below_wrote (w := w) (b := w.heap.size + 1) ((HG0.out).trans (hb.mono (HG0.out).size)) (by omega) (.int .i64 0) (.int .u8 0) (.int .i64 0) (.int .i64 0) (.bool false) (.slice none 0 0))
  clear B1
  go_wp2_with fail
  show bodyPost _ _ _ _ _ (wrote w1 (w.heap.size + 1) (.int .i64 0) (.int .u8 0) (.int .i64 0) (.int .i64 0) (.bool false) (.slice none 0 0))
  generalize wrote w1 (w.heap.size + 1) (.int .i64 0) (.int .u8 0) (.int .i64 0) (.int .i64 0) (.bool false) (.slice none 0 0) = V at *
  obtain ⟨z0, z1, z2, z3, z4, z5⟩ := (K.out).cells
  exact bodyPost_ret (v := .agg #[.int .i64 0, .int .u8 0, .int .i64 0, .int .i64 0, .bool false, .slice none 0 0]) (by simp [results, Tryz.results28, go_sem, z0, z1, z2, z3, z4, z5]) rfl ⟨rfl, L.out⟩
end Go.Proofs.YtggbpdkejkmakaaGreat
