/- Contracts of what a reader reads: an entry; where that panics it is bad from then on, and the answer is zero. -/
import Derived.Test.YtggbpdkejkmakaaGreatReads
namespace Go.Proofs.YtggbpdkejkmakaaGreat
open Go.RowKit
set_option linter.unusedVariables false
set_option linter.unusedSimpArgs false

def zeroCells : Array Value := #[.int .i64 0, .int .u8 0, .int .i64 0, .int .i64 0, .bool false, .slice none 0 0]
theorem blk_new (w : World) : Blk (w.alloc (Obj.cells #[.int .i64 0, .int .u8 0, .int .i64 0, .int .i64 0, .bool false, .slice none 0 0] 28)) w.heap.size (.int .i64 0) (.int .u8 0) (.int .i64 0) (.int .i64 0) (.bool false) (.slice none 0 0) := heap_alloc_new w _

/-- What an entry that was read has for its bytes, with its length by a name. -/
theorem readsEnt_shaped {R : Nat} {x : Ent} {l : List Int} {sp : Option Addr} {w w' : World} {e : Ending} (h : ReadsEnt R x l sp w e w') :
    ∃ ax dl cx, e = .returned (.agg #[.int .i64 x.t, .int .u8 x.k, .int .i64 x.v, .int .i64 x.s, .bool x.g, .slice ax dl cx]) ∧ Own w' w.heap.size (.slice ax dl cx) x.d ∧ Left w' R l sp ∧ w.grownBy w' (some R) := by
  obtain ⟨v, rfl, ho, hL, hg⟩ := h
  obtain ⟨ax, cx, rfl⟩ := ho.bs.shape
  exact ⟨ax, _, cx, rfl, ho, hL, hg⟩
theorem answersEnt_shaped {R : Nat} {x : Ent} {st : Option (List Int)} {w w' : World} {e : Ending} (h : AnswersEnt R x st w e w') :
    ∃ ax dl cx, e = .returned (.agg #[.int .i64 x.t, .int .u8 x.k, .int .i64 x.v, .int .i64 x.s, .bool x.g, .slice ax dl cx]) ∧ Own w' w.heap.size (.slice ax dl cx) x.d ∧ Rdr w' R st ∧ w.grownBy w' (some R) := by
  obtain ⟨v, rfl, ho, hL, hg⟩ := h
  obtain ⟨ax, cx, rfl⟩ := ho.bs.shape
  exact ⟨ax, _, cx, rfl, ho, hL, hg⟩

theorem entry_some' {R : Nat} {l : List Int} {sp : Option Addr} {w : World} (h : Left w R l sp) {x : Ent} {r : List Int} (hx : rdEnt l = some (x, r)) (hlen : l.length ≤ 140737488351232) :
    Calls Tryz.prog 48 #[.pointer (some ⟨R, 0, none⟩)] w (ReadsEnt R x r sp w) := by
  unfold rdEnt at hx
  cases h1 : rdNum l with
  | none => rw [h1] at hx; cases hx
  | some p1 =>
    rw [h1, Option.bind_some] at hx
    cases h2 : rdIn 255 p1.2 with
    | none => rw [h2] at hx; cases hx
    | some p2 =>
      rw [h2, Option.bind_some] at hx
      cases h3 : rdNum p2.2 with
      | none => rw [h3] at hx; cases hx
      | some p3 =>
        rw [h3, Option.bind_some] at hx
        cases h4 : rdNum p3.2 with
        | none => rw [h4] at hx; cases hx
        | some p4 =>
          rw [h4, Option.bind_some] at hx
          cases h5 : rdIn 1 p4.2 with
          | none => rw [h5] at hx; cases hx
          | some p5 =>
            rw [h5, Option.bind_some] at hx
            cases h6 : rdBytes p5.2 with
            | none => rw [h6] at hx; cases hx
            | some p6 =>
              rw [h6, Option.bind_some] at hx
              cases hx
              have e1 := (rdNum_some h1).2.2
              have e2 := (rdNum_some (rdIn_some h2).1).2.2
              have e3 := (rdNum_some h3).2.2
              have e4 := (rdNum_some h4).2.2
              have e5 := (rdNum_some (rdIn_some h5).1).2.2
              have z1 : p1.2.length ≤ l.length := by rw [e1]; simp
              have z2 : p2.2.length ≤ p1.2.length := by rw [e2]; simp
              have z3 : p3.2.length ≤ p2.2.length := by rw [e3]; simp
              have z4 : p4.2.length ≤ p3.2.length := by rw [e4]; simp
              have z5 : p5.2.length ≤ p4.2.length := by rw [e5]; simp
              exact entry_some h h1 h2 h3 h4 h5 h6 (by omega)
theorem entry_none' {R : Nat} {l : List Int} {sp : Option Addr} {w : World} (h : Left w R l sp) (hx : rdEnt l = none) :
    Calls Tryz.prog 48 #[.pointer (some ⟨R, 0, none⟩)] w (Fails R sp w) := by
  unfold rdEnt at hx
  cases h1 : rdNum l with
  | none => exact entry_none1 h h1
  | some p1 =>
    rw [h1, Option.bind_some] at hx
    cases h2 : rdIn 255 p1.2 with
    | none => exact entry_none2 h h1 h2
    | some p2 =>
      rw [h2, Option.bind_some] at hx
      cases h3 : rdNum p2.2 with
      | none => exact entry_none3 h h1 h2 h3
      | some p3 =>
        rw [h3, Option.bind_some] at hx
        cases h4 : rdNum p3.2 with
        | none => exact entry_none4 h h1 h2 h3 h4
        | some p4 =>
          rw [h4, Option.bind_some] at hx
          cases h5 : rdIn 1 p4.2 with
          | none => exact entry_none5 h h1 h2 h3 h4 h5
          | some p5 =>
            rw [h5, Option.bind_some] at hx
            cases h6 : rdBytes p5.2 with
            | none => exact entry_none6 h h1 h2 h3 h4 h5 h6
            | some p6 => rw [h6] at hx; cases hx

set_option maxHeartbeats 1000000 in
set_option maxRecDepth 100000 in
theorem closEnt (R b : Nat) (l : List Int) (sp : Option Addr) (w : World) (h : Left w R l sp) (hb : w.cell? ⟨b, 0, none⟩ = some (.pointer (some ⟨R, 0, none⟩))) {x : Ent} {r : List Int} (hn : rdEnt l = some (x, r)) (hlen : l.length ≤ 140737488351232) :
    Calls Tryz.prog 47 #[.pointer (some ⟨b, 0, none⟩)] w (ReadsEnt R x r sp w) := by
  have g0 := alloc_grown w (Obj.cells #[.int .i64 0, .int .u8 0, .int .i64 0, .int .i64 0, .bool false, .slice none 0 0] 28) none
  have hlt := h.lt
  have h0 := h.grown g0
  have hb0 := g0.cell hb (by simp)
  have T := Lib.hid ((entry_some' h0 hn hlen).mono fun e w' h => readsEnt_shaped h)
  have B0 := Lib.hid (blk_new w)
  clear h hn h0 g0 hb
  go_enter Tryz.func47, Tryz.ntmps47
  go_wp2_with fail
  refine (T.out).mono ?_
  rintro e w1 ⟨ax, dl, cx, rfl, ho, hL, hg⟩
  have B1 := (B0.out).keep hg (fun e => by have := Option.some.inj e; omega)
  obtain ⟨r0, r1, r2, r3, r4, r5⟩ := B1.cells
  have fr := B1.free
  have hg1 : w.grownBy w1 (some R) := grownBy_trans (alloc_grown _ _ _) hg
  have G := wrote_grown w1 w.heap.size (.int .i64 x.t) (.int .u8 x.k) (.int .i64 x.v) (.int .i64 x.s) (.bool x.g) (.slice ax dl cx)
  have C1 := wrote_blk B1 (.int .i64 x.t) (.int .u8 x.k) (.int .i64 x.v) (.int .i64 x.s) (.bool x.g) (.slice ax dl cx)
  have C2 := hL.keep G (fun k hk => by cases hk; exact ⟨fun e => by omega, B1.noBytes⟩)
  have C3 := grownBy_past hg1 (Nat.le_refl _) G
  have C4 : Own (wrote w1 w.heap.size (.int .i64 x.t) (.int .u8 x.k) (.int .i64 x.v) (.int .i64 x.s) (.bool x.g) (.slice ax dl cx)) w.heap.size (.slice ax dl cx) x.d :=
    (ho.kept G (Or.inr (fun e => by have h1 := (ho.lt _ e).1; simp at h1; omega))).mono (by simp)
  have H1 := Lib.hid C1
  have H2 := Lib.hid C2
  have H3 := Lib.hid C3
  have H4 := Lib.hid C4
  clear C1 C2 C3 C4 G hg1 B1 hL ho hg
  go_wp2_with fail
  show bodyPost _ _ _ _ _ (wrote w1 w.heap.size (.int .i64 x.t) (.int .u8 x.k) (.int .i64 x.v) (.int .i64 x.s) (.bool x.g) (.slice ax dl cx))
  generalize wrote w1 w.heap.size (.int .i64 x.t) (.int .u8 x.k) (.int .i64 x.v) (.int .i64 x.s) (.bool x.g) (.slice ax dl cx) = W at *
  obtain ⟨z0, z1, z2, z3, z4, z5⟩ := (H1.out).cells
  exact bodyPost_ret (v := .agg #[.int .i64 x.t, .int .u8 x.k, .int .i64 x.v, .int .i64 x.s, .bool x.g, .slice ax dl cx]) (by simp [results, Tryz.results47, go_sem, z0, z1, z2, z3, z4, z5]) rfl ⟨_, rfl, H4.out, H2.out, H3.out⟩
set_option maxRecDepth 100000 in
theorem closEntNo (R b : Nat) (l : List Int) (sp : Option Addr) (w : World) (h : Left w R l sp) (hb : w.cell? ⟨b, 0, none⟩ = some (.pointer (some ⟨R, 0, none⟩))) (hn : rdEnt l = none) :
    Calls Tryz.prog 47 #[.pointer (some ⟨b, 0, none⟩)] w (Fails R sp w) := by
  have g0 := alloc_grown w (Obj.cells #[.int .i64 0, .int .u8 0, .int .i64 0, .int .i64 0, .bool false, .slice none 0 0] 28) none
  have h0 := h.grown g0
  have hb0 := g0.cell hb (by simp)
  have T := Lib.hid (entry_none' h0 hn)
  clear h hn h0 g0 hb
  go_enter Tryz.func47, Tryz.ntmps47
  go_wp2_with fail
  refine (T.out).mono ?_
  rintro e w1 ⟨rfl, hL, hg⟩
  exact ⟨rfl, rfl, hL, grownBy_trans (alloc_grown _ _ _) hg⟩

set_option maxHeartbeats 1000000 in
set_option maxRecDepth 100000 in
theorem readEnt_bad (R b : Nat) (w : World) (h : Rdr w R none) :
    Calls Tryz.prog 46 #[.pointer (some ⟨R, 0, none⟩), .func (.func 47) #[] #[.pointer (some ⟨b, 0, none⟩)]] w (AnswersEnt R zeroEnt none w) := by
  have g0 : w.grownBy ((w.alloc (Obj.cells #[.pointer (some ⟨R, 0, none⟩)] 40)).alloc (Obj.cells #[.int .i64 0, .int .u8 0, .int .i64 0, .int .i64 0, .bool false, .slice none 0 0] 28)) none := grownBy_trans (alloc_grown _ _ _) (alloc_grown _ _ _)
  have h0 := h.grown g0
  have hlt := h.lt
  have B0 : Blk ((w.alloc (Obj.cells #[.pointer (some ⟨R, 0, none⟩)] 40)).alloc (Obj.cells #[.int .i64 0, .int .u8 0, .int .i64 0, .int .i64 0, .bool false, .slice none 0 0] 28)) (w.heap.size + 1) (.int .i64 0) (.int .u8 0) (.int .i64 0) (.int .i64 0) (.bool false) (.slice none 0 0) := by
    have := blk_new (w.alloc (Obj.cells #[.pointer (some ⟨R, 0, none⟩)] 40)); simpa using this
  have HB : Hid (((w.alloc (Obj.cells #[.pointer (some ⟨R, 0, none⟩)] 40)).alloc (Obj.cells #[.int .i64 0, .int .u8 0, .int .i64 0, .int .i64 0, .bool false, .slice none 0 0] 28)).cell? ⟨w.heap.size, 0, none⟩ = some (.pointer (some ⟨R, 0, none⟩))) := Lib.hid (by simp)
  generalize hW : (w.alloc (Obj.cells #[.pointer (some ⟨R, 0, none⟩)] 40)).alloc (Obj.cells #[.int .i64 0, .int .u8 0, .int .i64 0, .int .i64 0, .bool false, .slice none 0 0] 28) = W at *
  have HW := Lib.hid hW
  have hs : W.heap.size = w.heap.size + 2 := by rw [← hW]; simp
  have HS := Lib.hid hs
  clear hW hs
  have b0 := Lib.hid (bad R none _ h0)
  obtain ⟨r0, r1, r2, r3, r4, r5⟩ := B0.cells
  have fr := B0.free
  have K := Lib.hid (wrote_all (base := w.heap.size + 2) (v := .slice none 0 0) (d := []) hlt (grownBy_trans (below_grownBy ⟨g0.os, g0.tape, g0.output, g0.size, fun k hk => g0.block k hk (by simp)⟩ (some R)) (grownBy_refl _ _)) (by omega) B0 (Own.nil _ _) (by omega) h0 (.int .i64 0) (.int .u8 0) (.int .i64 0) (.int .i64 0) (.bool false) (.slice none 0 0))
  clear h h0 g0 B0
  go_enter_defers Tryz.func46, Tryz.ntmps46
  go_wp2_with fail
  rw [HW.out]
  refine (b0.out).mono ?_; rintro e w' ⟨rfl, rfl⟩
  go_wp2
  show bodyPostD _ _ _ _ _ (wrote W (w.heap.size + 1) (.int .i64 0) (.int .u8 0) (.int .i64 0) (.int .i64 0) (.bool false) (.slice none 0 0))
  generalize wrote W (w.heap.size + 1) (.int .i64 0) (.int .u8 0) (.int .i64 0) (.int .i64 0) (.bool false) (.slice none 0 0) = V at *
  obtain ⟨k1, k2, k3, k4⟩ := K.out
  obtain ⟨z0, z1, z2, z3, z4, z5⟩ := k1.cells
  refine ⟨.agg #[.int .i64 0, .int .u8 0, .int .i64 0, .int .i64 0, .bool false, .slice none 0 0], by simp [results, Tryz.results46, go_sem, z0, z1, z2, z3, z4, z5], ?_⟩
  exact ⟨_, rfl, k4, k2, k3⟩

set_option maxHeartbeats 1000000 in
set_option maxRecDepth 100000 in
theorem readEnt_some (R b : Nat) (l : List Int) (w : World) (h : Left w R l (some ⟨R, 0, none⟩)) (hb : w.cell? ⟨b, 0, none⟩ = some (.pointer (some ⟨R, 0, none⟩))) {x : Ent} {r : List Int} (hn : rdEnt l = some (x, r)) (hlen : l.length ≤ 140737488351232) :
    Calls Tryz.prog 46 #[.pointer (some ⟨R, 0, none⟩), .func (.func 47) #[] #[.pointer (some ⟨b, 0, none⟩)]] w (AnswersEnt R x (some r) w) := by
  have hmf : ∀ (fn : Fn) (first cap : Array Value) (w : World), (Instr.makeFunc fn first cap).run Tryz.prog w = .ok (.func fn first cap) w := fun _ _ _ _ => rfl
  have g0 : w.grownBy ((w.alloc (Obj.cells #[.pointer (some ⟨R, 0, none⟩)] 40)).alloc (Obj.cells #[.int .i64 0, .int .u8 0, .int .i64 0, .int .i64 0, .bool false, .slice none 0 0] 28)) none := grownBy_trans (alloc_grown _ _ _) (alloc_grown _ _ _)
  have h0 := h.grown g0
  have hlt := h.lt
  have B0 : Blk ((w.alloc (Obj.cells #[.pointer (some ⟨R, 0, none⟩)] 40)).alloc (Obj.cells #[.int .i64 0, .int .u8 0, .int .i64 0, .int .i64 0, .bool false, .slice none 0 0] 28)) (w.heap.size + 1) (.int .i64 0) (.int .u8 0) (.int .i64 0) (.int .i64 0) (.bool false) (.slice none 0 0) := by
    have := blk_new (w.alloc (Obj.cells #[.pointer (some ⟨R, 0, none⟩)] 40)); simpa using this
  have HB : Hid (((w.alloc (Obj.cells #[.pointer (some ⟨R, 0, none⟩)] 40)).alloc (Obj.cells #[.int .i64 0, .int .u8 0, .int .i64 0, .int .i64 0, .bool false, .slice none 0 0] 28)).cell? ⟨w.heap.size, 0, none⟩ = some (.pointer (some ⟨R, 0, none⟩))) := Lib.hid (by simp)
  generalize hW : (w.alloc (Obj.cells #[.pointer (some ⟨R, 0, none⟩)] 40)).alloc (Obj.cells #[.int .i64 0, .int .u8 0, .int .i64 0, .int .i64 0, .bool false, .slice none 0 0] 28) = W at *
  have HW := Lib.hid hW
  have hs : W.heap.size = w.heap.size + 2 := by rw [← hW]; simp
  have HS := Lib.hid hs
  clear hW hs
  have b0 := Lib.hid (bad R (some l) _ h0)
  have c0 := Lib.hid ((closEnt R b l _ _ h0 (by exact (g0.cell hb (by simp))) hn hlen).mono fun e w' h => readsEnt_shaped h)
  have HG0 := Lib.hid g0
  have HB0 := Lib.hid B0
  obtain ⟨c0a, -⟩ := B0.cells
  clear h h0 g0 hb hn B0
  go_enter_defers Tryz.func46, Tryz.ntmps46
  go_wp2_with fail
  rw [HW.out]
  refine (b0.out).mono ?_; rintro e w' ⟨rfl, rfl⟩
  go_wp2_with fail
  refine (c0.out).mono ?_; rintro e w1 ⟨ax, dl, cx, rfl, ho, hL, hg⟩
  have B1 := (HB0.out).keep hg (fun e => by have : R = w.heap.size + 1 := Option.some.inj e; omega)
  obtain ⟨r0, r1, r2, r3, r4, r5⟩ := B1.cells
  have fr := B1.free
  have g0 := HG0.out
  have K := Lib.hid (wrote_all (base := W.heap.size) (st := some r) hlt (grownBy_trans ⟨g0.os, g0.tape, g0.output, g0.size, fun k hk hne => g0.block k hk (by simp)⟩ hg) (by omega) B1 ho (by have := HS.out; omega) hL (.int .i64 x.t) (.int .u8 x.k) (.int .i64 x.v) (.int .i64 x.s) (.bool x.g) (.slice ax dl cx))
  clear ho hL hg B1 g0
  go_wp2
  show bodyPostD _ _ _ _ _ (wrote w1 (w.heap.size + 1) (.int .i64 x.t) (.int .u8 x.k) (.int .i64 x.v) (.int .i64 x.s) (.bool x.g) (.slice ax dl cx))
  generalize wrote w1 (w.heap.size + 1) (.int .i64 x.t) (.int .u8 x.k) (.int .i64 x.v) (.int .i64 x.s) (.bool x.g) (.slice ax dl cx) = V at *
  refine leaves_cons (f := 76) (args := #[.pointer (some ⟨w.heap.size, 0, none⟩)]) (by simp) (by simp [go_sem]) ?_
  refine (idleEnt w.heap.size _).mono ?_
  rintro e u' w'' ⟨rfl, rfl, rfl⟩
  obtain ⟨k1, k2, k3, k4⟩ := K.out
  obtain ⟨z0, z1, z2, z3, z4, z5⟩ := k1.cells
  refine ⟨.agg #[.int .i64 x.t, .int .u8 x.k, .int .i64 x.v, .int .i64 x.s, .bool x.g, .slice ax dl cx], by simp [results, Tryz.results46, go_sem, z0, z1, z2, z3, z4, z5], ?_⟩
  exact ⟨_, rfl, k4, k2, k3⟩

set_option maxHeartbeats 1000000 in
set_option maxRecDepth 100000 in
theorem readEnt_none (R b : Nat) (l : List Int) (w : World) (h : Left w R l (some ⟨R, 0, none⟩)) (hb : w.cell? ⟨b, 0, none⟩ = some (.pointer (some ⟨R, 0, none⟩))) (hn : rdEnt l = none) :
    Calls Tryz.prog 46 #[.pointer (some ⟨R, 0, none⟩), .func (.func 47) #[] #[.pointer (some ⟨b, 0, none⟩)]] w (AnswersEnt R zeroEnt none w) := by
  have hmf : ∀ (fn : Fn) (first cap : Array Value) (w : World), (Instr.makeFunc fn first cap).run Tryz.prog w = .ok (.func fn first cap) w := fun _ _ _ _ => rfl
  have g0 : w.grownBy ((w.alloc (Obj.cells #[.pointer (some ⟨R, 0, none⟩)] 40)).alloc (Obj.cells #[.int .i64 0, .int .u8 0, .int .i64 0, .int .i64 0, .bool false, .slice none 0 0] 28)) none := grownBy_trans (alloc_grown _ _ _) (alloc_grown _ _ _)
  have h0 := h.grown g0
  have hlt := h.lt
  have B0 : Blk ((w.alloc (Obj.cells #[.pointer (some ⟨R, 0, none⟩)] 40)).alloc (Obj.cells #[.int .i64 0, .int .u8 0, .int .i64 0, .int .i64 0, .bool false, .slice none 0 0] 28)) (w.heap.size + 1) (.int .i64 0) (.int .u8 0) (.int .i64 0) (.int .i64 0) (.bool false) (.slice none 0 0) := by
    have := blk_new (w.alloc (Obj.cells #[.pointer (some ⟨R, 0, none⟩)] 40)); simpa using this
  have HB : Hid (((w.alloc (Obj.cells #[.pointer (some ⟨R, 0, none⟩)] 40)).alloc (Obj.cells #[.int .i64 0, .int .u8 0, .int .i64 0, .int .i64 0, .bool false, .slice none 0 0] 28)).cell? ⟨w.heap.size, 0, none⟩ = some (.pointer (some ⟨R, 0, none⟩))) := Lib.hid (by simp)
  generalize hW : (w.alloc (Obj.cells #[.pointer (some ⟨R, 0, none⟩)] 40)).alloc (Obj.cells #[.int .i64 0, .int .u8 0, .int .i64 0, .int .i64 0, .bool false, .slice none 0 0] 28) = W at *
  have HW := Lib.hid hW
  have hs : W.heap.size = w.heap.size + 2 := by rw [← hW]; simp
  have HS := Lib.hid hs
  clear hW hs
  have b0 := Lib.hid (bad R (some l) _ h0)
  have c0 := Lib.hid (closEntNo R b l _ _ h0 (by exact (g0.cell hb (by simp))) hn)
  have HG0 := Lib.hid g0
  have HB0 := Lib.hid B0
  clear h h0 g0 hb hn B0
  go_enter_defers Tryz.func46, Tryz.ntmps46
  go_wp2_with fail
  rw [HW.out]
  refine (b0.out).mono ?_; rintro e w' ⟨rfl, rfl⟩
  go_wp2_with fail
  refine (c0.out).mono ?_; rintro e w1 ⟨rfl, ⟨l1, hL⟩, hg⟩
  unfold Unread
  go_wp2
  refine leaves_cons (f := 76) (args := #[.pointer (some ⟨w.heap.size, 0, none⟩)]) (by simp) (by simp [go_sem]) ?_
  obtain ⟨ao, cap, q0, q1, q2⟩ := hL.cells
  refine (catchEnt R _ w.heap.size _ _ [] _ (hg.cell HB.out (fun e => by have : w.heap.size = R := Option.some.inj e; omega)) q1 q2).mono ?_
  rintro e u' w'' ⟨rfl, rfl, rfl⟩
  have B1 := ((HB0.out).keep hg (fun e => by have : R = w.heap.size + 1 := Option.some.inj e; omega)).keep (grownBy_setCell w1 ⟨R, 1, none⟩ (.pointer none)) (fun e => by have : R = w.heap.size + 1 := Option.some.inj e; omega)
  have U1 := hL.unsound
  have g0 := HG0.out
  have U2 : w.grownBy (w1.setCell ⟨R, 1, none⟩ (.pointer none)) (some R) := unsound_grown (grownBy_trans ⟨g0.os, g0.tape, g0.output, g0.size, fun k hk hne => g0.block k hk (by simp)⟩ hg)
  generalize w1.setCell ⟨R, 1, none⟩ (.pointer none) = V at *
  obtain ⟨z0, z1, z2, z3, z4, z5⟩ := B1.cells
  refine ⟨.agg #[.int .i64 0, .int .u8 0, .int .i64 0, .int .i64 0, .bool false, .slice none 0 0], by simp [results, Tryz.results46, go_sem, z0, z1, z2, z3, z4, z5], ?_⟩
  exact ⟨_, rfl, Own.nil _ _, ⟨l1, U1⟩, U2⟩
end Go.Proofs.YtggbpdkejkmakaaGreat
