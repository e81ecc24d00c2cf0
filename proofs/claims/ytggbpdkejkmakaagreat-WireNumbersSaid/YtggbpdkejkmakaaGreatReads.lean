/- Contracts of what a reader reads: a number, bytes, an entry; where that panics it is bad from then on, and the answer is zero. -/
import Derived.Test.YtggbpdkejkmakaaGreatRead
namespace Go.Proofs.YtggbpdkejkmakaaGreat
open Go.RowKit
set_option linter.unusedVariables false
set_option linter.unusedSimpArgs false

theorem Left.unsound {w : World} {R : Nat} {l : List Int} {sp : Option Addr} (h : Left w R l sp) : Left (w.setCell ⟨R, 1, none⟩ (.pointer none)) R l none := by
  obtain ⟨ho, v, hr, hb, ht⟩ := h
  have hg := grownBy_setCell w ⟨R, 1, none⟩ (.pointer none)
  have hN : ∀ k, some R = some k → NoBytes w k := fun k hk => by cases hk; exact hr.noBytes
  exact ⟨ho, v, hr.set1 _, ht.bs hb hg hN, ht.keep hg hN⟩
theorem unsound_grown {w w1 : World} {R : Nat} (h : w.grownBy w1 (some R)) : w.grownBy (w1.setCell ⟨R, 1, none⟩ (.pointer none)) (some R) := grownBy_trans h (grownBy_setCell w1 ⟨R, 1, none⟩ _)
theorem alloc_grown (w : World) (o : Obj) (row : Option Nat) : w.grownBy (w.alloc o) row := World.grownBy_alloc w o row

/-- e returns new bytes d; reader R is at st then, and nothing else has turned. -/
def AnswersNew (R : Nat) (d : List Int) (st : Option (List Int)) (w : World) (e : Ending) (w' : World) : Prop :=
  ∃ v, e = .returned v ∧ Own w' w.heap.size v d ∧ Rdr w' R st ∧ w.grownBy w' (some R)
/-- .. an entry, as a value, whose bytes are new. -/
def AnswersEnt (R : Nat) (x : Ent) (st : Option (List Int)) (w : World) (e : Ending) (w' : World) : Prop :=
  ∃ v, e = .returned (.agg #[.int .i64 x.t, .int .u8 x.k, .int .i64 x.v, .int .i64 x.s, .bool x.g, v]) ∧ Own w' w.heap.size v x.d ∧ Rdr w' R st ∧ w.grownBy w' (some R)
def zeroEnt : Ent := ⟨0, 0, 0, 0, false, []⟩

theorem wrote_all {w w1 : World} {R b base : Nat} {st : Option (List Int)} {v : Value} {d : List Int} {a0 a1 a2 a3 a4 a5 : Value} (hR : R < w.heap.size) (hg : w.grownBy w1 (some R)) (hb : w.heap.size ≤ b) (hB : Blk w1 b a0 a1 a2 a3 a4 a5) (hO : Own w1 base v d) (hbase : b < base) (hS : Rdr w1 R st) (c0 c1 c2 c3 c4 c5 : Value) :
    Blk (wrote w1 b c0 c1 c2 c3 c4 c5) b c0 c1 c2 c3 c4 c5 ∧ Rdr (wrote w1 b c0 c1 c2 c3 c4 c5) R st ∧ w.grownBy (wrote w1 b c0 c1 c2 c3 c4 c5) (some R) ∧ Own (wrote w1 b c0 c1 c2 c3 c4 c5) w.heap.size v d := by
  have G := wrote_grown w1 b c0 c1 c2 c3 c4 c5
  refine ⟨wrote_blk hB _ _ _ _ _ _, hS.keep G (fun k hk => by cases hk; exact ⟨by omega, hB.noBytes⟩), grownBy_past hg hb G, ?_⟩
  exact (hO.kept G (Or.inr (fun e => by have h1 : base ≤ b := (hO.lt _ e).1; omega))).mono (by omega)


theorem closBytes (R b : Nat) (l : List Int) (sp : Option Addr) (w : World) (h : Left w R l sp) (hb : w.cell? ⟨b, 0, none⟩ = some (.pointer (some ⟨R, 0, none⟩))) {d r : List Int} (hn : rdBytes l = some (d, r)) (hlen : l.length ≤ 140737488351232) :
    Calls Tryz.prog 44 #[.pointer (some ⟨b, 0, none⟩)] w (ReadsNew R d r sp w) := by
  have T := Lib.hid (block_some h hn hlen)
  clear h hn
  go_enter Tryz.func44, Tryz.ntmps44
  go_wp2_with fail
  refine (T.out).mono ?_
  rintro e w1 ⟨v, rfl, ho, hL, hg⟩
  go_wp2_with fail
  go_ret
  exact ⟨v, rfl, ho, hL, hg⟩
theorem closBytesNo (R b : Nat) (l : List Int) (sp : Option Addr) (w : World) (h : Left w R l sp) (hb : w.cell? ⟨b, 0, none⟩ = some (.pointer (some ⟨R, 0, none⟩))) (hn : rdBytes l = none) :
    Calls Tryz.prog 44 #[.pointer (some ⟨b, 0, none⟩)] w (Fails R sp w) := by
  have T := Lib.hid (block_none h hn)
  clear h hn
  go_enter Tryz.func44, Tryz.ntmps44
  go_wp2_with fail
  refine (T.out).mono ?_
  rintro e w1 ⟨rfl, hL, hg⟩
  exact ⟨rfl, rfl, hL, hg⟩


set_option maxRecDepth 100000 in
theorem readInt_bad (R b : Nat) (w : World) (h : Rdr w R none) :
    Calls Tryz.prog 40 #[.pointer (some ⟨R, 0, none⟩), .func (.func 41) #[] #[.pointer (some ⟨b, 0, none⟩)]] w (Answers R (.int .i64 0) none w) := by
  have h0 := h.grown (alloc_grown w (Obj.cells #[.pointer (some ⟨R, 0, none⟩)] 40) none)
  have b0 := Lib.hid (bad R none _ h0)
  have H0 := Lib.hid h0
  clear h h0
  go_enter_defers Tryz.func40, Tryz.ntmps40
  go_wp2_with fail
  refine (b0.out).mono ?_; rintro e w' ⟨rfl, rfl⟩
  go_wp2
  refine ⟨_, results_tmp rfl _ _ _, ?_⟩
  exact ⟨rfl, H0.out, alloc_grown _ _ _⟩

set_option maxRecDepth 100000 in
theorem readInt_some (R b : Nat) (l : List Int) (w : World) (h : Left w R l (some ⟨R, 0, none⟩)) (hb : w.cell? ⟨b, 0, none⟩ = some (.pointer (some ⟨R, 0, none⟩))) {n : Int} {r : List Int} (hn : rdNum l = some (n, r)) :
    Calls Tryz.prog 40 #[.pointer (some ⟨R, 0, none⟩), .func (.func 41) #[] #[.pointer (some ⟨b, 0, none⟩)]] w (Answers R (.int .i64 n) (some r) w) := by
  have hmf : ∀ (fn : Fn) (first cap : Array Value) (w : World), (Instr.makeFunc fn first cap).run Tryz.prog w = .ok (.func fn first cap) w := fun _ _ _ _ => rfl
  have g0 := alloc_grown w (Obj.cells #[.pointer (some ⟨R, 0, none⟩)] 40) none
  have h0 := h.grown g0
  have b0 := Lib.hid (bad R (some l) _ h0)
  have c0 := Lib.hid (closNumber R b l _ _ h0 (by exact (g0.cell hb (by simp))) hn)
  clear h h0 g0 hb hn
  go_enter_defers Tryz.func40, Tryz.ntmps40
  go_wp2_with fail
  refine (b0.out).mono ?_; rintro e w' ⟨rfl, rfl⟩
  go_wp2_with fail
  refine (c0.out).mono ?_; rintro e w1 ⟨rfl, hL, hg⟩
  go_wp2
  refine leaves_cons (f := 73) (args := #[.pointer (some ⟨w.heap.size, 0, none⟩)]) (by simp) (by simp [go_sem]) ?_
  refine (idleInt w.heap.size _).mono ?_
  rintro e u' w'' ⟨rfl, rfl, rfl⟩
  refine ⟨_, results_tmp rfl _ _ _, ?_⟩
  exact ⟨rfl, hL, grownBy_trans (alloc_grown _ _ _) hg⟩

set_option maxRecDepth 100000 in
theorem readInt_none (R b : Nat) (l : List Int) (w : World) (h : Left w R l (some ⟨R, 0, none⟩)) (hb : w.cell? ⟨b, 0, none⟩ = some (.pointer (some ⟨R, 0, none⟩))) (hn : rdNum l = none) :
    Calls Tryz.prog 40 #[.pointer (some ⟨R, 0, none⟩), .func (.func 41) #[] #[.pointer (some ⟨b, 0, none⟩)]] w (Answers R (.int .i64 0) none w) := by
  have hmf : ∀ (fn : Fn) (first cap : Array Value) (w : World), (Instr.makeFunc fn first cap).run Tryz.prog w = .ok (.func fn first cap) w := fun _ _ _ _ => rfl
  have g0 := alloc_grown w (Obj.cells #[.pointer (some ⟨R, 0, none⟩)] 40) none
  have h0 := h.grown g0
  have hlt := h.lt
  have b0 := Lib.hid (bad R (some l) _ h0)
  have c0 := Lib.hid (closNumberNo R b l _ _ h0 (by exact (g0.cell hb (by simp))) hn)
  have HB : Hid ((w.alloc (Obj.cells #[.pointer (some ⟨R, 0, none⟩)] 40)).cell? ⟨w.heap.size, 0, none⟩ = some (.pointer (some ⟨R, 0, none⟩))) := Lib.hid (by simp)
  clear h h0 g0 hb hn
  go_enter_defers Tryz.func40, Tryz.ntmps40
  go_wp2_with fail
  refine (b0.out).mono ?_; rintro e w' ⟨rfl, rfl⟩
  go_wp2_with fail
  refine (c0.out).mono ?_; rintro e w1 ⟨rfl, ⟨l1, hL⟩, hg⟩
  unfold Unread
  go_wp2
  refine leaves_cons (f := 73) (args := #[.pointer (some ⟨w.heap.size, 0, none⟩)]) (by simp) (by simp [go_sem]) ?_
  obtain ⟨ao, cap, q0, q1, q2⟩ := hL.cells
  refine (catchInt R _ w.heap.size _ _ [] _ (hg.cell HB.out (fun e => by have : w.heap.size = R := Option.some.inj e; omega)) q1 q2).mono ?_
  rintro e u' w'' ⟨rfl, rfl, rfl⟩
  simp [Leaves, settle, results, Tryz.results40, go_sem]
  exact ⟨rfl, ⟨l1, hL.unsound⟩, unsound_grown (grownBy_trans (alloc_grown _ _ _) hg)⟩

set_option maxRecDepth 100000 in
theorem readBytes_bad (R b : Nat) (w : World) (h : Rdr w R none) :
    Calls Tryz.prog 43 #[.pointer (some ⟨R, 0, none⟩), .func (.func 44) #[] #[.pointer (some ⟨b, 0, none⟩)]] w (AnswersNew R [] none w) := by
  have h0 := h.grown (alloc_grown w (Obj.cells #[.pointer (some ⟨R, 0, none⟩)] 40) none)
  have b0 := Lib.hid (bad R none _ h0)
  have H0 := Lib.hid h0
  clear h h0
  go_enter_defers Tryz.func43, Tryz.ntmps43
  go_wp2_with fail
  refine (b0.out).mono ?_; rintro e w' ⟨rfl, rfl⟩
  go_wp2
  refine ⟨_, results_tmp rfl _ _ _, ?_⟩
  exact ⟨_, rfl, Own.nil _ _, H0.out, alloc_grown _ _ _⟩

set_option maxRecDepth 100000 in
theorem readBytes_some (R b : Nat) (l : List Int) (w : World) (h : Left w R l (some ⟨R, 0, none⟩)) (hb : w.cell? ⟨b, 0, none⟩ = some (.pointer (some ⟨R, 0, none⟩))) {d r : List Int} (hn : rdBytes l = some (d, r)) (hlen : l.length ≤ 140737488351232) :
    Calls Tryz.prog 43 #[.pointer (some ⟨R, 0, none⟩), .func (.func 44) #[] #[.pointer (some ⟨b, 0, none⟩)]] w (AnswersNew R d (some r) w) := by
  have hmf : ∀ (fn : Fn) (first cap : Array Value) (w : World), (Instr.makeFunc fn first cap).run Tryz.prog w = .ok (.func fn first cap) w := fun _ _ _ _ => rfl
  have g0 := alloc_grown w (Obj.cells #[.pointer (some ⟨R, 0, none⟩)] 40) none
  have h0 := h.grown g0
  have b0 := Lib.hid (bad R (some l) _ h0)
  have c0 := Lib.hid (closBytes R b l _ _ h0 (by exact (g0.cell hb (by simp))) hn hlen)
  clear h h0 g0 hb hn
  go_enter_defers Tryz.func43, Tryz.ntmps43
  go_wp2_with fail
  refine (b0.out).mono ?_; rintro e w' ⟨rfl, rfl⟩
  go_wp2_with fail
  refine (c0.out).mono ?_; rintro e w1 ⟨v1, rfl, ho, hL, hg⟩
  go_wp2
  refine leaves_cons (f := 75) (args := #[.pointer (some ⟨w.heap.size, 0, none⟩)]) (by simp) (by simp [go_sem]) ?_
  refine (idleBytes w.heap.size _).mono ?_
  rintro e u' w'' ⟨rfl, rfl, rfl⟩
  refine ⟨_, results_tmp rfl _ _ _, ?_⟩
  exact ⟨v1, rfl, ho.mono (by simp), hL, grownBy_trans (alloc_grown _ _ _) hg⟩

set_option maxRecDepth 100000 in
theorem readBytes_none (R b : Nat) (l : List Int) (w : World) (h : Left w R l (some ⟨R, 0, none⟩)) (hb : w.cell? ⟨b, 0, none⟩ = some (.pointer (some ⟨R, 0, none⟩))) (hn : rdBytes l = none) :
    Calls Tryz.prog 43 #[.pointer (some ⟨R, 0, none⟩), .func (.func 44) #[] #[.pointer (some ⟨b, 0, none⟩)]] w (AnswersNew R [] none w) := by
  have hmf : ∀ (fn : Fn) (first cap : Array Value) (w : World), (Instr.makeFunc fn first cap).run Tryz.prog w = .ok (.func fn first cap) w := fun _ _ _ _ => rfl
  have g0 := alloc_grown w (Obj.cells #[.pointer (some ⟨R, 0, none⟩)] 40) none
  have h0 := h.grown g0
  have hlt := h.lt
  have b0 := Lib.hid (bad R (some l) _ h0)
  have c0 := Lib.hid (closBytesNo R b l _ _ h0 (by exact (g0.cell hb (by simp))) hn)
  have HB : Hid ((w.alloc (Obj.cells #[.pointer (some ⟨R, 0, none⟩)] 40)).cell? ⟨w.heap.size, 0, none⟩ = some (.pointer (some ⟨R, 0, none⟩))) := Lib.hid (by simp)
  clear h h0 g0 hb hn
  go_enter_defers Tryz.func43, Tryz.ntmps43
  go_wp2_with fail
  refine (b0.out).mono ?_; rintro e w' ⟨rfl, rfl⟩
  go_wp2_with fail
  refine (c0.out).mono ?_; rintro e w1 ⟨rfl, ⟨l1, hL⟩, hg⟩
  unfold Unread
  go_wp2
  refine leaves_cons (f := 75) (args := #[.pointer (some ⟨w.heap.size, 0, none⟩)]) (by simp) (by simp [go_sem]) ?_
  obtain ⟨ao, cap, q0, q1, q2⟩ := hL.cells
  refine (catchBytes R _ w.heap.size _ _ [] _ (hg.cell HB.out (fun e => by have : w.heap.size = R := Option.some.inj e; omega)) q1 q2).mono ?_
  rintro e u' w'' ⟨rfl, rfl, rfl⟩
  simp [Leaves, settle, results, Tryz.results43, go_sem]
  exact ⟨_, rfl, Own.nil _ _, ⟨l1, hL.unsound⟩, unsound_grown (grownBy_trans (alloc_grown _ _ _) hg)⟩
end Go.Proofs.YtggbpdkejkmakaaGreat
