/- Contracts of package wire's Reader: NewReader, Bad, Done; what is read, where a panic is recovered. -/
import Derived.Test.YtggbpdkejkmakaaGreatEntry
import Derived.Defers
import Derived.Recover
import Derived.Laws.Pointers
import Derived.LaidEqlPtr
namespace Go.Proofs.YtggbpdkejkmakaaGreat
open Go.RowKit
set_option linter.unusedVariables false

/-- Reader R: what it has left, or none where it is bad. -/
def Rdr (w : World) (R : Nat) : Option (List Int) → Prop
  | some l => Left w R l (some ⟨R, 0, none⟩)
  | none => ∃ l, Left w R l none

theorem Rdr.lt {w : World} {R : Nat} {st : Option (List Int)} (h : Rdr w R st) : R < w.heap.size := by
  cases st with
  | some l => exact Left.lt h
  | none => obtain ⟨l, h⟩ := h; exact h.lt
theorem Rdr.keep {w w' : World} {R : Nat} {st : Option (List Int)} {row : Option Nat} (h : Rdr w R st) (hg : w.grownBy w' row) (hX : ∀ k, row = some k → k ≠ R ∧ NoBytes w k) : Rdr w' R st := by
  cases st with
  | some l => exact Left.keep h hg hX
  | none => obtain ⟨l, h⟩ := h; exact ⟨l, h.keep hg hX⟩
theorem Rdr.grown {w w' : World} {R : Nat} {st : Option (List Int)} (h : Rdr w R st) (hg : w.grownBy w' none) : Rdr w' R st := h.keep hg (fun k hk => by cases hk)

def isDone : Option (List Int) → Bool
  | some l => l.length == 0
  | none => false

/-- The cells of a reader. -/
theorem Left.cells {w : World} {R : Nat} {l : List Int} {sp : Option Addr} (h : Left w R l sp) : ∃ ao cap, w.cell? ⟨R, 0, none⟩ = some (.slice ao l.length cap) ∧ w.cell? ⟨R, 1, none⟩ = some (.pointer sp) ∧ w.frozen? ⟨R, 1, none⟩ = false := by
  obtain ⟨_, v, hr, hb, _⟩ := h
  obtain ⟨ao, cap, rfl⟩ := hb.shape
  exact ⟨ao, cap, hr.cell0, hr.cell1, hr.free1⟩

theorem neq_same (w : World) (a : Addr) : (binOp .neq 40 (.pointer (some a)) (.pointer (some a))).run Tryz.prog w = .ok (.bool false) w := by
  obtain ⟨j, hj⟩ := Option.isSome_iff_exists.1 (by kernel_rfl : (Tryz.prog.info? 76).isSome = true)
  have h : ∀ d : Nat, (Op.equalIn (d + 1) 40 (.pointer (some a)) (.pointer (some a))).run Tryz.prog w = .ok true w := fun d => by
    simp [Op.equalIn, run_underlying Tryz.underlying40, sizeOf, typeInfo, hj, run_sameAddr_same]
  simp only [binOp]
  simp [Op.equal, Op.maxDepth, h 9999]
theorem neq_none (w : World) (a : Addr) : (binOp .neq 40 (.pointer none) (.pointer (some a))).run Tryz.prog w = .ok (.bool true) w := by
  have h : ∀ d : Nat, (Op.equalIn (d + 1) 40 (.pointer none) (.pointer (some a))).run Tryz.prog w = .ok false w := fun d => by
    simp [Op.equalIn, run_underlying Tryz.underlying40, sizeOf, typeInfo]
  simp only [binOp]
  simp [Op.equal, Op.maxDepth, h 9999]

set_option maxRecDepth 100000 in
theorem bad_nil (w : World) : Calls Tryz.prog 31 #[.pointer none] w fun e w' => w = w' ∧ e = .returned (.bool true) := by
  go_enter Tryz.func31, Tryz.ntmps31
  go_wp2
  go_ret
  exact ⟨rfl, rfl⟩

set_option maxRecDepth 100000 in
theorem bad_some (R : Nat) (l : List Int) (w : World) (h : Left w R l (some ⟨R, 0, none⟩)) : Calls Tryz.prog 31 #[.pointer (some ⟨R, 0, none⟩)] w fun e w' => w = w' ∧ e = .returned (.bool false) := by
  obtain ⟨ao, cap, c0, c1, -⟩ := h.cells
  clear h
  have q1 := neq_same w ⟨R, 0, none⟩
  have q2 := neq_none w ⟨R, 0, none⟩
  go_enter Tryz.func31, Tryz.ntmps31
  go_wp2
  go_ret
  exact ⟨rfl, rfl⟩

set_option maxRecDepth 100000 in
theorem bad_none (R : Nat) (l : List Int) (w : World) (h : Left w R l none) : Calls Tryz.prog 31 #[.pointer (some ⟨R, 0, none⟩)] w fun e w' => w = w' ∧ e = .returned (.bool true) := by
  obtain ⟨ao, cap, c0, c1, -⟩ := h.cells
  clear h
  have q1 := neq_same w ⟨R, 0, none⟩
  have q2 := neq_none w ⟨R, 0, none⟩
  go_enter Tryz.func31, Tryz.ntmps31
  go_wp2
  go_ret
  exact ⟨rfl, rfl⟩

theorem bad (R : Nat) (st : Option (List Int)) (w : World) (h : Rdr w R st) : Calls Tryz.prog 31 #[.pointer (some ⟨R, 0, none⟩)] w fun e w' => w = w' ∧ e = .returned (.bool st.isNone) := by
  cases st with
  | some l => exact bad_some R l w h
  | none => obtain ⟨l, h⟩ := h; exact bad_none R l w h

set_option maxRecDepth 100000 in
theorem empty (R : Nat) (l : List Int) (sp : Option Addr) (w : World) (h : Left w R l sp) : Calls Tryz.prog 49 #[.pointer (some ⟨R, 0, none⟩)] w fun e w' => w = w' ∧ e = .returned (.bool (l.length == 0)) := by
  obtain ⟨ao, cap, c0, c1, -⟩ := h.cells
  clear h
  go_enter Tryz.func49, Tryz.ntmps49
  go_wp2
  go_ret
  exact ⟨rfl, ret_bool (by rw [Bool.eq_iff_iff]; simp)⟩

set_option maxRecDepth 100000 in
theorem done (R : Nat) (st : Option (List Int)) (w : World) (h : Rdr w R st) : Calls Tryz.prog 33 #[.pointer (some ⟨R, 0, none⟩)] w fun e w' => w = w' ∧ e = .returned (.bool (isDone st)) := by
  have B := Lib.hid (bad R st w h)
  cases st with
  | some l =>
    have E := Lib.hid (empty R l _ w h)
    clear h
    go_enter Tryz.func33, Tryz.ntmps33
    go_wp2_with fail
    refine (B.out).mono ?_; rintro e w' ⟨rfl, rfl⟩
    go_wp2_with fail
    refine (E.out).mono ?_; rintro e w' ⟨rfl, rfl⟩
    go_wp2_with fail
    go_ret
    exact ⟨rfl, rfl⟩
  | none =>
    clear h
    go_enter Tryz.func33, Tryz.ntmps33
    go_wp2_with fail
    refine (B.out).mono ?_; rintro e w' ⟨rfl, rfl⟩
    go_wp2_with fail
    go_ret
    exact ⟨rfl, rfl⟩

set_option maxRecDepth 100000 in
theorem done_nil (w : World) : Calls Tryz.prog 33 #[.pointer none] w fun e w' => w = w' ∧ e = .returned (.bool false) := by
  have B := Lib.hid (bad_nil w)
  go_enter Tryz.func33, Tryz.ntmps33
  go_wp2_with fail
  refine (B.out).mono ?_; rintro e w' ⟨rfl, rfl⟩
  go_wp2_with fail
  go_ret
  exact ⟨rfl, rfl⟩

theorem own_tag {w : World} {base : Nat} {v : Value} {l : List Int} (h : Own w base v l) : Tag w v := by
  intro a n cap hv hn
  rcases h.2 with ⟨rfl, _⟩ | ⟨g, c, cur, rfl, _, hg, _⟩
  · cases hv
  · cases hv; exact ⟨cur, _, hg⟩

/-- e returns a new reader of the bytes l; what was there is as it was. -/
def NewRdr (l : List Int) (w : World) (e : Ending) (w' : World) : Prop := ∃ R, e = .returned (.pointer (some ⟨R, 0, none⟩)) ∧ w.heap.size ≤ R ∧ Rdr w' R (some l) ∧ Below w.heap.size w w'

set_option maxRecDepth 100000 in
theorem newReader (v : Value) (l : List Int) (w : World) (h : Bs w v l) (ho : Oct l) (hlen : l.length ≤ 140737488355328) :
    Calls Tryz.prog 20 #[v] w fun e w' => NewRdr l w e w' := by
  have C := Lib.hid (clone v l w h hlen)
  clear h
  go_enter Tryz.func20, Tryz.ntmps20
  go_wp2_with fail
  refine (C.out).mono ?_
  rintro e w1 ⟨v1, rfl, ho1, hb⟩
  obtain ⟨ao, cap, hs⟩ := ho1.bs.shape
  have HO := Lib.hid ho1
  have HB := Lib.hid hb
  subst hs
  clear ho1 hb
  go_wp2_with fail
  go_ret
  have hL : Rd (w1.alloc (Obj.cells #[.slice ao l.length cap, .pointer (some ⟨w1.heap.size, 0, none⟩)] 76)) w1.heap.size (.slice ao l.length cap) (.pointer (some ⟨w1.heap.size, 0, none⟩)) := heap_alloc_new w1 _
  have hg := World.grownBy_alloc w1 (Obj.cells #[.slice ao l.length cap, .pointer (some ⟨w1.heap.size, 0, none⟩)] 76) none
  exact ⟨w1.heap.size, rfl, (HB.out).size, ⟨ho, _, hL, (HO.out).bs.alloc _, (own_tag HO.out).keep hg (fun k hk => by cases hk)⟩, (HB.out).alloc (HB.out).size _⟩

/-- What a reader answers: a value, and what it has left then; zero, and nothing, where it is bad or can't read. -/
def answers {α : Type} (rd : List Int → Option (α × List Int)) (z : α) (st : Option (List Int)) : α × Option (List Int) :=
  match st.bind rd with
  | some (a, r) => (a, some r)
  | none => (z, none)

/-- The closure that is deferred, where what is read panicked: the reader is bad from then on. -/
theorem catchInt (R : Nat) (sp : Option Addr) (b : Nat) (pv : Value) (u : TypeId) (older : List PanicEntry) (w : World)
    (hb : w.cell? ⟨b, 0, none⟩ = some (.pointer (some ⟨R, 0, none⟩))) (hc : w.cell? ⟨R, 1, none⟩ = some (.pointer sp)) (hz : w.frozen? ⟨R, 1, none⟩ = false) :
    CallsD Tryz.prog 73 #[.pointer (some ⟨b, 0, none⟩)] (.panicking ({ v := .iface u pv, recovered := false } :: older)) w fun e u' w' =>
      e = .returned (.tuple #[]) ∧ u' = .panicking ({ v := .iface u pv, recovered := true } :: older) ∧ w' = w.setCell ⟨R, 1, none⟩ (.pointer none) := by
  refine callsD_of_wpS Tryz.func73 rfl fun c₀ cs hu => ?_
  apply wpS_seq
  apply wpS_region
  simp [wpOpsS, go_sem, recoverD, hu, Tryz.ntmps73, Exit.thenS]
  refine wpS_cond (t := true) (by simp [Act.eval, Array.replicate]) ?_
  simp only [if_true]
  apply wpS_region
  simp [wpOpsS, go_sem, hb, hc, hz, bodyPostS, results, Tryz.results73]
/-- .. where it returned: nothing. -/
theorem idleInt (b : Nat) (w : World) :
    CallsD Tryz.prog 73 #[.pointer (some ⟨b, 0, none⟩)] .returning w fun e u' w' => e = .returned (.tuple #[]) ∧ u' = .returning ∧ w' = w := by
  refine callsD_of_wpS Tryz.func73 rfl fun c₀ cs hu => ?_
  apply wpS_seq
  apply wpS_region
  simp [wpOpsS, go_sem, recoverD, hu, Tryz.ntmps73, Exit.thenS]
  refine wpS_cond (t := false) (by simp [Act.eval, Array.replicate]) ?_
  simp only [Bool.false_eq_true, if_false]
  refine wpS_of_wp (wp_skip ?_)
  cases c₀
  simp_all [bodyPostS, results, Tryz.results73]

/-- The closure that is deferred, where what is read panicked: the reader is bad from then on. -/
theorem catchBytes (R : Nat) (sp : Option Addr) (b : Nat) (pv : Value) (u : TypeId) (older : List PanicEntry) (w : World)
    (hb : w.cell? ⟨b, 0, none⟩ = some (.pointer (some ⟨R, 0, none⟩))) (hc : w.cell? ⟨R, 1, none⟩ = some (.pointer sp)) (hz : w.frozen? ⟨R, 1, none⟩ = false) :
    CallsD Tryz.prog 75 #[.pointer (some ⟨b, 0, none⟩)] (.panicking ({ v := .iface u pv, recovered := false } :: older)) w fun e u' w' =>
      e = .returned (.tuple #[]) ∧ u' = .panicking ({ v := .iface u pv, recovered := true } :: older) ∧ w' = w.setCell ⟨R, 1, none⟩ (.pointer none) := by
  refine callsD_of_wpS Tryz.func75 rfl fun c₀ cs hu => ?_
  apply wpS_seq
  apply wpS_region
  simp [wpOpsS, go_sem, recoverD, hu, Tryz.ntmps75, Exit.thenS]
  refine wpS_cond (t := true) (by simp [Act.eval, Array.replicate]) ?_
  simp only [if_true]
  apply wpS_region
  simp [wpOpsS, go_sem, hb, hc, hz, bodyPostS, results, Tryz.results75]
/-- .. where it returned: nothing. -/
theorem idleBytes (b : Nat) (w : World) :
    CallsD Tryz.prog 75 #[.pointer (some ⟨b, 0, none⟩)] .returning w fun e u' w' => e = .returned (.tuple #[]) ∧ u' = .returning ∧ w' = w := by
  refine callsD_of_wpS Tryz.func75 rfl fun c₀ cs hu => ?_
  apply wpS_seq
  apply wpS_region
  simp [wpOpsS, go_sem, recoverD, hu, Tryz.ntmps75, Exit.thenS]
  refine wpS_cond (t := false) (by simp [Act.eval, Array.replicate]) ?_
  simp only [Bool.false_eq_true, if_false]
  refine wpS_of_wp (wp_skip ?_)
  cases c₀
  simp_all [bodyPostS, results, Tryz.results75]

/-- The closure that is deferred, where what is read panicked: the reader is bad from then on. -/
theorem catchEnt (R : Nat) (sp : Option Addr) (b : Nat) (pv : Value) (u : TypeId) (older : List PanicEntry) (w : World)
    (hb : w.cell? ⟨b, 0, none⟩ = some (.pointer (some ⟨R, 0, none⟩))) (hc : w.cell? ⟨R, 1, none⟩ = some (.pointer sp)) (hz : w.frozen? ⟨R, 1, none⟩ = false) :
    CallsD Tryz.prog 76 #[.pointer (some ⟨b, 0, none⟩)] (.panicking ({ v := .iface u pv, recovered := false } :: older)) w fun e u' w' =>
      e = .returned (.tuple #[]) ∧ u' = .panicking ({ v := .iface u pv, recovered := true } :: older) ∧ w' = w.setCell ⟨R, 1, none⟩ (.pointer none) := by
  refine callsD_of_wpS Tryz.func76 rfl fun c₀ cs hu => ?_
  apply wpS_seq
  apply wpS_region
  simp [wpOpsS, go_sem, recoverD, hu, Tryz.ntmps76, Exit.thenS]
  refine wpS_cond (t := true) (by simp [Act.eval, Array.replicate]) ?_
  simp only [if_true]
  apply wpS_region
  simp [wpOpsS, go_sem, hb, hc, hz, bodyPostS, results, Tryz.results76]
/-- .. where it returned: nothing. -/
theorem idleEnt (b : Nat) (w : World) :
    CallsD Tryz.prog 76 #[.pointer (some ⟨b, 0, none⟩)] .returning w fun e u' w' => e = .returned (.tuple #[]) ∧ u' = .returning ∧ w' = w := by
  refine callsD_of_wpS Tryz.func76 rfl fun c₀ cs hu => ?_
  apply wpS_seq
  apply wpS_region
  simp [wpOpsS, go_sem, recoverD, hu, Tryz.ntmps76, Exit.thenS]
  refine wpS_cond (t := false) (by simp [Act.eval, Array.replicate]) ?_
  simp only [Bool.false_eq_true, if_false]
  refine wpS_of_wp (wp_skip ?_)
  cases c₀
  simp_all [bodyPostS, results, Tryz.results76]

/-- The closures that read. -/
theorem closNumber (R b : Nat) (l : List Int) (sp : Option Addr) (w : World) (h : Left w R l sp) (hb : w.cell? ⟨b, 0, none⟩ = some (.pointer (some ⟨R, 0, none⟩))) {n : Int} {r : List Int} (hn : rdNum l = some (n, r)) :
    Calls Tryz.prog 41 #[.pointer (some ⟨b, 0, none⟩)] w (Reads R (.int .i64 n) r sp w) := by
  have T := Lib.hid (number_some h hn)
  clear h hn
  go_enter Tryz.func41, Tryz.ntmps41
  go_wp2_with fail
  refine (T.out).mono ?_
  rintro e w1 ⟨rfl, hL, hg⟩
  go_wp2_with fail
  go_ret
  exact ⟨rfl, hL, hg⟩
theorem closNumberNo (R b : Nat) (l : List Int) (sp : Option Addr) (w : World) (h : Left w R l sp) (hb : w.cell? ⟨b, 0, none⟩ = some (.pointer (some ⟨R, 0, none⟩))) (hn : rdNum l = none) :
    Calls Tryz.prog 41 #[.pointer (some ⟨b, 0, none⟩)] w (Fails R sp w) := by
  have T := Lib.hid (number_none h hn)
  clear h hn
  go_enter Tryz.func41, Tryz.ntmps41
  go_wp2_with fail
  refine (T.out).mono ?_
  rintro e w1 ⟨rfl, hL, hg⟩
  exact ⟨rfl, rfl, hL, hg⟩

/-- e returns v; reader R is at st then, and nothing else has turned. -/
def Answers (R : Nat) (v : Value) (st : Option (List Int)) (w : World) (e : Ending) (w' : World) : Prop :=
  e = .returned v ∧ Rdr w' R st ∧ w.grownBy w' (some R)

end Go.Proofs.YtggbpdkejkmakaaGreat
