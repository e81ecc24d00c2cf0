/- Two entries that have the same are told to be the same. -/
import Derived.Test.YtggbpdkejkmakaaAwake
namespace Go.Proofs.Ytggbpdkejkmakaa
open Go.RowKit
set_option linter.unusedVariables false

/-- An entry as a value. -/
def entV (x : Ent) (v : Value) : Value := .agg #[.int .i64 x.t, .int .u8 x.k, .int .i64 x.v, .int .i64 x.s, .bool x.g, v]

set_option maxHeartbeats 2000000 in
set_option maxRecDepth 100000 in
theorem sameEnt (t k v s : Int) (g : Bool) (d : List Int) (u1 u2 : Value) (w : World) (h1 : Bs w u1 d) (h2 : Bs w u2 d) :
    Calls Try.prog 30 #[.agg #[.int .i64 t, .int .u8 k, .int .i64 v, .int .i64 s, .bool g, u1], .agg #[.int .i64 t, .int .u8 k, .int .i64 v, .int .i64 s, .bool g, u2]] w fun e w' => e = .returned (.bool true) ∧ Below w.heap.size w w' := by
  obtain ⟨a1, c1, hs1⟩ := h1.shape
  obtain ⟨a2, c2, hs2⟩ := h2.shape
  have T := fun W (k1 : Bs W u1 d) (k2 : Bs W u2 d) => Lib.hid (sameBytes_yes k1 k2 rfl)
  have hb := (alloc_below w (Obj.cells #[.int .i64 t, .int .u8 k, .int .i64 v, .int .i64 s, .bool g, u1] 25)).trans ((Below.refl _ _).alloc (by simp) (Obj.cells #[.int .i64 t, .int .u8 k, .int .i64 v, .int .i64 s, .bool g, u2] 25))
  have q := T _ (h1.past hb) (h2.past hb)
  have HB := Lib.hid hb
  subst hs1 hs2
  clear h1 h2 T hb
  go_enter Try.func30, Try.ntmps30
  go_wp2_with fail
  refine (q.out).mono ?_; rintro e w1 ⟨rfl, b1⟩
  go_wp2_with fail
  go_ret
  exact ⟨rfl, (HB.out).trans (b1.mono (HB.out).size)⟩

/-- The bad reader's answers. -/
theorem badNumber (R : Nat) (w : World) (h : Rdr w R none) : Calls Try.prog 25 #[.pointer (some ⟨R, 0, none⟩)] w fun e w' => e = .returned (.int .i64 0) ∧ Rdr w' R none ∧ w.grownBy w' (some R) := rdrNumber R none w h
theorem badBytes (R : Nat) (w : World) (h : Rdr w R none) : Calls Try.prog 27 #[.pointer (some ⟨R, 0, none⟩)] w fun e w' => ∃ a c, e = .returned (.slice a 0 c) ∧ Rdr w' R none ∧ w.grownBy w' (some R) := by
  refine (rdrBytes R none w h (fun l hl => by cases hl)).mono fun e w' ⟨v, he, ho, hr, hg⟩ => ?_
  obtain ⟨a, c, rfl⟩ := ho.bs.shape
  exact ⟨a, c, he, hr, hg⟩
theorem badEntry (R : Nat) (w : World) (h : Rdr w R none) : Calls Try.prog 29 #[.pointer (some ⟨R, 0, none⟩)] w fun e w' =>
    ∃ a c, e = .returned (.agg #[.int .i64 0, .int .u8 0, .int .i64 0, .int .i64 0, .bool false, .slice a 0 c]) ∧ Bs w' (.slice a 0 c) [] ∧ Rdr w' R none ∧ w.grownBy w' (some R) := by
  refine (rdrEntry R none w h (fun l hl => by cases hl)).mono fun e w' ⟨v, he, ho, hr, hg⟩ => ?_
  obtain ⟨a, c, rfl⟩ := ho.bs.shape
  exact ⟨a, c, he, ho.bs, hr, hg⟩

/-- The list of the two readers, none and one that nobody made, in block B + 1; that one in block B. -/
structure Two (w : World) (B : Nat) (W : World) : Prop where
  c0 : W.cell? ⟨B + 1, 0, none⟩ = some (.pointer none)
  c1 : W.cell? ⟨B + 1, 1, none⟩ = some (.pointer (some ⟨B, 0, none⟩))
  rd : Rdr W B none
  below : Below B w W
  lt : B + 1 < W.heap.size
theorem Two.past {w W W' : World} {B : Nat} (h : Two w B W) (hb : Below W.heap.size W W') : Two w B W' :=
  ⟨(hb.cell (p := ⟨B + 1, 0, none⟩) h.lt).trans h.c0, (hb.cell (p := ⟨B + 1, 1, none⟩) h.lt).trans h.c1, h.rd.grown (below_grownBy hb none), h.below.trans (hb.mono (by have := h.lt; omega)), Nat.lt_of_lt_of_le h.lt hb.size⟩
theorem Two.read {w W W' : World} {B : Nat} (h : Two w B W) (hr : Rdr W' B none) (hg : W.grownBy W' (some B)) : Two w B W' :=
  ⟨hg.cell h.c0 (fun e => by have : B + 1 = B := Option.some.inj e; omega), hg.cell h.c1 (fun e => by have : B + 1 = B := Option.some.inj e; omega), hr, h.below.grown hg (by have := h.lt; omega) (fun k hk => by cases hk; omega), Nat.lt_of_lt_of_le h.lt hg.size⟩
theorem two_new (w : World) : Two w w.heap.size ((w.alloc (.cells #[.slice none 0 0, .pointer none] 51)).alloc (.cells #[.pointer none, .pointer (some ⟨w.heap.size, 0, none⟩)] 38)) := by
  have hr : Rd (w.alloc (.cells #[.slice none 0 0, .pointer none] 51)) w.heap.size (.slice none 0 0) (.pointer none) := heap_alloc_new w _
  have hL : Left (w.alloc (.cells #[.slice none 0 0, .pointer none] 51)) w.heap.size [] none := ⟨Oct.nil, _, hr, Bs.nil _, fun a n cap hv => by cases hv⟩
  exact ⟨by simp, by simp, ⟨[], hL.alloc _⟩, (alloc_below w _).alloc (by simp) _, by simp⟩

set_option maxHeartbeats 4000000 in
set_option maxRecDepth 100000 in
theorem wireNil (n : Int) (w : World) :
    Calls Try.prog 5 #[.int .i64 n] w fun e w' => e = .returned (.bool true) ∧ Below w.heap.size w w' := by
  have t0 := two_new w
  generalize hW : (w.alloc (.cells #[.slice none 0 0, .pointer none] 51)).alloc (.cells #[.pointer none, .pointer (some ⟨w.heap.size, 0, none⟩)] 38) = W0 at *
  have HW := Lib.hid hW
  clear hW
  have T0 := Lib.hid t0
  have q0 := t0.c0
  clear t0
  go_enter Try.func5, Try.ntmps5
  go_wp2_with fail
  rw [HW.out]
  refine wp_loop_rounds 3 ?_
  rw [rounds_succ]
  go_wp2_with fail
  refine (rdrNumber_nil _).mono ?_; rintro e w1 ⟨rfl, b⟩
  have T1 := Lib.hid ((T0.out).past b)
  have p1 := (T1.out).c0
  clear b q0
  go_wp2_with fail
  refine (rdrBytes_nil _).mono ?_; rintro e w2 ⟨rfl, b⟩
  have T2 := Lib.hid ((T1.out).past b)
  have p2 := (T2.out).c0
  clear b p1
  go_wp2_with fail
  refine (rdrEntry_nil _).mono ?_; rintro e w3 ⟨rfl, b⟩
  have T3 := Lib.hid ((T2.out).past b)
  have p3 := (T3.out).c0
  clear b p2
  go_wp2_with fail
  refine (sameEnt 0 0 0 0 false [] _ _ _ (Bs.nil _) (Bs.nil _)).mono ?_; rintro e w4 ⟨rfl, b⟩
  have T4 := Lib.hid ((T3.out).past b)
  have p4 := (T4.out).c0
  clear b p3
  go_wp2_with fail
  refine (bad_nil _).mono ?_; rintro e w' ⟨rfl, rfl⟩
  go_wp2_with fail
  refine (done_nil _).mono ?_; rintro e w' ⟨rfl, rfl⟩
  go_wp2_with fail
  rw [rounds_succ]
  have r4 := (T4.out).c1
  clear p4
  have m5 := Lib.hid (badNumber _ _ (T4.out).rd)
  go_wp2_with fail
  refine (m5.out).mono ?_; rintro e w5 ⟨rfl, hr, hg⟩
  have T5 := Lib.hid ((T4.out).read hr hg)
  have r5 := (T5.out).c1
  have m6 := Lib.hid (badBytes _ _ (T5.out).rd)
  clear hr hg r4 m5
  go_wp2_with fail
  refine (m6.out).mono ?_; rintro e w6 ⟨a6, c6, rfl, hr, hg⟩
  have T6 := Lib.hid ((T5.out).read hr hg)
  have r6 := (T6.out).c1
  have m7 := Lib.hid (badEntry _ _ (T6.out).rd)
  clear hr hg r5 m6
  go_wp2_with fail
  refine (m7.out).mono ?_; rintro e w7 ⟨a7, c7, rfl, ho, hr, hg⟩
  have T7 := Lib.hid ((T6.out).read hr hg)
  have m8 := Lib.hid (sameEnt 0 0 0 0 false [] _ _ _ ho (Bs.nil _))
  clear hr hg r6 m7 ho
  go_wp2_with fail
  refine (m8.out).mono ?_; rintro e w8 ⟨rfl, b⟩
  have T8 := Lib.hid ((T7.out).past b)
  have r8 := (T8.out).c1
  have d8 := Lib.hid (bad _ none _ (T8.out).rd)
  have e8 := Lib.hid (done _ none _ (T8.out).rd)
  clear b m8
  go_wp2_with fail
  refine (d8.out).mono ?_; rintro e w' ⟨rfl, rfl⟩
  go_wp2_with fail
  refine (e8.out).mono ?_; rintro e w' ⟨rfl, rfl⟩
  go_wp2_with fail
  rw [rounds_succ]
  go_wp2_with fail
  refine (wireNumber n _).mono ?_; rintro e w9 ⟨v9, rfl, o9, b9⟩
  go_wp2_with fail
  refine (refNumber n _).mono ?_; rintro e w10 ⟨v10, rfl, o10, b10⟩
  have m11 := Lib.hid (sameBytes_yes (o9.bs.past b10) o10.bs rfl)
  have B9 := Lib.hid b9
  have B10 := Lib.hid b10
  clear b9 b10 o9 o10
  go_wp2_with fail
  refine (m11.out).mono ?_; rintro e w11 ⟨rfl, b11⟩
  have B11 := Lib.hid b11
  clear b11
  go_wp2_with fail
  refine (awake _).mono ?_; rintro e w12 ⟨rfl, b12⟩
  go_wp2_with fail
  go_ret
  exact ⟨rfl, bel_trans (bel_trans (bel_trans (bel_trans (T8.out).below B9.out) B10.out) B11.out) b12⟩
end Go.Proofs.Ytggbpdkejkmakaa
