/- WirePuts: what is written, whatever it is, is what the document tells; it stays, and lies apart. -/
import Derived.Test.YtggbpdkejkmakaaGreatLentEnt
import Derived.Test.YtggbpdkejkmakaaGreatApartB
import Derived.Deep.RegionHeld3
import Derived.Deep.DeepCutAuto
namespace Go.Proofs.YtggbpdkejkmakaaGreat
open Go.RowKit
set_option linter.unusedVariables false
set_option linter.unusedSimpArgs false

theorem blk_below {w w' : World} {b : Nat} {c0 c1 c2 c3 c4 c5 : Value} (h : Blk w b c0 c1 c2 c3 c4 c5) (hb : Below w.heap.size w w') : Blk w' b c0 c1 c2 c3 c4 c5 := h.keep (below_grownBy hb none) (fun e => by cases e)

set_option maxHeartbeats 4000000 in
set_option maxRecDepth 100000 in
theorem wirePuts_far (n t k v s : Int) (g : Bool) (l d : List Int) (ub ud : Value) (w : World) (hb : Bs w ub l) (hd : Bs w ud d) (hfar : 20000 < l.length ∨ 20000 < d.length) :
    Calls Tryz.prog 5 #[.int .i64 n, ub, .agg #[.int .i64 t, .int .u8 k, .int .i64 v, .int .i64 s, .bool g, ud]] w fun e w' => e = .returned (.bool true) ∧ Below w.heap.size w w' := by
  obtain ⟨ab, cb, hsb⟩ := hb.shape
  obtain ⟨ad, cd, hsd⟩ := hd.shape
  have lb := hb.len
  have ld := hd.len
  subst hsb hsd
  clear hb hd
  generalize l.length = nb at *
  generalize d.length = nd at *
  by_cases h1 : 20000 < nb
  · go_enter Tryz.func5, Tryz.ntmps5
    go_wp2_with fail
    refine (awake _).mono ?_; rintro e w1 ⟨rfl, b1⟩
    go_wp2_with fail
    go_ret
    exact ⟨rfl, below_alloc b1⟩
  · have h2 : 20000 < nd := by omega
    go_enter Tryz.func5, Tryz.ntmps5
    go_wp2_with fail
    refine (awake _).mono ?_; rintro e w1 ⟨rfl, b1⟩
    go_wp2_with fail
    go_ret
    exact ⟨rfl, below_alloc b1⟩

theorem Bs.drew' {w : World} {v : Value} {l : List Int} (h : Bs w v l) : Bs w.drew v l := h.drewN 1

/-- append, of bytes to a row of the call's own, inside a region that draws its order. -/
theorem step_append_bs {w : World} {ops : Array Oper} {o : Oper} {a : Act} {K : Act → World → Prop} {Q : Exit → Act → World → Prop} {E : Prop} (hgd : o.guard = none) (s x : Operand)
    (ho : o.op = .call { callee := .builtin .append, args := #[s, x], argTypes := #[23, 23] })
    (base : Nat) (v : Value) (xs : List Int) (hs : a.eval s = v) (hown : Own w base v xs) (u : Value) (ys : List Int) (hx : a.eval x = u) (hu : Bs w u ys) (hpos : 0 < ys.length) (p : Nat) (hp : xs.length + ys.length = p)
    (hlen : p ≤ 140737488355328) (hbase : base ≤ w.heap.size)
    (h : ∀ ao cap w', Own w' base (.slice ao p cap) (xs ++ ys) → w.grownBy w' v.ownBlock → K (a.put o.dst (.slice ao p cap)) w') :
    if Region.wanted o (yielded ops a.tmps) = true then Oper.wp Tryz.prog o a w K Q else E := by
  have hw : Region.wanted o (yielded ops a.tmps) = true := by simp [Region.wanted, hgd]
  rw [if_pos hw]
  obtain ⟨b, off, cap, rfl, -, -, -, cells⟩ := hu.at hpos
  obtain ⟨v', w', hrun, r1, r2⟩ := run_append_two w base o.type v xs hown ⟨b, off, none⟩ cap ys hpos (fun j hj => by rw [add_none]; exact cells j hj) (by omega) hbase
  obtain ⟨ao, c, rfl⟩ := r1.bs.shape
  rw [List.length_append, hp] at r1 hrun
  have hg : w.grownBy w' v.ownBlock := by
    rcases r2 with ⟨g, n, c', rfl, _, hg⟩ | ⟨_, hg⟩
    · exact hg
    · exact ⟨hg.os, hg.tape, hg.output, hg.size, fun k hk _ => hg.block k hk (by simp)⟩
  unfold Oper.wp
  simp [execOp, ho, resolve, invoke, builtin, hs, hx, hrun, Result.andThen]
  exact h _ _ _ r1 hg
theorem six_grown {w w' : World} {row : Option Nat} {B b : Nat} {c0 c1 c2 c3 c4 c5 : Value} (hg : w.grownBy w' row) (hrow : ∀ X, row = some X → B ≤ X) (hB : b < B)
    (h : w.cell? ⟨b, 0, none⟩ = some c0 ∧ w.cell? ⟨b, 1, none⟩ = some c1 ∧ w.cell? ⟨b, 2, none⟩ = some c2 ∧ w.cell? ⟨b, 3, none⟩ = some c3 ∧ w.cell? ⟨b, 4, none⟩ = some c4 ∧ w.cell? ⟨b, 5, none⟩ = some c5) :
    w'.cell? ⟨b, 0, none⟩ = some c0 ∧ w'.cell? ⟨b, 1, none⟩ = some c1 ∧ w'.cell? ⟨b, 2, none⟩ = some c2 ∧ w'.cell? ⟨b, 3, none⟩ = some c3 ∧ w'.cell? ⟨b, 4, none⟩ = some c4 ∧ w'.cell? ⟨b, 5, none⟩ = some c5 := by
  have hn : some b ≠ row := fun e => by have := hrow b e.symm; omega
  obtain ⟨h0, h1, h2, h3, h4, h5⟩ := h
  exact ⟨hg.cell (a := ⟨b, 0, none⟩) h0 hn, hg.cell (a := ⟨b, 1, none⟩) h1 hn, hg.cell (a := ⟨b, 2, none⟩) h2 hn, hg.cell (a := ⟨b, 3, none⟩) h3 hn, hg.cell (a := ⟨b, 4, none⟩) h4 hn, hg.cell (a := ⟨b, 5, none⟩) h5 hn⟩

theorem dA {w w' : World} {o : Obj} (h : Below (w.alloc o).drew.heap.size (w.alloc o).drew w') : Below w.heap.size w w' := below_alloc (o := o) ⟨h.os, h.tape, h.output, h.size, h.block⟩
theorem dB {w w' : World} (h : Below w.drew.heap.size w.drew w') : Below w.heap.size w w' := ⟨h.os, h.tape, h.output, h.size, h.block⟩

/-- An empty row, made. -/
theorem made_drew (w : World) : Own (w.alloc (.cells #[] 5)).drew w.heap.size (.slice (some ⟨w.heap.size, 0, none⟩) 0 0) [] := World.ownsRow_made w #[] 0 (Nat.le_refl _) (Nat.zero_le _) rfl
theorem made_now (w : World) (base : Nat) (h : base ≤ w.heap.size) : Own (w.alloc (.cells #[] 5)) base (.slice (some ⟨w.heap.size, 0, none⟩) 0 0) [] := World.ownsRow_made w #[] 0 h (Nat.zero_le _) rfl

/-- A row of the call's own in a block from lo on, below hi. -/
def Row (w : World) (lo hi : Nat) (v : Value) (l : List Int) : Prop := Own w lo v l ∧ (∀ Y, v.ownBlock = some Y → Y < hi) ∧ hi ≤ w.heap.size ∧ lo ≤ hi
theorem Row.past {w w' : World} {lo hi : Nat} {v : Value} {l : List Int} (h : Row w lo hi v l) (hb : Below w.heap.size w w') : Row w' lo hi v l := ⟨h.1.below hb (Nat.le_refl _), h.2.1, Nat.le_trans h.2.2.1 hb.size, h.2.2.2⟩
theorem Row.of {w w' : World} {v : Value} {l : List Int} (h : Own w' w.heap.size v l) (hb : Below w.heap.size w w') : Row w' w.heap.size w'.heap.size v l := ⟨h, fun Y hY => (h.lt Y hY).2, Nat.le_refl _, hb.size⟩
theorem Row.bs {w : World} {lo hi : Nat} {v : Value} {l : List Int} (h : Row w lo hi v l) : Bs w v l := h.1.bs

structure R1 (w W : World) (ub ud va vd : Value) (l d : List Int) (E : Nat) (t k v s : Int) (g : Bool) : Prop where
  below : Below w.heap.size w W
  x : Blk W w.heap.size (.int .i64 t) (.int .u8 k) (.int .i64 v) (.int .i64 s) (.bool g) ud
  b : Bs W ub l
  dd : Bs W ud d
  e : Blk W E (.int .i64 t) (.int .u8 k) (.int .i64 v) (.int .i64 s) (.bool g) vd
  la : Lent W w.heap.size va l
  ld : Lent W w.heap.size vd d
theorem R1.past {w W W' : World} {ub ud va vd : Value} {l d : List Int} {E : Nat} {t k v s : Int} {g : Bool} (h : R1 w W ub ud va vd l d E t k v s g) (hb : Below W.heap.size W W') : R1 w W' ub ud va vd l d E t k v s g :=
  ⟨h.below.trans (hb.mono h.below.size), blk_below h.x hb, h.b.past hb, h.dd.past hb, blk_below h.e hb, h.la.past hb, h.ld.past hb⟩
/-- .. and what is written. -/
structure R2 (w W : World) (ub ud va vd : Value) (l d : List Int) (E : Nat) (n t k v s : Int) (g : Bool) (vp vq vr : Value) (lo1 hi1 lo2 hi2 lo3 hi3 : Nat) : Prop where
  r1 : R1 w W ub ud va vd l d E t k v s g
  p : Row W lo1 hi1 vp (num8 n)
  q : Row W lo2 hi2 vq (len8 l)
  r : Row W lo3 hi3 vr (ent8 t k v s g d)
  o0 : w.heap.size ≤ lo1
  o1 : hi1 ≤ lo2
  o2 : hi2 ≤ lo3
theorem R2.past {w W W' : World} {ub ud va vd : Value} {l d : List Int} {E : Nat} {n t k v s : Int} {g : Bool} {vp vq vr : Value} {lo1 hi1 lo2 hi2 lo3 hi3 : Nat} (h : R2 w W ub ud va vd l d E n t k v s g vp vq vr lo1 hi1 lo2 hi2 lo3 hi3) (hb : Below W.heap.size W W') : R2 w W' ub ud va vd l d E n t k v s g vp vq vr lo1 hi1 lo2 hi2 lo3 hi3 :=
  ⟨h.r1.past hb, h.p.past hb, h.q.past hb, h.r.past hb, h.o0, h.o1, h.o2⟩

/-- .. and lent again, and joined. -/
structure R3 (w W : World) (ub ud va vd : Value) (l d : List Int) (E : Nat) (n t k v s : Int) (g : Bool) (vp vq vr : Value) (lo1 hi1 lo2 hi2 lo3 hi3 : Nat) (x1 x2 x3 x4 x5 : Value) (lo4 hi4 : Nat) (cat : List Int) : Prop where
  r2 : R2 w W ub ud va vd l d E n t k v s g vp vq vr lo1 hi1 lo2 hi2 lo3 hi3
  lp : Lent W w.heap.size x1 (num8 n)
  lq : Lent W w.heap.size x2 (len8 l)
  lr : Lent W w.heap.size x3 (ent8 t k v s g d)
  all : Row W lo4 hi4 x4 cat
  want : Bs W x5 cat
  o3 : hi3 ≤ lo4
theorem R3.past {w W W' : World} {ub ud va vd : Value} {l d : List Int} {E : Nat} {n t k v s : Int} {g : Bool} {vp vq vr : Value} {lo1 hi1 lo2 hi2 lo3 hi3 : Nat} {x1 x2 x3 x4 x5 : Value} {lo4 hi4 : Nat} {cat : List Int} (h : R3 w W ub ud va vd l d E n t k v s g vp vq vr lo1 hi1 lo2 hi2 lo3 hi3 x1 x2 x3 x4 x5 lo4 hi4 cat) (hb : Below W.heap.size W W') : R3 w W' ub ud va vd l d E n t k v s g vp vq vr lo1 hi1 lo2 hi2 lo3 hi3 x1 x2 x3 x4 x5 lo4 hi4 cat :=
  ⟨h.r2.past hb, h.lp.past hb, h.lq.past hb, h.lr.past hb, h.all.past hb, h.want.past hb, h.o3⟩
theorem Lends.shaped {l : List Int} {w w' : World} {e : Ending} (h : Lends l w e w') {n : Nat} (hn : l.length = n) : ∃ g, e = .returned (.slice (some ⟨g, 0, none⟩) n (n + 12)) ∧ Lent w' w.heap.size (.slice (some ⟨g, 0, none⟩) n (n + 12)) l ∧ Below w.heap.size w w' := by
  obtain ⟨v, rfl, hl, hb⟩ := h
  obtain ⟨g, rfl, h1, h2, h3⟩ := hl
  subst hn
  exact ⟨g, rfl, ⟨g, rfl, h1, h2, h3⟩, hb⟩
theorem all_four {w : World} {v0 v1 v2 v3 : Value} {x0 x1 x2 x3 : List Int} (h0 : Bs w v0 x0) (h1 : Bs w v1 x1) (h2 : Bs w v2 x2) (h3 : Bs w v3 x3) : All w [v0, v1, v2, v3] [x0, x1, x2, x3] :=
  ⟨rfl, fun j hj => by
    match j, hj with
    | 0, _ => exact h0
    | 1, _ => exact h1
    | 2, _ => exact h2
    | 3, _ => exact h3⟩
theorem joinFour {w : World} {v1 v2 v3 : Value} {x y z : List Int} (h1 : Bs w v1 x) (h2 : Bs w v2 y) (h3 : Bs w v3 z) (p : Nat) (hp : ([] ++ x ++ y ++ z).length = p) (hlen : p ≤ 1000000) :
    Calls Tryz.prog 15 #[.slice (some ⟨w.heap.size, 0, none⟩) 4 4] (w.alloc (.cells #[v1, v2, .slice none 0 0, v3] 23)) fun e w' =>
      ∃ a c, e = .returned (.slice a p c) ∧ Own w' (w.alloc (.cells #[v1, v2, .slice none 0 0, v3] 23)).heap.size (.slice a p c) ([] ++ x ++ y ++ z) ∧ Below w.heap.size w w' := by
  have e : [x, y, [], z].flatten = [] ++ x ++ y ++ z := by simp
  have := join (.slice (some ⟨w.heap.size, 0, none⟩) 4 4) [v1, v2, .slice none 0 0, v3] [x, y, [], z] (w.alloc (.cells #[v1, v2, .slice none 0 0, v3] 23)) (vals_lit w [v1, v2, .slice none 0 0, v3] (by simp)) (all_four (h1.alloc _) (h2.alloc _) ((Bs.nil w).alloc _) (h3.alloc _)) (by rw [e, hp]; omega)
  rw [e] at this
  refine this.mono fun e w' h => ?_
  obtain ⟨a, c, he, ho, hb⟩ := h.shaped hp
  exact ⟨a, c, he, ho, below_alloc hb⟩
theorem joinOne {w : World} {v : Value} {x : List Int} (h : Bs w v x) (p : Nat) (hp : x.length = p) (hlen : p ≤ 1000000) :
    Calls Tryz.prog 15 #[.slice (some ⟨w.heap.size, 0, none⟩) 1 1] (w.alloc (.cells #[v] 23)) fun e w' =>
      ∃ a c, e = .returned (.slice a p c) ∧ Own w' (w.alloc (.cells #[v] 23)).heap.size (.slice a p c) x ∧ Below w.heap.size w w' := by
  have e : [x].flatten = x := by simp
  have := join (.slice (some ⟨w.heap.size, 0, none⟩) 1 1) [v] [x] (w.alloc (.cells #[v] 23)) (vals_lit w [v] (by simp)) ⟨rfl, fun j hj => by
    obtain rfl : j = 0 := by simpa using hj
    exact h.alloc _⟩ (by rw [e, hp]; omega)
  rw [e] at this
  refine this.mono fun e w' h => ?_
  obtain ⟨a, c, he, ho, hb⟩ := h.shaped hp
  exact ⟨a, c, he, ho, below_alloc hb⟩
theorem joinNone (w : World) : Calls Tryz.prog 15 #[.slice none 0 0] w fun e w' => ∃ a c, e = .returned (.slice a 0 c) ∧ Below w.heap.size w w' := by
  refine (join (.slice none 0 0) [] [] w (Vals.nil w) ⟨rfl, fun j hj => by cases hj⟩ (by simp)).mono fun e w' h => ?_
  obtain ⟨a, c, he, ho, hb⟩ := h.shaped (n := 0) rfl
  exact ⟨a, c, he, hb⟩

def nums6 (a b c d e f : Nat) (j : Nat) : Nat := [a, b, c, d, e, f].getD j 0
theorem apartSix {W : World} {B lo1 hi1 lo2 hi2 lo3 hi3 lo4 hi4 lo5 hi5 lo6 hi6 : Nat} {v1 v2 v3 v4 v5 v6 : Value} {x1 x2 x3 x4 x5 x6 : List Int} (r1 : Row W lo1 hi1 v1 x1) (r2 : Row W lo2 hi2 v2 x2) (r3 : Row W lo3 hi3 v3 x3) (r4 : Row W lo4 hi4 v4 x4) (r5 : Row W lo5 hi5 v5 x5) (r6 : Row W lo6 hi6 v6 x6)
    (b : B ≤ lo1) (o1 : hi1 ≤ lo2) (o2 : hi2 ≤ lo3) (o3 : hi3 ≤ lo4) (o4 : hi4 ≤ lo5) (o5 : hi5 ≤ lo6) : Rowy W B (vth [v1, v2, v3, v4, v5, v6]) 6 (nums6 x1.length x2.length x3.length x4.length x5.length x6.length) := by
  have m1 := r1.2.2.2
  have m2 := r2.2.2.2
  have m3 := r3.2.2.2
  have m4 := r4.2.2.2
  have m5 := r5.2.2.2
  have m6 := r6.2.2.2
  have key : ∀ j, j < 6 → ∃ lo hi l, Row W lo hi (vth [v1, v2, v3, v4, v5, v6] j) l ∧ l.length = nums6 x1.length x2.length x3.length x4.length x5.length x6.length j ∧ B ≤ lo ∧
      (j = 0 → lo = lo1 ∧ hi = hi1) ∧ (j = 1 → lo = lo2 ∧ hi = hi2) ∧ (j = 2 → lo = lo3 ∧ hi = hi3) ∧ (j = 3 → lo = lo4 ∧ hi = hi4) ∧ (j = 4 → lo = lo5 ∧ hi = hi5) ∧ (j = 5 → lo = lo6 ∧ hi = hi6) := fun j hj => by
    match j, hj with
    | 0, _ => exact ⟨lo1, hi1, x1, r1, rfl, by omega, by simp⟩
    | 1, _ => exact ⟨lo2, hi2, x2, r2, rfl, by omega, by simp⟩
    | 2, _ => exact ⟨lo3, hi3, x3, r3, rfl, by omega, by simp⟩
    | 3, _ => exact ⟨lo4, hi4, x4, r4, rfl, by omega, by simp⟩
    | 4, _ => exact ⟨lo5, hi5, x5, r5, rfl, by omega, by simp⟩
    | 5, _ => exact ⟨lo6, hi6, x6, r6, rfl, by omega, by simp⟩
  refine ⟨fun j hj => ?_, fun i j hi hj hne Y ha hb => ?_⟩
  · obtain ⟨lo, hi, l, hr, hl, hB, _⟩ := key j hj
    exact ⟨l, hl, hr.1.mono hB⟩
  · obtain ⟨lo, hi', l, hr, _, _, c0, c1, c2, c3, c4, c5⟩ := key i hi
    obtain ⟨lo', hi'', l', hr', _, _, d0, d1, d2, d3, d4, d5⟩ := key j hj
    have e1 := (hr.1.lt Y ha).1
    have e2 := hr.2.1 Y ha
    have e3 := (hr'.1.lt Y hb).1
    have e4 := hr'.2.1 Y hb
    omega

theorem six_past {w w' : World} {b : Nat} {c0 c1 c2 c3 c4 c5 : Value} (hb : Below w.heap.size w w')
    (h : w.cell? ⟨b, 0, none⟩ = some c0 ∧ w.cell? ⟨b, 1, none⟩ = some c1 ∧ w.cell? ⟨b, 2, none⟩ = some c2 ∧ w.cell? ⟨b, 3, none⟩ = some c3 ∧ w.cell? ⟨b, 4, none⟩ = some c4 ∧ w.cell? ⟨b, 5, none⟩ = some c5) :
    w'.cell? ⟨b, 0, none⟩ = some c0 ∧ w'.cell? ⟨b, 1, none⟩ = some c1 ∧ w'.cell? ⟨b, 2, none⟩ = some c2 ∧ w'.cell? ⟨b, 3, none⟩ = some c3 ∧ w'.cell? ⟨b, 4, none⟩ = some c4 ∧ w'.cell? ⟨b, 5, none⟩ = some c5 := by
  obtain ⟨h0, h1, h2, h3, h4, h5⟩ := h
  have hB : b < w.heap.size := World.block_lt_of_cell? w _ h0
  exact ⟨(hb.cell (p := ⟨b, 0, none⟩) hB).trans h0, (hb.cell (p := ⟨b, 1, none⟩) hB).trans h1, (hb.cell (p := ⟨b, 2, none⟩) hB).trans h2, (hb.cell (p := ⟨b, 3, none⟩) hB).trans h3, (hb.cell (p := ⟨b, 4, none⟩) hB).trans h4, (hb.cell (p := ⟨b, 5, none⟩) hB).trans h5⟩

theorem blk_drew {w : World} {b : Nat} {c0 c1 c2 c3 c4 c5 : Value} (h : Blk w b c0 c1 c2 c3 c4 c5) : Blk w.drew b c0 c1 c2 c3 c4 c5 := h
theorem six_alloc {w : World} {o : Obj} {b : Nat} {c0 c1 c2 c3 c4 c5 : Value}
    (h : w.cell? ⟨b, 0, none⟩ = some c0 ∧ w.cell? ⟨b, 1, none⟩ = some c1 ∧ w.cell? ⟨b, 2, none⟩ = some c2 ∧ w.cell? ⟨b, 3, none⟩ = some c3 ∧ w.cell? ⟨b, 4, none⟩ = some c4 ∧ w.cell? ⟨b, 5, none⟩ = some c5) :
    (w.alloc o).cell? ⟨b, 0, none⟩ = some c0 ∧ (w.alloc o).cell? ⟨b, 1, none⟩ = some c1 ∧ (w.alloc o).cell? ⟨b, 2, none⟩ = some c2 ∧ (w.alloc o).cell? ⟨b, 3, none⟩ = some c3 ∧ (w.alloc o).cell? ⟨b, 4, none⟩ = some c4 ∧ (w.alloc o).cell? ⟨b, 5, none⟩ = some c5 := six_past (alloc_below w o) h
theorem six_wrote {w : World} {E b : Nat} {c0 c1 c2 c3 c4 c5 u0 u1 u2 u3 u4 u5 : Value} (hne : E ≠ b)
    (h : w.cell? ⟨b, 0, none⟩ = some c0 ∧ w.cell? ⟨b, 1, none⟩ = some c1 ∧ w.cell? ⟨b, 2, none⟩ = some c2 ∧ w.cell? ⟨b, 3, none⟩ = some c3 ∧ w.cell? ⟨b, 4, none⟩ = some c4 ∧ w.cell? ⟨b, 5, none⟩ = some c5) :
    ((((((w.setCell ⟨E, 0, none⟩ u0).setCell ⟨E, 1, none⟩ u1).setCell ⟨E, 2, none⟩ u2).setCell ⟨E, 3, none⟩ u3).setCell ⟨E, 4, none⟩ u4).setCell ⟨E, 5, none⟩ u5).cell? ⟨b, 0, none⟩ = some c0 ∧ ((((((w.setCell ⟨E, 0, none⟩ u0).setCell ⟨E, 1, none⟩ u1).setCell ⟨E, 2, none⟩ u2).setCell ⟨E, 3, none⟩ u3).setCell ⟨E, 4, none⟩ u4).setCell ⟨E, 5, none⟩ u5).cell? ⟨b, 1, none⟩ = some c1 ∧ ((((((w.setCell ⟨E, 0, none⟩ u0).setCell ⟨E, 1, none⟩ u1).setCell ⟨E, 2, none⟩ u2).setCell ⟨E, 3, none⟩ u3).setCell ⟨E, 4, none⟩ u4).setCell ⟨E, 5, none⟩ u5).cell? ⟨b, 2, none⟩ = some c2 ∧ ((((((w.setCell ⟨E, 0, none⟩ u0).setCell ⟨E, 1, none⟩ u1).setCell ⟨E, 2, none⟩ u2).setCell ⟨E, 3, none⟩ u3).setCell ⟨E, 4, none⟩ u4).setCell ⟨E, 5, none⟩ u5).cell? ⟨b, 3, none⟩ = some c3 ∧ ((((((w.setCell ⟨E, 0, none⟩ u0).setCell ⟨E, 1, none⟩ u1).setCell ⟨E, 2, none⟩ u2).setCell ⟨E, 3, none⟩ u3).setCell ⟨E, 4, none⟩ u4).setCell ⟨E, 5, none⟩ u5).cell? ⟨b, 4, none⟩ = some c4 ∧ ((((((w.setCell ⟨E, 0, none⟩ u0).setCell ⟨E, 1, none⟩ u1).setCell ⟨E, 2, none⟩ u2).setCell ⟨E, 3, none⟩ u3).setCell ⟨E, 4, none⟩ u4).setCell ⟨E, 5, none⟩ u5).cell? ⟨b, 5, none⟩ = some c5 := by
  have hg := wrote_grown w E u0 u1 u2 u3 u4 u5
  have hn : some b ≠ some E := fun e => hne (Option.some.inj e).symm
  obtain ⟨h0, h1, h2, h3, h4, h5⟩ := h
  exact ⟨hg.cell (a := ⟨b, 0, none⟩) h0 hn, hg.cell (a := ⟨b, 1, none⟩) h1 hn, hg.cell (a := ⟨b, 2, none⟩) h2 hn, hg.cell (a := ⟨b, 3, none⟩) h3 hn, hg.cell (a := ⟨b, 4, none⟩) h4 hn, hg.cell (a := ⟨b, 5, none⟩) h5 hn⟩
theorem six_drew {w : World} {b : Nat} {c0 c1 c2 c3 c4 c5 : Value}
    (h : w.cell? ⟨b, 0, none⟩ = some c0 ∧ w.cell? ⟨b, 1, none⟩ = some c1 ∧ w.cell? ⟨b, 2, none⟩ = some c2 ∧ w.cell? ⟨b, 3, none⟩ = some c3 ∧ w.cell? ⟨b, 4, none⟩ = some c4 ∧ w.cell? ⟨b, 5, none⟩ = some c5) :
    w.drew.cell? ⟨b, 0, none⟩ = some c0 ∧ w.drew.cell? ⟨b, 1, none⟩ = some c1 ∧ w.drew.cell? ⟨b, 2, none⟩ = some c2 ∧ w.drew.cell? ⟨b, 3, none⟩ = some c3 ∧ w.drew.cell? ⟨b, 4, none⟩ = some c4 ∧ w.drew.cell? ⟨b, 5, none⟩ = some c5 := h

theorem lent_grown {w w' : World} {base E : Nat} {v : Value} {l : List Int} {c0 c1 c2 c3 c4 c5 : Value} (h : Lent w base v l) (hZ : Blk w E c0 c1 c2 c3 c4 c5) (hg : w.grownBy w' (some E)) : Lent w' base v l := by
  obtain ⟨g, hv, h1, h2, hr⟩ := h
  refine ⟨g, hv, h1, h2, (hg.block g (Array.getElem?_eq_some_iff.1 hr).1 (fun e => ?_)).trans hr⟩
  have e' : g = E := Option.some.inj e
  subst e'
  unfold Blk at hZ
  rw [hr] at hZ
  simp at hZ
theorem r1_wrote {w W w2 : World} {ub ud va vd : Value} {l d : List Int} {E : Nat} {t k v s : Int} {g : Bool} {z0 z1 z2 z3 z4 z5 : Value} (hb : Below w.heap.size w W) (hx : Blk W w.heap.size (.int .i64 t) (.int .u8 k) (.int .i64 v) (.int .i64 s) (.bool g) ud) (h1 : Bs W ub l) (h2 : Bs W ud d)
    (c : Below W.heap.size W w2) (la : Lent w2 w.heap.size va l) (ld : Lent w2 w.heap.size vd d) (hE : W.heap.size ≤ E) (hZ : Blk w2 E z0 z1 z2 z3 z4 z5) : R1 w (wrote w2 E (.int .i64 t) (.int .u8 k) (.int .i64 v) (.int .i64 s) (.bool g) vd) ub ud va vd l d E t k v s g := by
  have hg := wrote_grown w2 E (.int .i64 t) (.int .u8 k) (.int .i64 v) (.int .i64 s) (.bool g) vd
  have c' : Below W.heap.size W (wrote w2 E (.int .i64 t) (.int .u8 k) (.int .i64 v) (.int .i64 s) (.bool g) vd) := c.grown hg c.size (fun k hk => by cases hk; exact hE)
  exact ⟨hb.trans (c'.mono hb.size), blk_below hx c', h1.past c', h2.past c', wrote_blk hZ _ _ _ _ _ _, lent_grown la hZ hg, lent_grown ld hZ hg⟩
theorem r1_alloc {w W w2 : World} {ub ud va vd : Value} {l d : List Int} {t k v s : Int} {g : Bool} (hb : Below w.heap.size w W) (hx : Blk W w.heap.size (.int .i64 t) (.int .u8 k) (.int .i64 v) (.int .i64 s) (.bool g) ud) (h1 : Bs W ub l) (h2 : Bs W ud d)
    (c : Below W.heap.size W w2) (la : Lent w2 w.heap.size va l) (ld : Lent w2 w.heap.size vd d) : R1 w (w2.alloc (.cells #[.int .i64 t, .int .u8 k, .int .i64 v, .int .i64 s, .bool g, vd] 28)) ub ud va vd l d w2.heap.size t k v s g := by
  have ha := alloc_below w2 (.cells #[.int .i64 t, .int .u8 k, .int .i64 v, .int .i64 s, .bool g, vd] 28)
  have c' := c.trans (ha.mono c.size)
  exact ⟨hb.trans (c'.mono hb.size), blk_below hx c', h1.past c', h2.past c', heap_alloc_new w2 _, la.past ha, ld.past ha⟩
theorem Lent.mono {w : World} {base base' : Nat} {v : Value} {l : List Int} (h : Lent w base v l) (hb : base' ≤ base) : Lent w base' v l := by
  obtain ⟨g, hv, h1, h2, hr⟩ := h
  exact ⟨g, hv, Nat.le_trans hb h1, h2, hr⟩
theorem blk_lt {w : World} {b : Nat} {c0 c1 c2 c3 c4 c5 : Value} (h : Blk w b c0 c1 c2 c3 c4 c5) : b < w.heap.size := (Array.getElem?_eq_some_iff.1 h).1

/-- The cells of the entry that came in. -/
def Six (W : World) (X : Nat) (t k v s : Int) (g : Bool) (u : Value) : Prop := Blk W X (.int .i64 t) (.int .u8 k) (.int .i64 v) (.int .i64 s) (.bool g) u

set_option maxHeartbeats 8000000 in
set_option maxRecDepth 100000 in
theorem wirePuts (n t k v s : Int) (g : Bool) (l d : List Int) (ub ud : Value) (w : World) (hb : Bs w ub l) (hd : Bs w ud d) (hl : l.length ≤ 20000) (hdl : d.length ≤ 20000) (k0 : 0 ≤ k) (k1 : k < 256) :
    Calls Tryz.prog 5 #[.int .i64 n, ub, .agg #[.int .i64 t, .int .u8 k, .int .i64 v, .int .i64 s, .bool g, ud]] w fun e w' => e = .returned (.bool true) ∧ Below w.heap.size w w' := by
  obtain ⟨ab, cb, hsb⟩ := hb.shape
  obtain ⟨ad, cd, hsd⟩ := hd.shape
  subst hsb hsd
  generalize hW : w.alloc (Obj.cells #[.int .i64 t, .int .u8 k, .int .i64 v, .int .i64 s, .bool g, .slice ad d.length cd] 28) = W
  have hbW : Below w.heap.size w W := by rw [← hW]; exact alloc_below w _
  have X0 : Blk W w.heap.size (.int .i64 t) (.int .u8 k) (.int .i64 v) (.int .i64 s) (.bool g) (.slice ad d.length cd) := by rw [← hW]; exact heap_alloc_new w _
  have HB := Lib.hid (hb.past hbW)
  have HD := Lib.hid (hd.past hbW)
  have HW := Lib.hid hW
  have HBW := Lib.hid hbW
  have hXlt : w.heap.size < W.heap.size := (Array.getElem?_eq_some_iff.1 X0).1
  have HX0 := Lib.hid X0
  obtain ⟨x0, x1, x2, x3, x4, x5⟩ := X0.cells
  have HLN := Lib.hid hl
  have HDN := Lib.hid hdl
  clear hb hd hbW X0 hW
  go_enter Tryz.func5, Tryz.ntmps5
  go_wp2_with fail
  rw [HW.out]
  have LB := fun W (h : Bs W (.slice ab l.length cb) l) => Lib.hid (lentBytes _ l W h (by omega))
  have LE := fun W (h : Bs W (.slice ad d.length cd) d) => Lib.hid (lentEntry t k v s g d _ W h (by omega))
  have S0 := (HX0.out).cells
  have hX0 : W.heap.size ≠ w.heap.size := by omega
  go_upto_region 3 with fail
  go_cut [7, 8] (fun s7 s8 wx => ∃ (a7 : Option Addr) (c7 : Nat) (a8 : Option Addr) (c8 E : Nat), s7 = .slice a7 l.length c7 ∧ s8 = .pointer (some ⟨E, 0, none⟩) ∧ Hid (R1 w wx (.slice ab l.length cb) (.slice ad d.length cd) (.slice a7 l.length c7) (.slice a8 d.length c8) l d E t k v s g))
  case first =>
    go_region_held3 (fun w' => w'.cell? ⟨w.heap.size, 0, none⟩ = some (.int .i64 t) ∧ w'.cell? ⟨w.heap.size, 1, none⟩ = some (.int .u8 k) ∧ w'.cell? ⟨w.heap.size, 2, none⟩ = some (.int .i64 v) ∧ w'.cell? ⟨w.heap.size, 3, none⟩ = some (.int .i64 s) ∧ w'.cell? ⟨w.heap.size, 4, none⟩ = some (.bool g) ∧ w'.cell? ⟨w.heap.size, 5, none⟩ = some (.slice ad d.length cd)) (first | (with_reducible assumption) | (with_reducible exact six_drew S0) | (with_reducible exact six_alloc (by with_reducible assumption)) | (with_reducible exact six_drew (six_alloc S0)) | (with_reducible exact six_drew (six_alloc (by with_reducible assumption))) | (with_reducible exact six_wrote hX0 (by with_reducible assumption)) | (with_reducible exact six_wrote hX1 (by with_reducible assumption))) (first | (go_at_call 9; refine ((LB _ (by first | (with_reducible exact (HB.out).drew') | (with_reducible exact ((HB.out).alloc _).drew'))).out).mono ?_; rintro e w1 ⟨v1, rfl, hl1, b1⟩; obtain ⟨ga, hva, hga, hma, hra⟩ := hl1; have S1 := six_past b1 (by with_reducible assumption); have hX1 : w1.heap.size ≠ w.heap.size := fun e => absurd (World.block_lt_of_cell? _ _ S1.1) (by rw [e]; exact Nat.lt_irrefl _); subst hva; (first | (with_reducible have Z1 := blk_below (blk_drew (blk_new W)) b1) | skip)) | (go_at_call 10; refine ((LE _ (by first | (with_reducible exact ((HD.out).drew').past b1) | (with_reducible exact (((HD.out).alloc _).drew').past b1) | (with_reducible exact (((HD.out).drew').past b1).alloc _))).out).mono ?_; rintro e w2 ⟨a8, c8, rfl, hl2, b2⟩; have S2 := six_past b2 (by with_reducible assumption); (first | ((with_reducible have Z2 := blk_below Z1 b2); obtain ⟨z0, z1, z2, z3, z4, z5⟩ := Z2.cells; have fz := Z2.free) | ((with_reducible have Z2 := blk_below (blk_new w1) b2); obtain ⟨z0, z1, z2, z3, z4, z5⟩ := Z2.cells; have fz := Z2.free) | skip)))
    · have E0 : Below W.heap.size W W.drew := (Below.refl _ _).drew
      have hLa : Lent w1 w.heap.size (.slice (some ⟨ga, 0, none⟩) l.length (l.length + 12)) l := ⟨ga, rfl, Nat.le_trans (Nat.le_of_lt hXlt) hga, hma, hra⟩
      have c1 : Below W.heap.size W w1 := E0.trans b1
      have c2 : Below W.heap.size W w2 := c1.trans (b2.mono c1.size)
      have R := Lib.hid (r1_alloc HBW.out HX0.out HB.out HD.out c2 (hLa.past b2) (hl2.mono (Nat.le_trans (Nat.le_of_lt hXlt) c1.size)))
      go_wp2_with fail
      go_meet
      exact ⟨_, _, _, _, _, rfl, rfl, R⟩
    · have E0 : Below W.heap.size W W.drew := (Below.refl _ _).drew
      have hLa : Lent w1 w.heap.size (.slice (some ⟨ga, 0, none⟩) l.length (l.length + 12)) l := ⟨ga, rfl, Nat.le_trans (Nat.le_of_lt hXlt) hga, hma, hra⟩
      have c1 : Below W.heap.size W w1 := E0.trans b1
      have b2' := below_alloc b2
      have c2 : Below W.heap.size W w2 := c1.trans (b2'.mono c1.size)
      have R := Lib.hid (r1_wrote HBW.out HX0.out HB.out HD.out c2 (hLa.past b2') (hl2.mono (Nat.le_trans (Nat.le_of_lt hXlt) (Nat.le_trans c1.size (by simp)))) c1.size Z2)
      go_wp2_with fail
      go_meet
      exact ⟨_, _, _, _, _, rfl, rfl, R⟩
    · have c0 : Below W.heap.size W (W.alloc (Obj.cells #[Value.int IntKind.i64 0, Value.int IntKind.u8 0, Value.int IntKind.i64 0, Value.int IntKind.i64 0, Value.bool false, Value.slice none 0 0] 28)).drew := (alloc_below W _).drew
      have hLa : Lent w1 w.heap.size (.slice (some ⟨ga, 0, none⟩) l.length (l.length + 12)) l := ⟨ga, rfl, Nat.le_trans (Nat.le_of_lt hXlt) (Nat.le_trans c0.size hga), hma, hra⟩
      have c1 : Below W.heap.size W w1 := c0.trans (b1.mono c0.size)
      have c2 : Below W.heap.size W w2 := c1.trans (b2.mono c1.size)
      have R := Lib.hid (r1_wrote HBW.out HX0.out HB.out HD.out c2 (hLa.past b2) (hl2.mono (Nat.le_trans (Nat.le_of_lt hXlt) c1.size)) (Nat.le_refl _) Z2)
      go_wp2_with fail
      go_meet
      exact ⟨_, _, _, _, _, rfl, rfl, R⟩
  case rest =>
    obtain ⟨a7, c7, a8, c8, E, rfl, rfl, H1⟩ := hcut
    clear x0 x1 x2 x3 x4 x5 S0 LB LE HX0 HB HD HW
    have SE := (H1.out).e.cells
    obtain ⟨e0, e1, e2, e3, e4, e5⟩ := SE
    have SE := (H1.out).e.cells
    have NP := fun W => Lib.hid ((wireNumber n W).mono fun e w' h => h.shaped (n := 8) rfl)
    have NQ := fun W (h : Bs W (.slice a7 l.length c7) l) => Lib.hid ((wireBytes _ l W h (by omega)).mono fun e w' h => h.shaped (len8_length l))
    have NR := fun W (h : Bs W (.slice a8 d.length c8) d) => Lib.hid ((wireEntry t k v s g _ d W h (by omega) k0 k1).mono fun e w' h => h.shaped (ent8_length t k v s g d))
    go_upto_region 4 with fail
    go_region_held3 (fun w' => w'.cell? ⟨E, 0, none⟩ = some (.int .i64 t) ∧ w'.cell? ⟨E, 1, none⟩ = some (.int .u8 k) ∧ w'.cell? ⟨E, 2, none⟩ = some (.int .i64 v) ∧ w'.cell? ⟨E, 3, none⟩ = some (.int .i64 s) ∧ w'.cell? ⟨E, 4, none⟩ = some (.bool g) ∧ w'.cell? ⟨E, 5, none⟩ = some (.slice a8 d.length c8)) (first | (with_reducible assumption) | (with_reducible exact six_drew SE)) (first | (go_at_call 11; refine ((NP _).out).mono ?_; rintro e w1 ⟨a9, c9, rfl, o9, b9⟩; have S1 := six_past b9 (by with_reducible assumption)) | (go_at_call 12; refine ((NQ _ (((H1.out).la.bs.drew').past b9)).out).mono ?_; rintro e w2 ⟨a10, c10, rfl, o10, b10⟩; have S2 := six_past b10 (by with_reducible assumption)) | (go_at_call 13; refine ((NR _ ((((H1.out).ld.bs.drew').past b9).past b10)).out).mono ?_; rintro e w3 ⟨a11, c11, rfl, o11, b11⟩; have S3 := six_past b11 (by with_reducible assumption)))
    have hdr : Below wc.heap.size wc wc.drew := (Below.refl _ _).drew
    have K1 := (H1.out).past hdr
    have H2 := Lib.hid (R2.mk (n := n) (((K1.past b9).past b10).past b11) (((Row.of o9 b9).past b10).past b11) ((Row.of o10 b10).past b11) (Row.of o11 b11) (show w.heap.size ≤ wc.drew.heap.size from (H1.out).below.size) (Nat.le_refl _) (Nat.le_refl _))
    clear K1 hdr S1 S2 S3 o9 o10 o11 NP NQ NR H1 SE e0 e1 e2 e3 e4 e5
    generalize wc.drew.heap.size = lo1 at *
    clear b9
    generalize w1.heap.size = hi1 at *
    clear b10
    generalize w2.heap.size = hi2 at *
    clear b11
    go_wp2_with fail
    have SX := (H2.out).r1.x.cells
    have MN := fun W => Lib.hid ((refNumber n W).mono fun e w' h => h.shaped (n := 8) rfl)
    have MB := fun W (h : Bs W (.slice ab l.length cb) l) => Lib.hid ((refBytes _ l W h (by omega)).mono fun e w' h => h.shaped (len8_length l))
    have ME := fun W (h : Bs W (.slice ad d.length cd) d) => Lib.hid ((refEntry t k v s g _ d W h (by omega) k0 k1).mono fun e w' h => h.shaped (ent8_length t k v s g d))
    have hX3 : w.heap.size < w3.heap.size := blk_lt (H2.out).r1.x
    have HB3 := Lib.hid (H2.out).r1.b
    have HD3 := Lib.hid (H2.out).r1.dd
    have l12 := num8_length n
    have l13 := len8_length l
    have l14 := ent8_length t k v s g d
    go_cut [12] (fun s12 wx => ∃ (aw : Option Addr) (cw : Nat), s12 = .slice aw (64 + l.length + d.length) cw ∧ Hid (Below w3.heap.size w3 wx) ∧ Hid (Bs wx (.slice aw (64 + l.length + d.length) cw) ([] ++ num8 n ++ len8 l ++ ent8 t k v s g d)))
    case first =>
      go_region_held3 (fun w' => w'.cell? ⟨w.heap.size, 0, none⟩ = some (.int .i64 t) ∧ w'.cell? ⟨w.heap.size, 1, none⟩ = some (.int .u8 k) ∧ w'.cell? ⟨w.heap.size, 2, none⟩ = some (.int .i64 v) ∧ w'.cell? ⟨w.heap.size, 3, none⟩ = some (.int .i64 s) ∧ w'.cell? ⟨w.heap.size, 4, none⟩ = some (.bool g) ∧ w'.cell? ⟨w.heap.size, 5, none⟩ = some (.slice ad d.length cd)) (first | (with_reducible assumption) | (with_reducible exact six_drew SX) | (with_reducible exact six_alloc (by with_reducible assumption)) | (with_reducible exact six_drew (six_alloc SX))) (first | (go_at_call 4; refine ((MN _).out).mono ?_; rintro e w4 ⟨a12, c12, rfl, o12, b12⟩; have T1 := six_past b12 (by with_reducible assumption); (first | ((with_reducible have D4 := dA b12); have Z4 := (made_drew w3).below b12 (Nat.le_refl _)) | (with_reducible have D4 := dB b12))) | (refine step_append_bs (by rfl) (.tmp 37) (.tmp 39) (by rfl) w3.heap.size (.slice (some ⟨w3.heap.size, 0, none⟩) 0 0) [] (by rfl) Z4 (.slice a12 8 c12) (num8 n) (by rfl) o12.bs (by rw [l12]; omega) 8 (by rw [l12]; rfl) (by omega) D4.size ?_; intro ao5 c5 w5 o5 g5; have T2 := six_grown g5 (fun X hX => by cases hX; exact Nat.le_refl _) hX3 (by with_reducible assumption); have D5 := (D4).grown g5 D4.size (fun X hX => by cases hX; exact Nat.le_refl _)) | (refine step_append_bs (by rfl) (.tmp 37) (.tmp 39) (by rfl) w3.heap.size (.slice (some ⟨w4.heap.size, 0, none⟩) 0 0) [] (by rfl) (made_now w4 w3.heap.size D4.size) (.slice a12 8 c12) (num8 n) (by rfl) (o12.bs.alloc _) (by rw [l12]; omega) 8 (by rw [l12]; rfl) (by omega) (by have := D4.size; simp; omega) ?_; intro ao5 c5 w5 o5 g5; have T2 := six_grown g5 (fun X hX => by cases hX; exact D4.size) hX3 (by with_reducible assumption); have D5 := (D4.alloc D4.size _).grown g5 (by have := D4.size; simp; omega) (fun X hX => by cases hX; exact D4.size)) | (go_at_call 14; refine ((MB _ (HB3.out.past D5)).out).mono ?_; rintro e w6 ⟨a13, c13, rfl, o13, b13⟩; have T3 := six_past b13 (by with_reducible assumption); have D6 := D5.trans (b13.mono D5.size); have Z6 := o5.below b13 (Nat.le_refl _)) | (refine step_append_bs (by rfl) (.tmp 40) (.tmp 42) (by rfl) w3.heap.size (.slice ao5 8 c5) ([] ++ num8 n) (by rfl) Z6 (.slice a13 (8 + l.length) c13) (len8 l) (by rfl) o13.bs (by rw [l13]; omega) (16 + l.length) (by rw [List.length_append, l12, l13]; simp; omega) (by omega) D6.size ?_; intro ao7 c7 w7 o7 g7; have T4 := six_grown g7 (fun X hX => (Z6.lt X hX).1) hX3 (by with_reducible assumption); have D7 := (D6).grown g7 D6.size (fun X hX => (Z6.lt X hX).1)) | (go_at_call 7; refine ((ME _ (HD3.out.past D7)).out).mono ?_; rintro e w8 ⟨a14, c14, rfl, o14, b14⟩; have T5 := six_past b14 (by with_reducible assumption); have D8 := D7.trans (b14.mono D7.size); have Z8 := o7.below b14 (Nat.le_refl _)) | (refine step_append_bs (by rfl) (.tmp 43) (.tmp 45) (by rfl) w3.heap.size (.slice ao7 (16 + l.length) c7) ([] ++ num8 n ++ len8 l) (by rfl) Z8 (.slice a14 (48 + d.length) c14) (ent8 t k v s g d) (by rfl) o14.bs (by rw [l14]; omega) (64 + l.length + d.length) (by rw [List.length_append, List.length_append, l12, l13, l14]; simp; omega) (by omega) D8.size ?_; intro ao9 c9 w9 o9 g9; have T6 := six_grown g9 (fun X hX => (Z8.lt X hX).1) hX3 (by with_reducible assumption); have D9 := (D8).grown g9 D8.size (fun X hX => (Z8.lt X hX).1)) | fail)
      all_goals
        go_wp2_with fail
        go_meet
        exact ⟨_, _, rfl, Lib.hid D9, Lib.hid o9.bs⟩
    case rest =>
      obtain ⟨aw, cw, rfl, HBW2, HWANT⟩ := hcut
      have A0 := Lib.hid ((H2.out).past HBW2.out)
      have lcat : ([] ++ num8 n ++ len8 l ++ ent8 t k v s g d).length = 64 + l.length + d.length := by
        rw [List.length_append, List.length_append, List.length_append, l12, l13, l14]; simp; omega
      have LCAT := Lib.hid lcat
      have L12 := Lib.hid l12
      have L13 := Lib.hid l13
      have L14 := Lib.hid l14
      generalize hcat : [] ++ num8 n ++ len8 l ++ ent8 t k v s g d = cat at *
      have HCAT := Lib.hid hcat
      clear hcat H2 HBW2 MN MB ME SX HB3 HD3 lcat l12 l13 l14
      have P1 := fun W (h : Bs W (.slice a9 8 c9) (num8 n)) => Lib.hid ((lentBytes _ _ W h (by rw [L12.out]; omega)).mono fun e w' h => h.shaped L12.out)
      have P2 := fun W (h : Bs W (.slice a10 (8 + l.length) c10) (len8 l)) => Lib.hid ((lentBytes _ _ W h (by rw [L13.out]; omega)).mono fun e w' h => h.shaped L13.out)
      have P3 := fun W (h : Bs W (.slice a11 (48 + d.length) c11) (ent8 t k v s g d)) => Lib.hid ((lentBytes _ _ W h (by rw [L14.out]; omega)).mono fun e w' h => h.shaped L14.out)
      have q1 := P1 _ (A0.out).p.bs
      clear P1
      go_wp2_with fail
      refine (q1.out).mono ?_; rintro e y1 ⟨g1, rfl, j1, i1⟩
      have A1 := Lib.hid ((A0.out).past i1)
      have WN1 := Lib.hid ((HWANT.out).past i1)
      have J1 := Lib.hid (j1.mono (A0.out).r1.below.size)
      have q2 := P2 _ (A1.out).q.bs
      clear P2 q1 i1 j1 HWANT
      go_wp2_with fail
      refine (q2.out).mono ?_; rintro e y2 ⟨g2, rfl, j2, i2⟩
      have A2 := Lib.hid ((A1.out).past i2)
      have WN2 := Lib.hid ((WN1.out).past i2)
      have J1b := Lib.hid ((J1.out).past i2)
      have J2 := Lib.hid (j2.mono (A1.out).r1.below.size)
      have q3 := P3 _ (A2.out).r.bs
      clear P3 q2 i2 j2 J1 WN1 A0 A1
      go_wp2_with fail
      refine (q3.out).mono ?_; rintro e y3 ⟨g3, rfl, j3, i3⟩
      have A3 := Lib.hid ((A2.out).past i3)
      have WN3 := Lib.hid ((WN2.out).past i3)
      have J1c := Lib.hid ((J1b.out).past i3)
      have J2c := Lib.hid ((J2.out).past i3)
      have J3 := Lib.hid (j3.mono (A2.out).r1.below.size)
      have q4 := Lib.hid (joinFour (J1c.out).bs (J2c.out).bs (J3.out).bs (64 + l.length + d.length) (by rw [HCAT.out, LCAT.out]) (by omega))
      clear q3 i3 j3 J1b J2 WN2 A2
      go_wp2_with fail
      refine (q4.out).mono ?_; rintro e y4 ⟨a15, c15, rfl, o15, i4⟩
      have hb34 : w3.heap.size ≤ y3.heap.size := (A3.out).r.2.2.1
      have rw4 : Row y4 y3.heap.size y4.heap.size (.slice a15 (64 + l.length + d.length) c15) cat := ⟨by rw [← HCAT.out]; exact o15.mono (by simp), fun Y hY => (o15.lt Y hY).2, Nat.le_refl _, i4.size⟩
      have B0 := Lib.hid (R3.mk ((A3.out).past i4) ((J1c.out).past i4) ((J2c.out).past i4) ((J3.out).past i4) rw4 ((WN3.out).past i4) hb34)
      clear q4 i4 o15 rw4 hb34 J1c J2c J3 WN3 A3
      generalize y3.heap.size = lo4 at *
      generalize y4.heap.size = hi4 at *
      have Q0 := fun W => Lib.hid ((refNumber n W).mono fun e w' h => h.shaped (n := 8) rfl)
      go_wp2_with fail
      refine ((Q0 _).out).mono ?_; rintro e u1 ⟨ra1, rc1, rfl, ro1, i1⟩
      have B1 := Lib.hid ((B0.out).past i1)
      have S1 := Lib.hid ro1.bs
      clear ro1
      clear i1 Q0
      have Q1 := Lib.hid (sameBytes_yes (B1.out).r2.p.bs S1.out rfl)
      go_wp2_with fail
      refine (Q1.out).mono ?_; rintro e u2 ⟨rfl, i2⟩
      have B2 := Lib.hid ((B1.out).past i2)
      clear i2 Q1
      have Q2 := Lib.hid ((refBytes _ l _ (B2.out).r2.r1.b (by omega)).mono fun e w' h => h.shaped (len8_length l))
      go_wp2_with fail
      refine (Q2.out).mono ?_; rintro e u3 ⟨ra3, rc3, rfl, ro3, i3⟩
      have B3 := Lib.hid ((B2.out).past i3)
      have S3 := Lib.hid ro3.bs
      clear ro3
      clear i3 Q2
      have Q3 := Lib.hid (sameBytes_yes (B3.out).r2.q.bs S3.out rfl)
      go_wp2_with fail
      refine (Q3.out).mono ?_; rintro e u4 ⟨rfl, i4⟩
      have B4 := Lib.hid ((B3.out).past i4)
      have cX := ((B4.out).r2.r1.x).cells
      obtain ⟨cx0, cx1, cx2, cx3, cx4, cx5⟩ := cX
      clear i4 Q3
      have Q4 := Lib.hid ((refEntry t k v s g _ d _ (B4.out).r2.r1.dd (by omega) k0 k1).mono fun e w' h => h.shaped (ent8_length t k v s g d))
      go_wp2_with fail
      refine (Q4.out).mono ?_; rintro e u5 ⟨ra5, rc5, rfl, ro5, i5⟩
      have B5 := Lib.hid ((B4.out).past i5)
      have S5 := Lib.hid ro5.bs
      clear ro5 cx0 cx1 cx2 cx3 cx4 cx5
      clear i5 Q4
      have Q5 := Lib.hid (sameBytes_yes (B5.out).r2.r.bs S5.out rfl)
      go_wp2_with fail
      refine (Q5.out).mono ?_; rintro e u6 ⟨rfl, i6⟩
      have B6 := Lib.hid ((B5.out).past i6)
      clear i6 Q5
      have Q6 := Lib.hid (sameBytes_yes (B6.out).all.bs (B6.out).want rfl)
      go_wp2_with fail
      refine (Q6.out).mono ?_; rintro e u7 ⟨rfl, i7⟩
      have B7 := Lib.hid ((B6.out).past i7)
      clear i7 Q6
      have Q7 := Lib.hid (keptBytes' (B7.out).r2.r1.la (B7.out).r2.r1.b (by omega))
      go_wp2_with fail
      refine (Q7.out).mono ?_; rintro e u8 ⟨rfl, i8⟩
      have B8 := Lib.hid ((B7.out).past i8)
      have cX := ((B8.out).r2.r1.x).cells
      obtain ⟨cx0, cx1, cx2, cx3, cx4, cx5⟩ := cX
      have cE := ((B8.out).r2.r1.e).cells
      obtain ⟨ce0, ce1, ce2, ce3, ce4, ce5⟩ := cE
      clear i8 Q7
      have Q8 := Lib.hid (keptEntry t k v s g d _ _ _ _ (B8.out).r2.r1.ld (B8.out).r2.r1.dd (by omega))
      go_wp2_with fail
      refine (Q8.out).mono ?_; rintro e u9 ⟨rfl, i9⟩
      have B9 := Lib.hid ((B8.out).past i9)
      clear cx0 cx1 cx2 cx3 cx4 cx5 ce0 ce1 ce2 ce3 ce4 ce5
      clear i9 Q8
      have Q9 := Lib.hid (keptBytes' (B9.out).lp (B9.out).r2.p.bs (by rw [L12.out]; omega))
      go_wp2_with fail
      refine (Q9.out).mono ?_; rintro e u10 ⟨rfl, i10⟩
      have B10 := Lib.hid ((B9.out).past i10)
      clear i10 Q9
      have Q10 := Lib.hid (keptBytes' (B10.out).lq (B10.out).r2.q.bs (by rw [L13.out]; omega))
      go_wp2_with fail
      refine (Q10.out).mono ?_; rintro e u11 ⟨rfl, i11⟩
      have B11 := Lib.hid ((B10.out).past i11)
      clear i11 Q10
      have Q11 := Lib.hid (keptBytes' (B11.out).lr (B11.out).r2.r.bs (by rw [L14.out]; omega))
      go_wp2_with fail
      refine (Q11.out).mono ?_; rintro e u12 ⟨rfl, i12⟩
      have B12 := Lib.hid ((B11.out).past i12)
      clear i12 Q11
      have Q12 := fun W => Lib.hid (joinNone W)
      go_wp2_with fail
      refine ((Q12 _).out).mono ?_; rintro e u13 ⟨ja13, jc13, rfl, i13⟩
      have B13 := Lib.hid ((B12.out).past i13)
      clear i13 Q12
      have Q13 := Lib.hid (joinOne (B13.out).lq.bs (8 + l.length) L13.out (by omega))
      go_wp2_with fail
      refine (Q13.out).mono ?_; rintro e u14 ⟨ja14, jc14, rfl, jo14, i14⟩
      have B14 := Lib.hid ((B13.out).past i14)
      have R5 : Row u14 u13.heap.size u14.heap.size (.slice ja14 (8 + l.length) jc14) (len8 l) := ⟨jo14.mono (by simp), fun Y hY => (jo14.lt Y hY).2, Nat.le_refl _, i14.size⟩
      have o45 : hi4 ≤ u13.heap.size := (B13.out).all.2.2.1
      have HR5 := Lib.hid R5
      clear jo14 R5
      clear i14 Q13
      have Q14 := Lib.hid ((wireBytes _ l _ (B14.out).r2.r1.la.bs (by omega)).mono fun e w' h => h.shaped (len8_length l))
      go_wp2_with fail
      refine (Q14.out).mono ?_; rintro e u15 ⟨ja15, jc15, rfl, jo15, i15⟩
      have B15 := Lib.hid ((B14.out).past i15)
      have HR5 := Lib.hid ((HR5.out).past i15)
      have HR6 := Lib.hid (Row.of jo15 i15)
      clear jo15
      clear i15 Q14
      have hal := alloc_below u15 (.cells #[.slice a9 8 c9, .slice a10 (8 + l.length) c10, .slice a11 (48 + d.length) c11, .slice a15 (64 + l.length + d.length) c15, .slice ja14 (8 + l.length) jc14, .slice ja15 (8 + l.length) jc15] 23)
      have BA := Lib.hid ((B15.out).past hal)
      have hro := apartSix (B := w.heap.size) (BA.out).r2.p (BA.out).r2.q (BA.out).r2.r (BA.out).all ((HR5.out).past hal) ((HR6.out).past hal) (BA.out).r2.o0 (BA.out).r2.o1 (BA.out).r2.o2 (BA.out).o3 o45 (Nat.le_refl _)
      have hnum : ∀ j, j < 6 → nums6 (num8 n).length (len8 l).length (ent8 t k v s g d).length cat.length (len8 l).length (len8 l).length j ≤ 100000000 := fun j hj => by
        rw [L12.out, L13.out, L14.out, LCAT.out]
        match j, hj with
        | 0, _ => show 8 ≤ _; omega
        | 1, _ => show 8 + l.length ≤ _; omega
        | 2, _ => show 48 + d.length ≤ _; omega
        | 3, _ => show 64 + l.length + d.length ≤ _; omega
        | 4, _ => show 8 + l.length ≤ _; omega
        | 5, _ => show 8 + l.length ≤ _; omega
      have QA := Lib.hid (apartBytes (.slice (some ⟨u15.heap.size, 0, none⟩) 6 6) [.slice a9 8 c9, .slice a10 (8 + l.length) c10, .slice a11 (48 + d.length) c11, .slice a15 (64 + l.length + d.length) c15, .slice ja14 (8 + l.length) jc14, .slice ja15 (8 + l.length) jc15] _ w.heap.size _ (vals_lit u15 [.slice a9 8 c9, .slice a10 (8 + l.length) c10, .slice a11 (48 + d.length) c11, .slice a15 (64 + l.length + d.length) c15, .slice ja14 (8 + l.length) jc14, .slice ja15 (8 + l.length) jc15] (by simp)) hro (BA.out).r2.r1.below.size (by show 6 ≤ 100000; omega) hnum)
      have BF := Lib.hid (BA.out).r2.r1.below
      clear hal hro hnum
      go_wp2_with fail
      refine (QA.out).mono ?_; rintro e z1 ⟨rfl, z2⟩
      have BG := Lib.hid ((BF.out).trans z2)
      clear z2 QA
      go_wp2_with fail
      refine (awake _).mono ?_; rintro e z3 ⟨rfl, z4⟩
      go_wp2_with fail
      go_ret
      exact ⟨rfl, (BG.out).trans (z4.mono (BG.out).size)⟩
end Go.Proofs.YtggbpdkejkmakaaGreat
