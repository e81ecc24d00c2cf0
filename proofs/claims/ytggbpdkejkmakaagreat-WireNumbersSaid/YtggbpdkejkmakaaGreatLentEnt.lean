/- Contracts of entries that are lent and kept. -/
import Derived.Test.YtggbpdkejkmakaaGreatLent
import Derived.Test.YtggbpdkejkmakaaGreatSameEnt
namespace Go.Proofs.YtggbpdkejkmakaaGreat
open Go.RowKit
set_option linter.unusedVariables false
set_option linter.unusedSimpArgs false

theorem keptBytes' {u v : Value} {base : Nat} {l : List Int} {w : World} (hu : Lent w base u l) (hv : Bs w v l) (hlen : l.length ≤ 140737488351232) :
    Calls Tryz.prog 17 #[u, v] w fun e w' => e = .returned (.bool true) ∧ Below w.heap.size w w' :=
  (keptBytes u v base l w hu hv hlen).mono fun e w' ⟨he, hs⟩ => ⟨he, hs.below _⟩

set_option maxHeartbeats 2000000 in
set_option maxRecDepth 100000 in
theorem keptEntry (t k v s : Int) (g : Bool) (l : List Int) (u1 u2 : Value) (base : Nat) (w : World) (h1 : Lent w base u1 l) (h2 : Bs w u2 l) (hlen : l.length ≤ 140737488351232) :
    Calls Tryz.prog 18 #[.agg #[.int .i64 t, .int .u8 k, .int .i64 v, .int .i64 s, .bool g, u1], .agg #[.int .i64 t, .int .u8 k, .int .i64 v, .int .i64 s, .bool g, u2]] w fun e w' => e = .returned (.bool true) ∧ Below w.heap.size w w' := by
  obtain ⟨a1, c1, hs1⟩ := h1.bs.shape
  obtain ⟨a2, c2, hs2⟩ := h2.shape
  subst hs1 hs2
  generalize hW : (w.alloc (Obj.cells #[.int .i64 t, .int .u8 k, .int .i64 v, .int .i64 s, .bool g, .slice a1 l.length c1] 28)).alloc (Obj.cells #[.int .i64 t, .int .u8 k, .int .i64 v, .int .i64 s, .bool g, .slice a2 l.length c2] 28) = W
  have hb : Below w.heap.size w W := by rw [← hW]; exact (alloc_below w _).trans ((Below.refl _ _).alloc (by simp) _)
  have B1 : Blk W w.heap.size (.int .i64 t) (.int .u8 k) (.int .i64 v) (.int .i64 s) (.bool g) (.slice a1 l.length c1) := by
    rw [← hW]; unfold Blk
    exact ((World.grownBy_alloc _ _ none).block _ (by simp) (by simp)).trans (heap_alloc_new w _)
  have B2 : Blk W (w.heap.size + 1) (.int .i64 t) (.int .u8 k) (.int .i64 v) (.int .i64 s) (.bool g) (.slice a2 l.length c2) := by
    rw [← hW]; unfold Blk
    have := heap_alloc_new (w.alloc (Obj.cells #[.int .i64 t, .int .u8 k, .int .i64 v, .int .i64 s, .bool g, .slice a1 l.length c1] 28)) (Obj.cells #[.int .i64 t, .int .u8 k, .int .i64 v, .int .i64 s, .bool g, .slice a2 l.length c2] 28)
    simpa using this
  have q := Lib.hid (sameEnt t k v s g l _ _ W (h1.bs.past hb) (h2.past hb))
  have H1 := Lib.hid (h1.past hb)
  have H2 := Lib.hid (h2.past hb)
  have HW := Lib.hid hW
  have HB := Lib.hid hb
  obtain ⟨r0, r1, r2, r3, r4, r5⟩ := B1.cells
  obtain ⟨s0, s1, s2, s3, s4, s5⟩ := B2.cells
  have HB1 := Lib.hid B1
  have HB2 := Lib.hid B2
  clear hW h1 h2 B1 B2 hb
  go_enter Tryz.func18, Tryz.ntmps18
  go_wp2_with fail
  rw [HW.out]
  go_wp2_with fail
  refine (q.out).mono ?_; rintro e w1 ⟨rfl, b1⟩
  have C1 := (HB1.out).keep (below_grownBy b1 none) (fun e => by cases e)
  have C2 := (HB2.out).keep (below_grownBy b1 none) (fun e => by cases e)
  obtain ⟨-, -, -, -, -, x5⟩ := C1.cells
  obtain ⟨-, -, -, -, -, y5⟩ := C2.cells
  have q2 := Lib.hid (keptBytes' ((H1.out).past b1) ((H2.out).past b1) hlen)
  have HX := Lib.hid ((HB.out).trans (b1.mono (HB.out).size))
  clear C1 C2 b1 q
  go_wp2_with fail
  refine (q2.out).mono ?_; rintro e w2 ⟨rfl, b2⟩
  go_wp2_with fail
  go_ret
  exact ⟨rfl, (HX.out).trans (b2.mono (HX.out).size)⟩

/-- e returns the entry, its bytes lent. -/
def LendsEnt (t k v s : Int) (g : Bool) (l : List Int) (w : World) (e : Ending) (w' : World) : Prop :=
  ∃ a c, e = .returned (.agg #[.int .i64 t, .int .u8 k, .int .i64 v, .int .i64 s, .bool g, .slice a l.length c]) ∧ Lent w' w.heap.size (.slice a l.length c) l ∧ Below w.heap.size w w'

set_option maxHeartbeats 2000000 in
set_option maxRecDepth 100000 in
theorem lentEntry (t k v s : Int) (g : Bool) (l : List Int) (u : Value) (w : World) (h : Bs w u l) (hlen : l.length ≤ 140737488351232) :
    Calls Tryz.prog 10 #[.agg #[.int .i64 t, .int .u8 k, .int .i64 v, .int .i64 s, .bool g, u]] w (LendsEnt t k v s g l w) := by
  obtain ⟨a1, c1, hs1⟩ := h.shape
  subst hs1
  generalize hW : (w.alloc (Obj.cells #[.int .i64 t, .int .u8 k, .int .i64 v, .int .i64 s, .bool g, .slice a1 l.length c1] 28)).alloc (Obj.cells #[.int .i64 0, .int .u8 0, .int .i64 0, .int .i64 0, .bool false, .slice none 0 0] 28) = W
  have hb : Below w.heap.size w W := by rw [← hW]; exact (alloc_below w _).trans ((Below.refl _ _).alloc (by simp) _)
  have B1 : Blk W w.heap.size (.int .i64 t) (.int .u8 k) (.int .i64 v) (.int .i64 s) (.bool g) (.slice a1 l.length c1) := by
    rw [← hW]; unfold Blk
    exact ((World.grownBy_alloc _ _ none).block _ (by simp) (by simp)).trans (heap_alloc_new w _)
  have B2 : Blk W (w.heap.size + 1) (.int .i64 0) (.int .u8 0) (.int .i64 0) (.int .i64 0) (.bool false) (.slice none 0 0) := by
    rw [← hW]
    have := blk_new (w.alloc (Obj.cells #[.int .i64 t, .int .u8 k, .int .i64 v, .int .i64 s, .bool g, .slice a1 l.length c1] 28))
    simpa using this
  have hsz : W.heap.size = w.heap.size + 2 := by rw [← hW]; simp
  have HSZ := Lib.hid hsz
  have q := Lib.hid (lentBytes _ l W (h.past hb) hlen)
  have HW := Lib.hid hW
  have HB := Lib.hid hb
  obtain ⟨-, -, -, -, -, r5⟩ := B1.cells
  have HB1 := Lib.hid B1
  have HB2 := Lib.hid B2
  clear hW h B1 B2 hb hsz
  go_enter Tryz.func10, Tryz.ntmps10
  go_wp2_with fail
  rw [HW.out]
  go_wp2_with fail
  refine (q.out).mono ?_; rintro e w1 ⟨v1, rfl, hl1, b1⟩
  obtain ⟨g1, hv1, hg1, hm1, hrow1⟩ := hl1
  subst hv1
  have C1 := (HB1.out).keep (below_grownBy b1 none) (fun e => by cases e)
  have C2 := (HB2.out).keep (below_grownBy b1 none) (fun e => by cases e)
  obtain ⟨x0, x1, x2, x3, x4, x5⟩ := C1.cells
  obtain ⟨y0, y1, y2, y3, y4, y5⟩ := C2.cells
  have fx := C1.free
  have fy := C2.free
  have D1 := Lib.hid (C1.set5 (.slice (some ⟨g1, 0, none⟩) l.length (l.length + 12)))
  have D2 := (C2.keep (grownBy_setCell w1 ⟨w.heap.size, 5, none⟩ (.slice (some ⟨g1, 0, none⟩) l.length (l.length + 12))) (fun e => by have : w.heap.size = w.heap.size + 1 := Option.some.inj e; omega))
  have D3 := Lib.hid (wrote_blk D2 (.int .i64 t) (.int .u8 k) (.int .i64 v) (.int .i64 s) (.bool g) (.slice (some ⟨g1, 0, none⟩) l.length (l.length + 12)))
  have G3 := wrote_grown (w1.setCell ⟨w.heap.size, 5, none⟩ (.slice (some ⟨g1, 0, none⟩) l.length (l.length + 12))) (w.heap.size + 1) (.int .i64 t) (.int .u8 k) (.int .i64 v) (.int .i64 s) (.bool g) (.slice (some ⟨g1, 0, none⟩) l.length (l.length + 12))
  have HX : Below w.heap.size w w1 := (HB.out).trans (b1.mono (HB.out).size)
  have L3 := Lib.hid (below_wrote (b := w.heap.size + 1) (HX.setCell (p := ⟨w.heap.size, 5, none⟩) (Nat.le_refl _) (.slice (some ⟨g1, 0, none⟩) l.length (l.length + 12))) (by omega) (.int .i64 t) (.int .u8 k) (.int .i64 v) (.int .i64 s) (.bool g) (.slice (some ⟨g1, 0, none⟩) l.length (l.length + 12)))
  have hgne : g1 ≠ w.heap.size + 1 := by have := HSZ.out; omega
  have hgne2 : g1 ≠ w.heap.size := by have := HSZ.out; omega
  have E3 : Lent (wrote (w1.setCell ⟨w.heap.size, 5, none⟩ (.slice (some ⟨g1, 0, none⟩) l.length (l.length + 12))) (w.heap.size + 1) (.int .i64 t) (.int .u8 k) (.int .i64 v) (.int .i64 s) (.bool g) (.slice (some ⟨g1, 0, none⟩) l.length (l.length + 12))) w.heap.size (.slice (some ⟨g1, 0, none⟩) l.length (l.length + 12)) l := by
    have hlt := (Array.getElem?_eq_some_iff.1 hrow1).1
    refine ⟨g1, rfl, by have := HSZ.out; omega, hm1, ?_⟩
    refine (G3.block g1 (by simpa [World.setCell] using hlt) (fun e => hgne (Option.some.inj e))).trans ?_
    exact ((grownBy_setCell w1 ⟨w.heap.size, 5, none⟩ _).block g1 hlt (fun e => hgne2 (Option.some.inj e))).trans hrow1
  have HE3 := Lib.hid E3
  clear C1 C2 D2 G3 HX E3 b1 hg1 hm1 hrow1 q
  go_wp2_with fail
  show bodyPost _ _ _ _ _ (wrote (w1.setCell ⟨w.heap.size, 5, none⟩ (.slice (some ⟨g1, 0, none⟩) l.length (l.length + 12))) (w.heap.size + 1) (.int .i64 t) (.int .u8 k) (.int .i64 v) (.int .i64 s) (.bool g) (.slice (some ⟨g1, 0, none⟩) l.length (l.length + 12)))
  generalize wrote (w1.setCell ⟨w.heap.size, 5, none⟩ (.slice (some ⟨g1, 0, none⟩) l.length (l.length + 12))) (w.heap.size + 1) (.int .i64 t) (.int .u8 k) (.int .i64 v) (.int .i64 s) (.bool g) (.slice (some ⟨g1, 0, none⟩) l.length (l.length + 12)) = V at *
  obtain ⟨z0, z1, z2, z3, z4, z5⟩ := (D3.out).cells
  exact bodyPost_ret (v := .agg #[.int .i64 t, .int .u8 k, .int .i64 v, .int .i64 s, .bool g, .slice (some ⟨g1, 0, none⟩) l.length (l.length + 12)]) (by simp [results, Tryz.results10, go_sem, z0, z1, z2, z3, z4, z5]) rfl ⟨_, _, rfl, HE3.out, L3.out⟩
end Go.Proofs.YtggbpdkejkmakaaGreat
