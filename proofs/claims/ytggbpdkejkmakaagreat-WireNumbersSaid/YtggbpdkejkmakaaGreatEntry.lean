/- Contract of a reader's entry: what it returns, or that it panics. -/
import Derived.Test.YtggbpdkejkmakaaGreatBlock
namespace Go.Proofs.YtggbpdkejkmakaaGreat
open Go.RowKit
set_option linter.unusedVariables false
set_option linter.unusedSimpArgs false

set_option maxHeartbeats 4000000 in
set_option maxRecDepth 100000 in
theorem entry_none1 {R : Nat} {l : List Int} {sp : Option Addr} {w : World} (h : Left w R l sp) (h1 : rdNum l = none) :
    Calls Tryz.prog 48 #[.pointer (some ⟨R, 0, none⟩)] w (Fails R sp w) := by
  have T1 := fun W (hL : Left W R l sp) => Lib.hid (number_none hL h1)
  clear h1
  have hlt := h.lt
  generalize hW : (w.alloc (Obj.cells #[.int .i64 0, .int .u8 0, .int .i64 0, .int .i64 0, .bool false, .slice none 0 0] 28)).alloc (Obj.cells #[.int .i64 0, .int .u8 0, .int .i64 0, .int .i64 0, .bool false, .slice none 0 0] 28) = W0
  have g0 : w.grownBy W0 none := by rw [← hW]; exact grownBy_trans (World.grownBy_alloc w _ none) (World.grownBy_alloc _ _ none)
  have r0 : Blk W0 w.heap.size (.int .i64 0) (.int .u8 0) (.int .i64 0) (.int .i64 0) (.bool false) (.slice none 0 0) := by
    rw [← hW]; unfold Blk; exact ((World.grownBy_alloc _ _ none).block _ (by simp) (by simp)).trans (heap_alloc_new w _)
  have e0 : Blk W0 (w.heap.size + 1) (.int .i64 0) (.int .u8 0) (.int .i64 0) (.int .i64 0) (.bool false) (.slice none 0 0) := by
    rw [← hW]; unfold Blk
    have := heap_alloc_new (w.alloc (Obj.cells #[.int .i64 0, .int .u8 0, .int .i64 0, .int .i64 0, .bool false, .slice none 0 0] 28)) (Obj.cells #[.int .i64 0, .int .u8 0, .int .i64 0, .int .i64 0, .bool false, .slice none 0 0] 28)
    simpa using this
  have M0 : Mid w R (w.heap.size + 1) l sp (.int .i64 0) (.int .u8 0) (.int .i64 0) (.int .i64 0) (.bool false) (.slice none 0 0) W0 := ⟨h.grown g0, e0, ⟨g0.os, g0.tape, g0.output, g0.size, fun k hk hne => g0.block k hk (by simp)⟩⟩
  have HW := Lib.hid hW
  have HM0 := Lib.hid M0
  have HR0 := Lib.hid r0
  have hS : R < w.heap.size + 1 := by omega
  have hS0 : w.heap.size ≤ w.heap.size + 1 := by omega
  clear hW g0 r0 e0 M0 h
  have hz : ∀ w : World, True := fun _ => trivial
  go_enter Tryz.func48, Tryz.ntmps48
  go_wp2_with fail
  rw [HW.out]
  have q1 := T1 _ (HM0.out).left
  refine (q1.out).mono ?_
  rintro e w1 ⟨rfl, hL, hg⟩
  exact ⟨rfl, rfl, hL, grownBy_trans (HM0.out).grown hg⟩

set_option maxHeartbeats 4000000 in
set_option maxRecDepth 100000 in
theorem entry_none2 {R : Nat} {l : List Int} {sp : Option Addr} {w : World} {t : Int} {l1 : List Int} (h : Left w R l sp) (h1 : rdNum l = some (t, l1)) (h2 : rdIn 255 l1 = none) :
    Calls Tryz.prog 48 #[.pointer (some ⟨R, 0, none⟩)] w (Fails R sp w) := by
  have T1 := fun W (hL : Left W R l sp) => Lib.hid (number_some hL h1)
  have T2 := fun W (hL : Left W R l1 sp) => Lib.hid (within_none hL h2)
  clear h1 h2
  have hlt := h.lt
  generalize hW : (w.alloc (Obj.cells #[.int .i64 0, .int .u8 0, .int .i64 0, .int .i64 0, .bool false, .slice none 0 0] 28)).alloc (Obj.cells #[.int .i64 0, .int .u8 0, .int .i64 0, .int .i64 0, .bool false, .slice none 0 0] 28) = W0
  have g0 : w.grownBy W0 none := by rw [← hW]; exact grownBy_trans (World.grownBy_alloc w _ none) (World.grownBy_alloc _ _ none)
  have r0 : Blk W0 w.heap.size (.int .i64 0) (.int .u8 0) (.int .i64 0) (.int .i64 0) (.bool false) (.slice none 0 0) := by
    rw [← hW]; unfold Blk; exact ((World.grownBy_alloc _ _ none).block _ (by simp) (by simp)).trans (heap_alloc_new w _)
  have e0 : Blk W0 (w.heap.size + 1) (.int .i64 0) (.int .u8 0) (.int .i64 0) (.int .i64 0) (.bool false) (.slice none 0 0) := by
    rw [← hW]; unfold Blk
    have := heap_alloc_new (w.alloc (Obj.cells #[.int .i64 0, .int .u8 0, .int .i64 0, .int .i64 0, .bool false, .slice none 0 0] 28)) (Obj.cells #[.int .i64 0, .int .u8 0, .int .i64 0, .int .i64 0, .bool false, .slice none 0 0] 28)
    simpa using this
  have M0 : Mid w R (w.heap.size + 1) l sp (.int .i64 0) (.int .u8 0) (.int .i64 0) (.int .i64 0) (.bool false) (.slice none 0 0) W0 := ⟨h.grown g0, e0, ⟨g0.os, g0.tape, g0.output, g0.size, fun k hk hne => g0.block k hk (by simp)⟩⟩
  have HW := Lib.hid hW
  have HM0 := Lib.hid M0
  have HR0 := Lib.hid r0
  have hS : R < w.heap.size + 1 := by omega
  have hS0 : w.heap.size ≤ w.heap.size + 1 := by omega
  clear hW g0 r0 e0 M0 h
  have hz : ∀ w : World, True := fun _ => trivial
  go_enter Tryz.func48, Tryz.ntmps48
  go_wp2_with fail
  rw [HW.out]
  have q1 := T1 _ (HM0.out).left
  refine (q1.out).mono ?_
  clear q1
  rintro e w1 ⟨rfl, hL, hg⟩
  have N1 := Lib.hid ((HM0.out).call hS hL hg)
  have HC1 := Lib.hid ((HR0.out).keep hg (fun e => by have := Option.some.inj e; omega))
  have f1 := ((N1.out).blk).free 0
  have y1 := ((N1.out).blk).cells
  obtain ⟨y1, -, -, -, -, -⟩ := y1
  have HM1 := Lib.hid ((N1.out).set0 hS0 hS (.int .i64 t))
  have HR1 := Lib.hid ((HC1.out).keep (grownBy_setCell w1 ⟨w.heap.size + 1, 0, none⟩ (.int .i64 t)) (fun e => by have : w.heap.size + 1 = w.heap.size := Option.some.inj e; omega))
  clear hL hg
  go_wp2_with fail
  have q2 := T2 _ (HM1.out).left
  refine (q2.out).mono ?_
  rintro e w2 ⟨rfl, hL, hg⟩
  exact ⟨rfl, rfl, hL, grownBy_trans (HM1.out).grown hg⟩

set_option maxHeartbeats 4000000 in
set_option maxRecDepth 100000 in
theorem entry_none3 {R : Nat} {l : List Int} {sp : Option Addr} {w : World} {t k : Int} {l1 l2 : List Int} (h : Left w R l sp) (h1 : rdNum l = some (t, l1)) (h2 : rdIn 255 l1 = some (k, l2)) (h3 : rdNum l2 = none) :
    Calls Tryz.prog 48 #[.pointer (some ⟨R, 0, none⟩)] w (Fails R sp w) := by
  have hk0 := (rdIn_some h2).2.1
  have hk1 := (rdIn_some h2).2.2
  have T1 := fun W (hL : Left W R l sp) => Lib.hid (number_some hL h1)
  have T2 := fun W (hL : Left W R l1 sp) => Lib.hid (within_some hL h2)
  have T3 := fun W (hL : Left W R l2 sp) => Lib.hid (number_none hL h3)
  clear h1 h2 h3
  have hlt := h.lt
  generalize hW : (w.alloc (Obj.cells #[.int .i64 0, .int .u8 0, .int .i64 0, .int .i64 0, .bool false, .slice none 0 0] 28)).alloc (Obj.cells #[.int .i64 0, .int .u8 0, .int .i64 0, .int .i64 0, .bool false, .slice none 0 0] 28) = W0
  have g0 : w.grownBy W0 none := by rw [← hW]; exact grownBy_trans (World.grownBy_alloc w _ none) (World.grownBy_alloc _ _ none)
  have r0 : Blk W0 w.heap.size (.int .i64 0) (.int .u8 0) (.int .i64 0) (.int .i64 0) (.bool false) (.slice none 0 0) := by
    rw [← hW]; unfold Blk; exact ((World.grownBy_alloc _ _ none).block _ (by simp) (by simp)).trans (heap_alloc_new w _)
  have e0 : Blk W0 (w.heap.size + 1) (.int .i64 0) (.int .u8 0) (.int .i64 0) (.int .i64 0) (.bool false) (.slice none 0 0) := by
    rw [← hW]; unfold Blk
    have := heap_alloc_new (w.alloc (Obj.cells #[.int .i64 0, .int .u8 0, .int .i64 0, .int .i64 0, .bool false, .slice none 0 0] 28)) (Obj.cells #[.int .i64 0, .int .u8 0, .int .i64 0, .int .i64 0, .bool false, .slice none 0 0] 28)
    simpa using this
  have M0 : Mid w R (w.heap.size + 1) l sp (.int .i64 0) (.int .u8 0) (.int .i64 0) (.int .i64 0) (.bool false) (.slice none 0 0) W0 := ⟨h.grown g0, e0, ⟨g0.os, g0.tape, g0.output, g0.size, fun k hk hne => g0.block k hk (by simp)⟩⟩
  have HW := Lib.hid hW
  have HM0 := Lib.hid M0
  have HR0 := Lib.hid r0
  have hS : R < w.heap.size + 1 := by omega
  have hS0 : w.heap.size ≤ w.heap.size + 1 := by omega
  clear hW g0 r0 e0 M0 h
  have hz : ∀ w : World, True := fun _ => trivial
  go_enter Tryz.func48, Tryz.ntmps48
  go_wp2_with fail
  rw [HW.out]
  have q1 := T1 _ (HM0.out).left
  refine (q1.out).mono ?_
  clear q1
  rintro e w1 ⟨rfl, hL, hg⟩
  have N1 := Lib.hid ((HM0.out).call hS hL hg)
  have HC1 := Lib.hid ((HR0.out).keep hg (fun e => by have := Option.some.inj e; omega))
  have f1 := ((N1.out).blk).free 0
  have y1 := ((N1.out).blk).cells
  obtain ⟨y1, -, -, -, -, -⟩ := y1
  have HM1 := Lib.hid ((N1.out).set0 hS0 hS (.int .i64 t))
  have HR1 := Lib.hid ((HC1.out).keep (grownBy_setCell w1 ⟨w.heap.size + 1, 0, none⟩ (.int .i64 t)) (fun e => by have : w.heap.size + 1 = w.heap.size := Option.some.inj e; omega))
  clear hL hg
  go_wp2_with fail
  have q2 := T2 _ (HM1.out).left
  refine (q2.out).mono ?_
  clear q2
  rintro e w2 ⟨rfl, hL, hg⟩
  have N2 := Lib.hid ((HM1.out).call hS hL hg)
  have HC2 := Lib.hid ((HR1.out).keep hg (fun e => by have := Option.some.inj e; omega))
  have f2 := ((N2.out).blk).free 1
  have y2 := ((N2.out).blk).cells
  obtain ⟨-, y2, -, -, -, -⟩ := y2
  have HM2 := Lib.hid ((N2.out).set1 hS0 hS (.int .u8 k))
  have HR2 := Lib.hid ((HC2.out).keep (grownBy_setCell w2 ⟨w.heap.size + 1, 1, none⟩ (.int .u8 k)) (fun e => by have : w.heap.size + 1 = w.heap.size := Option.some.inj e; omega))
  clear hL hg
  go_wp2_with fail
  have q3 := T3 _ (HM2.out).left
  refine (q3.out).mono ?_
  rintro e w3 ⟨rfl, hL, hg⟩
  exact ⟨rfl, rfl, hL, grownBy_trans (HM2.out).grown hg⟩

set_option maxHeartbeats 4000000 in
set_option maxRecDepth 100000 in
theorem entry_none4 {R : Nat} {l : List Int} {sp : Option Addr} {w : World} {t k v : Int} {l1 l2 l3 : List Int} (h : Left w R l sp) (h1 : rdNum l = some (t, l1)) (h2 : rdIn 255 l1 = some (k, l2)) (h3 : rdNum l2 = some (v, l3)) (h4 : rdNum l3 = none) :
    Calls Tryz.prog 48 #[.pointer (some ⟨R, 0, none⟩)] w (Fails R sp w) := by
  have hk0 := (rdIn_some h2).2.1
  have hk1 := (rdIn_some h2).2.2
  have T1 := fun W (hL : Left W R l sp) => Lib.hid (number_some hL h1)
  have T2 := fun W (hL : Left W R l1 sp) => Lib.hid (within_some hL h2)
  have T3 := fun W (hL : Left W R l2 sp) => Lib.hid (number_some hL h3)
  have T4 := fun W (hL : Left W R l3 sp) => Lib.hid (number_none hL h4)
  clear h1 h2 h3 h4
  have hlt := h.lt
  generalize hW : (w.alloc (Obj.cells #[.int .i64 0, .int .u8 0, .int .i64 0, .int .i64 0, .bool false, .slice none 0 0] 28)).alloc (Obj.cells #[.int .i64 0, .int .u8 0, .int .i64 0, .int .i64 0, .bool false, .slice none 0 0] 28) = W0
  have g0 : w.grownBy W0 none := by rw [← hW]; exact grownBy_trans (World.grownBy_alloc w _ none) (World.grownBy_alloc _ _ none)
  have r0 : Blk W0 w.heap.size (.int .i64 0) (.int .u8 0) (.int .i64 0) (.int .i64 0) (.bool false) (.slice none 0 0) := by
    rw [← hW]; unfold Blk; exact ((World.grownBy_alloc _ _ none).block _ (by simp) (by simp)).trans (heap_alloc_new w _)
  have e0 : Blk W0 (w.heap.size + 1) (.int .i64 0) (.int .u8 0) (.int .i64 0) (.int .i64 0) (.bool false) (.slice none 0 0) := by
    rw [← hW]; unfold Blk
    have := heap_alloc_new (w.alloc (Obj.cells #[.int .i64 0, .int .u8 0, .int .i64 0, .int .i64 0, .bool false, .slice none 0 0] 28)) (Obj.cells #[.int .i64 0, .int .u8 0, .int .i64 0, .int .i64 0, .bool false, .slice none 0 0] 28)
    simpa using this
  have M0 : Mid w R (w.heap.size + 1) l sp (.int .i64 0) (.int .u8 0) (.int .i64 0) (.int .i64 0) (.bool false) (.slice none 0 0) W0 := ⟨h.grown g0, e0, ⟨g0.os, g0.tape, g0.output, g0.size, fun k hk hne => g0.block k hk (by simp)⟩⟩
  have HW := Lib.hid hW
  have HM0 := Lib.hid M0
  have HR0 := Lib.hid r0
  have hS : R < w.heap.size + 1 := by omega
  have hS0 : w.heap.size ≤ w.heap.size + 1 := by omega
  clear hW g0 r0 e0 M0 h
  have hz : ∀ w : World, True := fun _ => trivial
  go_enter Tryz.func48, Tryz.ntmps48
  go_wp2_with fail
  rw [HW.out]
  have q1 := T1 _ (HM0.out).left
  refine (q1.out).mono ?_
  clear q1
  rintro e w1 ⟨rfl, hL, hg⟩
  have N1 := Lib.hid ((HM0.out).call hS hL hg)
  have HC1 := Lib.hid ((HR0.out).keep hg (fun e => by have := Option.some.inj e; omega))
  have f1 := ((N1.out).blk).free 0
  have y1 := ((N1.out).blk).cells
  obtain ⟨y1, -, -, -, -, -⟩ := y1
  have HM1 := Lib.hid ((N1.out).set0 hS0 hS (.int .i64 t))
  have HR1 := Lib.hid ((HC1.out).keep (grownBy_setCell w1 ⟨w.heap.size + 1, 0, none⟩ (.int .i64 t)) (fun e => by have : w.heap.size + 1 = w.heap.size := Option.some.inj e; omega))
  clear hL hg
  go_wp2_with fail
  have q2 := T2 _ (HM1.out).left
  refine (q2.out).mono ?_
  clear q2
  rintro e w2 ⟨rfl, hL, hg⟩
  have N2 := Lib.hid ((HM1.out).call hS hL hg)
  have HC2 := Lib.hid ((HR1.out).keep hg (fun e => by have := Option.some.inj e; omega))
  have f2 := ((N2.out).blk).free 1
  have y2 := ((N2.out).blk).cells
  obtain ⟨-, y2, -, -, -, -⟩ := y2
  have HM2 := Lib.hid ((N2.out).set1 hS0 hS (.int .u8 k))
  have HR2 := Lib.hid ((HC2.out).keep (grownBy_setCell w2 ⟨w.heap.size + 1, 1, none⟩ (.int .u8 k)) (fun e => by have : w.heap.size + 1 = w.heap.size := Option.some.inj e; omega))
  clear hL hg
  go_wp2_with fail
  have q3 := T3 _ (HM2.out).left
  refine (q3.out).mono ?_
  clear q3
  rintro e w3 ⟨rfl, hL, hg⟩
  have N3 := Lib.hid ((HM2.out).call hS hL hg)
  have HC3 := Lib.hid ((HR2.out).keep hg (fun e => by have := Option.some.inj e; omega))
  have f3 := ((N3.out).blk).free 2
  have y3 := ((N3.out).blk).cells
  obtain ⟨-, -, y3, -, -, -⟩ := y3
  have HM3 := Lib.hid ((N3.out).set2 hS0 hS (.int .i64 v))
  have HR3 := Lib.hid ((HC3.out).keep (grownBy_setCell w3 ⟨w.heap.size + 1, 2, none⟩ (.int .i64 v)) (fun e => by have : w.heap.size + 1 = w.heap.size := Option.some.inj e; omega))
  clear hL hg
  go_wp2_with fail
  have q4 := T4 _ (HM3.out).left
  refine (q4.out).mono ?_
  rintro e w4 ⟨rfl, hL, hg⟩
  exact ⟨rfl, rfl, hL, grownBy_trans (HM3.out).grown hg⟩

set_option maxHeartbeats 4000000 in
set_option maxRecDepth 100000 in
theorem entry_none5 {R : Nat} {l : List Int} {sp : Option Addr} {w : World} {t k v s : Int} {l1 l2 l3 l4 : List Int} (h : Left w R l sp) (h1 : rdNum l = some (t, l1)) (h2 : rdIn 255 l1 = some (k, l2)) (h3 : rdNum l2 = some (v, l3)) (h4 : rdNum l3 = some (s, l4)) (h5 : rdIn 1 l4 = none) :
    Calls Tryz.prog 48 #[.pointer (some ⟨R, 0, none⟩)] w (Fails R sp w) := by
  have hk0 := (rdIn_some h2).2.1
  have hk1 := (rdIn_some h2).2.2
  have T1 := fun W (hL : Left W R l sp) => Lib.hid (number_some hL h1)
  have T2 := fun W (hL : Left W R l1 sp) => Lib.hid (within_some hL h2)
  have T3 := fun W (hL : Left W R l2 sp) => Lib.hid (number_some hL h3)
  have T4 := fun W (hL : Left W R l3 sp) => Lib.hid (number_some hL h4)
  have T5 := fun W (hL : Left W R l4 sp) => Lib.hid (within_none hL h5)
  clear h1 h2 h3 h4 h5
  have hlt := h.lt
  generalize hW : (w.alloc (Obj.cells #[.int .i64 0, .int .u8 0, .int .i64 0, .int .i64 0, .bool false, .slice none 0 0] 28)).alloc (Obj.cells #[.int .i64 0, .int .u8 0, .int .i64 0, .int .i64 0, .bool false, .slice none 0 0] 28) = W0
  have g0 : w.grownBy W0 none := by rw [← hW]; exact grownBy_trans (World.grownBy_alloc w _ none) (World.grownBy_alloc _ _ none)
  have r0 : Blk W0 w.heap.size (.int .i64 0) (.int .u8 0) (.int .i64 0) (.int .i64 0) (.bool false) (.slice none 0 0) := by
    rw [← hW]; unfold Blk; exact ((World.grownBy_alloc _ _ none).block _ (by simp) (by simp)).trans (heap_alloc_new w _)
  have e0 : Blk W0 (w.heap.size + 1) (.int .i64 0) (.int .u8 0) (.int .i64 0) (.int .i64 0) (.bool false) (.slice none 0 0) := by
    rw [← hW]; unfold Blk
    have := heap_alloc_new (w.alloc (Obj.cells #[.int .i64 0, .int .u8 0, .int .i64 0, .int .i64 0, .bool false, .slice none 0 0] 28)) (Obj.cells #[.int .i64 0, .int .u8 0, .int .i64 0, .int .i64 0, .bool false, .slice none 0 0] 28)
    simpa using this
  have M0 : Mid w R (w.heap.size + 1) l sp (.int .i64 0) (.int .u8 0) (.int .i64 0) (.int .i64 0) (.bool false) (.slice none 0 0) W0 := ⟨h.grown g0, e0, ⟨g0.os, g0.tape, g0.output, g0.size, fun k hk hne => g0.block k hk (by simp)⟩⟩
  have HW := Lib.hid hW
  have HM0 := Lib.hid M0
  have HR0 := Lib.hid r0
  have hS : R < w.heap.size + 1 := by omega
  have hS0 : w.heap.size ≤ w.heap.size + 1 := by omega
  clear hW g0 r0 e0 M0 h
  have hz : ∀ w : World, True := fun _ => trivial
  go_enter Tryz.func48, Tryz.ntmps48
  go_wp2_with fail
  rw [HW.out]
  have q1 := T1 _ (HM0.out).left
  refine (q1.out).mono ?_
  clear q1
  rintro e w1 ⟨rfl, hL, hg⟩
  have N1 := Lib.hid ((HM0.out).call hS hL hg)
  have HC1 := Lib.hid ((HR0.out).keep hg (fun e => by have := Option.some.inj e; omega))
  have f1 := ((N1.out).blk).free 0
  have y1 := ((N1.out).blk).cells
  obtain ⟨y1, -, -, -, -, -⟩ := y1
  have HM1 := Lib.hid ((N1.out).set0 hS0 hS (.int .i64 t))
  have HR1 := Lib.hid ((HC1.out).keep (grownBy_setCell w1 ⟨w.heap.size + 1, 0, none⟩ (.int .i64 t)) (fun e => by have : w.heap.size + 1 = w.heap.size := Option.some.inj e; omega))
  clear hL hg
  go_wp2_with fail
  have q2 := T2 _ (HM1.out).left
  refine (q2.out).mono ?_
  clear q2
  rintro e w2 ⟨rfl, hL, hg⟩
  have N2 := Lib.hid ((HM1.out).call hS hL hg)
  have HC2 := Lib.hid ((HR1.out).keep hg (fun e => by have := Option.some.inj e; omega))
  have f2 := ((N2.out).blk).free 1
  have y2 := ((N2.out).blk).cells
  obtain ⟨-, y2, -, -, -, -⟩ := y2
  have HM2 := Lib.hid ((N2.out).set1 hS0 hS (.int .u8 k))
  have HR2 := Lib.hid ((HC2.out).keep (grownBy_setCell w2 ⟨w.heap.size + 1, 1, none⟩ (.int .u8 k)) (fun e => by have : w.heap.size + 1 = w.heap.size := Option.some.inj e; omega))
  clear hL hg
  go_wp2_with fail
  have q3 := T3 _ (HM2.out).left
  refine (q3.out).mono ?_
  clear q3
  rintro e w3 ⟨rfl, hL, hg⟩
  have N3 := Lib.hid ((HM2.out).call hS hL hg)
  have HC3 := Lib.hid ((HR2.out).keep hg (fun e => by have := Option.some.inj e; omega))
  have f3 := ((N3.out).blk).free 2
  have y3 := ((N3.out).blk).cells
  obtain ⟨-, -, y3, -, -, -⟩ := y3
  have HM3 := Lib.hid ((N3.out).set2 hS0 hS (.int .i64 v))
  have HR3 := Lib.hid ((HC3.out).keep (grownBy_setCell w3 ⟨w.heap.size + 1, 2, none⟩ (.int .i64 v)) (fun e => by have : w.heap.size + 1 = w.heap.size := Option.some.inj e; omega))
  clear hL hg
  go_wp2_with fail
  have q4 := T4 _ (HM3.out).left
  refine (q4.out).mono ?_
  clear q4
  rintro e w4 ⟨rfl, hL, hg⟩
  have N4 := Lib.hid ((HM3.out).call hS hL hg)
  have HC4 := Lib.hid ((HR3.out).keep hg (fun e => by have := Option.some.inj e; omega))
  have f4 := ((N4.out).blk).free 3
  have y4 := ((N4.out).blk).cells
  obtain ⟨-, -, -, y4, -, -⟩ := y4
  have HM4 := Lib.hid ((N4.out).set3 hS0 hS (.int .i64 s))
  have HR4 := Lib.hid ((HC4.out).keep (grownBy_setCell w4 ⟨w.heap.size + 1, 3, none⟩ (.int .i64 s)) (fun e => by have : w.heap.size + 1 = w.heap.size := Option.some.inj e; omega))
  clear hL hg
  go_wp2_with fail
  have q5 := T5 _ (HM4.out).left
  refine (q5.out).mono ?_
  rintro e w5 ⟨rfl, hL, hg⟩
  exact ⟨rfl, rfl, hL, grownBy_trans (HM4.out).grown hg⟩

set_option maxHeartbeats 4000000 in
set_option maxRecDepth 100000 in
theorem entry_none6 {R : Nat} {l : List Int} {sp : Option Addr} {w : World} {t k v s g : Int} {l1 l2 l3 l4 l5 : List Int} (h : Left w R l sp) (h1 : rdNum l = some (t, l1)) (h2 : rdIn 255 l1 = some (k, l2)) (h3 : rdNum l2 = some (v, l3)) (h4 : rdNum l3 = some (s, l4)) (h5 : rdIn 1 l4 = some (g, l5)) (h6 : rdBytes l5 = none) :
    Calls Tryz.prog 48 #[.pointer (some ⟨R, 0, none⟩)] w (Fails R sp w) := by
  have hk0 := (rdIn_some h2).2.1
  have hk1 := (rdIn_some h2).2.2
  have hg0 := (rdIn_some h5).2.1
  have hg1 := (rdIn_some h5).2.2
  have T1 := fun W (hL : Left W R l sp) => Lib.hid (number_some hL h1)
  have T2 := fun W (hL : Left W R l1 sp) => Lib.hid (within_some hL h2)
  have T3 := fun W (hL : Left W R l2 sp) => Lib.hid (number_some hL h3)
  have T4 := fun W (hL : Left W R l3 sp) => Lib.hid (number_some hL h4)
  have T5 := fun W (hL : Left W R l4 sp) => Lib.hid (within_some hL h5)
  have T6 := fun W (hL : Left W R l5 sp) => Lib.hid (block_none hL h6)
  clear h1 h2 h3 h4 h5 h6
  have hlt := h.lt
  generalize hW : (w.alloc (Obj.cells #[.int .i64 0, .int .u8 0, .int .i64 0, .int .i64 0, .bool false, .slice none 0 0] 28)).alloc (Obj.cells #[.int .i64 0, .int .u8 0, .int .i64 0, .int .i64 0, .bool false, .slice none 0 0] 28) = W0
  have g0 : w.grownBy W0 none := by rw [← hW]; exact grownBy_trans (World.grownBy_alloc w _ none) (World.grownBy_alloc _ _ none)
  have r0 : Blk W0 w.heap.size (.int .i64 0) (.int .u8 0) (.int .i64 0) (.int .i64 0) (.bool false) (.slice none 0 0) := by
    rw [← hW]; unfold Blk; exact ((World.grownBy_alloc _ _ none).block _ (by simp) (by simp)).trans (heap_alloc_new w _)
  have e0 : Blk W0 (w.heap.size + 1) (.int .i64 0) (.int .u8 0) (.int .i64 0) (.int .i64 0) (.bool false) (.slice none 0 0) := by
    rw [← hW]; unfold Blk
    have := heap_alloc_new (w.alloc (Obj.cells #[.int .i64 0, .int .u8 0, .int .i64 0, .int .i64 0, .bool false, .slice none 0 0] 28)) (Obj.cells #[.int .i64 0, .int .u8 0, .int .i64 0, .int .i64 0, .bool false, .slice none 0 0] 28)
    simpa using this
  have M0 : Mid w R (w.heap.size + 1) l sp (.int .i64 0) (.int .u8 0) (.int .i64 0) (.int .i64 0) (.bool false) (.slice none 0 0) W0 := ⟨h.grown g0, e0, ⟨g0.os, g0.tape, g0.output, g0.size, fun k hk hne => g0.block k hk (by simp)⟩⟩
  have HW := Lib.hid hW
  have HM0 := Lib.hid M0
  have HR0 := Lib.hid r0
  have hS : R < w.heap.size + 1 := by omega
  have hS0 : w.heap.size ≤ w.heap.size + 1 := by omega
  clear hW g0 r0 e0 M0 h
  have hz : ∀ w : World, True := fun _ => trivial
  go_enter Tryz.func48, Tryz.ntmps48
  go_wp2_with fail
  rw [HW.out]
  have q1 := T1 _ (HM0.out).left
  refine (q1.out).mono ?_
  clear q1
  rintro e w1 ⟨rfl, hL, hg⟩
  have N1 := Lib.hid ((HM0.out).call hS hL hg)
  have HC1 := Lib.hid ((HR0.out).keep hg (fun e => by have := Option.some.inj e; omega))
  have f1 := ((N1.out).blk).free 0
  have y1 := ((N1.out).blk).cells
  obtain ⟨y1, -, -, -, -, -⟩ := y1
  have HM1 := Lib.hid ((N1.out).set0 hS0 hS (.int .i64 t))
  have HR1 := Lib.hid ((HC1.out).keep (grownBy_setCell w1 ⟨w.heap.size + 1, 0, none⟩ (.int .i64 t)) (fun e => by have : w.heap.size + 1 = w.heap.size := Option.some.inj e; omega))
  clear hL hg
  go_wp2_with fail
  have q2 := T2 _ (HM1.out).left
  refine (q2.out).mono ?_
  clear q2
  rintro e w2 ⟨rfl, hL, hg⟩
  have N2 := Lib.hid ((HM1.out).call hS hL hg)
  have HC2 := Lib.hid ((HR1.out).keep hg (fun e => by have := Option.some.inj e; omega))
  have f2 := ((N2.out).blk).free 1
  have y2 := ((N2.out).blk).cells
  obtain ⟨-, y2, -, -, -, -⟩ := y2
  have HM2 := Lib.hid ((N2.out).set1 hS0 hS (.int .u8 k))
  have HR2 := Lib.hid ((HC2.out).keep (grownBy_setCell w2 ⟨w.heap.size + 1, 1, none⟩ (.int .u8 k)) (fun e => by have : w.heap.size + 1 = w.heap.size := Option.some.inj e; omega))
  clear hL hg
  go_wp2_with fail
  have q3 := T3 _ (HM2.out).left
  refine (q3.out).mono ?_
  clear q3
  rintro e w3 ⟨rfl, hL, hg⟩
  have N3 := Lib.hid ((HM2.out).call hS hL hg)
  have HC3 := Lib.hid ((HR2.out).keep hg (fun e => by have := Option.some.inj e; omega))
  have f3 := ((N3.out).blk).free 2
  have y3 := ((N3.out).blk).cells
  obtain ⟨-, -, y3, -, -, -⟩ := y3
  have HM3 := Lib.hid ((N3.out).set2 hS0 hS (.int .i64 v))
  have HR3 := Lib.hid ((HC3.out).keep (grownBy_setCell w3 ⟨w.heap.size + 1, 2, none⟩ (.int .i64 v)) (fun e => by have : w.heap.size + 1 = w.heap.size := Option.some.inj e; omega))
  clear hL hg
  go_wp2_with fail
  have q4 := T4 _ (HM3.out).left
  refine (q4.out).mono ?_
  clear q4
  rintro e w4 ⟨rfl, hL, hg⟩
  have N4 := Lib.hid ((HM3.out).call hS hL hg)
  have HC4 := Lib.hid ((HR3.out).keep hg (fun e => by have := Option.some.inj e; omega))
  have f4 := ((N4.out).blk).free 3
  have y4 := ((N4.out).blk).cells
  obtain ⟨-, -, -, y4, -, -⟩ := y4
  have HM4 := Lib.hid ((N4.out).set3 hS0 hS (.int .i64 s))
  have HR4 := Lib.hid ((HC4.out).keep (grownBy_setCell w4 ⟨w.heap.size + 1, 3, none⟩ (.int .i64 s)) (fun e => by have : w.heap.size + 1 = w.heap.size := Option.some.inj e; omega))
  clear hL hg
  go_wp2_with fail
  have q5 := T5 _ (HM4.out).left
  refine (q5.out).mono ?_
  clear q5
  rintro e w5 ⟨rfl, hL, hg⟩
  have N5 := Lib.hid ((HM4.out).call hS hL hg)
  have HC5 := Lib.hid ((HR4.out).keep hg (fun e => by have := Option.some.inj e; omega))
  have f5 := ((N5.out).blk).free 4
  have y5 := ((N5.out).blk).cells
  obtain ⟨-, -, -, -, y5, -⟩ := y5
  have HM5 := Lib.hid ((N5.out).set4 hS0 hS (.bool (decide (g = 1))))
  have HR5 := Lib.hid ((HC5.out).keep (grownBy_setCell w5 ⟨w.heap.size + 1, 4, none⟩ (.bool (decide (g = 1)))) (fun e => by have : w.heap.size + 1 = w.heap.size := Option.some.inj e; omega))
  clear hL hg
  go_wp2_with fail
  have q6 := T6 _ (HM5.out).left
  refine (q6.out).mono ?_
  rintro e w6 ⟨rfl, hL, hg⟩
  exact ⟨rfl, rfl, hL, grownBy_trans (HM5.out).grown hg⟩

set_option maxHeartbeats 4000000 in
set_option maxRecDepth 100000 in
theorem entry_some {R : Nat} {l : List Int} {sp : Option Addr} {w : World} {t k v s g : Int} {d : List Int} {l1 l2 l3 l4 l5 l6 : List Int} (h : Left w R l sp) (h1 : rdNum l = some (t, l1)) (h2 : rdIn 255 l1 = some (k, l2)) (h3 : rdNum l2 = some (v, l3)) (h4 : rdNum l3 = some (s, l4)) (h5 : rdIn 1 l4 = some (g, l5)) (h6 : rdBytes l5 = some (d, l6)) (hlen : l5.length ≤ 140737488351232) :
    Calls Tryz.prog 48 #[.pointer (some ⟨R, 0, none⟩)] w (ReadsEnt R ⟨t, k, v, s, decide (g = 1), d⟩ l6 sp w) := by
  have hk0 := (rdIn_some h2).2.1
  have hk1 := (rdIn_some h2).2.2
  have hg0 := (rdIn_some h5).2.1
  have hg1 := (rdIn_some h5).2.2
  have T1 := fun W (hL : Left W R l sp) => Lib.hid (number_some hL h1)
  have T2 := fun W (hL : Left W R l1 sp) => Lib.hid (within_some hL h2)
  have T3 := fun W (hL : Left W R l2 sp) => Lib.hid (number_some hL h3)
  have T4 := fun W (hL : Left W R l3 sp) => Lib.hid (number_some hL h4)
  have T5 := fun W (hL : Left W R l4 sp) => Lib.hid (within_some hL h5)
  have T6 := fun W (hL : Left W R l5 sp) => Lib.hid (block_some hL h6 hlen)
  clear h1 h2 h3 h4 h5 h6
  have hlt := h.lt
  generalize hW : (w.alloc (Obj.cells #[.int .i64 0, .int .u8 0, .int .i64 0, .int .i64 0, .bool false, .slice none 0 0] 28)).alloc (Obj.cells #[.int .i64 0, .int .u8 0, .int .i64 0, .int .i64 0, .bool false, .slice none 0 0] 28) = W0
  have g0 : w.grownBy W0 none := by rw [← hW]; exact grownBy_trans (World.grownBy_alloc w _ none) (World.grownBy_alloc _ _ none)
  have r0 : Blk W0 w.heap.size (.int .i64 0) (.int .u8 0) (.int .i64 0) (.int .i64 0) (.bool false) (.slice none 0 0) := by
    rw [← hW]; unfold Blk; exact ((World.grownBy_alloc _ _ none).block _ (by simp) (by simp)).trans (heap_alloc_new w _)
  have e0 : Blk W0 (w.heap.size + 1) (.int .i64 0) (.int .u8 0) (.int .i64 0) (.int .i64 0) (.bool false) (.slice none 0 0) := by
    rw [← hW]; unfold Blk
    have := heap_alloc_new (w.alloc (Obj.cells #[.int .i64 0, .int .u8 0, .int .i64 0, .int .i64 0, .bool false, .slice none 0 0] 28)) (Obj.cells #[.int .i64 0, .int .u8 0, .int .i64 0, .int .i64 0, .bool false, .slice none 0 0] 28)
    simpa using this
  have M0 : Mid w R (w.heap.size + 1) l sp (.int .i64 0) (.int .u8 0) (.int .i64 0) (.int .i64 0) (.bool false) (.slice none 0 0) W0 := ⟨h.grown g0, e0, ⟨g0.os, g0.tape, g0.output, g0.size, fun k hk hne => g0.block k hk (by simp)⟩⟩
  have HW := Lib.hid hW
  have HM0 := Lib.hid M0
  have HR0 := Lib.hid r0
  have hS : R < w.heap.size + 1 := by omega
  have hS0 : w.heap.size ≤ w.heap.size + 1 := by omega
  clear hW g0 r0 e0 M0 h
  have hz : ∀ w : World, True := fun _ => trivial
  go_enter Tryz.func48, Tryz.ntmps48
  go_wp2_with fail
  rw [HW.out]
  have q1 := T1 _ (HM0.out).left
  refine (q1.out).mono ?_
  clear q1
  rintro e w1 ⟨rfl, hL, hg⟩
  have N1 := Lib.hid ((HM0.out).call hS hL hg)
  have HC1 := Lib.hid ((HR0.out).keep hg (fun e => by have := Option.some.inj e; omega))
  have f1 := ((N1.out).blk).free 0
  have y1 := ((N1.out).blk).cells
  obtain ⟨y1, -, -, -, -, -⟩ := y1
  have HM1 := Lib.hid ((N1.out).set0 hS0 hS (.int .i64 t))
  have HR1 := Lib.hid ((HC1.out).keep (grownBy_setCell w1 ⟨w.heap.size + 1, 0, none⟩ (.int .i64 t)) (fun e => by have : w.heap.size + 1 = w.heap.size := Option.some.inj e; omega))
  clear hL hg
  go_wp2_with fail
  have q2 := T2 _ (HM1.out).left
  refine (q2.out).mono ?_
  clear q2
  rintro e w2 ⟨rfl, hL, hg⟩
  have N2 := Lib.hid ((HM1.out).call hS hL hg)
  have HC2 := Lib.hid ((HR1.out).keep hg (fun e => by have := Option.some.inj e; omega))
  have f2 := ((N2.out).blk).free 1
  have y2 := ((N2.out).blk).cells
  obtain ⟨-, y2, -, -, -, -⟩ := y2
  have HM2 := Lib.hid ((N2.out).set1 hS0 hS (.int .u8 k))
  have HR2 := Lib.hid ((HC2.out).keep (grownBy_setCell w2 ⟨w.heap.size + 1, 1, none⟩ (.int .u8 k)) (fun e => by have : w.heap.size + 1 = w.heap.size := Option.some.inj e; omega))
  clear hL hg
  go_wp2_with fail
  have q3 := T3 _ (HM2.out).left
  refine (q3.out).mono ?_
  clear q3
  rintro e w3 ⟨rfl, hL, hg⟩
  have N3 := Lib.hid ((HM2.out).call hS hL hg)
  have HC3 := Lib.hid ((HR2.out).keep hg (fun e => by have := Option.some.inj e; omega))
  have f3 := ((N3.out).blk).free 2
  have y3 := ((N3.out).blk).cells
  obtain ⟨-, -, y3, -, -, -⟩ := y3
  have HM3 := Lib.hid ((N3.out).set2 hS0 hS (.int .i64 v))
  have HR3 := Lib.hid ((HC3.out).keep (grownBy_setCell w3 ⟨w.heap.size + 1, 2, none⟩ (.int .i64 v)) (fun e => by have : w.heap.size + 1 = w.heap.size := Option.some.inj e; omega))
  clear hL hg
  go_wp2_with fail
  have q4 := T4 _ (HM3.out).left
  refine (q4.out).mono ?_
  clear q4
  rintro e w4 ⟨rfl, hL, hg⟩
  have N4 := Lib.hid ((HM3.out).call hS hL hg)
  have HC4 := Lib.hid ((HR3.out).keep hg (fun e => by have := Option.some.inj e; omega))
  have f4 := ((N4.out).blk).free 3
  have y4 := ((N4.out).blk).cells
  obtain ⟨-, -, -, y4, -, -⟩ := y4
  have HM4 := Lib.hid ((N4.out).set3 hS0 hS (.int .i64 s))
  have HR4 := Lib.hid ((HC4.out).keep (grownBy_setCell w4 ⟨w.heap.size + 1, 3, none⟩ (.int .i64 s)) (fun e => by have : w.heap.size + 1 = w.heap.size := Option.some.inj e; omega))
  clear hL hg
  go_wp2_with fail
  have q5 := T5 _ (HM4.out).left
  refine (q5.out).mono ?_
  clear q5
  rintro e w5 ⟨rfl, hL, hg⟩
  have N5 := Lib.hid ((HM4.out).call hS hL hg)
  have HC5 := Lib.hid ((HR4.out).keep hg (fun e => by have := Option.some.inj e; omega))
  have f5 := ((N5.out).blk).free 4
  have y5 := ((N5.out).blk).cells
  obtain ⟨-, -, -, -, y5, -⟩ := y5
  have HM5 := Lib.hid ((N5.out).set4 hS0 hS (.bool (decide (g = 1))))
  have HR5 := Lib.hid ((HC5.out).keep (grownBy_setCell w5 ⟨w.heap.size + 1, 4, none⟩ (.bool (decide (g = 1)))) (fun e => by have : w.heap.size + 1 = w.heap.size := Option.some.inj e; omega))
  clear hL hg
  go_wp2_with fail
  have q6 := T6 _ (HM5.out).left
  refine (q6.out).mono ?_
  clear q6
  rintro e w6 ⟨x6, rfl, ho, hL, hg⟩
  have N6 := Lib.hid ((HM5.out).call hS hL hg)
  have HC6 := Lib.hid ((HR5.out).keep hg (fun e => by have := Option.some.inj e; omega))
  have f6 := ((N6.out).blk).free 5
  have y6 := ((N6.out).blk).cells
  obtain ⟨-, -, -, -, -, y6⟩ := y6
  have HM6 := Lib.hid ((N6.out).set5 hS0 hS (x6))
  have HR6 := Lib.hid ((HC6.out).keep (grownBy_setCell w6 ⟨w.heap.size + 1, 5, none⟩ (x6)) (fun e => by have : w.heap.size + 1 = w.heap.size := Option.some.inj e; omega))
  obtain ⟨e0, e1, e2, e3, e4, -⟩ := ((N6.out).blk).cells
  obtain ⟨r0, r1, r2, r3, r4, r5⟩ := (HC6.out).cells
  have fr := (HC6.out).free
  have hg6 := Lib.hid hg
  have ho6 := Lib.hid ho
  clear ho
  obtain ⟨ax, cx, rfl⟩ := (ho6.out).bs.shape
  clear hL hg
  have B6 := wrote_blk HR6.out (.int .i64 t) (.int .u8 k) (.int .i64 v) (.int .i64 s) (.bool (decide (g = 1))) (.slice ax d.length cx)
  have G6 := wrote_grown (w6.setCell ⟨w.heap.size + 1, 5, none⟩ (.slice ax d.length cx)) w.heap.size (.int .i64 t) (.int .u8 k) (.int .i64 v) (.int .i64 s) (.bool (decide (g = 1))) (.slice ax d.length cx)
  have L6 := (HM6.out).left.keep G6 (fun k hk => by cases hk; exact ⟨by omega, (HR6.out).noBytes⟩)
  have P6 := grownBy_past (HM6.out).grown (Nat.le_refl _) G6
  have y5' := (HM5.out).grown.size
  have O6 : Own (wrote (w6.setCell ⟨w.heap.size + 1, 5, none⟩ (.slice ax d.length cx)) w.heap.size (.int .i64 t) (.int .u8 k) (.int .i64 v) (.int .i64 s) (.bool (decide (g = 1))) (.slice ax d.length cx)) w.heap.size (.slice ax d.length cx) d := by
    have b5 := ((HM5.out).blk)
    have z5 : w.heap.size + 1 < (w5.setCell ⟨w.heap.size + 1, 4, none⟩ (.bool (decide (g = 1)))).heap.size := (Array.getElem?_eq_some_iff.1 b5).1
    have hlt6 := (ho6.out).lt
    have o1 := (ho6.out).kept (grownBy_setCell w6 ⟨w.heap.size + 1, 5, none⟩ (.slice ax d.length cx)) (Or.inr (fun e => by have h1 : _ ≤ w.heap.size + 1 := (hlt6 _ e).1; omega))
    exact (o1.kept G6 (Or.inr (fun e => by have := (hlt6 _ e).1; omega))).mono (Nat.le_trans y5' (Nat.le_refl _))
  have HB6 := Lib.hid B6
  have HL6 := Lib.hid L6
  have HP6 := Lib.hid P6
  have HO6 := Lib.hid O6
  clear B6 G6 L6 P6 O6 y5'
  go_wp2_with fail
  show bodyPost _ _ _ _ _ (wrote (w6.setCell ⟨w.heap.size + 1, 5, none⟩ (.slice ax d.length cx)) w.heap.size (.int .i64 t) (.int .u8 k) (.int .i64 v) (.int .i64 s) (.bool (decide (g = 1))) (.slice ax d.length cx))
  generalize wrote (w6.setCell ⟨w.heap.size + 1, 5, none⟩ (.slice ax d.length cx)) w.heap.size (.int .i64 t) (.int .u8 k) (.int .i64 v) (.int .i64 s) (.bool (decide (g = 1))) (.slice ax d.length cx) = W at *
  obtain ⟨z0, z1, z2, z3, z4, z5⟩ := (HB6.out).cells
  exact bodyPost_ret (v := .agg #[.int .i64 t, .int .u8 k, .int .i64 v, .int .i64 s, .bool (decide (g = 1)), .slice ax d.length cx]) (by simp [results, Tryz.results48, go_sem, z0, z1, z2, z3, z4, z5]) rfl ⟨_, rfl, HO6.out, HL6.out, HP6.out⟩
end Go.Proofs.YtggbpdkejkmakaaGreat
