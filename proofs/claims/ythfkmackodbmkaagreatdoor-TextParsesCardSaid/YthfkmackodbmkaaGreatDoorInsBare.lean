/- The program: nothing but what an instruction has. -/
import Derived.Test.YthfkmackodbmkaaGreatDoorInsLeaf
namespace Go.Proofs.YthfkmackodbmkaaGreatDoor
open Go.RowKit
set_option linter.unusedVariables false
set_option linter.unusedSimpArgs false
set_option maxRecDepth 100000

set_option maxHeartbeats 8000000 in
theorem bared1 (i : Ins) (w : World) : Calls Tryz.prog 49 #[agg i, .int .u64 1] w fun e w' => e = .returned (agg (bare i 1)) ∧ Below w.heap.size w w' := by
  obtain ⟨op, nw, dst, src, ui, off, im, sz⟩ := i
  obtain ⟨F, hF⟩ : ∃ F, F = agg (bare ⟨op, nw, dst, src, ui, off, im, sz⟩ 1) := ⟨_, rfl⟩
  rw [← hF]
  have HF := Lib.hid hF
  clear hF
  unfold agg
  go_enter Tryz.func49, Tryz.ntmps49
  go_wp2_with fail
  refine bodyPost_ret (v := F) (by rw [HF.out]; simp [results, Tryz.results49, go_sem, agg, bare, show bit 1 2 = false from by decide, show bit 1 4 = false from by decide, show bit 1 8 = false from by decide, show bit 1 16 = false from by decide, show bit 1 32 = false from by decide, show bit 1 64 = false from by decide, show bit 1 128 = false from by decide]) rfl ⟨rfl, ?_⟩
  repeat (first | exact Below.refl _ _ | refine Below.drew ?_ | refine Below.alloc ?_ (by simp <;> omega) _)

set_option maxHeartbeats 8000000 in
theorem bared33 (i : Ins) (w : World) : Calls Tryz.prog 49 #[agg i, .int .u64 33] w fun e w' => e = .returned (agg (bare i 33)) ∧ Below w.heap.size w w' := by
  obtain ⟨op, nw, dst, src, ui, off, im, sz⟩ := i
  obtain ⟨F, hF⟩ : ∃ F, F = agg (bare ⟨op, nw, dst, src, ui, off, im, sz⟩ 33) := ⟨_, rfl⟩
  rw [← hF]
  have HF := Lib.hid hF
  clear hF
  unfold agg
  go_enter Tryz.func49, Tryz.ntmps49
  go_wp2_with fail
  refine bodyPost_ret (v := F) (by rw [HF.out]; simp [results, Tryz.results49, go_sem, agg, bare, show bit 33 2 = false from by decide, show bit 33 4 = false from by decide, show bit 33 8 = false from by decide, show bit 33 16 = false from by decide, show bit 33 32 = true from by decide, show bit 33 64 = false from by decide, show bit 33 128 = false from by decide]) rfl ⟨rfl, ?_⟩
  repeat (first | exact Below.refl _ _ | refine Below.drew ?_ | refine Below.alloc ?_ (by simp <;> omega) _)

set_option maxHeartbeats 8000000 in
theorem bared107 (i : Ins) (w : World) : Calls Tryz.prog 49 #[agg i, .int .u64 107] w fun e w' => e = .returned (agg (bare i 107)) ∧ Below w.heap.size w w' := by
  obtain ⟨op, nw, dst, src, ui, off, im, sz⟩ := i
  obtain ⟨F, hF⟩ : ∃ F, F = agg (bare ⟨op, nw, dst, src, ui, off, im, sz⟩ 107) := ⟨_, rfl⟩
  rw [← hF]
  have HF := Lib.hid hF
  clear hF
  unfold agg
  go_enter Tryz.func49, Tryz.ntmps49
  go_wp2_with fail
  refine bodyPost_ret (v := F) (by rw [HF.out]; simp [results, Tryz.results49, go_sem, agg, bare, show bit 107 2 = true from by decide, show bit 107 4 = false from by decide, show bit 107 8 = true from by decide, show bit 107 16 = false from by decide, show bit 107 32 = true from by decide, show bit 107 64 = true from by decide, show bit 107 128 = false from by decide]) rfl ⟨rfl, ?_⟩
  repeat (first | exact Below.refl _ _ | refine Below.drew ?_ | refine Below.alloc ?_ (by simp <;> omega) _)

set_option maxHeartbeats 8000000 in
theorem bared117 (i : Ins) (w : World) : Calls Tryz.prog 49 #[agg i, .int .u64 117] w fun e w' => e = .returned (agg (bare i 117)) ∧ Below w.heap.size w w' := by
  obtain ⟨op, nw, dst, src, ui, off, im, sz⟩ := i
  obtain ⟨F, hF⟩ : ∃ F, F = agg (bare ⟨op, nw, dst, src, ui, off, im, sz⟩ 117) := ⟨_, rfl⟩
  rw [← hF]
  have HF := Lib.hid hF
  clear hF
  unfold agg
  go_enter Tryz.func49, Tryz.ntmps49
  cases ui with
  | false =>
    go_wp2_with fail
    refine bodyPost_ret (v := F) (by rw [HF.out]; simp [results, Tryz.results49, go_sem, agg, bare, show bit 117 2 = false from by decide, show bit 117 4 = true from by decide, show bit 117 8 = false from by decide, show bit 117 16 = true from by decide, show bit 117 32 = true from by decide, show bit 117 64 = true from by decide, show bit 117 128 = false from by decide]) rfl ⟨rfl, ?_⟩
    repeat (first | exact Below.refl _ _ | refine Below.drew ?_ | refine Below.alloc ?_ (by simp <;> omega) _)
  | true =>
    go_wp2_with fail
    go_region
    go_wp2_with fail
    refine bodyPost_ret (v := F) (by rw [HF.out]; simp [results, Tryz.results49, go_sem, agg, bare, show bit 117 2 = false from by decide, show bit 117 4 = true from by decide, show bit 117 8 = false from by decide, show bit 117 16 = true from by decide, show bit 117 32 = true from by decide, show bit 117 64 = true from by decide, show bit 117 128 = false from by decide]) rfl ⟨rfl, ?_⟩
    repeat (first | exact Below.refl _ _ | refine Below.drew ?_ | refine Below.alloc ?_ (by simp <;> omega) _)

set_option maxHeartbeats 8000000 in
theorem bared131 (i : Ins) (w : World) : Calls Tryz.prog 49 #[agg i, .int .u64 131] w fun e w' => e = .returned (agg (bare i 131)) ∧ Below w.heap.size w w' := by
  obtain ⟨op, nw, dst, src, ui, off, im, sz⟩ := i
  obtain ⟨F, hF⟩ : ∃ F, F = agg (bare ⟨op, nw, dst, src, ui, off, im, sz⟩ 131) := ⟨_, rfl⟩
  rw [← hF]
  have HF := Lib.hid hF
  clear hF
  unfold agg
  go_enter Tryz.func49, Tryz.ntmps49
  go_wp2_with fail
  refine bodyPost_ret (v := F) (by rw [HF.out]; simp [results, Tryz.results49, go_sem, agg, bare, show bit 131 2 = true from by decide, show bit 131 4 = false from by decide, show bit 131 8 = false from by decide, show bit 131 16 = false from by decide, show bit 131 32 = false from by decide, show bit 131 64 = false from by decide, show bit 131 128 = true from by decide]) rfl ⟨rfl, ?_⟩
  repeat (first | exact Below.refl _ _ | refine Below.drew ?_ | refine Below.alloc ?_ (by simp <;> omega) _)

set_option maxHeartbeats 8000000 in
theorem bared147 (i : Ins) (w : World) : Calls Tryz.prog 49 #[agg i, .int .u64 147] w fun e w' => e = .returned (agg (bare i 147)) ∧ Below w.heap.size w w' := by
  obtain ⟨op, nw, dst, src, ui, off, im, sz⟩ := i
  obtain ⟨F, hF⟩ : ∃ F, F = agg (bare ⟨op, nw, dst, src, ui, off, im, sz⟩ 147) := ⟨_, rfl⟩
  rw [← hF]
  have HF := Lib.hid hF
  clear hF
  unfold agg
  go_enter Tryz.func49, Tryz.ntmps49
  cases ui with
  | false =>
    go_wp2_with fail
    refine bodyPost_ret (v := F) (by rw [HF.out]; simp [results, Tryz.results49, go_sem, agg, bare, show bit 147 2 = true from by decide, show bit 147 4 = false from by decide, show bit 147 8 = false from by decide, show bit 147 16 = true from by decide, show bit 147 32 = false from by decide, show bit 147 64 = false from by decide, show bit 147 128 = true from by decide]) rfl ⟨rfl, ?_⟩
    repeat (first | exact Below.refl _ _ | refine Below.drew ?_ | refine Below.alloc ?_ (by simp <;> omega) _)
  | true =>
    go_wp2_with fail
    go_region
    go_wp2_with fail
    refine bodyPost_ret (v := F) (by rw [HF.out]; simp [results, Tryz.results49, go_sem, agg, bare, show bit 147 2 = true from by decide, show bit 147 4 = false from by decide, show bit 147 8 = false from by decide, show bit 147 16 = true from by decide, show bit 147 32 = false from by decide, show bit 147 64 = false from by decide, show bit 147 128 = true from by decide]) rfl ⟨rfl, ?_⟩
    repeat (first | exact Below.refl _ _ | refine Below.drew ?_ | refine Below.alloc ?_ (by simp <;> omega) _)

set_option maxHeartbeats 8000000 in
theorem bared181 (i : Ins) (w : World) : Calls Tryz.prog 49 #[agg i, .int .u64 181] w fun e w' => e = .returned (agg (bare i 181)) ∧ Below w.heap.size w w' := by
  obtain ⟨op, nw, dst, src, ui, off, im, sz⟩ := i
  obtain ⟨F, hF⟩ : ∃ F, F = agg (bare ⟨op, nw, dst, src, ui, off, im, sz⟩ 181) := ⟨_, rfl⟩
  rw [← hF]
  have HF := Lib.hid hF
  clear hF
  unfold agg
  go_enter Tryz.func49, Tryz.ntmps49
  cases ui with
  | false =>
    go_wp2_with fail
    refine bodyPost_ret (v := F) (by rw [HF.out]; simp [results, Tryz.results49, go_sem, agg, bare, show bit 181 2 = false from by decide, show bit 181 4 = true from by decide, show bit 181 8 = false from by decide, show bit 181 16 = true from by decide, show bit 181 32 = true from by decide, show bit 181 64 = false from by decide, show bit 181 128 = true from by decide]) rfl ⟨rfl, ?_⟩
    repeat (first | exact Below.refl _ _ | refine Below.drew ?_ | refine Below.alloc ?_ (by simp <;> omega) _)
  | true =>
    go_wp2_with fail
    go_region
    go_wp2_with fail
    refine bodyPost_ret (v := F) (by rw [HF.out]; simp [results, Tryz.results49, go_sem, agg, bare, show bit 181 2 = false from by decide, show bit 181 4 = true from by decide, show bit 181 8 = false from by decide, show bit 181 16 = true from by decide, show bit 181 32 = true from by decide, show bit 181 64 = false from by decide, show bit 181 128 = true from by decide]) rfl ⟨rfl, ?_⟩
    repeat (first | exact Below.refl _ _ | refine Below.drew ?_ | refine Below.alloc ?_ (by simp <;> omega) _)

theorem bared (i : Ins) (h : Int) (hh : h = 1 ∨ h = 33 ∨ h = 107 ∨ h = 117 ∨ h = 131 ∨ h = 147 ∨ h = 181) (w : World) :
    Calls Tryz.prog 49 #[agg i, .int .u64 h] w fun e w' => e = .returned (agg (bare i h)) ∧ Below w.heap.size w w' := by
  rcases hh with rfl | rfl | rfl | rfl | rfl | rfl | rfl
  · exact bared1 i w
  · exact bared33 i w
  · exact bared107 i w
  · exact bared117 i w
  · exact bared131 i w
  · exact bared147 i w
  · exact bared181 i w
end Go.Proofs.YthfkmackodbmkaaGreatDoor
