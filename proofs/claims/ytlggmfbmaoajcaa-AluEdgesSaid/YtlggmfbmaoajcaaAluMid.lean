/- Contracts of operators, relations, reckon and compare of package alu. -/
import Derived.Test.YtlggmfbmaoajcaaAluLeaf
import Derived.Test.YtlggmfbmaoajcaaFnMap
namespace Go.Proofs.Ytlggmfbmaoajcaa
open Go.RowKit
set_option linter.unusedVariables false

def tab32 (c : Nat) : List (Int × Value) := [(1, .func (.func 27) #[] #[]), (2, .func (.func 28) #[] #[]), (3, .func (.func 29) #[] #[]), (4, .func (.func 30) #[] #[]), (5, .func (.func 31) #[] #[]), (6, .func (.func 32) #[] #[]), (7, .func (.func 33) #[] #[]), (8, .func (.func 34) #[] #[]), (9, .func (.func 35) #[] #[.pointer (some ⟨c, 0, none⟩)]), (10, .func (.func 36) #[] #[.pointer (some ⟨c, 0, none⟩)]), (11, .func (.func 37) #[] #[.pointer (some ⟨c, 0, none⟩)]), (12, .func (.func 39) #[] #[]), (13, .func (.func 40) #[] #[])]
def Ops32 (w : World) (e : Ending) (w' : World) : Prop := ∃ b c, e = .returned (.map (some b)) ∧ PsMap w' b .u8 (tab32 c) ∧ w'.cell? ⟨c, 0, none⟩ = some (.int .u32 32) ∧ Below w.heap.size w w'
set_option maxHeartbeats 400000 in
theorem ops32 (w : World) : Calls Try.prog 22 #[] w (Ops32 w) := by
  have hmf : ∀ (fn : Fn) (first cap : Array Value) (w : World), (Instr.makeFunc fn first cap).run Try.prog w = .ok (.func fn first cap) w := fun _ _ _ _ => rfl
  go_enter Try.func22, Try.ntmps22
  go_wp2_with (first
    | (go_at_call 26; refine (width32 _).mono ?_; rintro e w' ⟨rfl, rfl⟩)
    | (refine wpList_make_ps _ rfl _ .u8 rfl ?_; intro b w1 hown)
    | (refine wpList_insert_ps _ rfl _ _ _ 50 rfl 22 _ .u8 Try.underlying50 Try.underlying22 _ _ _ hown rfl _ _ rfl rfl rfl ?_; clear hown; intro w1 hown))
  go_ret
  refine ⟨b, w.heap.size, rfl, hown.map, ?_, ?_⟩
  · have h1 := hown.below.cell (p := ⟨w.heap.size, 0, none⟩) (by simp)
    rw [h1]; simp [go_sem]
  · exact ((Below.refl _ _).alloc (Nat.le_refl _) _).trans (hown.below.mono (by simp))

def rtab32 : List (Int × Value) := [(17, .func (.func 56) #[] #[]), (18, .func (.func 57) #[] #[]), (19, .func (.func 58) #[] #[]), (20, .func (.func 59) #[] #[]), (21, .func (.func 60) #[] #[]), (22, .func (.func 61) #[] #[]), (23, .func (.func 62) #[] #[]), (24, .func (.func 63) #[] #[]), (25, .func (.func 64) #[] #[]), (26, .func (.func 65) #[] #[]), (27, .func (.func 66) #[] #[])]
def Rels32 (w : World) (e : Ending) (w' : World) : Prop := ∃ b, e = .returned (.map (some b)) ∧ PsMap w' b .u8 rtab32 ∧ Below w.heap.size w w'
set_option maxHeartbeats 400000 in
theorem rels32 (w : World) : Calls Try.prog 24 #[] w (Rels32 w) := by
  go_enter Try.func24, Try.ntmps24
  go_wp2_with (first
    | (refine wpList_make_ps _ rfl _ .u8 rfl ?_; intro b w1 hown)
    | (refine wpList_insert_ps _ rfl _ _ _ 58 rfl 22 _ .u8 Try.underlying58 Try.underlying22 _ _ _ hown rfl _ _ rfl rfl rfl ?_; clear hown; intro w1 hown))
  go_ret
  exact ⟨b, rfl, hown.map, hown.below⟩

theorem psFind_tab32 (op : Int) (c : Nat) (h : op < 1 ∨ 13 < op) : psFind (tab32 c) op = none := by
  have e : ∀ k : Int, 1 ≤ k → k ≤ 13 → (k == op) = false := fun k h1 h2 => by simp; omega
  simp only [psFind, tab32, List.find?, e 1 (by decide) (by decide), e 2 (by decide) (by decide), e 3 (by decide) (by decide), e 4 (by decide) (by decide), e 5 (by decide) (by decide), e 6 (by decide) (by decide), e 7 (by decide) (by decide), e 8 (by decide) (by decide), e 9 (by decide) (by decide), e 10 (by decide) (by decide), e 11 (by decide) (by decide), e 12 (by decide) (by decide), e 13 (by decide) (by decide), Option.map_none]
theorem psFind_rtab32 (op : Int) (h : op < 17 ∨ 27 < op) : psFind rtab32 op = none := by
  have e : ∀ k : Int, 17 ≤ k → k ≤ 27 → (k == op) = false := fun k h1 h2 => by simp; omega
  simp only [psFind, rtab32, List.find?, e 17 (by decide) (by decide), e 18 (by decide) (by decide), e 19 (by decide) (by decide), e 20 (by decide) (by decide), e 21 (by decide) (by decide), e 22 (by decide) (by decide), e 23 (by decide) (by decide), e 24 (by decide) (by decide), e 25 (by decide) (by decide), e 26 (by decide) (by decide), e 27 (by decide) (by decide), Option.map_none]
set_option maxHeartbeats 400000 in
theorem reckon32_bad (op a b : Int) (h : op < 1 ∨ 13 < op) (w : World) : Calls Try.prog 15 #[.int .u8 op, .int .u32 a, .int .u32 b] w (Pair (.int .u32 0) 2 w) := by
  have hf := fun c => psFind_tab32 op c h
  have HF := Lib.hid hf; clear hf
  go_enter Try.func15, Try.ntmps15
  go_wp2_with (first | (go_at_call 22; refine (ops32 _).mono ?_; rintro e w1 ⟨bm, c, rfl, hm0, hcell, hb0⟩; have hmap := Lib.hid hm0; clear hm0; have hbel := Lib.hid hb0; clear hb0) | (refine wpList_look_ps _ rfl _ _ 50 true rfl 22 48 .u8 Try.underlying50 Try.underlying22 (z := .nilFunc) (fun _ => by kernel_rfl) _ _ hmap.out rfl _ rfl (none) (HF.out _) ?_))
  go_ret2
  exact ⟨rfl, hbel.out⟩
set_option maxHeartbeats 400000 in
theorem compare32_bad (op a b : Int) (h : op < 17 ∨ 27 < op) (w : World) : Calls Try.prog 20 #[.int .u8 op, .int .u32 a, .int .u32 b] w (Pair (.bool false) 2 w) := by
  have hf := psFind_rtab32 op h
  have HF := Lib.hid hf; clear hf
  go_enter Try.func20, Try.ntmps20
  go_wp2_with (first | (go_at_call 24; refine (rels32 _).mono ?_; rintro e w1 ⟨bm, rfl, hm0, hb0⟩; have hmap := Lib.hid hm0; clear hm0; have hbel := Lib.hid hb0; clear hb0) | (refine wpList_look_ps _ rfl _ _ 58 true rfl 22 56 .u8 Try.underlying58 Try.underlying22 (z := .nilFunc) (fun _ => by kernel_rfl) _ _ hmap.out rfl _ rfl (none) HF.out ?_))
  go_ret2
  exact ⟨rfl, hbel.out⟩

set_option maxHeartbeats 400000 in
theorem reckon32_zero4 (a : Int) (w : World) : Calls Try.prog 15 #[.int .u8 4, .int .u32 a, .int .u32 0] w (Pair (.int .u32 0) 113 w) := by
  go_enter Try.func15, Try.ntmps15
  go_wp2_with (first | (go_at_call 22; refine (ops32 _).mono ?_; rintro e w1 ⟨bm, c, rfl, hm0, hcell, hb0⟩; have hmap := Lib.hid hm0; clear hm0; have hbel := Lib.hid hb0; clear hb0) | (refine wpList_look_ps _ rfl _ _ 50 true rfl 22 48 .u8 Try.underlying50 Try.underlying22 (z := .nilFunc) (fun _ => by kernel_rfl) _ _ hmap.out rfl _ rfl (some (.func (.func 30) #[] #[])) rfl ?_))
  go_ret2
  exact ⟨rfl, hbel.out⟩

set_option maxHeartbeats 400000 in
theorem reckon32_zero5 (a : Int) (w : World) : Calls Try.prog 15 #[.int .u8 5, .int .u32 a, .int .u32 0] w (Pair (.int .u32 0) 113 w) := by
  go_enter Try.func15, Try.ntmps15
  go_wp2_with (first | (go_at_call 22; refine (ops32 _).mono ?_; rintro e w1 ⟨bm, c, rfl, hm0, hcell, hb0⟩; have hmap := Lib.hid hm0; clear hm0; have hbel := Lib.hid hb0; clear hb0) | (refine wpList_look_ps _ rfl _ _ 50 true rfl 22 48 .u8 Try.underlying50 Try.underlying22 (z := .nilFunc) (fun _ => by kernel_rfl) _ _ hmap.out rfl _ rfl (some (.func (.func 31) #[] #[])) rfl ?_))
  go_ret2
  exact ⟨rfl, hbel.out⟩

set_option maxHeartbeats 400000 in
theorem reckon32_1 (a b : Int) (h0 : 0 ≤ a) (h1 : a < m32) (k0 : 0 ≤ b) (k1 : b < m32) (w : World) : Calls Try.prog 15 #[.int .u8 1, .int .u32 a, .int .u32 b] w (Pair (.int .u32 (do32 1 a b)) 0 w) := by
  by_cases hb : b = 0
  · subst hb
    go_enter Try.func15, Try.ntmps15
    go_wp2_with (first | (go_at_call 22; refine (ops32 _).mono ?_; rintro e w1 ⟨bm, c, rfl, hm0, hcell, hb0⟩; have hmap := Lib.hid hm0; clear hm0; have hbel := Lib.hid hb0; clear hb0) | (refine wpList_look_ps _ rfl _ _ 50 true rfl 22 48 .u8 Try.underlying50 Try.underlying22 (z := .nilFunc) (fun _ => by kernel_rfl) _ _ hmap.out rfl _ rfl (some (.func (.func 27) #[] #[])) rfl ?_) | (go_at_call 27; refine (oAdd32 _ _ h0 h1 k0 k1 _).mono ?_; rintro e w' ⟨rfl, rfl⟩))
    go_ret2
    exact ⟨rfl, hbel.out⟩
  · have hz : (b == 0) = false := by simpa using hb
    go_enter Try.func15, Try.ntmps15
    go_wp2_with (first | (go_at_call 22; refine (ops32 _).mono ?_; rintro e w1 ⟨bm, c, rfl, hm0, hcell, hb0⟩; have hmap := Lib.hid hm0; clear hm0; have hbel := Lib.hid hb0; clear hb0) | (refine wpList_look_ps _ rfl _ _ 50 true rfl 22 48 .u8 Try.underlying50 Try.underlying22 (z := .nilFunc) (fun _ => by kernel_rfl) _ _ hmap.out rfl _ rfl (some (.func (.func 27) #[] #[])) rfl ?_) | (go_at_call 27; refine (oAdd32 _ _ h0 h1 k0 k1 _).mono ?_; rintro e w' ⟨rfl, rfl⟩))
    go_ret2
    exact ⟨rfl, hbel.out⟩

set_option maxHeartbeats 400000 in
theorem reckon32_2 (a b : Int) (h0 : 0 ≤ a) (h1 : a < m32) (k0 : 0 ≤ b) (k1 : b < m32) (w : World) : Calls Try.prog 15 #[.int .u8 2, .int .u32 a, .int .u32 b] w (Pair (.int .u32 (do32 2 a b)) 0 w) := by
  by_cases hb : b = 0
  · subst hb
    go_enter Try.func15, Try.ntmps15
    go_wp2_with (first | (go_at_call 22; refine (ops32 _).mono ?_; rintro e w1 ⟨bm, c, rfl, hm0, hcell, hb0⟩; have hmap := Lib.hid hm0; clear hm0; have hbel := Lib.hid hb0; clear hb0) | (refine wpList_look_ps _ rfl _ _ 50 true rfl 22 48 .u8 Try.underlying50 Try.underlying22 (z := .nilFunc) (fun _ => by kernel_rfl) _ _ hmap.out rfl _ rfl (some (.func (.func 28) #[] #[])) rfl ?_) | (go_at_call 28; refine (oSub32 _ _ h0 h1 k0 k1 _).mono ?_; rintro e w' ⟨rfl, rfl⟩))
    go_ret2
    exact ⟨rfl, hbel.out⟩
  · have hz : (b == 0) = false := by simpa using hb
    go_enter Try.func15, Try.ntmps15
    go_wp2_with (first | (go_at_call 22; refine (ops32 _).mono ?_; rintro e w1 ⟨bm, c, rfl, hm0, hcell, hb0⟩; have hmap := Lib.hid hm0; clear hm0; have hbel := Lib.hid hb0; clear hb0) | (refine wpList_look_ps _ rfl _ _ 50 true rfl 22 48 .u8 Try.underlying50 Try.underlying22 (z := .nilFunc) (fun _ => by kernel_rfl) _ _ hmap.out rfl _ rfl (some (.func (.func 28) #[] #[])) rfl ?_) | (go_at_call 28; refine (oSub32 _ _ h0 h1 k0 k1 _).mono ?_; rintro e w' ⟨rfl, rfl⟩))
    go_ret2
    exact ⟨rfl, hbel.out⟩

set_option maxHeartbeats 400000 in
theorem reckon32_3 (a b : Int) (h0 : 0 ≤ a) (h1 : a < m32) (k0 : 0 ≤ b) (k1 : b < m32) (w : World) : Calls Try.prog 15 #[.int .u8 3, .int .u32 a, .int .u32 b] w (Pair (.int .u32 (do32 3 a b)) 0 w) := by
  by_cases hb : b = 0
  · subst hb
    go_enter Try.func15, Try.ntmps15
    go_wp2_with (first | (go_at_call 22; refine (ops32 _).mono ?_; rintro e w1 ⟨bm, c, rfl, hm0, hcell, hb0⟩; have hmap := Lib.hid hm0; clear hm0; have hbel := Lib.hid hb0; clear hb0) | (refine wpList_look_ps _ rfl _ _ 50 true rfl 22 48 .u8 Try.underlying50 Try.underlying22 (z := .nilFunc) (fun _ => by kernel_rfl) _ _ hmap.out rfl _ rfl (some (.func (.func 29) #[] #[])) rfl ?_) | (go_at_call 29; refine (oMul32 _ _ h0 h1 k0 k1 _).mono ?_; rintro e w' ⟨rfl, rfl⟩))
    go_ret2
    exact ⟨rfl, hbel.out⟩
  · have hz : (b == 0) = false := by simpa using hb
    go_enter Try.func15, Try.ntmps15
    go_wp2_with (first | (go_at_call 22; refine (ops32 _).mono ?_; rintro e w1 ⟨bm, c, rfl, hm0, hcell, hb0⟩; have hmap := Lib.hid hm0; clear hm0; have hbel := Lib.hid hb0; clear hb0) | (refine wpList_look_ps _ rfl _ _ 50 true rfl 22 48 .u8 Try.underlying50 Try.underlying22 (z := .nilFunc) (fun _ => by kernel_rfl) _ _ hmap.out rfl _ rfl (some (.func (.func 29) #[] #[])) rfl ?_) | (go_at_call 29; refine (oMul32 _ _ h0 h1 k0 k1 _).mono ?_; rintro e w' ⟨rfl, rfl⟩))
    go_ret2
    exact ⟨rfl, hbel.out⟩

set_option maxHeartbeats 400000 in
theorem reckon32_4 (a b : Int) (h0 : 0 ≤ a) (h1 : a < m32) (k0 : 0 ≤ b) (k1 : b < m32) (hn : b ≠ 0) (w : World) : Calls Try.prog 15 #[.int .u8 4, .int .u32 a, .int .u32 b] w (Pair (.int .u32 (do32 4 a b)) 0 w) := by
  by_cases hb : b = 0
  · subst hb
    exact absurd rfl hn
  · have hz : (b == 0) = false := by simpa using hb
    go_enter Try.func15, Try.ntmps15
    go_wp2_with (first | (go_at_call 22; refine (ops32 _).mono ?_; rintro e w1 ⟨bm, c, rfl, hm0, hcell, hb0⟩; have hmap := Lib.hid hm0; clear hm0; have hbel := Lib.hid hb0; clear hb0) | (refine wpList_look_ps _ rfl _ _ 50 true rfl 22 48 .u8 Try.underlying50 Try.underlying22 (z := .nilFunc) (fun _ => by kernel_rfl) _ _ hmap.out rfl _ rfl (some (.func (.func 30) #[] #[])) rfl ?_) | (go_at_call 30; refine (oDiv32 _ _ h0 h1 k0 k1 hn _).mono ?_; rintro e w' ⟨rfl, rfl⟩))
    go_ret2
    exact ⟨rfl, hbel.out⟩

set_option maxHeartbeats 400000 in
theorem reckon32_5 (a b : Int) (h0 : 0 ≤ a) (h1 : a < m32) (k0 : 0 ≤ b) (k1 : b < m32) (hn : b ≠ 0) (w : World) : Calls Try.prog 15 #[.int .u8 5, .int .u32 a, .int .u32 b] w (Pair (.int .u32 (do32 5 a b)) 0 w) := by
  by_cases hb : b = 0
  · subst hb
    exact absurd rfl hn
  · have hz : (b == 0) = false := by simpa using hb
    go_enter Try.func15, Try.ntmps15
    go_wp2_with (first | (go_at_call 22; refine (ops32 _).mono ?_; rintro e w1 ⟨bm, c, rfl, hm0, hcell, hb0⟩; have hmap := Lib.hid hm0; clear hm0; have hbel := Lib.hid hb0; clear hb0) | (refine wpList_look_ps _ rfl _ _ 50 true rfl 22 48 .u8 Try.underlying50 Try.underlying22 (z := .nilFunc) (fun _ => by kernel_rfl) _ _ hmap.out rfl _ rfl (some (.func (.func 31) #[] #[])) rfl ?_) | (go_at_call 31; refine (oMod32 _ _ h0 h1 k0 k1 hn _).mono ?_; rintro e w' ⟨rfl, rfl⟩))
    go_ret2
    exact ⟨rfl, hbel.out⟩

set_option maxHeartbeats 400000 in
theorem reckon32_6 (a b : Int) (h0 : 0 ≤ a) (h1 : a < m32) (k0 : 0 ≤ b) (k1 : b < m32) (w : World) : Calls Try.prog 15 #[.int .u8 6, .int .u32 a, .int .u32 b] w (Pair (.int .u32 (do32 6 a b)) 0 w) := by
  by_cases hb : b = 0
  · subst hb
    go_enter Try.func15, Try.ntmps15
    go_wp2_with (first | (go_at_call 22; refine (ops32 _).mono ?_; rintro e w1 ⟨bm, c, rfl, hm0, hcell, hb0⟩; have hmap := Lib.hid hm0; clear hm0; have hbel := Lib.hid hb0; clear hb0) | (refine wpList_look_ps _ rfl _ _ 50 true rfl 22 48 .u8 Try.underlying50 Try.underlying22 (z := .nilFunc) (fun _ => by kernel_rfl) _ _ hmap.out rfl _ rfl (some (.func (.func 32) #[] #[])) rfl ?_) | (go_at_call 32; refine (oAnd32 _ _ h0 h1 k0 k1 _).mono ?_; rintro e w' ⟨rfl, rfl⟩))
    go_ret2
    exact ⟨rfl, hbel.out⟩
  · have hz : (b == 0) = false := by simpa using hb
    go_enter Try.func15, Try.ntmps15
    go_wp2_with (first | (go_at_call 22; refine (ops32 _).mono ?_; rintro e w1 ⟨bm, c, rfl, hm0, hcell, hb0⟩; have hmap := Lib.hid hm0; clear hm0; have hbel := Lib.hid hb0; clear hb0) | (refine wpList_look_ps _ rfl _ _ 50 true rfl 22 48 .u8 Try.underlying50 Try.underlying22 (z := .nilFunc) (fun _ => by kernel_rfl) _ _ hmap.out rfl _ rfl (some (.func (.func 32) #[] #[])) rfl ?_) | (go_at_call 32; refine (oAnd32 _ _ h0 h1 k0 k1 _).mono ?_; rintro e w' ⟨rfl, rfl⟩))
    go_ret2
    exact ⟨rfl, hbel.out⟩

set_option maxHeartbeats 400000 in
theorem reckon32_7 (a b : Int) (h0 : 0 ≤ a) (h1 : a < m32) (k0 : 0 ≤ b) (k1 : b < m32) (w : World) : Calls Try.prog 15 #[.int .u8 7, .int .u32 a, .int .u32 b] w (Pair (.int .u32 (do32 7 a b)) 0 w) := by
  by_cases hb : b = 0
  · subst hb
    go_enter Try.func15, Try.ntmps15
    go_wp2_with (first | (go_at_call 22; refine (ops32 _).mono ?_; rintro e w1 ⟨bm, c, rfl, hm0, hcell, hb0⟩; have hmap := Lib.hid hm0; clear hm0; have hbel := Lib.hid hb0; clear hb0) | (refine wpList_look_ps _ rfl _ _ 50 true rfl 22 48 .u8 Try.underlying50 Try.underlying22 (z := .nilFunc) (fun _ => by kernel_rfl) _ _ hmap.out rfl _ rfl (some (.func (.func 33) #[] #[])) rfl ?_) | (go_at_call 33; refine (oOr32 _ _ h0 h1 k0 k1 _).mono ?_; rintro e w' ⟨rfl, rfl⟩))
    go_ret2
    exact ⟨rfl, hbel.out⟩
  · have hz : (b == 0) = false := by simpa using hb
    go_enter Try.func15, Try.ntmps15
    go_wp2_with (first | (go_at_call 22; refine (ops32 _).mono ?_; rintro e w1 ⟨bm, c, rfl, hm0, hcell, hb0⟩; have hmap := Lib.hid hm0; clear hm0; have hbel := Lib.hid hb0; clear hb0) | (refine wpList_look_ps _ rfl _ _ 50 true rfl 22 48 .u8 Try.underlying50 Try.underlying22 (z := .nilFunc) (fun _ => by kernel_rfl) _ _ hmap.out rfl _ rfl (some (.func (.func 33) #[] #[])) rfl ?_) | (go_at_call 33; refine (oOr32 _ _ h0 h1 k0 k1 _).mono ?_; rintro e w' ⟨rfl, rfl⟩))
    go_ret2
    exact ⟨rfl, hbel.out⟩

set_option maxHeartbeats 400000 in
theorem reckon32_8 (a b : Int) (h0 : 0 ≤ a) (h1 : a < m32) (k0 : 0 ≤ b) (k1 : b < m32) (w : World) : Calls Try.prog 15 #[.int .u8 8, .int .u32 a, .int .u32 b] w (Pair (.int .u32 (do32 8 a b)) 0 w) := by
  by_cases hb : b = 0
  · subst hb
    go_enter Try.func15, Try.ntmps15
    go_wp2_with (first | (go_at_call 22; refine (ops32 _).mono ?_; rintro e w1 ⟨bm, c, rfl, hm0, hcell, hb0⟩; have hmap := Lib.hid hm0; clear hm0; have hbel := Lib.hid hb0; clear hb0) | (refine wpList_look_ps _ rfl _ _ 50 true rfl 22 48 .u8 Try.underlying50 Try.underlying22 (z := .nilFunc) (fun _ => by kernel_rfl) _ _ hmap.out rfl _ rfl (some (.func (.func 34) #[] #[])) rfl ?_) | (go_at_call 34; refine (oXor32 _ _ h0 h1 k0 k1 _).mono ?_; rintro e w' ⟨rfl, rfl⟩))
    go_ret2
    exact ⟨rfl, hbel.out⟩
  · have hz : (b == 0) = false := by simpa using hb
    go_enter Try.func15, Try.ntmps15
    go_wp2_with (first | (go_at_call 22; refine (ops32 _).mono ?_; rintro e w1 ⟨bm, c, rfl, hm0, hcell, hb0⟩; have hmap := Lib.hid hm0; clear hm0; have hbel := Lib.hid hb0; clear hb0) | (refine wpList_look_ps _ rfl _ _ 50 true rfl 22 48 .u8 Try.underlying50 Try.underlying22 (z := .nilFunc) (fun _ => by kernel_rfl) _ _ hmap.out rfl _ rfl (some (.func (.func 34) #[] #[])) rfl ?_) | (go_at_call 34; refine (oXor32 _ _ h0 h1 k0 k1 _).mono ?_; rintro e w' ⟨rfl, rfl⟩))
    go_ret2
    exact ⟨rfl, hbel.out⟩

set_option maxHeartbeats 400000 in
theorem reckon32_9 (a b : Int) (h0 : 0 ≤ a) (h1 : a < m32) (k0 : 0 ≤ b) (k1 : b < m32) (w : World) : Calls Try.prog 15 #[.int .u8 9, .int .u32 a, .int .u32 b] w (Pair (.int .u32 (do32 9 a b)) 0 w) := by
  by_cases hb : b = 0
  · subst hb
    go_enter Try.func15, Try.ntmps15
    go_wp2_with (first | (go_at_call 22; refine (ops32 _).mono ?_; rintro e w1 ⟨bm, c, rfl, hm0, hcell, hb0⟩; have hmap := Lib.hid hm0; clear hm0; have hbel := Lib.hid hb0; clear hb0) | (refine wpList_look_ps _ rfl _ _ 50 true rfl 22 48 .u8 Try.underlying50 Try.underlying22 (z := .nilFunc) (fun _ => by kernel_rfl) _ _ hmap.out rfl _ rfl (some (.func (.func 35) #[] #[.pointer (some ⟨_, 0, none⟩)])) rfl ?_) | (go_at_call 35; refine (oShl32 _ _ h0 h1 k0 k1 _ _ hcell).mono ?_; rintro e w' ⟨rfl, rfl⟩))
    go_ret2
    exact ⟨rfl, hbel.out⟩
  · have hz : (b == 0) = false := by simpa using hb
    go_enter Try.func15, Try.ntmps15
    go_wp2_with (first | (go_at_call 22; refine (ops32 _).mono ?_; rintro e w1 ⟨bm, c, rfl, hm0, hcell, hb0⟩; have hmap := Lib.hid hm0; clear hm0; have hbel := Lib.hid hb0; clear hb0) | (refine wpList_look_ps _ rfl _ _ 50 true rfl 22 48 .u8 Try.underlying50 Try.underlying22 (z := .nilFunc) (fun _ => by kernel_rfl) _ _ hmap.out rfl _ rfl (some (.func (.func 35) #[] #[.pointer (some ⟨_, 0, none⟩)])) rfl ?_) | (go_at_call 35; refine (oShl32 _ _ h0 h1 k0 k1 _ _ hcell).mono ?_; rintro e w' ⟨rfl, rfl⟩))
    go_ret2
    exact ⟨rfl, hbel.out⟩

set_option maxHeartbeats 400000 in
theorem reckon32_10 (a b : Int) (h0 : 0 ≤ a) (h1 : a < m32) (k0 : 0 ≤ b) (k1 : b < m32) (w : World) : Calls Try.prog 15 #[.int .u8 10, .int .u32 a, .int .u32 b] w (Pair (.int .u32 (do32 10 a b)) 0 w) := by
  by_cases hb : b = 0
  · subst hb
    go_enter Try.func15, Try.ntmps15
    go_wp2_with (first | (go_at_call 22; refine (ops32 _).mono ?_; rintro e w1 ⟨bm, c, rfl, hm0, hcell, hb0⟩; have hmap := Lib.hid hm0; clear hm0; have hbel := Lib.hid hb0; clear hb0) | (refine wpList_look_ps _ rfl _ _ 50 true rfl 22 48 .u8 Try.underlying50 Try.underlying22 (z := .nilFunc) (fun _ => by kernel_rfl) _ _ hmap.out rfl _ rfl (some (.func (.func 36) #[] #[.pointer (some ⟨_, 0, none⟩)])) rfl ?_) | (go_at_call 36; refine (oShr32 _ _ h0 h1 k0 k1 _ _ hcell).mono ?_; rintro e w' ⟨rfl, rfl⟩))
    go_ret2
    exact ⟨rfl, hbel.out⟩
  · have hz : (b == 0) = false := by simpa using hb
    go_enter Try.func15, Try.ntmps15
    go_wp2_with (first | (go_at_call 22; refine (ops32 _).mono ?_; rintro e w1 ⟨bm, c, rfl, hm0, hcell, hb0⟩; have hmap := Lib.hid hm0; clear hm0; have hbel := Lib.hid hb0; clear hb0) | (refine wpList_look_ps _ rfl _ _ 50 true rfl 22 48 .u8 Try.underlying50 Try.underlying22 (z := .nilFunc) (fun _ => by kernel_rfl) _ _ hmap.out rfl _ rfl (some (.func (.func 36) #[] #[.pointer (some ⟨_, 0, none⟩)])) rfl ?_) | (go_at_call 36; refine (oShr32 _ _ h0 h1 k0 k1 _ _ hcell).mono ?_; rintro e w' ⟨rfl, rfl⟩))
    go_ret2
    exact ⟨rfl, hbel.out⟩

set_option maxHeartbeats 400000 in
theorem reckon32_11 (a b : Int) (h0 : 0 ≤ a) (h1 : a < m32) (k0 : 0 ≤ b) (k1 : b < m32) (w : World) : Calls Try.prog 15 #[.int .u8 11, .int .u32 a, .int .u32 b] w (Pair (.int .u32 (do32 11 a b)) 0 w) := by
  by_cases hb : b = 0
  · subst hb
    go_enter Try.func15, Try.ntmps15
    go_wp2_with (first | (go_at_call 22; refine (ops32 _).mono ?_; rintro e w1 ⟨bm, c, rfl, hm0, hcell, hb0⟩; have hmap := Lib.hid hm0; clear hm0; have hbel := Lib.hid hb0; clear hb0) | (refine wpList_look_ps _ rfl _ _ 50 true rfl 22 48 .u8 Try.underlying50 Try.underlying22 (z := .nilFunc) (fun _ => by kernel_rfl) _ _ hmap.out rfl _ rfl (some (.func (.func 37) #[] #[.pointer (some ⟨_, 0, none⟩)])) rfl ?_) | (go_at_call 37; refine (oSar32 _ _ h0 h1 k0 k1 _ _ hcell).mono ?_; rintro e w' ⟨⟨nd, rfl⟩, rfl⟩))
    go_ret2
    exact ⟨rfl, below_drewN hbel.out _⟩
  · have hz : (b == 0) = false := by simpa using hb
    go_enter Try.func15, Try.ntmps15
    go_wp2_with (first | (go_at_call 22; refine (ops32 _).mono ?_; rintro e w1 ⟨bm, c, rfl, hm0, hcell, hb0⟩; have hmap := Lib.hid hm0; clear hm0; have hbel := Lib.hid hb0; clear hb0) | (refine wpList_look_ps _ rfl _ _ 50 true rfl 22 48 .u8 Try.underlying50 Try.underlying22 (z := .nilFunc) (fun _ => by kernel_rfl) _ _ hmap.out rfl _ rfl (some (.func (.func 37) #[] #[.pointer (some ⟨_, 0, none⟩)])) rfl ?_) | (go_at_call 37; refine (oSar32 _ _ h0 h1 k0 k1 _ _ hcell).mono ?_; rintro e w' ⟨⟨nd, rfl⟩, rfl⟩))
    go_ret2
    exact ⟨rfl, below_drewN hbel.out _⟩

set_option maxHeartbeats 400000 in
theorem reckon32_12 (a b : Int) (h0 : 0 ≤ a) (h1 : a < m32) (k0 : 0 ≤ b) (k1 : b < m32) (w : World) : Calls Try.prog 15 #[.int .u8 12, .int .u32 a, .int .u32 b] w (Pair (.int .u32 (do32 12 a b)) 0 w) := by
  by_cases hb : b = 0
  · subst hb
    go_enter Try.func15, Try.ntmps15
    go_wp2_with (first | (go_at_call 22; refine (ops32 _).mono ?_; rintro e w1 ⟨bm, c, rfl, hm0, hcell, hb0⟩; have hmap := Lib.hid hm0; clear hm0; have hbel := Lib.hid hb0; clear hb0) | (refine wpList_look_ps _ rfl _ _ 50 true rfl 22 48 .u8 Try.underlying50 Try.underlying22 (z := .nilFunc) (fun _ => by kernel_rfl) _ _ hmap.out rfl _ rfl (some (.func (.func 39) #[] #[])) rfl ?_) | (go_at_call 39; refine (oMov32 _ _ h0 h1 k0 k1 _).mono ?_; rintro e w' ⟨rfl, rfl⟩))
    go_ret2
    exact ⟨rfl, hbel.out⟩
  · have hz : (b == 0) = false := by simpa using hb
    go_enter Try.func15, Try.ntmps15
    go_wp2_with (first | (go_at_call 22; refine (ops32 _).mono ?_; rintro e w1 ⟨bm, c, rfl, hm0, hcell, hb0⟩; have hmap := Lib.hid hm0; clear hm0; have hbel := Lib.hid hb0; clear hb0) | (refine wpList_look_ps _ rfl _ _ 50 true rfl 22 48 .u8 Try.underlying50 Try.underlying22 (z := .nilFunc) (fun _ => by kernel_rfl) _ _ hmap.out rfl _ rfl (some (.func (.func 39) #[] #[])) rfl ?_) | (go_at_call 39; refine (oMov32 _ _ h0 h1 k0 k1 _).mono ?_; rintro e w' ⟨rfl, rfl⟩))
    go_ret2
    exact ⟨rfl, hbel.out⟩

set_option maxHeartbeats 400000 in
theorem reckon32_13 (a b : Int) (h0 : 0 ≤ a) (h1 : a < m32) (k0 : 0 ≤ b) (k1 : b < m32) (w : World) : Calls Try.prog 15 #[.int .u8 13, .int .u32 a, .int .u32 b] w (Pair (.int .u32 (do32 13 a b)) 0 w) := by
  by_cases hb : b = 0
  · subst hb
    go_enter Try.func15, Try.ntmps15
    go_wp2_with (first | (go_at_call 22; refine (ops32 _).mono ?_; rintro e w1 ⟨bm, c, rfl, hm0, hcell, hb0⟩; have hmap := Lib.hid hm0; clear hm0; have hbel := Lib.hid hb0; clear hb0) | (refine wpList_look_ps _ rfl _ _ 50 true rfl 22 48 .u8 Try.underlying50 Try.underlying22 (z := .nilFunc) (fun _ => by kernel_rfl) _ _ hmap.out rfl _ rfl (some (.func (.func 40) #[] #[])) rfl ?_) | (go_at_call 40; refine (oNeg32 _ _ h0 h1 k0 k1 _).mono ?_; rintro e w' ⟨rfl, rfl⟩))
    go_ret2
    exact ⟨rfl, hbel.out⟩
  · have hz : (b == 0) = false := by simpa using hb
    go_enter Try.func15, Try.ntmps15
    go_wp2_with (first | (go_at_call 22; refine (ops32 _).mono ?_; rintro e w1 ⟨bm, c, rfl, hm0, hcell, hb0⟩; have hmap := Lib.hid hm0; clear hm0; have hbel := Lib.hid hb0; clear hb0) | (refine wpList_look_ps _ rfl _ _ 50 true rfl 22 48 .u8 Try.underlying50 Try.underlying22 (z := .nilFunc) (fun _ => by kernel_rfl) _ _ hmap.out rfl _ rfl (some (.func (.func 40) #[] #[])) rfl ?_) | (go_at_call 40; refine (oNeg32 _ _ h0 h1 k0 k1 _).mono ?_; rintro e w' ⟨rfl, rfl⟩))
    go_ret2
    exact ⟨rfl, hbel.out⟩

set_option maxHeartbeats 400000 in
theorem compare32_17 (a b : Int) (h0 : 0 ≤ a) (h1 : a < m32) (k0 : 0 ≤ b) (k1 : b < m32) (w : World) : Calls Try.prog 20 #[.int .u8 17, .int .u32 a, .int .u32 b] w (Pair (.bool (is32 17 a b)) 0 w) := by
  go_enter Try.func20, Try.ntmps20
  go_wp2_with (first | (go_at_call 24; refine (rels32 _).mono ?_; rintro e w1 ⟨bm, rfl, hm0, hb0⟩; have hmap := Lib.hid hm0; clear hm0; have hbel := Lib.hid hb0; clear hb0) | (refine wpList_look_ps _ rfl _ _ 58 true rfl 22 56 .u8 Try.underlying58 Try.underlying22 (z := .nilFunc) (fun _ => by kernel_rfl) _ _ hmap.out rfl _ rfl (some (.func (.func 56) #[] #[])) rfl ?_) | (go_at_call 56; refine (rEq32 _ _ h0 h1 k0 k1 _).mono ?_; rintro e w' ⟨rfl, rfl⟩))
  go_ret2
  exact ⟨rfl, hbel.out⟩

set_option maxHeartbeats 400000 in
theorem compare32_18 (a b : Int) (h0 : 0 ≤ a) (h1 : a < m32) (k0 : 0 ≤ b) (k1 : b < m32) (w : World) : Calls Try.prog 20 #[.int .u8 18, .int .u32 a, .int .u32 b] w (Pair (.bool (is32 18 a b)) 0 w) := by
  go_enter Try.func20, Try.ntmps20
  go_wp2_with (first | (go_at_call 24; refine (rels32 _).mono ?_; rintro e w1 ⟨bm, rfl, hm0, hb0⟩; have hmap := Lib.hid hm0; clear hm0; have hbel := Lib.hid hb0; clear hb0) | (refine wpList_look_ps _ rfl _ _ 58 true rfl 22 56 .u8 Try.underlying58 Try.underlying22 (z := .nilFunc) (fun _ => by kernel_rfl) _ _ hmap.out rfl _ rfl (some (.func (.func 57) #[] #[])) rfl ?_) | (go_at_call 57; refine (rNe32 _ _ h0 h1 k0 k1 _).mono ?_; rintro e w' ⟨rfl, rfl⟩))
  go_ret2
  exact ⟨rfl, hbel.out⟩

set_option maxHeartbeats 400000 in
theorem compare32_19 (a b : Int) (h0 : 0 ≤ a) (h1 : a < m32) (k0 : 0 ≤ b) (k1 : b < m32) (w : World) : Calls Try.prog 20 #[.int .u8 19, .int .u32 a, .int .u32 b] w (Pair (.bool (is32 19 a b)) 0 w) := by
  go_enter Try.func20, Try.ntmps20
  go_wp2_with (first | (go_at_call 24; refine (rels32 _).mono ?_; rintro e w1 ⟨bm, rfl, hm0, hb0⟩; have hmap := Lib.hid hm0; clear hm0; have hbel := Lib.hid hb0; clear hb0) | (refine wpList_look_ps _ rfl _ _ 58 true rfl 22 56 .u8 Try.underlying58 Try.underlying22 (z := .nilFunc) (fun _ => by kernel_rfl) _ _ hmap.out rfl _ rfl (some (.func (.func 58) #[] #[])) rfl ?_) | (go_at_call 58; refine (rGt32 _ _ h0 h1 k0 k1 _).mono ?_; rintro e w' ⟨rfl, rfl⟩))
  go_ret2
  exact ⟨rfl, hbel.out⟩

set_option maxHeartbeats 400000 in
theorem compare32_20 (a b : Int) (h0 : 0 ≤ a) (h1 : a < m32) (k0 : 0 ≤ b) (k1 : b < m32) (w : World) : Calls Try.prog 20 #[.int .u8 20, .int .u32 a, .int .u32 b] w (Pair (.bool (is32 20 a b)) 0 w) := by
  go_enter Try.func20, Try.ntmps20
  go_wp2_with (first | (go_at_call 24; refine (rels32 _).mono ?_; rintro e w1 ⟨bm, rfl, hm0, hb0⟩; have hmap := Lib.hid hm0; clear hm0; have hbel := Lib.hid hb0; clear hb0) | (refine wpList_look_ps _ rfl _ _ 58 true rfl 22 56 .u8 Try.underlying58 Try.underlying22 (z := .nilFunc) (fun _ => by kernel_rfl) _ _ hmap.out rfl _ rfl (some (.func (.func 59) #[] #[])) rfl ?_) | (go_at_call 59; refine (rGe32 _ _ h0 h1 k0 k1 _).mono ?_; rintro e w' ⟨rfl, rfl⟩))
  go_ret2
  exact ⟨rfl, hbel.out⟩

set_option maxHeartbeats 400000 in
theorem compare32_21 (a b : Int) (h0 : 0 ≤ a) (h1 : a < m32) (k0 : 0 ≤ b) (k1 : b < m32) (w : World) : Calls Try.prog 20 #[.int .u8 21, .int .u32 a, .int .u32 b] w (Pair (.bool (is32 21 a b)) 0 w) := by
  go_enter Try.func20, Try.ntmps20
  go_wp2_with (first | (go_at_call 24; refine (rels32 _).mono ?_; rintro e w1 ⟨bm, rfl, hm0, hb0⟩; have hmap := Lib.hid hm0; clear hm0; have hbel := Lib.hid hb0; clear hb0) | (refine wpList_look_ps _ rfl _ _ 58 true rfl 22 56 .u8 Try.underlying58 Try.underlying22 (z := .nilFunc) (fun _ => by kernel_rfl) _ _ hmap.out rfl _ rfl (some (.func (.func 60) #[] #[])) rfl ?_) | (go_at_call 60; refine (rLt32 _ _ h0 h1 k0 k1 _).mono ?_; rintro e w' ⟨rfl, rfl⟩))
  go_ret2
  exact ⟨rfl, hbel.out⟩

set_option maxHeartbeats 400000 in
theorem compare32_22 (a b : Int) (h0 : 0 ≤ a) (h1 : a < m32) (k0 : 0 ≤ b) (k1 : b < m32) (w : World) : Calls Try.prog 20 #[.int .u8 22, .int .u32 a, .int .u32 b] w (Pair (.bool (is32 22 a b)) 0 w) := by
  go_enter Try.func20, Try.ntmps20
  go_wp2_with (first | (go_at_call 24; refine (rels32 _).mono ?_; rintro e w1 ⟨bm, rfl, hm0, hb0⟩; have hmap := Lib.hid hm0; clear hm0; have hbel := Lib.hid hb0; clear hb0) | (refine wpList_look_ps _ rfl _ _ 58 true rfl 22 56 .u8 Try.underlying58 Try.underlying22 (z := .nilFunc) (fun _ => by kernel_rfl) _ _ hmap.out rfl _ rfl (some (.func (.func 61) #[] #[])) rfl ?_) | (go_at_call 61; refine (rLe32 _ _ h0 h1 k0 k1 _).mono ?_; rintro e w' ⟨rfl, rfl⟩))
  go_ret2
  exact ⟨rfl, hbel.out⟩

set_option maxHeartbeats 400000 in
theorem compare32_23 (a b : Int) (h0 : 0 ≤ a) (h1 : a < m32) (k0 : 0 ≤ b) (k1 : b < m32) (w : World) : Calls Try.prog 20 #[.int .u8 23, .int .u32 a, .int .u32 b] w (Pair (.bool (is32 23 a b)) 0 w) := by
  go_enter Try.func20, Try.ntmps20
  go_wp2_with (first | (go_at_call 24; refine (rels32 _).mono ?_; rintro e w1 ⟨bm, rfl, hm0, hb0⟩; have hmap := Lib.hid hm0; clear hm0; have hbel := Lib.hid hb0; clear hb0) | (refine wpList_look_ps _ rfl _ _ 58 true rfl 22 56 .u8 Try.underlying58 Try.underlying22 (z := .nilFunc) (fun _ => by kernel_rfl) _ _ hmap.out rfl _ rfl (some (.func (.func 62) #[] #[])) rfl ?_) | (go_at_call 62; refine (rSgt32 _ _ h0 h1 k0 k1 _).mono ?_; rintro e w' ⟨rfl, rfl⟩))
  go_ret2
  exact ⟨rfl, hbel.out⟩

set_option maxHeartbeats 400000 in
theorem compare32_24 (a b : Int) (h0 : 0 ≤ a) (h1 : a < m32) (k0 : 0 ≤ b) (k1 : b < m32) (w : World) : Calls Try.prog 20 #[.int .u8 24, .int .u32 a, .int .u32 b] w (Pair (.bool (is32 24 a b)) 0 w) := by
  go_enter Try.func20, Try.ntmps20
  go_wp2_with (first | (go_at_call 24; refine (rels32 _).mono ?_; rintro e w1 ⟨bm, rfl, hm0, hb0⟩; have hmap := Lib.hid hm0; clear hm0; have hbel := Lib.hid hb0; clear hb0) | (refine wpList_look_ps _ rfl _ _ 58 true rfl 22 56 .u8 Try.underlying58 Try.underlying22 (z := .nilFunc) (fun _ => by kernel_rfl) _ _ hmap.out rfl _ rfl (some (.func (.func 63) #[] #[])) rfl ?_) | (go_at_call 63; refine (rSge32 _ _ h0 h1 k0 k1 _).mono ?_; rintro e w' ⟨rfl, rfl⟩))
  go_ret2
  exact ⟨rfl, hbel.out⟩

set_option maxHeartbeats 400000 in
theorem compare32_25 (a b : Int) (h0 : 0 ≤ a) (h1 : a < m32) (k0 : 0 ≤ b) (k1 : b < m32) (w : World) : Calls Try.prog 20 #[.int .u8 25, .int .u32 a, .int .u32 b] w (Pair (.bool (is32 25 a b)) 0 w) := by
  go_enter Try.func20, Try.ntmps20
  go_wp2_with (first | (go_at_call 24; refine (rels32 _).mono ?_; rintro e w1 ⟨bm, rfl, hm0, hb0⟩; have hmap := Lib.hid hm0; clear hm0; have hbel := Lib.hid hb0; clear hb0) | (refine wpList_look_ps _ rfl _ _ 58 true rfl 22 56 .u8 Try.underlying58 Try.underlying22 (z := .nilFunc) (fun _ => by kernel_rfl) _ _ hmap.out rfl _ rfl (some (.func (.func 64) #[] #[])) rfl ?_) | (go_at_call 64; refine (rSlt32 _ _ h0 h1 k0 k1 _).mono ?_; rintro e w' ⟨rfl, rfl⟩))
  go_ret2
  exact ⟨rfl, hbel.out⟩

set_option maxHeartbeats 400000 in
theorem compare32_26 (a b : Int) (h0 : 0 ≤ a) (h1 : a < m32) (k0 : 0 ≤ b) (k1 : b < m32) (w : World) : Calls Try.prog 20 #[.int .u8 26, .int .u32 a, .int .u32 b] w (Pair (.bool (is32 26 a b)) 0 w) := by
  go_enter Try.func20, Try.ntmps20
  go_wp2_with (first | (go_at_call 24; refine (rels32 _).mono ?_; rintro e w1 ⟨bm, rfl, hm0, hb0⟩; have hmap := Lib.hid hm0; clear hm0; have hbel := Lib.hid hb0; clear hb0) | (refine wpList_look_ps _ rfl _ _ 58 true rfl 22 56 .u8 Try.underlying58 Try.underlying22 (z := .nilFunc) (fun _ => by kernel_rfl) _ _ hmap.out rfl _ rfl (some (.func (.func 65) #[] #[])) rfl ?_) | (go_at_call 65; refine (rSle32 _ _ h0 h1 k0 k1 _).mono ?_; rintro e w' ⟨rfl, rfl⟩))
  go_ret2
  exact ⟨rfl, hbel.out⟩

set_option maxHeartbeats 400000 in
theorem compare32_27 (a b : Int) (h0 : 0 ≤ a) (h1 : a < m32) (k0 : 0 ≤ b) (k1 : b < m32) (w : World) : Calls Try.prog 20 #[.int .u8 27, .int .u32 a, .int .u32 b] w (Pair (.bool (is32 27 a b)) 0 w) := by
  go_enter Try.func20, Try.ntmps20
  go_wp2_with (first | (go_at_call 24; refine (rels32 _).mono ?_; rintro e w1 ⟨bm, rfl, hm0, hb0⟩; have hmap := Lib.hid hm0; clear hm0; have hbel := Lib.hid hb0; clear hb0) | (refine wpList_look_ps _ rfl _ _ 58 true rfl 22 56 .u8 Try.underlying58 Try.underlying22 (z := .nilFunc) (fun _ => by kernel_rfl) _ _ hmap.out rfl _ rfl (some (.func (.func 66) #[] #[])) rfl ?_) | (go_at_call 66; refine (rSet32 _ _ h0 h1 k0 k1 _).mono ?_; rintro e w' ⟨rfl, rfl⟩))
  go_ret2
  exact ⟨rfl, hbel.out⟩

def tab64 (c : Nat) : List (Int × Value) := [(1, .func (.func 42) #[] #[]), (2, .func (.func 43) #[] #[]), (3, .func (.func 44) #[] #[]), (4, .func (.func 45) #[] #[]), (5, .func (.func 46) #[] #[]), (6, .func (.func 47) #[] #[]), (7, .func (.func 48) #[] #[]), (8, .func (.func 49) #[] #[]), (9, .func (.func 50) #[] #[.pointer (some ⟨c, 0, none⟩)]), (10, .func (.func 51) #[] #[.pointer (some ⟨c, 0, none⟩)]), (11, .func (.func 52) #[] #[.pointer (some ⟨c, 0, none⟩)]), (12, .func (.func 54) #[] #[]), (13, .func (.func 55) #[] #[])]
def Ops64 (w : World) (e : Ending) (w' : World) : Prop := ∃ b c, e = .returned (.map (some b)) ∧ PsMap w' b .u8 (tab64 c) ∧ w'.cell? ⟨c, 0, none⟩ = some (.int .u64 64) ∧ Below w.heap.size w w'
set_option maxHeartbeats 400000 in
theorem ops64 (w : World) : Calls Try.prog 23 #[] w (Ops64 w) := by
  have hmf : ∀ (fn : Fn) (first cap : Array Value) (w : World), (Instr.makeFunc fn first cap).run Try.prog w = .ok (.func fn first cap) w := fun _ _ _ _ => rfl
  go_enter Try.func23, Try.ntmps23
  go_wp2_with (first
    | (go_at_call 41; refine (width64 _).mono ?_; rintro e w' ⟨rfl, rfl⟩)
    | (refine wpList_make_ps _ rfl _ .u8 rfl ?_; intro b w1 hown)
    | (refine wpList_insert_ps _ rfl _ _ _ 54 rfl 22 _ .u8 Try.underlying54 Try.underlying22 _ _ _ hown rfl _ _ rfl rfl rfl ?_; clear hown; intro w1 hown))
  go_ret
  refine ⟨b, w.heap.size, rfl, hown.map, ?_, ?_⟩
  · have h1 := hown.below.cell (p := ⟨w.heap.size, 0, none⟩) (by simp)
    rw [h1]; simp [go_sem]
  · exact ((Below.refl _ _).alloc (Nat.le_refl _) _).trans (hown.below.mono (by simp))

def rtab64 : List (Int × Value) := [(17, .func (.func 67) #[] #[]), (18, .func (.func 68) #[] #[]), (19, .func (.func 69) #[] #[]), (20, .func (.func 70) #[] #[]), (21, .func (.func 71) #[] #[]), (22, .func (.func 72) #[] #[]), (23, .func (.func 73) #[] #[]), (24, .func (.func 74) #[] #[]), (25, .func (.func 75) #[] #[]), (26, .func (.func 76) #[] #[]), (27, .func (.func 77) #[] #[])]
def Rels64 (w : World) (e : Ending) (w' : World) : Prop := ∃ b, e = .returned (.map (some b)) ∧ PsMap w' b .u8 rtab64 ∧ Below w.heap.size w w'
set_option maxHeartbeats 400000 in
theorem rels64 (w : World) : Calls Try.prog 25 #[] w (Rels64 w) := by
  go_enter Try.func25, Try.ntmps25
  go_wp2_with (first
    | (refine wpList_make_ps _ rfl _ .u8 rfl ?_; intro b w1 hown)
    | (refine wpList_insert_ps _ rfl _ _ _ 62 rfl 22 _ .u8 Try.underlying62 Try.underlying22 _ _ _ hown rfl _ _ rfl rfl rfl ?_; clear hown; intro w1 hown))
  go_ret
  exact ⟨b, rfl, hown.map, hown.below⟩

theorem psFind_tab64 (op : Int) (c : Nat) (h : op < 1 ∨ 13 < op) : psFind (tab64 c) op = none := by
  have e : ∀ k : Int, 1 ≤ k → k ≤ 13 → (k == op) = false := fun k h1 h2 => by simp; omega
  simp only [psFind, tab64, List.find?, e 1 (by decide) (by decide), e 2 (by decide) (by decide), e 3 (by decide) (by decide), e 4 (by decide) (by decide), e 5 (by decide) (by decide), e 6 (by decide) (by decide), e 7 (by decide) (by decide), e 8 (by decide) (by decide), e 9 (by decide) (by decide), e 10 (by decide) (by decide), e 11 (by decide) (by decide), e 12 (by decide) (by decide), e 13 (by decide) (by decide), Option.map_none]
theorem psFind_rtab64 (op : Int) (h : op < 17 ∨ 27 < op) : psFind rtab64 op = none := by
  have e : ∀ k : Int, 17 ≤ k → k ≤ 27 → (k == op) = false := fun k h1 h2 => by simp; omega
  simp only [psFind, rtab64, List.find?, e 17 (by decide) (by decide), e 18 (by decide) (by decide), e 19 (by decide) (by decide), e 20 (by decide) (by decide), e 21 (by decide) (by decide), e 22 (by decide) (by decide), e 23 (by decide) (by decide), e 24 (by decide) (by decide), e 25 (by decide) (by decide), e 26 (by decide) (by decide), e 27 (by decide) (by decide), Option.map_none]
set_option maxHeartbeats 400000 in
theorem reckon64_bad (op a b : Int) (h : op < 1 ∨ 13 < op) (w : World) : Calls Try.prog 16 #[.int .u8 op, .int .u64 a, .int .u64 b] w (Pair (.int .u64 0) 2 w) := by
  have hf := fun c => psFind_tab64 op c h
  have HF := Lib.hid hf; clear hf
  go_enter Try.func16, Try.ntmps16
  go_wp2_with (first | (go_at_call 23; refine (ops64 _).mono ?_; rintro e w1 ⟨bm, c, rfl, hm0, hcell, hb0⟩; have hmap := Lib.hid hm0; clear hm0; have hbel := Lib.hid hb0; clear hb0) | (refine wpList_look_ps _ rfl _ _ 54 true rfl 22 52 .u8 Try.underlying54 Try.underlying22 (z := .nilFunc) (fun _ => by kernel_rfl) _ _ hmap.out rfl _ rfl (none) (HF.out _) ?_))
  go_ret2
  exact ⟨rfl, hbel.out⟩
set_option maxHeartbeats 400000 in
theorem compare64_bad (op a b : Int) (h : op < 17 ∨ 27 < op) (w : World) : Calls Try.prog 21 #[.int .u8 op, .int .u64 a, .int .u64 b] w (Pair (.bool false) 2 w) := by
  have hf := psFind_rtab64 op h
  have HF := Lib.hid hf; clear hf
  go_enter Try.func21, Try.ntmps21
  go_wp2_with (first | (go_at_call 25; refine (rels64 _).mono ?_; rintro e w1 ⟨bm, rfl, hm0, hb0⟩; have hmap := Lib.hid hm0; clear hm0; have hbel := Lib.hid hb0; clear hb0) | (refine wpList_look_ps _ rfl _ _ 62 true rfl 22 60 .u8 Try.underlying62 Try.underlying22 (z := .nilFunc) (fun _ => by kernel_rfl) _ _ hmap.out rfl _ rfl (none) HF.out ?_))
  go_ret2
  exact ⟨rfl, hbel.out⟩

set_option maxHeartbeats 400000 in
theorem reckon64_zero4 (a : Int) (w : World) : Calls Try.prog 16 #[.int .u8 4, .int .u64 a, .int .u64 0] w (Pair (.int .u64 0) 113 w) := by
  go_enter Try.func16, Try.ntmps16
  go_wp2_with (first | (go_at_call 23; refine (ops64 _).mono ?_; rintro e w1 ⟨bm, c, rfl, hm0, hcell, hb0⟩; have hmap := Lib.hid hm0; clear hm0; have hbel := Lib.hid hb0; clear hb0) | (refine wpList_look_ps _ rfl _ _ 54 true rfl 22 52 .u8 Try.underlying54 Try.underlying22 (z := .nilFunc) (fun _ => by kernel_rfl) _ _ hmap.out rfl _ rfl (some (.func (.func 45) #[] #[])) rfl ?_))
  go_ret2
  exact ⟨rfl, hbel.out⟩

set_option maxHeartbeats 400000 in
theorem reckon64_zero5 (a : Int) (w : World) : Calls Try.prog 16 #[.int .u8 5, .int .u64 a, .int .u64 0] w (Pair (.int .u64 0) 113 w) := by
  go_enter Try.func16, Try.ntmps16
  go_wp2_with (first | (go_at_call 23; refine (ops64 _).mono ?_; rintro e w1 ⟨bm, c, rfl, hm0, hcell, hb0⟩; have hmap := Lib.hid hm0; clear hm0; have hbel := Lib.hid hb0; clear hb0) | (refine wpList_look_ps _ rfl _ _ 54 true rfl 22 52 .u8 Try.underlying54 Try.underlying22 (z := .nilFunc) (fun _ => by kernel_rfl) _ _ hmap.out rfl _ rfl (some (.func (.func 46) #[] #[])) rfl ?_))
  go_ret2
  exact ⟨rfl, hbel.out⟩

set_option maxHeartbeats 400000 in
theorem reckon64_1 (a b : Int) (h0 : 0 ≤ a) (h1 : a < m64) (k0 : 0 ≤ b) (k1 : b < m64) (w : World) : Calls Try.prog 16 #[.int .u8 1, .int .u64 a, .int .u64 b] w (Pair (.int .u64 (do64 1 a b)) 0 w) := by
  by_cases hb : b = 0
  · subst hb
    go_enter Try.func16, Try.ntmps16
    go_wp2_with (first | (go_at_call 23; refine (ops64 _).mono ?_; rintro e w1 ⟨bm, c, rfl, hm0, hcell, hb0⟩; have hmap := Lib.hid hm0; clear hm0; have hbel := Lib.hid hb0; clear hb0) | (refine wpList_look_ps _ rfl _ _ 54 true rfl 22 52 .u8 Try.underlying54 Try.underlying22 (z := .nilFunc) (fun _ => by kernel_rfl) _ _ hmap.out rfl _ rfl (some (.func (.func 42) #[] #[])) rfl ?_) | (go_at_call 42; refine (oAdd64 _ _ h0 h1 k0 k1 _).mono ?_; rintro e w' ⟨rfl, rfl⟩))
    go_ret2
    exact ⟨rfl, hbel.out⟩
  · have hz : (b == 0) = false := by simpa using hb
    go_enter Try.func16, Try.ntmps16
    go_wp2_with (first | (go_at_call 23; refine (ops64 _).mono ?_; rintro e w1 ⟨bm, c, rfl, hm0, hcell, hb0⟩; have hmap := Lib.hid hm0; clear hm0; have hbel := Lib.hid hb0; clear hb0) | (refine wpList_look_ps _ rfl _ _ 54 true rfl 22 52 .u8 Try.underlying54 Try.underlying22 (z := .nilFunc) (fun _ => by kernel_rfl) _ _ hmap.out rfl _ rfl (some (.func (.func 42) #[] #[])) rfl ?_) | (go_at_call 42; refine (oAdd64 _ _ h0 h1 k0 k1 _).mono ?_; rintro e w' ⟨rfl, rfl⟩))
    go_ret2
    exact ⟨rfl, hbel.out⟩

set_option maxHeartbeats 400000 in
theorem reckon64_2 (a b : Int) (h0 : 0 ≤ a) (h1 : a < m64) (k0 : 0 ≤ b) (k1 : b < m64) (w : World) : Calls Try.prog 16 #[.int .u8 2, .int .u64 a, .int .u64 b] w (Pair (.int .u64 (do64 2 a b)) 0 w) := by
  by_cases hb : b = 0
  · subst hb
    go_enter Try.func16, Try.ntmps16
    go_wp2_with (first | (go_at_call 23; refine (ops64 _).mono ?_; rintro e w1 ⟨bm, c, rfl, hm0, hcell, hb0⟩; have hmap := Lib.hid hm0; clear hm0; have hbel := Lib.hid hb0; clear hb0) | (refine wpList_look_ps _ rfl _ _ 54 true rfl 22 52 .u8 Try.underlying54 Try.underlying22 (z := .nilFunc) (fun _ => by kernel_rfl) _ _ hmap.out rfl _ rfl (some (.func (.func 43) #[] #[])) rfl ?_) | (go_at_call 43; refine (oSub64 _ _ h0 h1 k0 k1 _).mono ?_; rintro e w' ⟨rfl, rfl⟩))
    go_ret2
    exact ⟨rfl, hbel.out⟩
  · have hz : (b == 0) = false := by simpa using hb
    go_enter Try.func16, Try.ntmps16
    go_wp2_with (first | (go_at_call 23; refine (ops64 _).mono ?_; rintro e w1 ⟨bm, c, rfl, hm0, hcell, hb0⟩; have hmap := Lib.hid hm0; clear hm0; have hbel := Lib.hid hb0; clear hb0) | (refine wpList_look_ps _ rfl _ _ 54 true rfl 22 52 .u8 Try.underlying54 Try.underlying22 (z := .nilFunc) (fun _ => by kernel_rfl) _ _ hmap.out rfl _ rfl (some (.func (.func 43) #[] #[])) rfl ?_) | (go_at_call 43; refine (oSub64 _ _ h0 h1 k0 k1 _).mono ?_; rintro e w' ⟨rfl, rfl⟩))
    go_ret2
    exact ⟨rfl, hbel.out⟩

set_option maxHeartbeats 400000 in
theorem reckon64_3 (a b : Int) (h0 : 0 ≤ a) (h1 : a < m64) (k0 : 0 ≤ b) (k1 : b < m64) (w : World) : Calls Try.prog 16 #[.int .u8 3, .int .u64 a, .int .u64 b] w (Pair (.int .u64 (do64 3 a b)) 0 w) := by
  by_cases hb : b = 0
  · subst hb
    go_enter Try.func16, Try.ntmps16
    go_wp2_with (first | (go_at_call 23; refine (ops64 _).mono ?_; rintro e w1 ⟨bm, c, rfl, hm0, hcell, hb0⟩; have hmap := Lib.hid hm0; clear hm0; have hbel := Lib.hid hb0; clear hb0) | (refine wpList_look_ps _ rfl _ _ 54 true rfl 22 52 .u8 Try.underlying54 Try.underlying22 (z := .nilFunc) (fun _ => by kernel_rfl) _ _ hmap.out rfl _ rfl (some (.func (.func 44) #[] #[])) rfl ?_) | (go_at_call 44; refine (oMul64 _ _ h0 h1 k0 k1 _).mono ?_; rintro e w' ⟨rfl, rfl⟩))
    go_ret2
    exact ⟨rfl, hbel.out⟩
  · have hz : (b == 0) = false := by simpa using hb
    go_enter Try.func16, Try.ntmps16
    go_wp2_with (first | (go_at_call 23; refine (ops64 _).mono ?_; rintro e w1 ⟨bm, c, rfl, hm0, hcell, hb0⟩; have hmap := Lib.hid hm0; clear hm0; have hbel := Lib.hid hb0; clear hb0) | (refine wpList_look_ps _ rfl _ _ 54 true rfl 22 52 .u8 Try.underlying54 Try.underlying22 (z := .nilFunc) (fun _ => by kernel_rfl) _ _ hmap.out rfl _ rfl (some (.func (.func 44) #[] #[])) rfl ?_) | (go_at_call 44; refine (oMul64 _ _ h0 h1 k0 k1 _).mono ?_; rintro e w' ⟨rfl, rfl⟩))
    go_ret2
    exact ⟨rfl, hbel.out⟩

set_option maxHeartbeats 400000 in
theorem reckon64_4 (a b : Int) (h0 : 0 ≤ a) (h1 : a < m64) (k0 : 0 ≤ b) (k1 : b < m64) (hn : b ≠ 0) (w : World) : Calls Try.prog 16 #[.int .u8 4, .int .u64 a, .int .u64 b] w (Pair (.int .u64 (do64 4 a b)) 0 w) := by
  by_cases hb : b = 0
  · subst hb
    exact absurd rfl hn
  · have hz : (b == 0) = false := by simpa using hb
    go_enter Try.func16, Try.ntmps16
    go_wp2_with (first | (go_at_call 23; refine (ops64 _).mono ?_; rintro e w1 ⟨bm, c, rfl, hm0, hcell, hb0⟩; have hmap := Lib.hid hm0; clear hm0; have hbel := Lib.hid hb0; clear hb0) | (refine wpList_look_ps _ rfl _ _ 54 true rfl 22 52 .u8 Try.underlying54 Try.underlying22 (z := .nilFunc) (fun _ => by kernel_rfl) _ _ hmap.out rfl _ rfl (some (.func (.func 45) #[] #[])) rfl ?_) | (go_at_call 45; refine (oDiv64 _ _ h0 h1 k0 k1 hn _).mono ?_; rintro e w' ⟨rfl, rfl⟩))
    go_ret2
    exact ⟨rfl, hbel.out⟩

set_option maxHeartbeats 400000 in
theorem reckon64_5 (a b : Int) (h0 : 0 ≤ a) (h1 : a < m64) (k0 : 0 ≤ b) (k1 : b < m64) (hn : b ≠ 0) (w : World) : Calls Try.prog 16 #[.int .u8 5, .int .u64 a, .int .u64 b] w (Pair (.int .u64 (do64 5 a b)) 0 w) := by
  by_cases hb : b = 0
  · subst hb
    exact absurd rfl hn
  · have hz : (b == 0) = false := by simpa using hb
    go_enter Try.func16, Try.ntmps16
    go_wp2_with (first | (go_at_call 23; refine (ops64 _).mono ?_; rintro e w1 ⟨bm, c, rfl, hm0, hcell, hb0⟩; have hmap := Lib.hid hm0; clear hm0; have hbel := Lib.hid hb0; clear hb0) | (refine wpList_look_ps _ rfl _ _ 54 true rfl 22 52 .u8 Try.underlying54 Try.underlying22 (z := .nilFunc) (fun _ => by kernel_rfl) _ _ hmap.out rfl _ rfl (some (.func (.func 46) #[] #[])) rfl ?_) | (go_at_call 46; refine (oMod64 _ _ h0 h1 k0 k1 hn _).mono ?_; rintro e w' ⟨rfl, rfl⟩))
    go_ret2
    exact ⟨rfl, hbel.out⟩

set_option maxHeartbeats 400000 in
theorem reckon64_6 (a b : Int) (h0 : 0 ≤ a) (h1 : a < m64) (k0 : 0 ≤ b) (k1 : b < m64) (w : World) : Calls Try.prog 16 #[.int .u8 6, .int .u64 a, .int .u64 b] w (Pair (.int .u64 (do64 6 a b)) 0 w) := by
  by_cases hb : b = 0
  · subst hb
    go_enter Try.func16, Try.ntmps16
    go_wp2_with (first | (go_at_call 23; refine (ops64 _).mono ?_; rintro e w1 ⟨bm, c, rfl, hm0, hcell, hb0⟩; have hmap := Lib.hid hm0; clear hm0; have hbel := Lib.hid hb0; clear hb0) | (refine wpList_look_ps _ rfl _ _ 54 true rfl 22 52 .u8 Try.underlying54 Try.underlying22 (z := .nilFunc) (fun _ => by kernel_rfl) _ _ hmap.out rfl _ rfl (some (.func (.func 47) #[] #[])) rfl ?_) | (go_at_call 47; refine (oAnd64 _ _ h0 h1 k0 k1 _).mono ?_; rintro e w' ⟨rfl, rfl⟩))
    go_ret2
    exact ⟨rfl, hbel.out⟩
  · have hz : (b == 0) = false := by simpa using hb
    go_enter Try.func16, Try.ntmps16
    go_wp2_with (first | (go_at_call 23; refine (ops64 _).mono ?_; rintro e w1 ⟨bm, c, rfl, hm0, hcell, hb0⟩; have hmap := Lib.hid hm0; clear hm0; have hbel := Lib.hid hb0; clear hb0) | (refine wpList_look_ps _ rfl _ _ 54 true rfl 22 52 .u8 Try.underlying54 Try.underlying22 (z := .nilFunc) (fun _ => by kernel_rfl) _ _ hmap.out rfl _ rfl (some (.func (.func 47) #[] #[])) rfl ?_) | (go_at_call 47; refine (oAnd64 _ _ h0 h1 k0 k1 _).mono ?_; rintro e w' ⟨rfl, rfl⟩))
    go_ret2
    exact ⟨rfl, hbel.out⟩

set_option maxHeartbeats 400000 in
theorem reckon64_7 (a b : Int) (h0 : 0 ≤ a) (h1 : a < m64) (k0 : 0 ≤ b) (k1 : b < m64) (w : World) : Calls Try.prog 16 #[.int .u8 7, .int .u64 a, .int .u64 b] w (Pair (.int .u64 (do64 7 a b)) 0 w) := by
  by_cases hb : b = 0
  · subst hb
    go_enter Try.func16, Try.ntmps16
    go_wp2_with (first | (go_at_call 23; refine (ops64 _).mono ?_; rintro e w1 ⟨bm, c, rfl, hm0, hcell, hb0⟩; have hmap := Lib.hid hm0; clear hm0; have hbel := Lib.hid hb0; clear hb0) | (refine wpList_look_ps _ rfl _ _ 54 true rfl 22 52 .u8 Try.underlying54 Try.underlying22 (z := .nilFunc) (fun _ => by kernel_rfl) _ _ hmap.out rfl _ rfl (some (.func (.func 48) #[] #[])) rfl ?_) | (go_at_call 48; refine (oOr64 _ _ h0 h1 k0 k1 _).mono ?_; rintro e w' ⟨rfl, rfl⟩))
    go_ret2
    exact ⟨rfl, hbel.out⟩
  · have hz : (b == 0) = false := by simpa using hb
    go_enter Try.func16, Try.ntmps16
    go_wp2_with (first | (go_at_call 23; refine (ops64 _).mono ?_; rintro e w1 ⟨bm, c, rfl, hm0, hcell, hb0⟩; have hmap := Lib.hid hm0; clear hm0; have hbel := Lib.hid hb0; clear hb0) | (refine wpList_look_ps _ rfl _ _ 54 true rfl 22 52 .u8 Try.underlying54 Try.underlying22 (z := .nilFunc) (fun _ => by kernel_rfl) _ _ hmap.out rfl _ rfl (some (.func (.func 48) #[] #[])) rfl ?_) | (go_at_call 48; refine (oOr64 _ _ h0 h1 k0 k1 _).mono ?_; rintro e w' ⟨rfl, rfl⟩))
    go_ret2
    exact ⟨rfl, hbel.out⟩

set_option maxHeartbeats 400000 in
theorem reckon64_8 (a b : Int) (h0 : 0 ≤ a) (h1 : a < m64) (k0 : 0 ≤ b) (k1 : b < m64) (w : World) : Calls Try.prog 16 #[.int .u8 8, .int .u64 a, .int .u64 b] w (Pair (.int .u64 (do64 8 a b)) 0 w) := by
  by_cases hb : b = 0
  · subst hb
    go_enter Try.func16, Try.ntmps16
    go_wp2_with (first | (go_at_call 23; refine (ops64 _).mono ?_; rintro e w1 ⟨bm, c, rfl, hm0, hcell, hb0⟩; have hmap := Lib.hid hm0; clear hm0; have hbel := Lib.hid hb0; clear hb0) | (refine wpList_look_ps _ rfl _ _ 54 true rfl 22 52 .u8 Try.underlying54 Try.underlying22 (z := .nilFunc) (fun _ => by kernel_rfl) _ _ hmap.out rfl _ rfl (some (.func (.func 49) #[] #[])) rfl ?_) | (go_at_call 49; refine (oXor64 _ _ h0 h1 k0 k1 _).mono ?_; rintro e w' ⟨rfl, rfl⟩))
    go_ret2
    exact ⟨rfl, hbel.out⟩
  · have hz : (b == 0) = false := by simpa using hb
    go_enter Try.func16, Try.ntmps16
    go_wp2_with (first | (go_at_call 23; refine (ops64 _).mono ?_; rintro e w1 ⟨bm, c, rfl, hm0, hcell, hb0⟩; have hmap := Lib.hid hm0; clear hm0; have hbel := Lib.hid hb0; clear hb0) | (refine wpList_look_ps _ rfl _ _ 54 true rfl 22 52 .u8 Try.underlying54 Try.underlying22 (z := .nilFunc) (fun _ => by kernel_rfl) _ _ hmap.out rfl _ rfl (some (.func (.func 49) #[] #[])) rfl ?_) | (go_at_call 49; refine (oXor64 _ _ h0 h1 k0 k1 _).mono ?_; rintro e w' ⟨rfl, rfl⟩))
    go_ret2
    exact ⟨rfl, hbel.out⟩

set_option maxHeartbeats 400000 in
theorem reckon64_9 (a b : Int) (h0 : 0 ≤ a) (h1 : a < m64) (k0 : 0 ≤ b) (k1 : b < m64) (w : World) : Calls Try.prog 16 #[.int .u8 9, .int .u64 a, .int .u64 b] w (Pair (.int .u64 (do64 9 a b)) 0 w) := by
  by_cases hb : b = 0
  · subst hb
    go_enter Try.func16, Try.ntmps16
    go_wp2_with (first | (go_at_call 23; refine (ops64 _).mono ?_; rintro e w1 ⟨bm, c, rfl, hm0, hcell, hb0⟩; have hmap := Lib.hid hm0; clear hm0; have hbel := Lib.hid hb0; clear hb0) | (refine wpList_look_ps _ rfl _ _ 54 true rfl 22 52 .u8 Try.underlying54 Try.underlying22 (z := .nilFunc) (fun _ => by kernel_rfl) _ _ hmap.out rfl _ rfl (some (.func (.func 50) #[] #[.pointer (some ⟨_, 0, none⟩)])) rfl ?_) | (go_at_call 50; refine (oShl64 _ _ h0 h1 k0 k1 _ _ hcell).mono ?_; rintro e w' ⟨rfl, rfl⟩))
    go_ret2
    exact ⟨rfl, hbel.out⟩
  · have hz : (b == 0) = false := by simpa using hb
    go_enter Try.func16, Try.ntmps16
    go_wp2_with (first | (go_at_call 23; refine (ops64 _).mono ?_; rintro e w1 ⟨bm, c, rfl, hm0, hcell, hb0⟩; have hmap := Lib.hid hm0; clear hm0; have hbel := Lib.hid hb0; clear hb0) | (refine wpList_look_ps _ rfl _ _ 54 true rfl 22 52 .u8 Try.underlying54 Try.underlying22 (z := .nilFunc) (fun _ => by kernel_rfl) _ _ hmap.out rfl _ rfl (some (.func (.func 50) #[] #[.pointer (some ⟨_, 0, none⟩)])) rfl ?_) | (go_at_call 50; refine (oShl64 _ _ h0 h1 k0 k1 _ _ hcell).mono ?_; rintro e w' ⟨rfl, rfl⟩))
    go_ret2
    exact ⟨rfl, hbel.out⟩

set_option maxHeartbeats 400000 in
theorem reckon64_10 (a b : Int) (h0 : 0 ≤ a) (h1 : a < m64) (k0 : 0 ≤ b) (k1 : b < m64) (w : World) : Calls Try.prog 16 #[.int .u8 10, .int .u64 a, .int .u64 b] w (Pair (.int .u64 (do64 10 a b)) 0 w) := by
  by_cases hb : b = 0
  · subst hb
    go_enter Try.func16, Try.ntmps16
    go_wp2_with (first | (go_at_call 23; refine (ops64 _).mono ?_; rintro e w1 ⟨bm, c, rfl, hm0, hcell, hb0⟩; have hmap := Lib.hid hm0; clear hm0; have hbel := Lib.hid hb0; clear hb0) | (refine wpList_look_ps _ rfl _ _ 54 true rfl 22 52 .u8 Try.underlying54 Try.underlying22 (z := .nilFunc) (fun _ => by kernel_rfl) _ _ hmap.out rfl _ rfl (some (.func (.func 51) #[] #[.pointer (some ⟨_, 0, none⟩)])) rfl ?_) | (go_at_call 51; refine (oShr64 _ _ h0 h1 k0 k1 _ _ hcell).mono ?_; rintro e w' ⟨rfl, rfl⟩))
    go_ret2
    exact ⟨rfl, hbel.out⟩
  · have hz : (b == 0) = false := by simpa using hb
    go_enter Try.func16, Try.ntmps16
    go_wp2_with (first | (go_at_call 23; refine (ops64 _).mono ?_; rintro e w1 ⟨bm, c, rfl, hm0, hcell, hb0⟩; have hmap := Lib.hid hm0; clear hm0; have hbel := Lib.hid hb0; clear hb0) | (refine wpList_look_ps _ rfl _ _ 54 true rfl 22 52 .u8 Try.underlying54 Try.underlying22 (z := .nilFunc) (fun _ => by kernel_rfl) _ _ hmap.out rfl _ rfl (some (.func (.func 51) #[] #[.pointer (some ⟨_, 0, none⟩)])) rfl ?_) | (go_at_call 51; refine (oShr64 _ _ h0 h1 k0 k1 _ _ hcell).mono ?_; rintro e w' ⟨rfl, rfl⟩))
    go_ret2
    exact ⟨rfl, hbel.out⟩

set_option maxHeartbeats 400000 in
theorem reckon64_11 (a b : Int) (h0 : 0 ≤ a) (h1 : a < m64) (k0 : 0 ≤ b) (k1 : b < m64) (w : World) : Calls Try.prog 16 #[.int .u8 11, .int .u64 a, .int .u64 b] w (Pair (.int .u64 (do64 11 a b)) 0 w) := by
  by_cases hb : b = 0
  · subst hb
    go_enter Try.func16, Try.ntmps16
    go_wp2_with (first | (go_at_call 23; refine (ops64 _).mono ?_; rintro e w1 ⟨bm, c, rfl, hm0, hcell, hb0⟩; have hmap := Lib.hid hm0; clear hm0; have hbel := Lib.hid hb0; clear hb0) | (refine wpList_look_ps _ rfl _ _ 54 true rfl 22 52 .u8 Try.underlying54 Try.underlying22 (z := .nilFunc) (fun _ => by kernel_rfl) _ _ hmap.out rfl _ rfl (some (.func (.func 52) #[] #[.pointer (some ⟨_, 0, none⟩)])) rfl ?_) | (go_at_call 52; refine (oSar64 _ _ h0 h1 k0 k1 _ _ hcell).mono ?_; rintro e w' ⟨⟨nd, rfl⟩, rfl⟩))
    go_ret2
    exact ⟨rfl, below_drewN hbel.out _⟩
  · have hz : (b == 0) = false := by simpa using hb
    go_enter Try.func16, Try.ntmps16
    go_wp2_with (first | (go_at_call 23; refine (ops64 _).mono ?_; rintro e w1 ⟨bm, c, rfl, hm0, hcell, hb0⟩; have hmap := Lib.hid hm0; clear hm0; have hbel := Lib.hid hb0; clear hb0) | (refine wpList_look_ps _ rfl _ _ 54 true rfl 22 52 .u8 Try.underlying54 Try.underlying22 (z := .nilFunc) (fun _ => by kernel_rfl) _ _ hmap.out rfl _ rfl (some (.func (.func 52) #[] #[.pointer (some ⟨_, 0, none⟩)])) rfl ?_) | (go_at_call 52; refine (oSar64 _ _ h0 h1 k0 k1 _ _ hcell).mono ?_; rintro e w' ⟨⟨nd, rfl⟩, rfl⟩))
    go_ret2
    exact ⟨rfl, below_drewN hbel.out _⟩

set_option maxHeartbeats 400000 in
theorem reckon64_12 (a b : Int) (h0 : 0 ≤ a) (h1 : a < m64) (k0 : 0 ≤ b) (k1 : b < m64) (w : World) : Calls Try.prog 16 #[.int .u8 12, .int .u64 a, .int .u64 b] w (Pair (.int .u64 (do64 12 a b)) 0 w) := by
  by_cases hb : b = 0
  · subst hb
    go_enter Try.func16, Try.ntmps16
    go_wp2_with (first | (go_at_call 23; refine (ops64 _).mono ?_; rintro e w1 ⟨bm, c, rfl, hm0, hcell, hb0⟩; have hmap := Lib.hid hm0; clear hm0; have hbel := Lib.hid hb0; clear hb0) | (refine wpList_look_ps _ rfl _ _ 54 true rfl 22 52 .u8 Try.underlying54 Try.underlying22 (z := .nilFunc) (fun _ => by kernel_rfl) _ _ hmap.out rfl _ rfl (some (.func (.func 54) #[] #[])) rfl ?_) | (go_at_call 54; refine (oMov64 _ _ h0 h1 k0 k1 _).mono ?_; rintro e w' ⟨rfl, rfl⟩))
    go_ret2
    exact ⟨rfl, hbel.out⟩
  · have hz : (b == 0) = false := by simpa using hb
    go_enter Try.func16, Try.ntmps16
    go_wp2_with (first | (go_at_call 23; refine (ops64 _).mono ?_; rintro e w1 ⟨bm, c, rfl, hm0, hcell, hb0⟩; have hmap := Lib.hid hm0; clear hm0; have hbel := Lib.hid hb0; clear hb0) | (refine wpList_look_ps _ rfl _ _ 54 true rfl 22 52 .u8 Try.underlying54 Try.underlying22 (z := .nilFunc) (fun _ => by kernel_rfl) _ _ hmap.out rfl _ rfl (some (.func (.func 54) #[] #[])) rfl ?_) | (go_at_call 54; refine (oMov64 _ _ h0 h1 k0 k1 _).mono ?_; rintro e w' ⟨rfl, rfl⟩))
    go_ret2
    exact ⟨rfl, hbel.out⟩

set_option maxHeartbeats 400000 in
theorem reckon64_13 (a b : Int) (h0 : 0 ≤ a) (h1 : a < m64) (k0 : 0 ≤ b) (k1 : b < m64) (w : World) : Calls Try.prog 16 #[.int .u8 13, .int .u64 a, .int .u64 b] w (Pair (.int .u64 (do64 13 a b)) 0 w) := by
  by_cases hb : b = 0
  · subst hb
    go_enter Try.func16, Try.ntmps16
    go_wp2_with (first | (go_at_call 23; refine (ops64 _).mono ?_; rintro e w1 ⟨bm, c, rfl, hm0, hcell, hb0⟩; have hmap := Lib.hid hm0; clear hm0; have hbel := Lib.hid hb0; clear hb0) | (refine wpList_look_ps _ rfl _ _ 54 true rfl 22 52 .u8 Try.underlying54 Try.underlying22 (z := .nilFunc) (fun _ => by kernel_rfl) _ _ hmap.out rfl _ rfl (some (.func (.func 55) #[] #[])) rfl ?_) | (go_at_call 55; refine (oNeg64 _ _ h0 h1 k0 k1 _).mono ?_; rintro e w' ⟨rfl, rfl⟩))
    go_ret2
    exact ⟨rfl, hbel.out⟩
  · have hz : (b == 0) = false := by simpa using hb
    go_enter Try.func16, Try.ntmps16
    go_wp2_with (first | (go_at_call 23; refine (ops64 _).mono ?_; rintro e w1 ⟨bm, c, rfl, hm0, hcell, hb0⟩; have hmap := Lib.hid hm0; clear hm0; have hbel := Lib.hid hb0; clear hb0) | (refine wpList_look_ps _ rfl _ _ 54 true rfl 22 52 .u8 Try.underlying54 Try.underlying22 (z := .nilFunc) (fun _ => by kernel_rfl) _ _ hmap.out rfl _ rfl (some (.func (.func 55) #[] #[])) rfl ?_) | (go_at_call 55; refine (oNeg64 _ _ h0 h1 k0 k1 _).mono ?_; rintro e w' ⟨rfl, rfl⟩))
    go_ret2
    exact ⟨rfl, hbel.out⟩

set_option maxHeartbeats 400000 in
theorem compare64_17 (a b : Int) (h0 : 0 ≤ a) (h1 : a < m64) (k0 : 0 ≤ b) (k1 : b < m64) (w : World) : Calls Try.prog 21 #[.int .u8 17, .int .u64 a, .int .u64 b] w (Pair (.bool (is64 17 a b)) 0 w) := by
  go_enter Try.func21, Try.ntmps21
  go_wp2_with (first | (go_at_call 25; refine (rels64 _).mono ?_; rintro e w1 ⟨bm, rfl, hm0, hb0⟩; have hmap := Lib.hid hm0; clear hm0; have hbel := Lib.hid hb0; clear hb0) | (refine wpList_look_ps _ rfl _ _ 62 true rfl 22 60 .u8 Try.underlying62 Try.underlying22 (z := .nilFunc) (fun _ => by kernel_rfl) _ _ hmap.out rfl _ rfl (some (.func (.func 67) #[] #[])) rfl ?_) | (go_at_call 67; refine (rEq64 _ _ h0 h1 k0 k1 _).mono ?_; rintro e w' ⟨rfl, rfl⟩))
  go_ret2
  exact ⟨rfl, hbel.out⟩

set_option maxHeartbeats 400000 in
theorem compare64_18 (a b : Int) (h0 : 0 ≤ a) (h1 : a < m64) (k0 : 0 ≤ b) (k1 : b < m64) (w : World) : Calls Try.prog 21 #[.int .u8 18, .int .u64 a, .int .u64 b] w (Pair (.bool (is64 18 a b)) 0 w) := by
  go_enter Try.func21, Try.ntmps21
  go_wp2_with (first | (go_at_call 25; refine (rels64 _).mono ?_; rintro e w1 ⟨bm, rfl, hm0, hb0⟩; have hmap := Lib.hid hm0; clear hm0; have hbel := Lib.hid hb0; clear hb0) | (refine wpList_look_ps _ rfl _ _ 62 true rfl 22 60 .u8 Try.underlying62 Try.underlying22 (z := .nilFunc) (fun _ => by kernel_rfl) _ _ hmap.out rfl _ rfl (some (.func (.func 68) #[] #[])) rfl ?_) | (go_at_call 68; refine (rNe64 _ _ h0 h1 k0 k1 _).mono ?_; rintro e w' ⟨rfl, rfl⟩))
  go_ret2
  exact ⟨rfl, hbel.out⟩

set_option maxHeartbeats 400000 in
theorem compare64_19 (a b : Int) (h0 : 0 ≤ a) (h1 : a < m64) (k0 : 0 ≤ b) (k1 : b < m64) (w : World) : Calls Try.prog 21 #[.int .u8 19, .int .u64 a, .int .u64 b] w (Pair (.bool (is64 19 a b)) 0 w) := by
  go_enter Try.func21, Try.ntmps21
  go_wp2_with (first | (go_at_call 25; refine (rels64 _).mono ?_; rintro e w1 ⟨bm, rfl, hm0, hb0⟩; have hmap := Lib.hid hm0; clear hm0; have hbel := Lib.hid hb0; clear hb0) | (refine wpList_look_ps _ rfl _ _ 62 true rfl 22 60 .u8 Try.underlying62 Try.underlying22 (z := .nilFunc) (fun _ => by kernel_rfl) _ _ hmap.out rfl _ rfl (some (.func (.func 69) #[] #[])) rfl ?_) | (go_at_call 69; refine (rGt64 _ _ h0 h1 k0 k1 _).mono ?_; rintro e w' ⟨rfl, rfl⟩))
  go_ret2
  exact ⟨rfl, hbel.out⟩

set_option maxHeartbeats 400000 in
theorem compare64_20 (a b : Int) (h0 : 0 ≤ a) (h1 : a < m64) (k0 : 0 ≤ b) (k1 : b < m64) (w : World) : Calls Try.prog 21 #[.int .u8 20, .int .u64 a, .int .u64 b] w (Pair (.bool (is64 20 a b)) 0 w) := by
  go_enter Try.func21, Try.ntmps21
  go_wp2_with (first | (go_at_call 25; refine (rels64 _).mono ?_; rintro e w1 ⟨bm, rfl, hm0, hb0⟩; have hmap := Lib.hid hm0; clear hm0; have hbel := Lib.hid hb0; clear hb0) | (refine wpList_look_ps _ rfl _ _ 62 true rfl 22 60 .u8 Try.underlying62 Try.underlying22 (z := .nilFunc) (fun _ => by kernel_rfl) _ _ hmap.out rfl _ rfl (some (.func (.func 70) #[] #[])) rfl ?_) | (go_at_call 70; refine (rGe64 _ _ h0 h1 k0 k1 _).mono ?_; rintro e w' ⟨rfl, rfl⟩))
  go_ret2
  exact ⟨rfl, hbel.out⟩

set_option maxHeartbeats 400000 in
theorem compare64_21 (a b : Int) (h0 : 0 ≤ a) (h1 : a < m64) (k0 : 0 ≤ b) (k1 : b < m64) (w : World) : Calls Try.prog 21 #[.int .u8 21, .int .u64 a, .int .u64 b] w (Pair (.bool (is64 21 a b)) 0 w) := by
  go_enter Try.func21, Try.ntmps21
  go_wp2_with (first | (go_at_call 25; refine (rels64 _).mono ?_; rintro e w1 ⟨bm, rfl, hm0, hb0⟩; have hmap := Lib.hid hm0; clear hm0; have hbel := Lib.hid hb0; clear hb0) | (refine wpList_look_ps _ rfl _ _ 62 true rfl 22 60 .u8 Try.underlying62 Try.underlying22 (z := .nilFunc) (fun _ => by kernel_rfl) _ _ hmap.out rfl _ rfl (some (.func (.func 71) #[] #[])) rfl ?_) | (go_at_call 71; refine (rLt64 _ _ h0 h1 k0 k1 _).mono ?_; rintro e w' ⟨rfl, rfl⟩))
  go_ret2
  exact ⟨rfl, hbel.out⟩

set_option maxHeartbeats 400000 in
theorem compare64_22 (a b : Int) (h0 : 0 ≤ a) (h1 : a < m64) (k0 : 0 ≤ b) (k1 : b < m64) (w : World) : Calls Try.prog 21 #[.int .u8 22, .int .u64 a, .int .u64 b] w (Pair (.bool (is64 22 a b)) 0 w) := by
  go_enter Try.func21, Try.ntmps21
  go_wp2_with (first | (go_at_call 25; refine (rels64 _).mono ?_; rintro e w1 ⟨bm, rfl, hm0, hb0⟩; have hmap := Lib.hid hm0; clear hm0; have hbel := Lib.hid hb0; clear hb0) | (refine wpList_look_ps _ rfl _ _ 62 true rfl 22 60 .u8 Try.underlying62 Try.underlying22 (z := .nilFunc) (fun _ => by kernel_rfl) _ _ hmap.out rfl _ rfl (some (.func (.func 72) #[] #[])) rfl ?_) | (go_at_call 72; refine (rLe64 _ _ h0 h1 k0 k1 _).mono ?_; rintro e w' ⟨rfl, rfl⟩))
  go_ret2
  exact ⟨rfl, hbel.out⟩

set_option maxHeartbeats 400000 in
theorem compare64_23 (a b : Int) (h0 : 0 ≤ a) (h1 : a < m64) (k0 : 0 ≤ b) (k1 : b < m64) (w : World) : Calls Try.prog 21 #[.int .u8 23, .int .u64 a, .int .u64 b] w (Pair (.bool (is64 23 a b)) 0 w) := by
  go_enter Try.func21, Try.ntmps21
  go_wp2_with (first | (go_at_call 25; refine (rels64 _).mono ?_; rintro e w1 ⟨bm, rfl, hm0, hb0⟩; have hmap := Lib.hid hm0; clear hm0; have hbel := Lib.hid hb0; clear hb0) | (refine wpList_look_ps _ rfl _ _ 62 true rfl 22 60 .u8 Try.underlying62 Try.underlying22 (z := .nilFunc) (fun _ => by kernel_rfl) _ _ hmap.out rfl _ rfl (some (.func (.func 73) #[] #[])) rfl ?_) | (go_at_call 73; refine (rSgt64 _ _ h0 h1 k0 k1 _).mono ?_; rintro e w' ⟨rfl, rfl⟩))
  go_ret2
  exact ⟨rfl, hbel.out⟩

set_option maxHeartbeats 400000 in
theorem compare64_24 (a b : Int) (h0 : 0 ≤ a) (h1 : a < m64) (k0 : 0 ≤ b) (k1 : b < m64) (w : World) : Calls Try.prog 21 #[.int .u8 24, .int .u64 a, .int .u64 b] w (Pair (.bool (is64 24 a b)) 0 w) := by
  go_enter Try.func21, Try.ntmps21
  go_wp2_with (first | (go_at_call 25; refine (rels64 _).mono ?_; rintro e w1 ⟨bm, rfl, hm0, hb0⟩; have hmap := Lib.hid hm0; clear hm0; have hbel := Lib.hid hb0; clear hb0) | (refine wpList_look_ps _ rfl _ _ 62 true rfl 22 60 .u8 Try.underlying62 Try.underlying22 (z := .nilFunc) (fun _ => by kernel_rfl) _ _ hmap.out rfl _ rfl (some (.func (.func 74) #[] #[])) rfl ?_) | (go_at_call 74; refine (rSge64 _ _ h0 h1 k0 k1 _).mono ?_; rintro e w' ⟨rfl, rfl⟩))
  go_ret2
  exact ⟨rfl, hbel.out⟩

set_option maxHeartbeats 400000 in
theorem compare64_25 (a b : Int) (h0 : 0 ≤ a) (h1 : a < m64) (k0 : 0 ≤ b) (k1 : b < m64) (w : World) : Calls Try.prog 21 #[.int .u8 25, .int .u64 a, .int .u64 b] w (Pair (.bool (is64 25 a b)) 0 w) := by
  go_enter Try.func21, Try.ntmps21
  go_wp2_with (first | (go_at_call 25; refine (rels64 _).mono ?_; rintro e w1 ⟨bm, rfl, hm0, hb0⟩; have hmap := Lib.hid hm0; clear hm0; have hbel := Lib.hid hb0; clear hb0) | (refine wpList_look_ps _ rfl _ _ 62 true rfl 22 60 .u8 Try.underlying62 Try.underlying22 (z := .nilFunc) (fun _ => by kernel_rfl) _ _ hmap.out rfl _ rfl (some (.func (.func 75) #[] #[])) rfl ?_) | (go_at_call 75; refine (rSlt64 _ _ h0 h1 k0 k1 _).mono ?_; rintro e w' ⟨rfl, rfl⟩))
  go_ret2
  exact ⟨rfl, hbel.out⟩

set_option maxHeartbeats 400000 in
theorem compare64_26 (a b : Int) (h0 : 0 ≤ a) (h1 : a < m64) (k0 : 0 ≤ b) (k1 : b < m64) (w : World) : Calls Try.prog 21 #[.int .u8 26, .int .u64 a, .int .u64 b] w (Pair (.bool (is64 26 a b)) 0 w) := by
  go_enter Try.func21, Try.ntmps21
  go_wp2_with (first | (go_at_call 25; refine (rels64 _).mono ?_; rintro e w1 ⟨bm, rfl, hm0, hb0⟩; have hmap := Lib.hid hm0; clear hm0; have hbel := Lib.hid hb0; clear hb0) | (refine wpList_look_ps _ rfl _ _ 62 true rfl 22 60 .u8 Try.underlying62 Try.underlying22 (z := .nilFunc) (fun _ => by kernel_rfl) _ _ hmap.out rfl _ rfl (some (.func (.func 76) #[] #[])) rfl ?_) | (go_at_call 76; refine (rSle64 _ _ h0 h1 k0 k1 _).mono ?_; rintro e w' ⟨rfl, rfl⟩))
  go_ret2
  exact ⟨rfl, hbel.out⟩

set_option maxHeartbeats 400000 in
theorem compare64_27 (a b : Int) (h0 : 0 ≤ a) (h1 : a < m64) (k0 : 0 ≤ b) (k1 : b < m64) (w : World) : Calls Try.prog 21 #[.int .u8 27, .int .u64 a, .int .u64 b] w (Pair (.bool (is64 27 a b)) 0 w) := by
  go_enter Try.func21, Try.ntmps21
  go_wp2_with (first | (go_at_call 25; refine (rels64 _).mono ?_; rintro e w1 ⟨bm, rfl, hm0, hb0⟩; have hmap := Lib.hid hm0; clear hm0; have hbel := Lib.hid hb0; clear hb0) | (refine wpList_look_ps _ rfl _ _ 62 true rfl 22 60 .u8 Try.underlying62 Try.underlying22 (z := .nilFunc) (fun _ => by kernel_rfl) _ _ hmap.out rfl _ rfl (some (.func (.func 77) #[] #[])) rfl ?_) | (go_at_call 77; refine (rSet64 _ _ h0 h1 k0 k1 _).mono ?_; rintro e w' ⟨rfl, rfl⟩))
  go_ret2
  exact ⟨rfl, hbel.out⟩

end Go.Proofs.Ytlggmfbmaoajcaa
