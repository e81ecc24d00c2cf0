/- Contracts of layer 4's words: turned, four bytes as a word, a word as four bytes. -/
import Derived.Test.YtknkmblacaaegaaDoorTools
import Derived.Test.YtknkmblacaaegaaDoorShaMath
import Derived.Laws.Shifts
import Derived.Laws.ShiftsVar
import Derived.Laws.ShiftsVarLaws
import Derived.Laws.BitsLemmas
namespace Go.Proofs.YtknkmblacaaegaaDoor
open Go.RowKit
set_option linter.unusedVariables false
set_option linter.unusedSimpArgs false

theorem ret_u32 {a b : Int} (h : a = b) : Ending.returned (.int .u32 a) = .returned (.int .u32 b) := by rw [h]
theorem ret_u64 {a b : Int} (h : a = b) : Ending.returned (.int .u64 a) = .returned (.int .u64 b) := by rw [h]
/-- By how many bits words are turned. -/
def Turn (n : Nat) : Prop := n = 2 ∨ n = 6 ∨ n = 7 ∨ n = 11 ∨ n = 13 ∨ n = 17 ∨ n = 18 ∨ n = 19 ∨ n = 22 ∨ n = 25
theorem rot_or {x n : Nat} (h : x < 4294967296) : bits .or .u32 ((x : Int) * 2 ^ (32 - n) % 4294967296) ((x : Int) / 2 ^ n) = ((rotr n x : Nat) : Int) := by
  have e1 : (x : Int) * 2 ^ (32 - n) % 4294967296 = ((x * 2 ^ (32 - n) % 4294967296 : Nat) : Int) := by simp
  have e2 : (x : Int) / 2 ^ n = ((x / 2 ^ n : Nat) : Int) := by simp
  rw [e1, e2, Go.u32_or_nat _ _ (Nat.mod_lt _ (by decide)) (Nat.lt_of_le_of_lt (Nat.div_le_self _ _) h)]
  rfl
set_option maxHeartbeats 1000000 in
theorem rotLeft (x n : Nat) (k : Int) (w : World) (h : x < 4294967296) (hn : Turn n) (hk : k = -(n : Int)) :
    Calls Tryd.prog 99 #[.int .u32 x, .int .i64 k] w fun e w' => w = w' ∧ e = .returned (.int .u32 (rotr n x : Nat)) := by
  have E := rot_or (n := n) h
  rcases hn with rfl | rfl | rfl | rfl | rfl | rfl | rfl | rfl | rfl | rfl
  all_goals
    simp only [Nat.reducePow, Nat.reduceSub, Int.reducePow] at E
    have HE := Lib.hid E
    clear E
    simp only [Int.cast_ofNat_Int, Int.reduceNeg] at hk
    have b1 : bits .and .u64 (IntKind.u64.wrap k) 31 = k + 32 := by subst hk; decide +kernel
    subst hk
    simp only [Int.reduceAdd, Int.reduceNeg] at b1
    go_enter Tryd.func99, Tryd.ntmps99
    go_wp2
    go_ret
    exact ⟨rfl, ret_u32 HE.out⟩
set_option maxHeartbeats 1000000 in
theorem turned (x n : Nat) (k : Int) (w : World) (h : x < 4294967296) (hn : Turn n) (hk : k = (n : Int)) :
    Calls Tryd.prog 98 #[.int .u32 x, .int .i64 k] w fun e w' => w = w' ∧ e = .returned (.int .u32 (rotr n x : Nat)) := by
  have hb : 0 ≤ k ∧ k ≤ 31 := by unfold Turn at hn; omega
  have R := Lib.hid (fun w => rotLeft x n (-k) w h hn (by rw [hk]))
  clear hk hn
  go_enter Tryd.func98, Tryd.ntmps98
  go_wp2_with fail
  refine ((R.out) _).mono ?_; rintro e w' ⟨rfl, rfl⟩
  go_wp2
  go_ret
  exact ⟨rfl, rfl⟩

/-- The bytes' numbers, joined. -/
theorem or_four {a b c d : Nat} (ha : a < 256) (hb : b < 256) (hc : c < 256) (hd : d < 256) :
    bits .or .u32 (bits .or .u32 (bits .or .u32 ((a : Int) * 16777216) ((b : Int) * 65536)) ((c : Int) * 256)) d = ((a * 16777216 + b * 65536 + c * 256 + d : Nat) : Int) := by
  rw [show ((a : Nat) : Int) * 16777216 = ((a * 16777216 : Nat) : Int) from by omega, show ((b : Nat) : Int) * 65536 = ((b * 65536 : Nat) : Int) from by omega, show ((c : Nat) : Int) * 256 = ((c * 256 : Nat) : Int) from by omega,
    Go.u32_or_nat _ _ (by omega) (by omega), nat_join 24 _ _ (by omega) (by omega), Go.u32_or_nat _ _ (by omega) (by omega), nat_join 16 _ _ (by omega) (by omega), Go.u32_or_nat _ _ (by omega) (by omega), nat_join 8 _ _ (by omega) (by omega)]
set_option maxHeartbeats 1000000 in
theorem wordAt (v : Value) (l : List Int) (w : World) (h : Bs w v l) (ho : Oct l) (hl : 4 ≤ l.length) :
    Calls Tryd.prog 97 #[v] w fun e w' => Tells (.int .u32 (wd l 0 : Nat)) w e w' := by
  obtain ⟨b, off, cap, rfl, -, -, -, cells⟩ := h.at (by omega)
  have c0 : w.cell? ⟨b, off, none⟩ = _ := cells 0 (by omega)
  have c1 := cells 1 (by omega)
  have c2 := cells 2 (by omega)
  have c3 := cells 3 (by omega)
  have h0 := ho.nth (j := 0) (by omega)
  have h1 := ho.nth (j := 1) (by omega)
  have h2 := ho.nth (j := 2) (by omega)
  have h3 := ho.nth (j := 3) (by omega)
  have HW : Hid (wd l 0 = (nth l 0).toNat * 16777216 + (nth l 1).toNat * 65536 + (nth l 2).toNat * 256 + (nth l 3).toNat) := Lib.hid rfl
  clear h ho cells
  generalize wd l 0 = z at *
  generalize nth l 0 = x0 at *
  generalize nth l 1 = x1 at *
  generalize nth l 2 = x2 at *
  generalize nth l 3 = x3 at *
  obtain ⟨x0, rfl⟩ := Int.eq_ofNat_of_zero_le h0.1
  obtain ⟨x1, rfl⟩ := Int.eq_ofNat_of_zero_le h1.1
  obtain ⟨x2, rfl⟩ := Int.eq_ofNat_of_zero_le h2.1
  obtain ⟨x3, rfl⟩ := Int.eq_ofNat_of_zero_le h3.1
  have E := Lib.hid (or_four (a := x0) (b := x1) (c := x2) (d := x3) (by omega) (by omega) (by omega) (by omega))
  have hlen := Lib.hid hl
  have a1 : x0 < 256 := by omega
  have b1 : x1 < 256 := by omega
  have d1 : x2 < 256 := by omega
  have e1 : x3 < 256 := by omega
  clear h0 h1 h2 h3
  have i0 : 0 < l.length := by omega
  have i1 : 1 < l.length := by omega
  have i2 : 2 < l.length := by omega
  have i3 : 3 < l.length := by omega
  generalize l.length = n at *
  go_enter Tryd.func97, Tryd.ntmps97
  go_wp2
  go_quiet (fail)
  go_wp2
  go_ret
  refine ⟨ret_u32 ?_, ⟨_, rfl⟩⟩
  rw [E.out, HW.out]
  rfl

theorem w4_is {n : Nat} (h1 : n < 4294967296) : [(n : Int) / 16777216, (n : Int) / 65536 % 256, (n : Int) / 256 % 256, (n : Int) % 256] = w4 n := by
  unfold w4
  have e : (n : Int) / 16777216 % 256 = (n : Int) / 16777216 := by omega
  rw [e]
/-- e returns a row to which ys were added. -/
def Adds (base : Nat) (v : Value) (xs ys : List Int) (w : World) (e : Ending) (w' : World) : Prop := ∃ v', e = .returned v' ∧ Own w' base v' (xs ++ ys) ∧ w.grownBy w' v.ownBlock
theorem appendWord (base : Nat) (v : Value) (xs : List Int) (n : Nat) (w : World) (h : Own w base v xs) (hb : base ≤ w.heap.size) (hl : xs.length ≤ 140737488355000) (h1 : n < 4294967296) :
    Calls Tryd.prog 58 #[v, .int .u32 n] w (Adds base v xs (w4 n) w) := by
  obtain ⟨ao, cap, hsh⟩ := h.bs.shape
  have H := Lib.hid (h.alloc (.cells #[.int .u8 ((n : Int) / 16777216), .int .u8 ((n : Int) / 65536 % 256), .int .u8 ((n : Int) / 256 % 256), .int .u8 ((n : Int) % 256)] 5))
  have L := Lib.hid (bs_list w [(n : Int) / 16777216, (n : Int) / 65536 % 256, (n : Int) / 256 % 256, (n : Int) % 256] (by simp))
  have E := Lib.hid (w4_is h1)
  have HSH := Lib.hid hsh
  subst hsh
  clear h
  go_enter Tryd.func58, Tryd.ntmps58
  go_wp2_with (at_builtin; refine wpList_append_bs _ rfl _ _ rfl base _ xs rfl H.out _ _ rfl L.out (by simp; omega) (by simp; omega) ?_)
  intro v' w' ho hg
  have G := Lib.hid (grownBy_trans (alloc_grown w (.cells #[.int .u8 ((n : Int) / 16777216), .int .u8 ((n : Int) / 65536 % 256), .int .u8 ((n : Int) / 256 % 256), .int .u8 ((n : Int) % 256)] 5) _) hg)
  rw [E.out] at ho
  obtain ⟨ao', cap', hs'⟩ := ho.bs.shape
  have HO := Lib.hid ho
  have HV := Lib.hid hs'
  clear ho hg hs'
  go_wp2
  go_ret
  exact ⟨v', rfl, HO.out, G.out⟩
end Go.Proofs.YtknkmblacaaegaaDoor
