/- The document's message: the bytes, and what is put behind. -/
import Derived.Test.YtknkmblacaaegaaDoorShaRoots
import Derived.Test.YtknkmblacaaegaaDoorShaEnd
namespace Go.Proofs.YtknkmblacaaegaaDoor
open Go.RowKit
set_option linter.unusedVariables false
set_option linter.unusedSimpArgs false
set_option maxRecDepth 100000

/-- A message but for its length. -/
def most (l : List Int) : List Int := l ++ (128 :: List.replicate (padOf l.length) 0)
def eight (n : Nat) : List Int := [0, 0, 0, 0] ++ w4 ((8 * n : Nat) : Int)
theorem most_eight (l : List Int) : most l ++ eight l.length = msg l := by simp [most, eight, msg, tailOf]
theorem eight_take (n : Nat) {j : Nat} (h : j < 8) : (eight n).take (j + 1) = (eight n).take j ++ [nth (eight n) j] := by
  have hl : (eight n).length = 8 := rfl
  rw [List.take_succ_eq_append_getElem (by omega), nth_of (by omega)]

set_option maxHeartbeats 4000000 in
theorem message (v : Value) (l : List Int) (w : World) (h : Bs w v l) (hl : l.length ≤ 50000) :
    Calls Tryd.prog 32 #[v] w fun e w' => Fresh (msg l) w e w' := by
  obtain ⟨ao, cap, hsh⟩ := h.shape
  have HL := Lib.hid hl
  have H := Lib.hid h
  subst hsh
  obtain ⟨m, hm⟩ : ∃ m, m = l.length := ⟨_, rfl⟩
  rw [← hm] at H hl ⊢
  have HM := Lib.hid hm
  clear h hm
  have O0 := Lib.hid (made_now w w.heap.size (Nat.le_refl _))
  have L0 := Lib.hid ((H.out).alloc (.cells #[] 5))
  have B0 := Lib.hid (alloc_below w (.cells #[] 5))
  have hz0 : w.heap.size ≤ (w.alloc (.cells #[] 5)).heap.size := by simp
  go_enter Tryd.func32, Tryd.ntmps32
  go_wp2_with (at_builtin; refine wpList_append_bs _ rfl _ _ rfl w.heap.size _ [] rfl O0.out _ _ rfl L0.out (by have := HL.out; simp; omega) hz0 ?_)
  intro v1 w1 ho1 hg1
  have hz1 : w.heap.size ≤ w1.heap.size := Nat.le_trans hz0 hg1.size
  have ho1 : Own w1 w.heap.size v1 l := ho1
  have B1 := Lib.hid (((B0.out).grown hg1 hz0 (fun k hk => ((O0.out).lt k hk).1)).trans ((alloc_below w1 (.cells #[.int .u8 128] 5)).mono hz1))
  obtain ⟨a1, c1, hs1⟩ := ho1.bs.shape
  rw [← HM.out] at hs1
  have O1 := Lib.hid (ho1.alloc (.cells #[.int .u8 128] 5))
  have L1 := Lib.hid (bs_lit w1 128)
  subst hs1
  clear ho1 hg1 O0 L0 B0
  go_wp2_with (at_builtin; refine wpList_append_bs _ rfl _ _ rfl w.heap.size _ l rfl O1.out _ _ rfl L1.out (by have := HL.out; simp; omega) (by simp; omega) ?_)
  intro v2 w2 ho2 hg2
  have B2 := Lib.hid ((B1.out).grown hg2 (by simp; omega) (fun k hk => ((O1.out).lt k hk).1))
  obtain ⟨a2, c2, hs2⟩ := ho2.bs.shape
  have hs3 : v2 = .slice a2 (m + 1) c2 := by rw [hs2, HM.out]; simp
  have O2 : Hid (Own w2 w.heap.size v2 (l ++ (128 :: List.replicate 0 0))) := Lib.hid ho2
  subst hs3
  clear ho2 hg2 O1 L1 B1 hs2
  go_wp2
  go_loopw [3] (fun x wr => ∃ (j k : Nat) (a : Option Addr) (c : Nat), j ≤ padOf m ∧ Hid (k = m + 1 + j) ∧ x = .slice a k c ∧ Hid (Own wr w.heap.size (.slice a k c) (l ++ (128 :: List.replicate j 0))) ∧ Hid (Below w.heap.size w wr)) (fun x _ => m + 64 - sliceLen x)
  case atStart => exact ⟨0, m + 1, a2, c2, Nat.zero_le _, Lib.hid rfl, rfl, O2, B2⟩
  case round =>
    clear O2 B2
    obtain ⟨j, k, a, c, hj, HK, rfl, O, B⟩ := hrel
    have hkb : k ≤ 200000 := by have := HK.out; have := padOf_lt m; omega
    have hz : w.heap.size ≤ wr.heap.size := (B.out).size
    have hlk : (l ++ (128 :: List.replicate j 0)).length = k := by have := HK.out; have := HM.out; simp; omega
    by_cases hlt : j < padOf m
    · have hkr : ¬ k % 64 = 56 := by rw [HK.out]; exact pad_more hlt
      have hd : ((k : Int) % 64 != 56) = true := by simp; omega
      have O1 := Lib.hid ((O.out).alloc (.cells #[.int .u8 0] 5))
      have L1 := Lib.hid (bs_lit wr 0)
      have B1 := Lib.hid ((B.out).trans ((alloc_below wr (.cells #[.int .u8 0] 5)).mono hz))
      have hap : l ++ (128 :: (List.replicate j (0 : Int) ++ [0])) = l ++ (128 :: List.replicate (j + 1) 0) := by
        rw [← List.replicate_succ']
      have HAP := Lib.hid hap
      have HLK := Lib.hid hlk
      clear hap hlk O B hkr
      go_wp2_with (at_builtin; refine wpList_append_bs _ rfl _ _ rfl w.heap.size _ (l ++ (128 :: List.replicate j 0)) rfl O1.out _ _ rfl L1.out (by rw [HLK.out]; simp; omega) (by simp; omega) ?_)
      intro v3 w3 ho3 hg3
      have B3 := Lib.hid ((B1.out).grown hg3 (by simp; omega) (fun k hk => ((O1.out).lt k hk).1))
      rw [HAP.out] at ho3
      obtain ⟨a3, c3, hs3⟩ := ho3.bs.shape
      have hl3 : (l ++ (128 :: List.replicate (j + 1) (0 : Int))).length = k + 1 := by have := HLK.out; simp at this ⊢; omega
      have hs4 : v3 = .slice a3 (k + 1) c3 := by rw [hs3, hl3]
      subst hs4
      have O3 := Lib.hid ho3
      clear ho3 hg3 B1 O1 L1 hs3 hl3
      go_wp2
      go_roundw
      case rel => exact ⟨j + 1, k + 1, a3, c3, by omega, Lib.hid (by have := HK.out; omega), rfl, O3, B3⟩
      case measure => have := HK.out; have := padOf_lt m; simp [sliceLen]; omega
    · have hjm : j = padOf m := by omega
      have hkr : k % 64 = 56 := by rw [HK.out, hjm]; exact padOf_eq m
      have hd : ((k : Int) % 64 != 56) = false := by simp; omega
      have OM : Own wr w.heap.size (.slice a k c) (most l ++ (eight m).take 0) := by
        have := O.out
        rw [hjm, HM.out] at this
        rw [List.take_zero, List.append_nil]
        exact this
      have hml : (most l).length = k := by rw [← hlk, hjm, HM.out]; rfl
      have OM := Lib.hid OM
      have HML := Lib.hid hml
      obtain ⟨n8, hn8'⟩ : ∃ q, q = 8 * m := ⟨_, rfl⟩
      have bs1 : (m : Int) * 8 = (n8 : Int) := by omega
      have hn8 : n8 ≤ 400000 := by omega
      have HN8 := Lib.hid hn8'
      clear O hlk hkr hml hn8' hjm hlt
      go_wp2
      go_loopw [3, 5] (fun x i wr => ∃ (q kk : Nat) (a : Option Addr) (c : Nat), q ≤ 8 ∧ Hid (kk = k + q) ∧ x = .slice a kk c ∧ i = .int .i64 (7 - (q : Int)) ∧ Hid (Own wr w.heap.size (.slice a kk c) (most l ++ (eight m).take q)) ∧ Hid (Below w.heap.size w wr)) (fun _ i _ => (intOf i + 1).toNat)
      case atStart => exact ⟨0, k, a, c, Nat.zero_le _, Lib.hid rfl, rfl, rfl, OM, B⟩
      case round =>
        clear OM B
        obtain ⟨q, kk, a, c, hq, HKK, rfl, rfl, O, B⟩ := hrel
        have hz : w.heap.size ≤ wr.heap.size := (B.out).size
        have hkk : kk ≤ 300000 := by have := HKK.out; omega
        by_cases hq8 : q < 8
        · have HX : Hid (nth (eight m) q = (n8 : Int) / ((2 ^ (8 * (7 - q)) : Nat) : Int) % 256) := Lib.hid (by
            have e := HN8.out
            have h4 : eight m = [0, 0, 0, 0, ((8 * m : Nat) : Int) / 16777216 % 256, ((8 * m : Nat) : Int) / 65536 % 256, ((8 * m : Nat) : Int) / 256 % 256, ((8 * m : Nat) : Int) % 256] := rfl
            rw [h4, e]
            obtain rfl | rfl | rfl | rfl | rfl | rfl | rfl | rfl : q = 0 ∨ q = 1 ∨ q = 2 ∨ q = 3 ∨ q = 4 ∨ q = 5 ∨ q = 6 ∨ q = 7 := by omega
            all_goals simp only [nth, List.getD_cons_zero, List.getD_cons_succ, Nat.reduceSub, Nat.reduceMul, Nat.reducePow]
            all_goals omega)
          have HA := Lib.hid (eight_take m hq8)
          have HLQ : Hid ((most l ++ (eight m).take q).length = kk) := Lib.hid (by
            have h8 : (eight m).length = 8 := rfl
            rw [List.length_append, HML.out, List.length_take, h8, HKK.out]; omega)
          have L1 := fun x => Lib.hid (bs_lit wr x)
          have O1 := fun x => Lib.hid ((O.out).alloc (.cells #[.int .u8 x] 5))
          have B1 := fun x => Lib.hid ((B.out).trans ((alloc_below wr (.cells #[.int .u8 x] 5)).mono hz))
          clear O B
          obtain rfl | rfl | rfl | rfl | rfl | rfl | rfl | rfl : q = 0 ∨ q = 1 ∨ q = 2 ∨ q = 3 ∨ q = 4 ∨ q = 5 ∨ q = 6 ∨ q = 7 := by omega
          · have HX2 : Hid (nth (eight m) 0 = ((n8 : Int) / 72057594037927936)) := Lib.hid (by have h := HX.out; simp only [Nat.reduceSub, Nat.reduceMul, Nat.reducePow, Int.cast_ofNat_Int] at h; omega)
            rw [show (7 : Int) - ((0 : Nat) : Int) = 7 from rfl]
            have L2 := L1 ((n8 : Int) / 72057594037927936)
            have O2 := O1 ((n8 : Int) / 72057594037927936)
            have B2 := B1 ((n8 : Int) / 72057594037927936)
            clear L1 O1 B1 HX
            go_wp2_with (at_builtin; refine wpList_append_bs _ rfl _ _ rfl w.heap.size _ _ rfl O2.out _ [((n8 : Int) / 72057594037927936)] rfl L2.out (by rw [HLQ.out]; simp; omega) (by simp; omega) ?_)
            intro v3 w3 ho3 hg3
            have B3 := Lib.hid ((B2.out).grown hg3 (by simp; omega) (fun k hk => ((O2.out).lt k hk).1))
            have ho4 : Own w3 w.heap.size v3 (most l ++ (eight m).take (0 + 1)) := by
              rw [HA.out, HX2.out]
              exact ho3
            obtain ⟨a3, c3, hs3⟩ := ho4.bs.shape
            have hl3 : (most l ++ (eight m).take (0 + 1)).length = kk + 1 := by
              have := HLQ.out
              have h8 : (eight m).length = 8 := rfl
              simp only [List.length_append, List.length_take, h8] at this ⊢
              omega
            rw [hl3] at hs3
            subst hs3
            have O3 := Lib.hid ho4
            clear ho3 ho4 hg3 B2 O2 L2 hl3
            go_wp2
            go_roundw
            case rel => exact ⟨1, kk + 1, a3, c3, by omega, Lib.hid (by have := HKK.out; omega), rfl, rfl, O3, B3⟩
            case measure => (simp [intOf])
          · have HX2 : Hid (nth (eight m) 1 = ((n8 : Int) / 281474976710656)) := Lib.hid (by have h := HX.out; simp only [Nat.reduceSub, Nat.reduceMul, Nat.reducePow, Int.cast_ofNat_Int] at h; omega)
            rw [show (7 : Int) - ((1 : Nat) : Int) = 6 from rfl]
            have L2 := L1 ((n8 : Int) / 281474976710656)
            have O2 := O1 ((n8 : Int) / 281474976710656)
            have B2 := B1 ((n8 : Int) / 281474976710656)
            clear L1 O1 B1 HX
            go_wp2_with (at_builtin; refine wpList_append_bs _ rfl _ _ rfl w.heap.size _ _ rfl O2.out _ [((n8 : Int) / 281474976710656)] rfl L2.out (by rw [HLQ.out]; simp; omega) (by simp; omega) ?_)
            intro v3 w3 ho3 hg3
            have B3 := Lib.hid ((B2.out).grown hg3 (by simp; omega) (fun k hk => ((O2.out).lt k hk).1))
            have ho4 : Own w3 w.heap.size v3 (most l ++ (eight m).take (1 + 1)) := by
              rw [HA.out, HX2.out]
              exact ho3
            obtain ⟨a3, c3, hs3⟩ := ho4.bs.shape
            have hl3 : (most l ++ (eight m).take (1 + 1)).length = kk + 1 := by
              have := HLQ.out
              have h8 : (eight m).length = 8 := rfl
              simp only [List.length_append, List.length_take, h8] at this ⊢
              omega
            rw [hl3] at hs3
            subst hs3
            have O3 := Lib.hid ho4
            clear ho3 ho4 hg3 B2 O2 L2 hl3
            go_wp2
            go_roundw
            case rel => exact ⟨2, kk + 1, a3, c3, by omega, Lib.hid (by have := HKK.out; omega), rfl, rfl, O3, B3⟩
            case measure => (simp [intOf])
          · have HX2 : Hid (nth (eight m) 2 = ((n8 : Int) / 1099511627776)) := Lib.hid (by have h := HX.out; simp only [Nat.reduceSub, Nat.reduceMul, Nat.reducePow, Int.cast_ofNat_Int] at h; omega)
            rw [show (7 : Int) - ((2 : Nat) : Int) = 5 from rfl]
            have L2 := L1 ((n8 : Int) / 1099511627776)
            have O2 := O1 ((n8 : Int) / 1099511627776)
            have B2 := B1 ((n8 : Int) / 1099511627776)
            clear L1 O1 B1 HX
            go_wp2_with (at_builtin; refine wpList_append_bs _ rfl _ _ rfl w.heap.size _ _ rfl O2.out _ [((n8 : Int) / 1099511627776)] rfl L2.out (by rw [HLQ.out]; simp; omega) (by simp; omega) ?_)
            intro v3 w3 ho3 hg3
            have B3 := Lib.hid ((B2.out).grown hg3 (by simp; omega) (fun k hk => ((O2.out).lt k hk).1))
            have ho4 : Own w3 w.heap.size v3 (most l ++ (eight m).take (2 + 1)) := by
              rw [HA.out, HX2.out]
              exact ho3
            obtain ⟨a3, c3, hs3⟩ := ho4.bs.shape
            have hl3 : (most l ++ (eight m).take (2 + 1)).length = kk + 1 := by
              have := HLQ.out
              have h8 : (eight m).length = 8 := rfl
              simp only [List.length_append, List.length_take, h8] at this ⊢
              omega
            rw [hl3] at hs3
            subst hs3
            have O3 := Lib.hid ho4
            clear ho3 ho4 hg3 B2 O2 L2 hl3
            go_wp2
            go_roundw
            case rel => exact ⟨3, kk + 1, a3, c3, by omega, Lib.hid (by have := HKK.out; omega), rfl, rfl, O3, B3⟩
            case measure => (simp [intOf])
          · have HX2 : Hid (nth (eight m) 3 = ((n8 : Int) / 4294967296)) := Lib.hid (by have h := HX.out; simp only [Nat.reduceSub, Nat.reduceMul, Nat.reducePow, Int.cast_ofNat_Int] at h; omega)
            rw [show (7 : Int) - ((3 : Nat) : Int) = 4 from rfl]
            have L2 := L1 ((n8 : Int) / 4294967296)
            have O2 := O1 ((n8 : Int) / 4294967296)
            have B2 := B1 ((n8 : Int) / 4294967296)
            clear L1 O1 B1 HX
            go_wp2_with (at_builtin; refine wpList_append_bs _ rfl _ _ rfl w.heap.size _ _ rfl O2.out _ [((n8 : Int) / 4294967296)] rfl L2.out (by rw [HLQ.out]; simp; omega) (by simp; omega) ?_)
            intro v3 w3 ho3 hg3
            have B3 := Lib.hid ((B2.out).grown hg3 (by simp; omega) (fun k hk => ((O2.out).lt k hk).1))
            have ho4 : Own w3 w.heap.size v3 (most l ++ (eight m).take (3 + 1)) := by
              rw [HA.out, HX2.out]
              exact ho3
            obtain ⟨a3, c3, hs3⟩ := ho4.bs.shape
            have hl3 : (most l ++ (eight m).take (3 + 1)).length = kk + 1 := by
              have := HLQ.out
              have h8 : (eight m).length = 8 := rfl
              simp only [List.length_append, List.length_take, h8] at this ⊢
              omega
            rw [hl3] at hs3
            subst hs3
            have O3 := Lib.hid ho4
            clear ho3 ho4 hg3 B2 O2 L2 hl3
            go_wp2
            go_roundw
            case rel => exact ⟨4, kk + 1, a3, c3, by omega, Lib.hid (by have := HKK.out; omega), rfl, rfl, O3, B3⟩
            case measure => (simp [intOf])
          · have HX2 : Hid (nth (eight m) 4 = ((n8 : Int) / 16777216)) := Lib.hid (by have h := HX.out; simp only [Nat.reduceSub, Nat.reduceMul, Nat.reducePow, Int.cast_ofNat_Int] at h; omega)
            rw [show (7 : Int) - ((4 : Nat) : Int) = 3 from rfl]
            have L2 := L1 ((n8 : Int) / 16777216)
            have O2 := O1 ((n8 : Int) / 16777216)
            have B2 := B1 ((n8 : Int) / 16777216)
            clear L1 O1 B1 HX
            go_wp2_with (at_builtin; refine wpList_append_bs _ rfl _ _ rfl w.heap.size _ _ rfl O2.out _ [((n8 : Int) / 16777216)] rfl L2.out (by rw [HLQ.out]; simp; omega) (by simp; omega) ?_)
            intro v3 w3 ho3 hg3
            have B3 := Lib.hid ((B2.out).grown hg3 (by simp; omega) (fun k hk => ((O2.out).lt k hk).1))
            have ho4 : Own w3 w.heap.size v3 (most l ++ (eight m).take (4 + 1)) := by
              rw [HA.out, HX2.out]
              exact ho3
            obtain ⟨a3, c3, hs3⟩ := ho4.bs.shape
            have hl3 : (most l ++ (eight m).take (4 + 1)).length = kk + 1 := by
              have := HLQ.out
              have h8 : (eight m).length = 8 := rfl
              simp only [List.length_append, List.length_take, h8] at this ⊢
              omega
            rw [hl3] at hs3
            subst hs3
            have O3 := Lib.hid ho4
            clear ho3 ho4 hg3 B2 O2 L2 hl3
            go_wp2
            go_roundw
            case rel => exact ⟨5, kk + 1, a3, c3, by omega, Lib.hid (by have := HKK.out; omega), rfl, rfl, O3, B3⟩
            case measure => (simp [intOf])
          · have HX2 : Hid (nth (eight m) 5 = ((n8 : Int) / 65536)) := Lib.hid (by have h := HX.out; simp only [Nat.reduceSub, Nat.reduceMul, Nat.reducePow, Int.cast_ofNat_Int] at h; omega)
            rw [show (7 : Int) - ((5 : Nat) : Int) = 2 from rfl]
            have L2 := L1 ((n8 : Int) / 65536)
            have O2 := O1 ((n8 : Int) / 65536)
            have B2 := B1 ((n8 : Int) / 65536)
            clear L1 O1 B1 HX
            go_wp2_with (at_builtin; refine wpList_append_bs _ rfl _ _ rfl w.heap.size _ _ rfl O2.out _ [((n8 : Int) / 65536)] rfl L2.out (by rw [HLQ.out]; simp; omega) (by simp; omega) ?_)
            intro v3 w3 ho3 hg3
            have B3 := Lib.hid ((B2.out).grown hg3 (by simp; omega) (fun k hk => ((O2.out).lt k hk).1))
            have ho4 : Own w3 w.heap.size v3 (most l ++ (eight m).take (5 + 1)) := by
              rw [HA.out, HX2.out]
              exact ho3
            obtain ⟨a3, c3, hs3⟩ := ho4.bs.shape
            have hl3 : (most l ++ (eight m).take (5 + 1)).length = kk + 1 := by
              have := HLQ.out
              have h8 : (eight m).length = 8 := rfl
              simp only [List.length_append, List.length_take, h8] at this ⊢
              omega
            rw [hl3] at hs3
            subst hs3
            have O3 := Lib.hid ho4
            clear ho3 ho4 hg3 B2 O2 L2 hl3
            go_wp2
            go_roundw
            case rel => exact ⟨6, kk + 1, a3, c3, by omega, Lib.hid (by have := HKK.out; omega), rfl, rfl, O3, B3⟩
            case measure => (simp [intOf])
          · have HX2 : Hid (nth (eight m) 6 = ((n8 : Int) / 256 % 256)) := Lib.hid (by have h := HX.out; simp only [Nat.reduceSub, Nat.reduceMul, Nat.reducePow, Int.cast_ofNat_Int] at h; omega)
            rw [show (7 : Int) - ((6 : Nat) : Int) = 1 from rfl]
            have L2 := L1 ((n8 : Int) / 256 % 256)
            have O2 := O1 ((n8 : Int) / 256 % 256)
            have B2 := B1 ((n8 : Int) / 256 % 256)
            clear L1 O1 B1 HX
            go_wp2_with (at_builtin; refine wpList_append_bs _ rfl _ _ rfl w.heap.size _ _ rfl O2.out _ [((n8 : Int) / 256 % 256)] rfl L2.out (by rw [HLQ.out]; simp; omega) (by simp; omega) ?_)
            intro v3 w3 ho3 hg3
            have B3 := Lib.hid ((B2.out).grown hg3 (by simp; omega) (fun k hk => ((O2.out).lt k hk).1))
            have ho4 : Own w3 w.heap.size v3 (most l ++ (eight m).take (6 + 1)) := by
              rw [HA.out, HX2.out]
              exact ho3
            obtain ⟨a3, c3, hs3⟩ := ho4.bs.shape
            have hl3 : (most l ++ (eight m).take (6 + 1)).length = kk + 1 := by
              have := HLQ.out
              have h8 : (eight m).length = 8 := rfl
              simp only [List.length_append, List.length_take, h8] at this ⊢
              omega
            rw [hl3] at hs3
            subst hs3
            have O3 := Lib.hid ho4
            clear ho3 ho4 hg3 B2 O2 L2 hl3
            go_wp2
            go_roundw
            case rel => exact ⟨7, kk + 1, a3, c3, by omega, Lib.hid (by have := HKK.out; omega), rfl, rfl, O3, B3⟩
            case measure => (simp [intOf])
          · have HX2 : Hid (nth (eight m) 7 = ((n8 : Int) % 256)) := Lib.hid (by have h := HX.out; simp only [Nat.reduceSub, Nat.reduceMul, Nat.reducePow, Int.cast_ofNat_Int] at h; omega)
            rw [show (7 : Int) - ((7 : Nat) : Int) = 0 from rfl]
            have L2 := L1 ((n8 : Int) % 256)
            have O2 := O1 ((n8 : Int) % 256)
            have B2 := B1 ((n8 : Int) % 256)
            clear L1 O1 B1 HX
            go_wp2_with (at_builtin; refine wpList_append_bs _ rfl _ _ rfl w.heap.size _ _ rfl O2.out _ [((n8 : Int) % 256)] rfl L2.out (by rw [HLQ.out]; simp; omega) (by simp; omega) ?_)
            intro v3 w3 ho3 hg3
            have B3 := Lib.hid ((B2.out).grown hg3 (by simp; omega) (fun k hk => ((O2.out).lt k hk).1))
            have ho4 : Own w3 w.heap.size v3 (most l ++ (eight m).take (7 + 1)) := by
              rw [HA.out, HX2.out]
              exact ho3
            obtain ⟨a3, c3, hs3⟩ := ho4.bs.shape
            have hl3 : (most l ++ (eight m).take (7 + 1)).length = kk + 1 := by
              have := HLQ.out
              have h8 : (eight m).length = 8 := rfl
              simp only [List.length_append, List.length_take, h8] at this ⊢
              omega
            rw [hl3] at hs3
            subst hs3
            have O3 := Lib.hid ho4
            clear ho3 ho4 hg3 B2 O2 L2 hl3
            go_wp2
            go_roundw
            case rel => exact ⟨8, kk + 1, a3, c3, by omega, Lib.hid (by have := HKK.out; omega), rfl, rfl, O3, B3⟩
            case measure => (simp [intOf])
        · obtain rfl : q = 8 := by omega
          have OF : Own wr w.heap.size (.slice a kk c) (msg l) := by
            have := O.out
            have h8 : (eight m).length = 8 := rfl
            rw [List.take_of_length_le (by rw [h8]; exact Nat.le_refl _), HM.out, most_eight] at this
            exact this
          have OF := Lib.hid OF
          clear O
          rw [show (7 : Int) - ((8 : Nat) : Int) = -1 from rfl]
          go_wp2
          go_ret
          exact ⟨_, rfl, OF.out, B.out⟩
end Go.Proofs.YtknkmblacaaegaaDoor
