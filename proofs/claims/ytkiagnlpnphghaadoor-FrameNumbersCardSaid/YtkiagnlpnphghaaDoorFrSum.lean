/- Contracts of layer 3's numbers and sums: four bytes, the number that they are, the sum bit by bit, and by half bytes out of the table. -/
import Derived.Test.YtkiagnlpnphghaaDoorTools
import Derived.Test.YtkiagnlpnphghaaDoorFrameMath
import Derived.Laws.Shifts
import Derived.Laws.ShiftsVar
import Derived.Laws.ShiftsVarLaws
import Derived.Laws.BitsLemmas
namespace Go.Proofs.YtkiagnlpnphghaaDoor
open Go.RowKit
set_option linter.unusedVariables false
set_option linter.unusedSimpArgs false

/-- The bytes' numbers, joined. -/
theorem or_four {a b c d : Int} (ha : 0 ≤ a ∧ a < 256) (hb : 0 ≤ b ∧ b < 256) (hc : 0 ≤ c ∧ c < 256) (hd : 0 ≤ d ∧ d < 256) :
    bits .or .u32 (bits .or .u32 (bits .or .u32 (a * 16777216) (b * 65536)) (c * 256)) d = a * 16777216 + b * 65536 + c * 256 + d := by
  obtain ⟨a, rfl⟩ := Int.eq_ofNat_of_zero_le ha.1
  obtain ⟨b, rfl⟩ := Int.eq_ofNat_of_zero_le hb.1
  obtain ⟨c, rfl⟩ := Int.eq_ofNat_of_zero_le hc.1
  obtain ⟨d, rfl⟩ := Int.eq_ofNat_of_zero_le hd.1
  rw [show ((a : Nat) : Int) * 16777216 = ((a * 16777216 : Nat) : Int) from by omega, show ((b : Nat) : Int) * 65536 = ((b * 65536 : Nat) : Int) from by omega, show ((c : Nat) : Int) * 256 = ((c * 256 : Nat) : Int) from by omega,
    Go.u32_or_nat _ _ (by omega) (by omega), nat_join 24 _ _ (by omega) (by omega), Go.u32_or_nat _ _ (by omega) (by omega), nat_join 16 _ _ (by omega) (by omega), Go.u32_or_nat _ _ (by omega) (by omega), nat_join 8 _ _ (by omega) (by omega)]
  omega

theorem number4 (f : Nat) (hf : f = 59 ∨ f = 94) (v : Value) (l : List Int) (w : World) (h : Bs w v l) (ho : Oct l) (hl : 4 ≤ l.length) :
    Calls Tryd.prog f #[v] w fun e w' => Tells (.int .u32 (n4 l)) w e w' := by
  obtain ⟨b, off, cap, rfl, -, -, -, cells⟩ := h.at (by omega)
  have c0 : w.cell? ⟨b, off, none⟩ = _ := cells 0 (by omega)
  have c1 := cells 1 (by omega)
  have c2 := cells 2 (by omega)
  have c3 := cells 3 (by omega)
  have h0 := ho.nth (j := 0) (by omega)
  have h1 := ho.nth (j := 1) (by omega)
  have h2 := ho.nth (j := 2) (by omega)
  have h3 := ho.nth (j := 3) (by omega)
  have E := Lib.hid (or_four h0 h1 h2 h3)
  have hn : n4 l = nth l 0 * 16777216 + nth l 1 * 65536 + nth l 2 * 256 + nth l 3 := rfl
  rw [hn]
  clear hn h ho cells
  generalize nth l 0 = x0 at *
  generalize nth l 1 = x1 at *
  generalize nth l 2 = x2 at *
  generalize nth l 3 = x3 at *
  have hlen := Lib.hid hl
  obtain ⟨a0, a1⟩ := h0
  obtain ⟨b0, b1⟩ := h1
  obtain ⟨d0, d1⟩ := h2
  obtain ⟨e0, e1⟩ := h3
  have i0 : 0 < l.length := by omega
  have i1 : 1 < l.length := by omega
  have i2 : 2 < l.length := by omega
  have i3 : 3 < l.length := by omega
  generalize l.length = n at *
  rw [← E.out]
  rcases hf with rfl | rfl
  · go_enter Tryd.func59, Tryd.ntmps59
    go_wp2
    go_quiet (fail)
    go_wp2
    go_ret
    exact ⟨rfl, ⟨_, rfl⟩⟩
  · go_enter Tryd.func94, Tryd.ntmps94
    go_wp2
    go_quiet (fail)
    go_wp2
    go_ret
    exact ⟨rfl, ⟨_, rfl⟩⟩

theorem w4_is {n : Int} (h0 : 0 ≤ n) (h1 : n < 4294967296) : [n / 16777216, n / 65536 % 256, n / 256 % 256, n % 256] = w4 n := by
  unfold w4
  have e : n / 16777216 % 256 = n / 16777216 := by omega
  rw [e]
/-- The bytes of a number: the document's. -/
theorem refFour (n : Int) (w : World) (h0 : 0 ≤ n) (h1 : n < 4294967296) :
    Calls Tryd.prog 36 #[.int .u32 n] w fun e w' => Shaped 4 (w4 n) w e w' := by
  rw [← w4_is h0 h1]
  go_enter Tryd.func36, Tryd.ntmps36
  go_wp2
  go_ret
  exact ⟨_, _, rfl, World.ownsRow_lit (size := 1) _ _ 4 (Nat.le_refl _) (by unfold maxLen; omega) rfl, (Below.refl _ _).alloc (Nat.le_refl _) _⟩

theorem bit_step {c : Nat} (h : c < 4294967296) : bits .and .u32 (c : Int) 1 = ((c % 2 : Nat) : Int) ∧ bits .xor .u32 ((c : Int) / 2) 2197175160 = ((c / 2 ^^^ 2197175160 : Nat) : Int) := by
  refine ⟨?_, ?_⟩
  · rw [show (1 : Int) = ((1 : Nat) : Int) from rfl, Go.u32_and_nat _ _ h (by decide), nat_mask1]
  · rw [show (c : Int) / 2 = ((c / 2 : Nat) : Int) from by omega, show (2197175160 : Int) = ((2197175160 : Nat) : Int) from rfl, Go.u32_xor_nat _ _ (by omega) (by decide)]
theorem bsteps_snoc (k c : Nat) : bsteps (k + 1) c = bstep (bsteps k c) := bsteps_add k 1 c
theorem crcGo_snoc {l : List Int} {k : Nat} (c : Nat) (h : k < l.length) : crcGo c (l.take (k + 1)) = bbyte (crcGo c (l.take k)) (nth l k).toNat := by
  rw [List.take_succ_eq_append_getElem h, crcGo_append, nth_of h]
  rfl
theorem ret_u32 {a b : Int} (h : a = b) : Ending.returned (.int .u32 a) = .returned (.int .u32 b) := by rw [h]

set_option maxHeartbeats 1000000 in
theorem refSum (v : Value) (l : List Int) (w : World) (h : Bs w v l) (ho : Oct l) :
    Calls Tryd.prog 18 #[v] w fun e w' => w = w' ∧ e = .returned (.int .u32 (crc l : Nat)) := by
  obtain ⟨ao, cap, hsh⟩ := h.shape
  have H := Lib.hid h
  have HO := Lib.hid ho
  have hlen := h.len
  subst hsh
  clear h ho
  generalize hn : l.length = n at *
  have hN := Lib.hid hn
  clear hn
  go_enter Tryd.func18, Tryd.ntmps18
  go_wp2
  go_loop [3, 4] (fun s i => ∃ k c : Nat, k ≤ n ∧ c < 4294967296 ∧ Hid (c = crcGo 4294967295 (l.take k)) ∧ i = .int .i64 k ∧ s = .int .u32 c) (fun _ i => n - (intOf i).toNat)
  case atStart => exact ⟨0, 4294967295, Nat.zero_le _, by decide, Lib.hid rfl, rfl, rfl⟩
  case round =>
    obtain ⟨k, c, hk, hc, HC, rfl, rfl⟩ := hrel
    by_cases hlt : k < n
    · have hd : decide (k < n) = true := by simpa using hlt
      obtain ⟨b, off, cap', hsh, -, -, -, cells⟩ := (H.out).at (by have := hN.out; omega)
      have hao : ao = some ⟨b, off, none⟩ := by cases hsh; rfl
      subst hao
      have ck := cells k (by have := hN.out; omega)
      have hb := (HO.out).nth (j := k) (by have := hN.out; omega)
      clear cells hsh
      obtain ⟨x, hx⟩ : ∃ x : Nat, nth l k = x := ⟨(nth l k).toNat, by omega⟩
      have HX := Lib.hid hx
      rw [hx] at ck hb
      clear hx
      have hx1 : x < 256 := by omega
      have e1 : bits .xor .u32 (c : Int) (x : Int) = ((c ^^^ x : Nat) : Int) := Go.u32_xor_nat _ _ hc (by omega)
      have hd1 : c ^^^ x < 4294967296 := Nat.xor_lt_two_pow (n := 32) hc (by omega)
      generalize hdd : c ^^^ x = d at *
      have HD := Lib.hid hdd
      clear hdd
      go_wp2
      go_loop [3, 5] (fun s i => ∃ j e : Nat, j ≤ 8 ∧ e < 4294967296 ∧ Hid (e = bsteps j d) ∧ i = .int .i64 j ∧ s = .int .u32 e) (fun _ i => 8 - (intOf i).toNat)
      case atStart => exact ⟨0, d, Nat.zero_le _, hd1, Lib.hid rfl, rfl, rfl⟩
      case round =>
        obtain ⟨j, e, hj, he, HE, rfl, rfl⟩ := hrel
        by_cases hj8 : j < 8
        · have hdj : decide ((j : Int) < 8) = true := by simp; omega
          obtain ⟨b1, b3⟩ := bit_step he
          have hlt2 := bstep_lt he
          have hsn := Lib.hid (bsteps_snoc j d)
          by_cases ho : e % 2 = 1
          · have hbe : ((e % 2 : Nat) : Int) = 1 := by omega
            have hq : bstep e = (e / 2) ^^^ 2197175160 := by unfold bstep; rw [if_pos ho]
            have HQ := Lib.hid hq
            rw [hq] at hlt2
            rw [hbe] at b1
            generalize e / 2 ^^^ 2197175160 = z at *
            clear hq hbe ho
            go_wp2
            go_round
            case rel => exact ⟨j + 1, z, by omega, hlt2, Lib.hid (by rw [hsn.out, ← HE.out, HQ.out]), by go_num, rfl⟩
            case measure => simp [intOf]; omega
          · have hbe : ((e % 2 : Nat) : Int) = 0 := by omega
            have hq : bstep e = e / 2 := by unfold bstep; rw [if_neg ho]
            have HQ := Lib.hid hq
            rw [hbe] at b1
            rw [hq] at hlt2
            clear hq hbe ho b3
            go_wp2
            go_round
            case rel => exact ⟨j + 1, e / 2, by omega, hlt2, Lib.hid (by rw [hsn.out, ← HE.out, HQ.out]), by go_num, by go_num⟩
            case measure => simp [intOf]; omega
        · have hdj : decide ((j : Int) < 8) = false := by simp; omega
          have hj : j = 8 := by omega
          subst hj
          have hsn := Lib.hid (crcGo_snoc 4294967295 (l := l) (k := k) (by have := hN.out; omega))
          go_wp2
          go_round
          case rel =>
            refine ⟨k + 1, e, by omega, he, Lib.hid ?_, by go_num, rfl⟩
            rw [hsn.out, HE.out, ← HD.out, HX.out, HC.out]
            rfl
          case measure => simp [intOf]; omega
    · have hd : decide (k < n) = false := by simpa using hlt
      have hk' : k = n := by omega
      subst hk'
      have e1 : bits .xor .u32 4294967295 (c : Int) = ((4294967295 ^^^ c : Nat) : Int) := by
        rw [show (4294967295 : Int) = ((4294967295 : Nat) : Int) from rfl, Go.u32_xor_nat _ _ (by decide) hc]
      have HE1 := Lib.hid e1
      clear e1
      go_wp2
      go_ret
      refine ⟨rfl, ret_u32 ?_⟩
      rw [show IntKind.u32.max = 4294967295 from rfl, HE1.out, HC.out, List.take_of_length_le (by have := hN.out; omega)]
      rfl

/-- The program's table of what four steps make stands in its variable. -/
def Tab (w : World) : Prop := 0 < w.heap.size ∧ ∀ i, i < 16 → w.cell? ⟨0, i, none⟩ = some (.int .u32 (fourSteps i : Nat))
theorem Tab.below {w w' : World} {B : Nat} (h : Tab w) (hb : Below B w w') (hB : 0 < B) : Tab w' :=
  ⟨Nat.lt_of_lt_of_le h.1 hb.size, fun i hi => (hb.cell (p := ⟨0, i, none⟩) hB).trans (h.2 i hi)⟩
theorem Tab.past {w w' : World} (h : Tab w) (hb : Below w.heap.size w w') : Tab w' := h.below hb h.1
theorem Tab.alloc {w : World} (h : Tab w) (o : Obj) : Tab (w.alloc o) := h.past (alloc_below w o)
theorem Tab.drewN {w : World} (h : Tab w) (n : Nat) : Tab (w.drewN n) := ⟨by simpa using h.1, fun i hi => by simpa using h.2 i hi⟩
theorem Tab.grown {w w' : World} {row : Option Nat} (h : Tab w) (hg : w.grownBy w' row) (hr : row ≠ some 0) : Tab w' :=
  ⟨Nat.lt_of_lt_of_le h.1 hg.size, fun i hi => hg.cell (a := ⟨0, i, none⟩) (h.2 i hi) (fun e => hr e.symm)⟩

theorem half_step {c : Nat} (h : c < 4294967296) : bits .and .u32 (c : Int) 15 = ((c % 16 : Nat) : Int) ∧ bits .xor .u32 ((c : Int) / 16) ((fourSteps (c % 16) : Nat) : Int) = ((bsteps 4 c : Nat) : Int) := by
  refine ⟨?_, ?_⟩
  · rw [show (15 : Int) = ((15 : Nat) : Int) from rfl, Go.u32_and_nat _ _ h (by decide), nat_mask4]
  · rw [show (c : Int) / 16 = ((c / 16 : Nat) : Int) from by omega, Go.u32_xor_nat _ _ (by omega) (fourSteps_lt _ (Nat.mod_lt _ (by decide))), four_steps]

set_option maxHeartbeats 1000000 in
theorem sum (v : Value) (vs : List Value) (ls : List (List Int)) (w : World) (T : Tab w) (hv : Vals w v vs) (hl : vs.length = ls.length) (hb : ∀ j, j < ls.length → Bs w (vth vs j) (lth ls j) ∧ Oct (lth ls j)) :
    Calls Tryd.prog 30 #[v] w fun e w' => w = w' ∧ e = .returned (.int .u32 (crc ls.flatten : Nat)) := by
  obtain ⟨ao, cap, hsh⟩ := hv.shape
  have H := Lib.hid hv
  have HB := Lib.hid hb
  have hlen := hv.len
  have TT := Lib.hid T.2
  subst hsh
  clear hv hb T
  have HL := Lib.hid hl
  generalize hn : vs.length = n at *
  have hN := Lib.hid hn
  clear hn hl
  go_enter Tryd.func30, Tryd.ntmps30
  go_wp2
  go_loop [3, 10] (fun s i => ∃ k c : Nat, k ≤ n ∧ c < 4294967296 ∧ Hid (c = crcGo 4294967295 (ls.take k).flatten) ∧ i = .int .i64 k ∧ s = .int .u32 c) (fun _ i => n - (intOf i).toNat)
  case atStart => exact ⟨0, 4294967295, Nat.zero_le _, by decide, Lib.hid rfl, rfl, rfl⟩
  case round =>
    obtain ⟨k, c, hk, hc, HC, rfl, rfl⟩ := hrel
    by_cases hlt : k < n
    · have hd : decide (k < n) = true := by simpa using hlt
      obtain ⟨b, off, cap', hsh, -, -, -, cells⟩ := (H.out).at (by have := hN.out; omega)
      have hao : ao = some ⟨b, off, none⟩ := by cases hsh; rfl
      subst hao
      have ck := cells k (by have := hN.out; omega)
      obtain ⟨hbs, hoc⟩ := (HB.out) k (by have := HL.out; omega)
      have HS := Lib.hid hbs
      have HO := Lib.hid hoc
      have hsn : Hid ((ls.take (k + 1)).flatten = (ls.take k).flatten ++ lth ls k) := Lib.hid (by
        rw [List.take_succ_eq_append_getElem (by have := HL.out; omega), List.flatten_append]
        simp [lth, List.getD, show k < ls.length from by have := HL.out; omega])
      have hln := hbs.len
      obtain ⟨ak, capk, hshk⟩ := hbs.shape
      rw [hshk] at ck HS
      clear cells hsh hbs hoc hshk
      generalize lth ls k = l at *
      generalize hm : l.length = m at *
      have hM := Lib.hid hm
      clear hm
      go_wp2
      go_loop [3, 16] (fun s i => ∃ j e : Nat, j ≤ m ∧ e < 4294967296 ∧ Hid (e = crcGo c (l.take j)) ∧ i = .int .i64 j ∧ s = .int .u32 e) (fun _ i => m - (intOf i).toNat)
      case atStart => exact ⟨0, c, Nat.zero_le _, hc, Lib.hid rfl, rfl, rfl⟩
      case round =>
        obtain ⟨j, e, hj, he, HE, rfl, rfl⟩ := hrel
        by_cases hlj : j < m
        · have hdj : decide (j < m) = true := by simpa using hlj
          obtain ⟨b2, off2, cap2, hsh2, -, -, -, cells2⟩ := (HS.out).at (by have := hM.out; omega)
          have hao2 : ak = some ⟨b2, off2, none⟩ := by cases hsh2; rfl
          subst hao2
          have cj := cells2 j (by have := hM.out; omega)
          have hb := (HO.out).nth (j := j) (by have := hM.out; omega)
          clear cells2 hsh2
          obtain ⟨x, hx⟩ : ∃ x : Nat, nth l j = x := ⟨(nth l j).toNat, by omega⟩
          have HX := Lib.hid hx
          rw [hx] at cj hb
          clear hx
          have hx1 : x < 256 := by omega
          have e1 : bits .xor .u32 (e : Int) (x : Int) = ((e ^^^ x : Nat) : Int) := Go.u32_xor_nat _ _ he (by omega)
          have hd1 : e ^^^ x < 4294967296 := Nat.xor_lt_two_pow (n := 32) he (by omega)
          have hsn2 := Lib.hid (crcGo_snoc c (l := l) (k := j) (by have := hM.out; omega))
          have hhf := Lib.hid (bbyte_half e x)
          generalize hdd : e ^^^ x = d at *
          have HD := Lib.hid hdd
          clear hdd
          obtain ⟨a1, a2⟩ := half_step hd1
          have t1 := (TT.out) (d % 16) (Nat.mod_lt _ (by decide))
          have l1 : d % 16 < 16 := Nat.mod_lt _ (by decide)
          have hd2 := bsteps_lt 4 hd1
          generalize bsteps 4 d = d' at *
          obtain ⟨a3, a4⟩ := half_step hd2
          have t2 := (TT.out) (d' % 16) (Nat.mod_lt _ (by decide))
          have l2 : d' % 16 < 16 := Nat.mod_lt _ (by decide)
          have hd3 := bsteps_lt 4 hd2
          generalize bsteps 4 d' = d'' at *
          generalize d % 16 = i1 at *
          generalize d' % 16 = i2 at *
          generalize fourSteps i1 = f1 at *
          generalize fourSteps i2 = f2 at *
          go_wp2
          go_round
          case rel =>
            refine ⟨j + 1, d'', by omega, hd3, Lib.hid ?_, by go_num, rfl⟩
            rw [hsn2.out, ← HE.out, HX.out]
            exact hhf.out.symm
          case measure => simp [intOf]; omega
        · have hdj : decide (j < m) = false := by simpa using hlj
          have hj' : j = m := by omega
          subst hj'
          go_wp2
          go_round
          case rel =>
            refine ⟨k + 1, e, by omega, he, Lib.hid ?_, by go_num, rfl⟩
            rw [hsn.out, crcGo_append, ← HC.out, HE.out, List.take_of_length_le (by have := hM.out; omega)]
          case measure => simp [intOf]; omega
    · have hd : decide (k < n) = false := by simpa using hlt
      have hk' : k = n := by omega
      subst hk'
      have e1 : bits .xor .u32 4294967295 (c : Int) = ((4294967295 ^^^ c : Nat) : Int) := by
        rw [show (4294967295 : Int) = ((4294967295 : Nat) : Int) from rfl, Go.u32_xor_nat _ _ (by decide) hc]
      have HE1 := Lib.hid e1
      clear e1
      go_wp2
      go_ret
      refine ⟨rfl, ret_u32 ?_⟩
      rw [show IntKind.u32.max = 4294967295 from rfl, HE1.out, HC.out, List.take_of_length_le (by have := HL.out; omega)]
      rfl

/-- e returns v; nothing that was there has turned. -/
def Gives (v : Value) (w : World) (e : Ending) (w' : World) : Prop := e = .returned v ∧ Below w.heap.size w w'
theorem sumOne (v : Value) (l : List Int) (w : World) (T : Tab w) (h : Bs w v l) (ho : Oct l) :
    Calls Tryd.prog 17 #[v] w (Gives (.int .u32 (crc l : Nat)) w) := by
  obtain ⟨ao, cap, hsh⟩ := h.shape
  have S := Lib.hid (sum _ [v] [l] (w.alloc (.cells #[v] 27)) (T.alloc _) (vals_lit w [v] (by simp)) rfl (fun j hj => by
    obtain rfl : j = 0 := by simpa using hj
    exact ⟨h.alloc _, ho⟩))
  have hf : [l].flatten = l := by simp
  rw [hf] at S
  subst hsh
  clear h ho T hf
  go_enter Tryd.func17, Tryd.ntmps17
  go_wp2_with fail
  refine (S.out).mono ?_; rintro e w' ⟨rfl, rfl⟩
  go_wp2
  go_ret
  exact ⟨rfl, alloc_below _ _⟩

/-- e returns a row to which ys were added. -/
def Adds (base : Nat) (v : Value) (xs ys : List Int) (w : World) (e : Ending) (w' : World) : Prop := ∃ v', e = .returned v' ∧ Own w' base v' (xs ++ ys) ∧ w.grownBy w' v.ownBlock
theorem appendWord (base : Nat) (v : Value) (xs : List Int) (n : Int) (w : World) (h : Own w base v xs) (hb : base ≤ w.heap.size) (hl : xs.length ≤ 140737488355000) (h0 : 0 ≤ n) (h1 : n < 4294967296) :
    Calls Tryd.prog 66 #[v, .int .u32 n] w (Adds base v xs (w4 n) w) := by
  obtain ⟨ao, cap, hsh⟩ := h.bs.shape
  have H := Lib.hid (h.alloc (.cells #[.int .u8 (n / 16777216), .int .u8 (n / 65536 % 256), .int .u8 (n / 256 % 256), .int .u8 (n % 256)] 5))
  have L := Lib.hid (bs_list w [n / 16777216, n / 65536 % 256, n / 256 % 256, n % 256] (by simp))
  have E := Lib.hid (w4_is h0 h1)
  have HSH := Lib.hid hsh
  subst hsh
  clear h
  go_enter Tryd.func66, Tryd.ntmps66
  go_wp2_with (at_builtin; refine wpList_append_bs _ rfl _ _ rfl base _ xs rfl H.out _ _ rfl L.out (by simp; omega) (by simp; omega) ?_)
  intro v' w' ho hg
  have G := Lib.hid (grownBy_trans (alloc_grown w (.cells #[.int .u8 (n / 16777216), .int .u8 (n / 65536 % 256), .int .u8 (n / 256 % 256), .int .u8 (n % 256)] 5) _) hg)
  rw [E.out] at ho
  obtain ⟨ao', cap', hs'⟩ := ho.bs.shape
  have HO := Lib.hid ho
  have HV := Lib.hid hs'
  clear ho hg hs'
  go_wp2
  go_ret
  exact ⟨v', rfl, HO.out, G.out⟩
end Go.Proofs.YtkiagnlpnphghaaDoor
