/- ShaSums and ShaEnds are true. -/
import Derived.Test.YtckpjfgflbaehaaDoorShaLaw
import Derived.Test.YtckpjfgflbaehaaDoorShaRefSum
namespace Go.Proofs.YtckpjfgflbaehaaDoor
open Go.RowKit
set_option linter.unusedVariables false
set_option linter.unusedSimpArgs false
set_option maxRecDepth 100000

/-- The document's digest, with its shape. -/
theorem refSha32 (v : Value) (l : List Int) (w : World) (h : Bs w v l) (ho : Oct l) (hl : l.length ≤ 50000) :
    Calls Tryd.prog 11 #[v] w fun e w' => Shaped 32 (digest l) w e w' :=
  (refSha v l w h ho hl).mono fun e w' h => h.shaped (digest_length l)

set_option maxHeartbeats 4000000 in
theorem shaSumsOf (v : Value) (l : List Int) (w : World) (T : Tabs w) (h : Bs w v l) (ho : Oct l) (hl : l.length ≤ 140737488351232) :
    Calls Tryd.prog 3 #[v] w (Gives (.bool true) w) := by
  obtain ⟨ao, cap, hsh⟩ := h.shape
  subst hsh
  have HT := Lib.hid T
  have AW := Lib.hid (awakeOf w T)
  have H := Lib.hid h
  have HO := Lib.hid ho
  clear T h ho
  generalize hn : l.length = n at *
  have HN := Lib.hid hn
  clear hn
  go_enter Tryd.func3, Tryd.ntmps3
  go_wp2_with fail
  refine (AW.out).mono ?_; rintro e w1 ⟨rfl, hb1⟩
  have B1 := Lib.hid hb1
  clear hb1 AW
  by_cases hsm : n ≤ 3000
  · have hd : decide ((3000 : Int) < (n : Int)) = false := by simp; omega
    have LE := Lib.hid (lentBytes (.slice ao n cap) l w1 ((H.out).past B1.out) (by rw [HN.out]; exact hl))
    go_wp2_with fail
    refine (LE.out).mono ?_; rintro e w2 ⟨vl, rfl, lent2, hb2⟩
    have B2 := Lib.hid (bel_trans B1.out hb2)
    have SM := Lib.hid (shaSum32 vl l w2 ((HT.out).past B2.out) lent2.bs HO.out (by have := HN.out; omega))
    have L2 := Lib.hid lent2
    clear lent2 hb2 LE B1
    go_wp2_with fail
    refine (SM.out).mono ?_; rintro e w3 ⟨a3, c3, rfl, ho3, hb3⟩
    have B3 := Lib.hid (bel_trans B2.out hb3)
    have L3 := Lib.hid ((L2.out).past hb3)
    have RF := Lib.hid (refSha32 (.slice ao n cap) l w3 ((H.out).past B3.out) HO.out (by have := HN.out; omega))
    have S3 := Lib.hid ho3.bs
    clear ho3 hb3 SM L2 B2
    go_wp2_with fail
    refine (RF.out).mono ?_; rintro e w4 ⟨a4, c4, rfl, ho4, hb4⟩
    have B4 := Lib.hid (bel_trans B3.out hb4)
    have L4 := Lib.hid ((L3.out).past hb4)
    have SB := Lib.hid (sameBytes_yes ((S3.out).past hb4) ho4.bs rfl)
    clear ho4 hb4 RF L3 S3 B3
    go_wp2_with fail
    refine (SB.out).mono ?_; rintro e w5 ⟨rfl, hb5⟩
    have B5 := Lib.hid (bel_trans B4.out hb5)
    have KB := Lib.hid (keptBytes vl (.slice ao n cap) _ l w5 ((L4.out).past hb5) ((H.out).past B5.out) (by rw [HN.out]; exact hl))
    clear hb5 SB L4 B4
    go_wp2_with fail
    refine (KB.out).mono ?_; rintro e w6 ⟨rfl, st6⟩
    have B6 := Lib.hid ((B5.out).trans (st6.below _))
    clear st6
    go_wp2
    go_ret
    exact ⟨rfl, B6.out⟩
  · have hd : decide ((3000 : Int) < (n : Int)) = true := by simp; omega
    go_wp2
    go_ret
    exact ⟨rfl, B1.out⟩

set_option maxHeartbeats 4000000 in
theorem shaEndsOf (x fill : Int) (w : World) (T : Tabs w) (hx : (Lit.int .i64 x).wf = true) (hf : 0 ≤ fill ∧ fill < 256) :
    Calls Tryd.prog 4 #[.int .i64 x, .int .u8 fill] w (Gives (.bool true) w) := by
  have HT := Lib.hid T
  have AW := Lib.hid (awakeOf w T)
  obtain ⟨m, hm⟩ : ∃ m : Nat, (m : Int) = x % 200 := ⟨(x % 200).toNat, by omega⟩
  have hm200 : m < 200 := by omega
  have PK := Lib.hid (fun w => (show Calls Tryd.prog 13 #[.int .i64 x, .int .i64 200] w fun e w' => w = w' ∧ e = .returned (.int .i64 (m : Nat)) from
    (pick x 200 w hx (by decide)).mono fun e w' ⟨h1, h2⟩ => ⟨h1, by rw [h2, if_neg (by decide), hm]⟩))
  obtain ⟨f0, f1⟩ := hf
  clear T hx hm
  go_enter Tryd.func4, Tryd.ntmps4
  go_wp2_with fail
  refine (AW.out).mono ?_; rintro e w1 ⟨rfl, hb1⟩
  have hz := hb1.size
  have B1 := Lib.hid hb1
  clear hb1 AW
  have O1 : Hid (Own w1 w.heap.size (.slice none 0 0) []) := Lib.hid (Own.nil _ _)
  have Z1 : Hid (Oct []) := Lib.hid Oct.nil
  go_wp2
  go_loopw [5, 6] (fun y i wr => ∃ (k : Nat) (l : List Int) (a : Option Addr) (c : Nat), k ≤ m ∧ y = .slice a k c ∧ i = .int .i64 k ∧ Hid (Own wr w.heap.size (.slice a k c) l) ∧ Hid (Oct l ∧ l.length = k) ∧ Hid (Below w.heap.size w wr)) (fun _ i _ => 200 - (intOf i).toNat)
  case atStart => exact ⟨0, [], none, 0, Nat.zero_le _, rfl, rfl, O1, Lib.hid ⟨Oct.nil, rfl⟩, B1⟩
  case round =>
    clear O1 B1 Z1
    obtain ⟨k, l, a, c, hk, rfl, rfl, O, Z, B⟩ := hrel
    by_cases hlt : k < m
    · have hd : decide ((k : Int) < (m : Int)) = true := by simp; omega
      have hz2 : w.heap.size ≤ wr.heap.size := (B.out).size
      obtain ⟨z, hzz⟩ : ∃ z : Int, z = (fill + (k : Int)) % 256 := ⟨_, rfl⟩
      have ez : (fill + (k : Int)) % 256 = z := hzz.symm
      have z0 : 0 ≤ z := by omega
      have z1 : z < 256 := by omega
      have O1 := Lib.hid ((O.out).alloc (.cells #[.int .u8 z] 5))
      have L1 := Lib.hid (bs_lit wr z)
      have B2 := Lib.hid ((B.out).trans ((alloc_below wr (.cells #[.int .u8 z] 5)).mono hz2))
      clear hzz O B
      go_wp2_with fail
      refine ((PK.out) _).mono ?_; rintro e w2 ⟨rfl, rfl⟩
      go_wp2_with (at_builtin; refine wpList_append_bs _ rfl _ _ rfl w.heap.size _ l rfl O1.out _ [z] rfl L1.out (by have := Z.out.2; simp; omega) (by simp; omega) ?_)
      intro v3 w3 ho3 hg3
      have B3 := Lib.hid ((B2.out).grown hg3 (by simp; omega) (fun k hk => ((O1.out).lt k hk).1))
      obtain ⟨a3, c3, hs3⟩ := ho3.bs.shape
      have hl3 : (l ++ [z]).length = k + 1 := by rw [List.length_append, Z.out.2]; rfl
      rw [hl3] at hs3
      subst hs3
      have O3 := Lib.hid ho3
      have Z3 : Hid (Oct (l ++ [z]) ∧ (l ++ [z]).length = k + 1) := Lib.hid ⟨(Z.out).1.append (fun y hy => by rw [List.mem_singleton.1 hy]; exact ⟨z0, z1⟩), hl3⟩
      clear ho3 hg3 B2 O1 L1
      go_wp2
      go_roundw
      case rel => exact ⟨k + 1, l ++ [z], a3, c3, by omega, rfl, by go_num, O3, Z3, B3⟩
      case measure => simp [intOf]; omega
    · have hd : decide ((k : Int) < (m : Int)) = false := by simp; omega
      have SM := Lib.hid (shaSum32 (.slice a k c) l wr ((HT.out).below B.out (HT.out).2.lt) (O.out).bs (Z.out).1 (by have := (Z.out).2; omega))
      go_wp2_with fail
      refine ((PK.out) _).mono ?_; rintro e w2 ⟨rfl, rfl⟩
      go_wp2_with fail
      refine (SM.out).mono ?_; rintro e w3 ⟨a3, c3, rfl, ho3, hb3⟩
      have B3 := Lib.hid (bel_past B.out hb3)
      have RF := Lib.hid (refSha32 (.slice a k c) l w3 ((O.out).bs.past hb3) (Z.out).1 (by have := (Z.out).2; omega))
      have S3 := Lib.hid ho3.bs
      clear ho3 hb3 SM O B
      go_wp2_with fail
      refine (RF.out).mono ?_; rintro e w4 ⟨a4, c4, rfl, ho4, hb4⟩
      have B4 := Lib.hid (bel_past B3.out hb4)
      have SB := Lib.hid (sameBytes_yes ((S3.out).past hb4) ho4.bs rfl)
      clear ho4 hb4 RF S3 B3
      go_wp2_with fail
      refine (SB.out).mono ?_; rintro e w5 ⟨rfl, hb5⟩
      have B5 := Lib.hid (bel_past B4.out hb5)
      clear hb5
      go_wp2
      go_ret
      exact ⟨rfl, B5.out⟩
end Go.Proofs.YtckpjfgflbaehaaDoor
