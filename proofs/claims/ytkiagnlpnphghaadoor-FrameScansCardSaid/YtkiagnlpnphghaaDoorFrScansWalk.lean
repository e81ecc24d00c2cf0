/- FrameScans is true. -/
import Derived.Test.YtkiagnlpnphghaaDoorFrAwake
namespace Go.Proofs.YtkiagnlpnphghaaDoor
open Go.RowKit
set_option linter.unusedVariables false
set_option linter.unusedSimpArgs false

set_option maxHeartbeats 4000000 in
theorem frameScansOf (v : Value) (l : List Int) (w : World) (T : Tab w) (h : Bs w v l) (ho : Oct l) :
    Calls Tryd.prog 4 #[v] w (Gives (.bool true) w) := by
  obtain ⟨ao, cap, hsh⟩ := h.shape
  subst hsh
  have AW := fun W T => Lib.hid (awakeOf W T)
  have SM := Lib.hid (sumOne _ l w T h ho)
  have RS := fun W h => Lib.hid (refSum (.slice ao l.length cap) l W h ho)
  have SC := fun W T h hl => Lib.hid (scansOf (.slice ao l.length cap) l W T h ho hl)
  have HT := Lib.hid T
  have H := Lib.hid h
  have hln := h.len
  clear T h
  by_cases hl : l.length ≤ 20000
  · have hd : decide (20000 < (l.length : Int)) = false := by simp; omega
    go_enter Tryd.func4, Tryd.ntmps4
    go_wp2_with fail
    refine (SM.out).mono ?_; rintro e w1 ⟨rfl, b1⟩
    go_wp2_with fail
    refine ((RS w1 ((H.out).past b1)).out).mono ?_; rintro e w2 ⟨rfl, rfl⟩
    go_wp2_with fail
    refine ((SC w1 ((HT.out).past b1) ((H.out).past b1) (by omega)).out).mono ?_; rintro e w3 ⟨rfl, b3⟩
    have B3 := bel_trans b1 b3
    go_wp2_with fail
    refine ((AW w3 ((HT.out).past B3)).out).mono ?_; rintro e w4' ⟨rfl, b4⟩
    have B4 := bel_trans B3 b4
    clear B3 b3 b1 b4
    go_wp2_with fail
    go_ret
    exact ⟨rfl, B4⟩
  · have hd : decide (20000 < (l.length : Int)) = true := by simp; omega
    go_enter Tryd.func4, Tryd.ntmps4
    go_wp2_with fail
    refine ((AW w HT.out).out).mono ?_; rintro e w1 ⟨rfl, b1⟩
    go_wp2_with fail
    go_ret
    exact ⟨rfl, b1⟩
end Go.Proofs.YtkiagnlpnphghaaDoor
