/- Contract of a frame's head: its nine bytes, or the panic of a frame that may not be. -/
import Derived.Test.YtkiagnlpnphghaaDoorFrSum
import Derived.Laws.PanicsMore
namespace Go.Proofs.YtkiagnlpnphghaaDoor
open Go.RowKit
set_option linter.unusedVariables false
set_option linter.unusedSimpArgs false

/-- The panic of a frame that may not be. -/
def Thrown (n : Int) : Ending := .panicked [{ v := .iface 28 (.int .i64 n), recovered := false }]

theorem headArg (k : Int) (v : Value) (w : World) (hk : k < 0 ∨ 255 < k) :
    Calls Tryd.prog 35 #[.agg #[.int .i64 k, v]] w fun e w' => e = Thrown 2 ∧ Below w.heap.size w w' := by
  unfold Thrown
  rcases hk with hk | hk
  · go_enter Tryd.func35, Tryd.ntmps35
    go_wp2
    exact ⟨rfl, rfl, alloc_below _ _⟩
  · have h0 : 0 ≤ k := by omega
    go_enter Tryd.func35, Tryd.ntmps35
    go_wp2
    exact ⟨rfl, rfl, alloc_below _ _⟩
theorem headLong (k : Int) (v : Value) (d : List Int) (w : World) (h : Bs w v d) (h0 : 0 ≤ k) (h1 : k ≤ 255) (hd : 262144 < d.length) :
    Calls Tryd.prog 35 #[.agg #[.int .i64 k, v]] w fun e w' => e = Thrown 3 ∧ Below w.heap.size w w' := by
  unfold Thrown
  obtain ⟨ao, cap, rfl⟩ := h.shape
  have hlen := h.len
  clear h
  have hd' : decide ((262144 : Int) < d.length) = true := by simp; omega
  go_enter Tryd.func35, Tryd.ntmps35
  go_wp2
  exact ⟨rfl, rfl, alloc_below _ _⟩
set_option maxHeartbeats 1000000 in
theorem headOk (k : Int) (v : Value) (d : List Int) (w : World) (T : Tab w) (h : Bs w v d) (ho : Oct d) (hf : OkFr (k, d)) :
    Calls Tryd.prog 35 #[.agg #[.int .i64 k, v]] w (Shaped 9 (head9 (k, d)) w) := by
  obtain ⟨h0, h1, hd⟩ := hf
  have h0 : 0 ≤ k := h0
  have h1 : k ≤ 255 := h1
  have hd : d.length ≤ 262144 := hd
  obtain ⟨ao, cap, hsh⟩ := h.shape
  have H := Lib.hid h
  have HO := Lib.hid ho
  have TT := Lib.hid T
  have hlen := h.len
  subst hsh
  clear h ho T
  have hd' : decide ((262144 : Int) < d.length) = false := by simp; omega
  have A1 := Lib.hid (appendWord (w.heap.size + 1) (.slice (some ⟨w.heap.size + 1, 0, none⟩) 1 1) [k] d.length ((w.alloc (.cells #[.int .i64 k, .slice ao d.length cap] 36)).alloc (.cells #[.int .u8 k] 5))
    (by have := World.ownsRow_lit (size := 1) (w.alloc (.cells #[.int .i64 k, .slice ao d.length cap] 36)) #[.int .u8 k] 1 (e := 5) (Nat.le_refl _) (by unfold maxLen; omega) rfl; simpa [Own, bv] using this) (by simp) (by simp) (by omega) (by omega))
  go_enter Tryd.func35, Tryd.ntmps35
  go_wp2_with fail
  refine (A1.out).mono ?_; rintro e w1 ⟨v1, rfl, ho1, hg1⟩
  have ho1 : Own w1 (w.heap.size + 1) v1 (head5 (k, d)) := ho1
  obtain ⟨a1, c1, hs1⟩ := ho1.bs.shape
  rw [head5_length] at hs1
  have g1 : w.grownBy w1 (some (w.heap.size + 1)) := grownBy_trans (grownBy_trans (alloc_grown _ _ _) (alloc_grown _ _ _)) hg1
  have B1 : Below w.heap.size w w1 := (Below.refl _ w).grown g1 (Nat.le_refl _) (fun k hk => by cases hk; omega)
  have e1 : w1.cell? ⟨w.heap.size, 1, none⟩ = some (.slice ao d.length cap) := hg1.cell (a := ⟨w.heap.size, 1, none⟩) (by simp) (fun e => by have : w.heap.size = w.heap.size + 1 := Option.some.inj e; omega)
  have hz1 : w.heap.size + 2 ≤ w1.heap.size := by have := hg1.size; simp at this; omega
  have hb1 : Bs w1 (.slice ao d.length cap) d := (H.out).past B1
  have T1 : Tab w1 := (TT.out).past B1
  have S := Lib.hid (sum (.slice (some ⟨w1.heap.size, 0, none⟩) 2 2) [v1, .slice ao d.length cap] [head5 (k, d), d] (w1.alloc (.cells #[v1, .slice ao d.length cap] 27)) (T1.alloc _) (vals_lit w1 [v1, .slice ao d.length cap] (by simp)) rfl (fun j hj => by
    match j, hj with
    | 0, _ => exact ⟨ho1.bs.alloc _, head5_oct ⟨h0, h1, hd⟩⟩
    | 1, _ => exact ⟨hb1.alloc _, HO.out⟩))
  have hfl : ([head5 (k, d), d] : List (List Int)).flatten = head5 (k, d) ++ d := by simp
  rw [hfl] at S
  have hso := sumOf_bound (f := (k, d)) ⟨h0, h1, hd⟩ HO.out
  have A2 := Lib.hid (appendWord (w.heap.size + 1) v1 (head5 (k, d)) (sumOf (k, d)) (w1.alloc (.cells #[v1, .slice ao d.length cap] 27)) (ho1.alloc _) (by simp; omega) (by rw [head5_length]; omega) hso.1 hso.2)
  have hso' : sumOf (k, d) = ((crc (head5 (k, d) ++ d) : Nat) : Int) := rfl
  rw [hso'] at A2
  have HB1 := Lib.hid B1
  have HO1 := Lib.hid ho1
  subst hs1
  clear hso hso' hfl T1 hb1 B1 g1 hg1 ho1
  go_wp2_with fail
  refine (S.out).mono ?_; rintro e w2 ⟨rfl, rfl⟩
  go_wp2_with fail
  refine (A2.out).mono ?_; rintro e w2 ⟨v2, rfl, ho2, hg2⟩
  have ho2 : Own w2 (w.heap.size + 1) v2 (head9 (k, d)) := ho2
  obtain ⟨a2, c2, hs2⟩ := ho2.bs.shape
  rw [head9_length] at hs2
  have B2 := Lib.hid (((HB1.out).alloc (HB1.out).size (.cells #[.slice a1 5 c1, .slice ao d.length cap] 27)).grown hg2 (by have := (HB1.out).size; simp; omega) (fun k hk => by have := ((HO1.out).lt k hk).1; omega))
  have HO2 := Lib.hid ho2
  subst hs2
  clear ho2 hg2
  go_wp2
  go_ret
  exact ⟨a2, c2, rfl, (HO2.out).mono (by omega), B2.out⟩
end Go.Proofs.YtkiagnlpnphghaaDoor
