/- What FrameNumbers makes: a copy of bytes, noughts, two frames that are built. -/
import Derived.Test.YtkiagnlpnphghaaDoorFrSpoiltWalk
import Derived.Test.YtkiagnlpnphghaaDoorFrPutsWalk
import Derived.Laws.OwnMore
namespace Go.Proofs.YtkiagnlpnphghaaDoor
open Go.RowKit
set_option linter.unusedVariables false
set_option linter.unusedSimpArgs false

theorem zeros_of (n : Nat) : (madeCells (Value.int .u8 0).cells (n * 1)).toList = bv (List.replicate n 0) := by
  rw [show (Value.int .u8 0).cells = #[Value.int .u8 0] from rfl, toList_madeCells_one, Nat.mul_one]
  simp [bv]
theorem zeros_oct (n : Nat) : Oct (List.replicate n 0) := fun x hx => by
  have := (List.mem_replicate.1 hx).2
  omega
theorem zeros_own {w : World} {base : Nat} {v : Value} {n : Nat} (h : w.ownsRow base 5 1 v n (madeCells (Value.int .u8 0).cells (n * 1)).toList) : Own w base v (List.replicate n 0) := by
  rw [zeros_of] at h
  unfold Own
  rw [List.length_replicate]
  exact h
theorem zeros_drop {w : World} {g n : Nat} (hn : 0 < n) (h : Bs w (.slice (some ⟨g, 0, none⟩) (n + 1) (n + 1)) (List.replicate (n + 1) 0)) : Bs w (.slice (some ⟨g, 1, none⟩) n n) (List.replicate n 0) := by
  have := (drop_at (n := 1) h (by rw [List.length_replicate]; omega)).2 (by omega)
  rw [List.drop_replicate] at this
  simpa using this
theorem zeros_ok {n : Nat} (h : n ≤ 262144) : OkFrs [(0, List.replicate n 0)] := fun f hf => by
  simp at hf
  subst hf
  exact ⟨⟨Int.le_refl 0, (by decide : (0 : Int) ≤ 255), by show (List.replicate n (0 : Int)).length ≤ _; rw [List.length_replicate]; exact h⟩, zeros_oct n⟩
theorem zeros_len (n : Nat) : (frms [(0, List.replicate n 0)]).length = 9 + n := by
  rw [frms_one, frm_length]
  show 9 + (List.replicate n (0 : Int)).length = _
  rw [List.length_replicate]
theorem zeros_len2 (n : Nat) : (frms [(3, []), (0, List.replicate n 0)]).length = 18 + n := by
  rw [show ([(3, []), (0, List.replicate n 0)] : List Fr) = [(3, [])] ++ [(0, List.replicate n 0)] from rfl, frms_append, List.length_append, zeros_len, frms_one, frm_length]
  show 9 + 0 + (9 + n) = _
  omega
theorem zeros_long {n : Nat} (h : 262144 < n) : putErr [(3, []), (0, List.replicate n 0)] = 3 := by
  have hl : 262144 < (List.replicate n (0 : Int)).length := by rw [List.length_replicate]; exact h
  simp [putErr, h]
theorem oct_of {l : List Int} (h : l.all (fun n => decide (0 ≤ n ∧ n < 256)) = true) : Oct l := fun n hn => of_decide_eq_true (List.all_eq_true.1 h n hn)
theorem flip_oct {l : List Int} (h : Oct l) (q : Nat) {x : Int} (hx : 0 ≤ x ∧ x < 256) : Oct (l.set q x) := fun y hy => by
  rcases List.mem_or_eq_of_mem_set hy with h1 | h1
  · exact h y h1
  · rw [h1]; exact hx
def threeFr : List Fr := [(9, [1, 2, 3]), (255, []), (0, [0, 0, 0, 0, 0])]
theorem three_ok : OkFrs threeFr := fun f hf => by
  simp only [threeFr, List.mem_cons, List.not_mem_nil, or_false] at hf
  rcases hf with rfl | rfl | rfl
  · exact ⟨⟨by decide, by decide, by decide⟩, oct_of (by decide)⟩
  · exact ⟨⟨by decide, by decide, by decide⟩, oct_of (by decide)⟩
  · exact ⟨⟨by decide, by decide, by decide⟩, oct_of (by decide)⟩
theorem three_len : (frms threeFr).length = 35 := by
  simp only [threeFr, frms, List.length_append, frm_length, List.length_nil, List.length_cons]
/-- scans of a literal. -/
theorem scansLit (w : World) (T : Tab w) (l : List Int) (hl : l.length ≤ 1000) (ho : Oct l) :
    Calls Tryd.prog 19 #[.slice (some ⟨w.heap.size, 0, none⟩) l.length l.length] (w.alloc (.cells (bv l).toArray 5)) (Gives (.bool true) (w.alloc (.cells (bv l).toArray 5))) :=
  scansOf _ l _ (T.alloc _) (bs_list w l hl) ho (by omega)
set_option maxHeartbeats 1000000 in
theorem copyBytes (v : Value) (l : List Int) (w : World) (h : Bs w v l) (hlen : l.length ≤ 140737488355328) :
    Calls Tryd.prog 21 #[v] w (Shaped l.length l w) := by
  have H := Lib.hid h
  have hn : Own w w.heap.size (.slice none 0 0) [] := World.ownsRow_nil _ _ _ _
  have HN := Lib.hid hn
  clear h hn
  go_enter Tryd.func21, Tryd.ntmps21
  go_wp2_with (at_builtin; refine wpList_append_bs _ rfl _ _ rfl w.heap.size _ _ rfl HN.out _ l rfl H.out (by simpa using hlen) (Nat.le_refl _) ?_)
  intro v2 w2 o2 g2
  have B2 := Lib.hid ((Below.refl w.heap.size w).grown g2 (Nat.le_refl _) (fun k e => by cases e))
  have O2 := Lib.hid o2
  clear o2 g2
  go_wp2_with fail
  go_ret
  exact Fresh.shaped ⟨v2, rfl, O2.out, B2.out⟩ rfl
/-- Two frames that are built. -/
theorem frs_two {w : World} {t : TypeId} {u0 u1 : Value} {k0 k1 : Int} {d0 d1 : List Int} (h0 : Bs w u0 d0) (h1 : Bs w u1 d1) :
    Frs (w.alloc (.cells #[.int .i64 k0, u0, .int .i64 k1, u1] t)) (.slice (some ⟨w.heap.size, 0, none⟩) 2 2) [u0, u1] [(k0, d0), (k1, d1)] := by
  have hb : (w.alloc (.cells #[.int .i64 k0, u0, .int .i64 k1, u1] t)).heap[w.heap.size]? = some (.cells #[.int .i64 k0, u0, .int .i64 k1, u1] t (0, 0)) := heap_alloc_new w _
  have c := fun i => cell_of_row _ w.heap.size i _ _ _ hb
  refine ⟨rfl, Or.inr ⟨w.heap.size, 0, 2, rfl, Nat.le_refl _, by unfold maxLen; omega, by simp, fun j hj => ?_⟩⟩
  match j, hj with
  | 0, _ => exact ⟨c 0, c 1, h0.alloc _⟩
  | 1, _ => exact ⟨c 2, c 3, h1.alloc _⟩
theorem frs_three {w : World} {t : TypeId} {u0 u1 u2 : Value} {k0 k1 k2 : Int} {d0 d1 d2 : List Int} (h0 : Bs w u0 d0) (h1 : Bs w u1 d1) (h2 : Bs w u2 d2) :
    Frs (w.alloc (.cells #[.int .i64 k0, u0, .int .i64 k1, u1, .int .i64 k2, u2] t)) (.slice (some ⟨w.heap.size, 0, none⟩) 3 3) [u0, u1, u2] [(k0, d0), (k1, d1), (k2, d2)] := by
  have hb : (w.alloc (.cells #[.int .i64 k0, u0, .int .i64 k1, u1, .int .i64 k2, u2] t)).heap[w.heap.size]? = some (.cells #[.int .i64 k0, u0, .int .i64 k1, u1, .int .i64 k2, u2] t (0, 0)) := heap_alloc_new w _
  have c := fun i => cell_of_row _ w.heap.size i _ _ _ hb
  refine ⟨rfl, Or.inr ⟨w.heap.size, 0, 3, rfl, Nat.le_refl _, by unfold maxLen; omega, by simp, fun j hj => ?_⟩⟩
  match j, hj with
  | 0, _ => exact ⟨c 0, c 1, h0.alloc _⟩
  | 1, _ => exact ⟨c 2, c 3, h1.alloc _⟩
  | 2, _ => exact ⟨c 4, c 5, h2.alloc _⟩
end Go.Proofs.YtkiagnlpnphghaaDoor
