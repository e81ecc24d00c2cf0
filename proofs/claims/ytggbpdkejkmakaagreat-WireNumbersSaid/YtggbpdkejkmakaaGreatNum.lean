/- Contracts of the numbers' bytes: package wire's Number and the document's. -/
import Derived.Test.YtggbpdkejkmakaaGreatKit
import Derived.Laws.Shifts
import Derived.Laws.ShiftsVar
import Derived.Laws.ShiftsVarLaws
import Derived.Laws.BitsLemmas
namespace Go.Proofs.YtggbpdkejkmakaaGreat
open Go.RowKit
set_option linter.unusedVariables false

/-- A number's eight bytes, the highest first. -/
def num8 (n : Int) : List Int := [IntKind.u64.wrap n / 72057594037927936 % 256, IntKind.u64.wrap n / 281474976710656 % 256, IntKind.u64.wrap n / 1099511627776 % 256, IntKind.u64.wrap n / 4294967296 % 256,
  IntKind.u64.wrap n / 16777216 % 256, IntKind.u64.wrap n / 65536 % 256, IntKind.u64.wrap n / 256 % 256, IntKind.u64.wrap n % 256]
theorem num8_length (n : Int) : (num8 n).length = 8 := rfl
theorem num8_oct (n : Int) : Oct (num8 n) := by
  intro x hx
  simp only [num8, List.mem_cons, List.not_mem_nil, or_false] at hx
  omega

set_option maxHeartbeats 1000000 in
set_option maxRecDepth 100000 in
theorem wireNumber (n : Int) (w : World) :
    Calls Tryz.prog 11 #[.int .i64 n] w fun e w' => Fresh (num8 n) w e w' := by
  have hmk : ∀ w : World, (Instr.makeSlice 23 (Value.int IntKind.i64 8) (Value.int IntKind.i64 8)).run Tryz.prog w = .ok (.slice (some ⟨w.heap.size, 0, none⟩) 8 8) (w.alloc (.cells #[.int .u8 0, .int .u8 0, .int .u8 0, .int .u8 0, .int .u8 0, .int .u8 0, .int .u8 0, .int .u8 0] 5)) := fun _ => by kernel_rfl
  go_enter Tryz.func11, Tryz.ntmps11
  go_wp2
  refine wp_loop_rounds 9 ?_
  iterate 9 (rw [rounds_succ]; go_wp2)
  go_ret
  exact ⟨_, rfl, World.ownsRow_lit (size := 1) _ _ 8 (Nat.le_refl _) (by unfold maxLen; omega) rfl, (Below.refl _ _).alloc (Nat.le_refl _) _⟩

/-- One more byte. -/
theorem take_snoc {l : List Int} {k : Nat} (h : k < l.length) : l.take (k + 1) = l.take k ++ [nth l k] := by
  rw [List.take_succ_eq_append_getElem h, nth_of h]

theorem bs_lit (w : World) (x : Int) : Bs (w.alloc (.cells #[.int .u8 x] 5)) (.slice (some ⟨w.heap.size, 0, none⟩) 1 1) [x] :=
  Bs.mk (l := [x]) (b := w.heap.size) (off := 0) (cap := 1) (Nat.le_refl _) (by unfold maxLen; omega) fun j hj => by
    obtain rfl : j = 0 := by simpa using hj
    simp [nth]

set_option maxHeartbeats 1000000 in
set_option maxRecDepth 100000 in
theorem refNumber (n : Int) (w : World) :
    Calls Tryz.prog 4 #[.int .i64 n] w fun e w' => Fresh (num8 n) w e w' := by
  go_enter Tryz.func4, Tryz.ntmps4
  go_wp2
  have ho : Own w w.heap.size (.slice none 0 0) [] := Own.nil _ _
  have hb : Below w.heap.size w w := Below.refl _ _
  generalize hB : w.heap.size = B at *
  have HB := Lib.hid hB
  clear hB
  refine wp_loop_rounds 9 ?_
  iterate 8
    rw [rounds_succ]
    go_wp2_with (at_builtin; refine wpList_append_bs _ rfl _ _ rfl B _ _ rfl (ho.alloc _) _ [_] rfl (bs_lit _ _) (by simp) (by have := hb.size; have := HB.out; simp; omega) ?_)
    intro v1 w1 ho1 hg1
    replace hb := (hb.alloc (by have := hb.size; have := HB.out; omega) _).grown hg1 (by have := hb.size; have := HB.out; simp; omega) (fun k hk => (ho.lt k hk).1)
    replace ho := ho1
    clear ho1 hg1
    go_wp2
  rw [rounds_succ]
  go_wp2
  go_ret
  exact ⟨_, rfl, by rw [HB.out]; exact ho, by rw [HB.out]; exact hb⟩
end Go.Proofs.YtggbpdkejkmakaaGreat
