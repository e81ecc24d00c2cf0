/- Two entries that have the same are told to be the same. -/
import Derived.Test.YtggbpdkejkmakaaGreatAwake
namespace Go.Proofs.YtggbpdkejkmakaaGreat
open Go.RowKit
set_option linter.unusedVariables false

/-- An entry as a value. -/
def entV (x : Ent) (v : Value) : Value := .agg #[.int .i64 x.t, .int .u8 x.k, .int .i64 x.v, .int .i64 x.s, .bool x.g, v]

set_option maxHeartbeats 2000000 in
set_option maxRecDepth 100000 in
theorem sameEnt (t k v s : Int) (g : Bool) (d : List Int) (u1 u2 : Value) (w : World) (h1 : Bs w u1 d) (h2 : Bs w u2 d) :
    Calls Tryz.prog 29 #[.agg #[.int .i64 t, .int .u8 k, .int .i64 v, .int .i64 s, .bool g, u1], .agg #[.int .i64 t, .int .u8 k, .int .i64 v, .int .i64 s, .bool g, u2]] w fun e w' => e = .returned (.bool true) ∧ Below w.heap.size w w' := by
  obtain ⟨a1, c1, hs1⟩ := h1.shape
  obtain ⟨a2, c2, hs2⟩ := h2.shape
  have T := fun W (k1 : Bs W u1 d) (k2 : Bs W u2 d) => Lib.hid (sameBytes_yes k1 k2 rfl)
  have hb := (alloc_below w (Obj.cells #[.int .i64 t, .int .u8 k, .int .i64 v, .int .i64 s, .bool g, u1] 28)).trans ((Below.refl _ _).alloc (by simp) (Obj.cells #[.int .i64 t, .int .u8 k, .int .i64 v, .int .i64 s, .bool g, u2] 28))
  have q := T _ (h1.past hb) (h2.past hb)
  have HB := Lib.hid hb
  subst hs1 hs2
  clear h1 h2 T hb
  go_enter Tryz.func29, Tryz.ntmps29
  go_wp2_with fail
  refine (q.out).mono ?_; rintro e w1 ⟨rfl, b1⟩
  go_wp2_with fail
  go_ret
  exact ⟨rfl, (HB.out).trans (b1.mono (HB.out).size)⟩
end Go.Proofs.YtggbpdkejkmakaaGreat
