/- append of noughts ('append(b, make([]byte, k)...)') to a row of the call's own; a copy of bytes. -/
import Derived.Test.YtknkmblacaaegaaDoorCat
import Derived.Test.YtknkmblacaaegaaDoorApp
import Derived.Lib.AppendZerosOnto
namespace Go.Proofs.YtknkmblacaaegaaDoor
open Go.RowKit
set_option linter.unusedVariables false
set_option linter.unusedSimpArgs false

theorem zeroes_bv (n : Nat) : Builtin.zeroCells (Value.int .u8 0).cells n = (bv (List.replicate n 0)).toArray := by
  apply Array.ext'
  simp only [Builtin.zeroCells, Value.cells, bv]
  apply List.ext_getElem
  · simp
  · intro i h1 h2
    simp
    have : i % 1 = 0 := Nat.mod_one i
    simp [this]
theorem run_append_noughts (w : World) (base : Nat) (ty : TypeId) (v : Value) (xs : List Int) (hown : Own w base v xs) (k : Nat) (hlen : xs.length + k ≤ 140737488355328) (hbase : base ≤ w.heap.size) :
    ∃ v' w', (Builtin.append_ #[22, 3] ty #[v, .int .i64 (k : Nat)]).run Tryd.prog w = .ok v' w' ∧ Own w' base v' (xs ++ List.replicate k 0) ∧ w.grownBy w' v.ownBlock := by
  obtain ⟨i, hi, hz, hs1, hb1⟩ := u8info
  have hw : IntKind.i64.wrap (k : Int) = k := by rw [IntKind.wrap_i64]; omega
  have hneg : ¬ ((k : Int) < 0) := by omega
  have h48i : ¬ (281474976710656 < (k : Int) * (i.bytes : Int)) := by rw [hb1]; omega
  by_cases h0 : k = 0
  · subst h0
    rcases hown.2 with ⟨rfl, hx0⟩ | ⟨g, cap, cur, rfl, hbg, hg, hnc, hcm, hcs, htake⟩
    · refine ⟨_, w, ?_, by simpa using hown, grownBy_refl _ _⟩
      simp [Builtin.append_, run_underlying Tryd.underlying22, run_underlying Tryd.underlying3, sizeOf, typeInfo, hi, asInt, asIntOf, IntKind.wrap_i64]
    · refine ⟨_, w, ?_, by simpa using hown, grownBy_refl _ _⟩
      simp [Builtin.append_, run_underlying Tryd.underlying22, run_underlying Tryd.underlying3, sizeOf, typeInfo, hi, asInt, asIntOf, IntKind.wrap_i64, hnc, storeCells]
  · have hns : ¬ (k * i.size = 0) := by rw [hs1]; omega
    rcases hown.2 with ⟨rfl, hx0⟩ | ⟨g, cap, cur, rfl, hbg, hg, hnc, hcm, hcs, htake⟩
    · obtain rfl : xs = [] := List.eq_nil_of_length_eq_zero hx0
      have hr := Lib.run_append_nil_zeros (P := Tryd.prog) w 22 3 ty 5 i (.int .u8 0) .i64 .i64 Tryd.underlying22 Tryd.underlying3 hi hz k (by omega) (by omega) (by omega) (by rw [hb1]; simp at hlen; omega)
      refine ⟨_, _, hr, ?_, ⟨rfl, rfl, rfl, by simp, fun j hj _ => heap_alloc_old w.drew _ hj⟩⟩
      have hge := grownCap_ge w k 0 5
      have hcm := grownCap_le_maxLen w k 0 5 (by unfold maxLen; simp at hlen; omega)
      unfold Own
      rw [zeroes_bv, zeroes_bv]
      refine ⟨by simp [bv], .inr ⟨w.heap.size, _, _, by simp, hbase, heap_alloc_new w.drew _, by simp; omega, hcm, ?_, ?_⟩⟩
      · simp [bv]; omega
      · simp [bv]
    · by_cases hroom : xs.length + k ≤ cap
      · have hfit : xs.length * i.size + (bv (List.replicate k 0)).length ≤ cur.size := by rw [hs1, length_bv, hcs, List.length_replicate]; omega
        have hst := run_storeCells_at Tryd.prog g (xs.length * i.size) 5 (bv (List.replicate k 0)) 0 cur w hg (by simpa using hfit) (bv_oneCell _)
        simp only [Nat.add_zero] at hst
        refine ⟨.slice (some ⟨g, 0, none⟩) (xs.length + k) cap, w.setRow g (cur.toList.take (xs.length * i.size) ++ bv (List.replicate k 0) ++ cur.toList.drop (xs.length * i.size + (bv (List.replicate k 0)).length)).toArray, ?_, ?_, ⟨rfl, rfl, rfl, by simp, fun j _ hk => setRow_other w g j _ (fun e => hk (by rw [e]; rfl))⟩⟩
        · simp [Builtin.append_, run_underlying Tryd.underlying22, run_underlying Tryd.underlying3, sizeOf, typeInfo, zeroValue, hi, hz, asInt, asIntOf, hw, hneg, hns, h48i, hroom, Addr.add_lit, zeroes_bv, hst]
        · unfold Own
          rw [List.length_append, List.length_replicate]
          refine ⟨by simp [bv], .inr ⟨g, cap, _, rfl, hbg, setRow_heap w g cur _ 5 _ hg, hroom, hcm, ?_, ?_⟩⟩
          · rw [hs1]
            simp only [List.size_toArray, List.length_append, List.length_take, List.length_drop, Array.length_toList, length_bv, List.length_replicate]
            omega
          · have e : cur.toList.take (xs.length * i.size) = bv xs := by rw [hs1]; exact htake
            rw [e, bv_append]
            have : (bv xs ++ bv (List.replicate k 0)).length = (xs.length + k) * 1 := by simp [bv]
            rw [← this]
            exact List.take_left
      · have holds : ∀ j u, (bv xs)[j]? = some u → w.cell? ((⟨g, 0, none⟩ : Addr).add j) = some u := World.ownsRow.cells hown (g := g) rfl
        have hfc := run_firstCells_some (P := Tryd.prog) w.drew i.size xs.length ⟨g, 0, none⟩ xs.length cap (bv xs) (by rw [hs1]; simp [bv]) (by simpa using holds)
        have hr := Lib.run_append_grow_zeros (P := Tryd.prog) w 22 3 ty 5 i (.int .u8 0) .i64 .i64 Tryd.underlying22 Tryd.underlying3 hi hz (some ⟨g, 0, none⟩) xs.length cap (bv xs) hfc k (by omega) (by omega) (by omega) (by omega) (by rw [hb1]; omega) (growslice_fits (by omega) (by rw [hb1]; omega))
        have hge := grownCap_ge w (xs.length + k) cap 5
        have hcm' := grownCap_le_maxLen w (xs.length + k) cap 5 (by unfold maxLen; omega)
        refine ⟨_, _, hr, ?_, ⟨rfl, rfl, rfl, by simp, fun j hj _ => heap_alloc_old w.drew _ hj⟩⟩
        unfold Own
        rw [zeroes_bv, zeroes_bv, List.length_append, List.length_replicate]
        refine ⟨by simp [bv], .inr ⟨w.heap.size, _, _, rfl, hbase, heap_alloc_new w.drew _, hge, hcm', ?_, ?_⟩⟩
        · simp [bv]; omega
        · simp only [Array.toList_append, bv_append]
          have : (bv xs ++ bv (List.replicate k 0)).length = (xs.length + k) * 1 := by simp [bv]
          rw [← this]
          exact List.take_left
theorem wpList_append_noughts (w : World) {ops : Array Oper} {rest : List Oper} {o : Oper} {a : Act} {Q : Exit → Act → World → Prop} (hgd : o.guard = none) (s x : Operand)
    (ho : o.op = .call { callee := .builtin .append, args := #[s, x], argTypes := #[22, 3] })
    (base : Nat) (v : Value) (xs : List Int) (hs : a.eval s = v) (hown : Own w base v xs) (u : Value) (k : Nat) (hx : a.eval x = u) (hu : u = .int .i64 (k : Nat))
    (hlen : xs.length + k ≤ 140737488355328) (hbase : base ≤ w.heap.size)
    (h : ∀ v' w', Own w' base v' (xs ++ List.replicate k 0) → w.grownBy w' v.ownBlock → wpList Tryd.prog ops Q rest (a.put o.dst v') w') : wpList Tryd.prog ops Q (o :: rest) a w := by
  obtain ⟨v', w', hrun, r1, r2⟩ := run_append_noughts w base o.type v xs hown k hlen hbase
  subst hu
  exact Lib.wpList_append_run w hgd s x 22 3 ho _ _ hs hx v' w' hrun (h v' w' r1 r2)

set_option maxHeartbeats 1000000 in
theorem copyBytes (v : Value) (l : List Int) (w : World) (h : Bs w v l) (hlen : l.length ≤ 140737488355328) :
    Calls Tryd.prog 15 #[v] w (Shaped l.length l w) := by
  have H := Lib.hid h
  have hn : Own w w.heap.size (.slice none 0 0) [] := World.ownsRow_nil _ _ _ _
  have HN := Lib.hid hn
  clear h hn
  go_enter Tryd.func15, Tryd.ntmps15
  go_wp2_with (at_builtin; refine wpList_append_bs _ rfl _ _ rfl w.heap.size _ _ rfl HN.out _ l rfl H.out (by simpa using hlen) (Nat.le_refl _) ?_)
  intro v2 w2 o2 g2
  have B2 := Lib.hid ((Below.refl w.heap.size w).grown g2 (Nat.le_refl _) (fun k e => by cases e))
  have O2 := Lib.hid o2
  clear o2 g2
  go_wp2_with fail
  go_ret
  exact Fresh.shaped ⟨v2, rfl, O2.out, B2.out⟩ rfl
end Go.Proofs.YtknkmblacaaegaaDoor
