/- append to rows of numbers of 64 bits: its two outcomes. -/
import Derived.Test.YtknkmblacaaegaaDoorShaQs
namespace Go.Proofs.YtknkmblacaaegaaDoor
open Go.RowKit
set_option linter.unusedVariables false
set_option linter.unusedSimpArgs false

theorem run_append_two_q (w : World) (base : Nat) (ty : TypeId) (v : Value) (xs : List Nat) (hown : OwnQ w base v xs) (ad : Addr) (c : Nat) (ys : List Nat) (hpos : 0 < ys.length)
    (hnews : ∀ j, j < ys.length → w.cell? (ad.add j) = some (.int .u64 (wth ys j : Nat))) (hlen : xs.length + ys.length ≤ 1000000) (hbase : base ≤ w.heap.size) :
    ∃ v' w', (Builtin.append_ #[75, 75] ty #[v, .slice (some ad) ys.length c]).run Tryd.prog w = .ok v' w' ∧ OwnQ w' base v' (xs ++ ys) ∧ Grew w v ys.length v' w' := by
  obtain ⟨i, hi, hz, hs1, hb1⟩ := u64info
  have h63 : xs.length + ys.length ≤ maxLen := by unfold maxLen; omega
  have hn' : ∀ j u, (qv ys)[j]? = some u → w.cell? (ad.add j) = some u := fun j u hj => by
    have hjl : j < ys.length := by
      have := (List.getElem?_eq_some_iff.1 hj).1
      simpa [qv] using this
    rw [qv_get hjl] at hj
    cases hj
    exact hnews j hjl
  have hl : (qv ys).length = ys.length * i.size := by rw [hs1]; simp [qv]
  have grown : ∀ old, old < xs.length + ys.length → OwnQ (w.drew.alloc (.cells ((qv xs).toArray ++ (qv ys).toArray ++ Builtin.zeroCells (Value.int .u64 0).cells (grownCap w (xs.length + ys.length) old 71 - (xs.length + ys.length))) 71)) base
      (.slice (some ⟨w.heap.size, 0, none⟩) (xs.length + ys.length) (grownCap w (xs.length + ys.length) old 71)) (xs ++ ys) := fun old ho => by
    have hge := grownCap_ge w (xs.length + ys.length) old 71
    have hcm := grownCap_le_maxLen w (xs.length + ys.length) old 71 h63
    unfold OwnQ
    rw [List.length_append]
    refine ⟨by simp [qv], .inr ⟨w.heap.size, _, _, rfl, hbase, heap_alloc_new w.drew _, hge, hcm, ?_, ?_⟩⟩
    · simp [qv, Builtin.zeroCells, Value.cells]; omega
    · simp only [Array.toList_append, List.append_assoc, qv_append]
      rw [← List.append_assoc]
      have : (qv xs ++ qv ys).length = (xs.length + ys.length) * 1 := by simp [qv]
      rw [← this]
      exact List.take_left
  rcases hown.2 with ⟨rfl, hx0⟩ | ⟨g, cap, cur, rfl, hbg, hg, hnc, hcm, hcs, htake⟩
  · have hx : xs = [] := List.eq_nil_of_length_eq_zero hx0
    subst hx
    have hr := run_append_nil (P := Tryd.prog) w 75 ty 71 i (.int .u64 0) Tryd.underlying75 hi hz ad ys.length c (qv ys) hl hn' hpos (by simp only [List.length_nil, Nat.zero_add] at hlen; omega) (by rw [hb1]; simp only [List.length_nil, Nat.zero_add] at hlen; omega)
    have hgr := grown 0 (by simp; omega)
    simp only [List.length_nil, Nat.zero_add, List.nil_append] at hgr ⊢
    refine ⟨_, _, hr, ?_, Or.inr ⟨rfl, ⟨rfl, rfl, rfl, by simp, fun k hk _ => heap_alloc_old w.drew _ hk⟩⟩⟩
    simpa [qv] using hgr
  · by_cases hroom : xs.length + ys.length ≤ cap
    · have hfit : xs.length * i.size + (qv ys).length ≤ cur.size := by rw [hs1, qv_length, hcs]; omega
      have hr := run_append_room (P := Tryd.prog) w 75 ty 71 i Tryd.underlying75 hi g xs.length cap cur hg ad ys.length c (qv ys) hl hn' (qv_oneCell _) hroom hfit
      refine ⟨_, _, hr, ?_, Or.inl ⟨g, _, cap, rfl, rfl, ⟨rfl, rfl, rfl, by simp, fun k _ hk => setRow_other w g k _ (fun e => hk (by rw [e]))⟩⟩⟩
      unfold OwnQ
      rw [List.length_append]
      refine ⟨by simp [qv], .inr ⟨g, cap, _, rfl, hbg, setRow_heap w g cur _ 71 _ hg, hroom, hcm, ?_, ?_⟩⟩
      · rw [hs1]
        simp only [List.size_toArray, List.length_append, List.length_take, List.length_drop, Array.length_toList, qv_length]
        omega
      · have e : cur.toList.take (xs.length * i.size) = qv xs := by rw [hs1]; exact htake
        rw [e, qv_append]
        have : (qv xs ++ qv ys).length = (xs.length + ys.length) * 1 := by simp [qv]
        rw [← this]
        exact List.take_left
    · have holds : ∀ j u, (qv xs)[j]? = some u → w.cell? ((⟨g, 0, none⟩ : Addr).add j) = some u := World.ownsRow.cells hown (g := g) rfl
      have hr := run_append_grow (P := Tryd.prog) w 75 ty 71 i (.int .u64 0) Tryd.underlying75 hi hz ⟨g, 0, none⟩ xs.length cap (qv xs) (by rw [hs1]; simp [qv]) holds ad ys.length c (qv ys) hl hn' (by omega) (by omega) (growslice_fits (by omega) (by rw [hb1]; omega))
      exact ⟨_, _, hr, grown cap (by omega), Or.inr ⟨rfl, ⟨rfl, rfl, rfl, by simp, fun k hk _ => heap_alloc_old w.drew _ hk⟩⟩⟩


/-- append, inside a region that draws its order: two outcomes. -/
theorem step_append_q2 {w : World} {ops : Array Oper} {o : Oper} {a : Act} {K : Act → World → Prop} {Q : Exit → Act → World → Prop} {E : Prop} (hgd : o.guard = none) (s x : Operand)
    (ho : o.op = .call { callee := .builtin .append, args := #[s, x], argTypes := #[75, 75] })
    (base : Nat) (v : Value) (xs : List Nat) (hs : a.eval s = v) (hown : OwnQ w base v xs) (u : Value) (ys : List Nat) (hx : a.eval x = u) (hu : Qs w u ys) (hpos : 0 < ys.length)
    (hlen : xs.length + ys.length ≤ 1000000) (hbase : base ≤ w.heap.size)
    (h : ∀ v' w', OwnQ w' base v' (xs ++ ys) → Grew w v ys.length v' w' → K (a.put o.dst v') w') :
    if Region.wanted o (yielded ops a.tmps) = true then Oper.wp Tryd.prog o a w K Q else E := by
  have hw : Region.wanted o (yielded ops a.tmps) = true := by simp [Region.wanted, hgd]
  rw [if_pos hw]
  obtain ⟨b, off, cap, rfl, -, -, -, cells⟩ := hu.at hpos
  obtain ⟨v', w', hrun, r1, r2⟩ := run_append_two_q w base o.type v xs hown ⟨b, off, none⟩ cap ys hpos (fun j hj => by rw [add_none]; exact cells j hj) hlen hbase
  unfold Oper.wp
  simp [execOp, ho, resolve, invoke, builtin, hs, hx, hrun, Result.andThen]
  exact h _ _ r1 r2
/-- What was appended to is as it was. -/
theorem OwnQ.behind {w w' : World} {base m : Nat} {v v' : Value} {xs ys : List Nat} (h : OwnQ w base v xs) (h' : OwnQ w' base v' (xs ++ ys)) (hg : Grew w v m v' w') (hpos : 0 < xs.length) :
    ∃ g c, v = .slice (some ⟨g, 0, none⟩) xs.length c ∧ ∀ j, j < xs.length → w'.cell? ⟨g, j, none⟩ = some (.int .u64 (wth xs j : Nat)) := by
  obtain ⟨g, c, hv, -, -, -, cells⟩ := h.pos hpos
  refine ⟨g, c, hv, fun j hj => ?_⟩
  rcases hg with ⟨g1, n1, c1, rfl, rfl, hg⟩ | ⟨_, hg⟩
  · cases hv
    obtain ⟨_, _, e, _, _, _, h4⟩ := h'.qs
    injection e with e1 _ _
    have := h4 _ e1.symm j (by rw [List.length_append]; omega)
    rw [add_none, Nat.zero_add, wth_left hj] at this
    exact this
  · exact hg.cell (a := ⟨g, j, none⟩) (cells j hj) (fun e => by cases e)
end Go.Proofs.YtknkmblacaaegaaDoor
