/- append, to a row of the call's own: into its room, or into a new block; rows that lie apart. -/
import Derived.Test.YthfkmackodbmkaaGreatDoorLent
namespace Go.Proofs.YthfkmackodbmkaaGreatDoor
open Go.RowKit
set_option linter.unusedVariables false

/-- What an append does: it writes into the row's room, or a new block is made, and nothing is written. -/
def Grew (w : World) (v : Value) (m : Nat) (v' : Value) (w' : World) : Prop :=
  (∃ g n c, v = .slice (some ⟨g, 0, none⟩) n c ∧ v' = .slice (some ⟨g, 0, none⟩) (n + m) c ∧ w.grownBy w' (some g)) ∨ (v'.ownBlock = some w.heap.size ∧ w.grownBy w' none)

theorem run_append_two (w : World) (base : Nat) (ty : TypeId) (v : Value) (xs : List Int) (hown : Own w base v xs) (ad : Addr) (c : Nat) (ys : List Int) (hpos : 0 < ys.length)
    (hnews : ∀ j, j < ys.length → w.cell? (ad.add j) = some (.int .u8 (nth ys j))) (hlen : xs.length + ys.length ≤ 140737488355328) (hbase : base ≤ w.heap.size) :
    ∃ v' w', (Builtin.append_ #[42, 42] ty #[v, .slice (some ad) ys.length c]).run Tryz.prog w = .ok v' w' ∧ Own w' base v' (xs ++ ys) ∧ Grew w v ys.length v' w' := by
  obtain ⟨i, hi, hz, hs1, hb1⟩ := u8info
  have h63 : xs.length + ys.length ≤ maxLen := by unfold maxLen; omega
  have hn' : ∀ j u, (bv ys)[j]? = some u → w.cell? (ad.add j) = some u := fun j u hj => by
    have hjl : j < ys.length := by
      have := (List.getElem?_eq_some_iff.1 hj).1
      simpa [bv] using this
    rw [bv_get hjl] at hj
    cases hj
    exact hnews j hjl
  have hl : (bv ys).length = ys.length * i.size := by rw [hs1]; simp [bv]
  have grown : ∀ old, old < xs.length + ys.length → Own (w.drew.alloc (.cells ((bv xs).toArray ++ (bv ys).toArray ++ Builtin.zeroCells (Value.int .u8 0).cells (grownCap w (xs.length + ys.length) old 5 - (xs.length + ys.length))) 5)) base
      (.slice (some ⟨w.heap.size, 0, none⟩) (xs.length + ys.length) (grownCap w (xs.length + ys.length) old 5)) (xs ++ ys) := fun old ho => by
    have hge := grownCap_ge w (xs.length + ys.length) old 5
    have hcm := grownCap_le_maxLen w (xs.length + ys.length) old 5 h63
    unfold Own
    rw [List.length_append]
    refine ⟨by simp [bv], .inr ⟨w.heap.size, _, _, rfl, hbase, heap_alloc_new w.drew _, hge, hcm, ?_, ?_⟩⟩
    · simp [bv, Builtin.zeroCells, Value.cells]; omega
    · simp only [Array.toList_append, List.append_assoc, bv_append]
      rw [← List.append_assoc]
      have : (bv xs ++ bv ys).length = (xs.length + ys.length) * 1 := by simp [bv]
      rw [← this]
      exact List.take_left
  rcases hown.2 with ⟨rfl, hx0⟩ | ⟨g, cap, cur, rfl, hbg, hg, hnc, hcm, hcs, htake⟩
  · have hx : xs = [] := List.eq_nil_of_length_eq_zero hx0
    subst hx
    have hr := run_append_nil (P := Tryz.prog) w 42 ty 5 i (.int .u8 0) Tryz.underlying42 hi hz ad ys.length c (bv ys) hl hn' hpos (by simp only [List.length_nil, Nat.zero_add] at hlen; omega) (by rw [hb1]; simp only [List.length_nil, Nat.zero_add] at hlen; omega)
    have hgr := grown 0 (by simp; omega)
    simp only [List.length_nil, Nat.zero_add, List.nil_append] at hgr ⊢
    refine ⟨_, _, hr, ?_, Or.inr ⟨rfl, ⟨rfl, rfl, rfl, by simp, fun k hk _ => heap_alloc_old w.drew _ hk⟩⟩⟩
    simpa [bv] using hgr
  · by_cases hroom : xs.length + ys.length ≤ cap
    · have hfit : xs.length * i.size + (bv ys).length ≤ cur.size := by rw [hs1, length_bv, hcs]; omega
      have hr := run_append_room (P := Tryz.prog) w 42 ty 5 i Tryz.underlying42 hi g xs.length cap cur hg ad ys.length c (bv ys) hl hn' (bv_oneCell _) hroom hfit
      refine ⟨_, _, hr, ?_, Or.inl ⟨g, _, cap, rfl, rfl, ⟨rfl, rfl, rfl, by simp, fun k _ hk => setRow_other w g k _ (fun e => hk (by rw [e]))⟩⟩⟩
      unfold Own
      rw [List.length_append]
      refine ⟨by simp [bv], .inr ⟨g, cap, _, rfl, hbg, setRow_heap w g cur _ 5 _ hg, hroom, hcm, ?_, ?_⟩⟩
      · rw [hs1]
        simp only [List.size_toArray, List.length_append, List.length_take, List.length_drop, Array.length_toList, length_bv]
        omega
      · have e : cur.toList.take (xs.length * i.size) = bv xs := by rw [hs1]; exact htake
        rw [e, bv_append]
        have : (bv xs ++ bv ys).length = (xs.length + ys.length) * 1 := by simp [bv]
        rw [← this]
        exact List.take_left
    · have holds : ∀ j u, (bv xs)[j]? = some u → w.cell? ((⟨g, 0, none⟩ : Addr).add j) = some u := World.ownsRow.cells hown (g := g) rfl
      have hr := run_append_grow (P := Tryz.prog) w 42 ty 5 i (.int .u8 0) Tryz.underlying42 hi hz ⟨g, 0, none⟩ xs.length cap (bv xs) (by rw [hs1]; simp [bv]) holds ad ys.length c (bv ys) hl hn' (by omega) (by omega) (growslice_fits (by omega) (by rw [hb1]; omega))
      exact ⟨_, _, hr, grown cap (by omega), Or.inr ⟨rfl, ⟨rfl, rfl, rfl, by simp, fun k hk _ => heap_alloc_old w.drew _ hk⟩⟩⟩

theorem wpList_append_two (w : World) {ops : Array Oper} {rest : List Oper} {o : Oper} {a : Act} {Q : Exit → Act → World → Prop} (hgd : o.guard = none) (s x : Operand)
    (ho : o.op = .call { callee := .builtin .append, args := #[s, x], argTypes := #[42, 42] })
    (base : Nat) (v : Value) (xs : List Int) (hs : a.eval s = v) (hown : Own w base v xs) (u : Value) (ys : List Int) (hx : a.eval x = u) (hu : Bs w u ys) (hpos : 0 < ys.length)
    (hlen : xs.length + ys.length ≤ 140737488355328) (hbase : base ≤ w.heap.size)
    (h : ∀ v' w', Own w' base v' (xs ++ ys) → Grew w v ys.length v' w' → wpList Tryz.prog ops Q rest (a.put o.dst v') w') : wpList Tryz.prog ops Q (o :: rest) a w := by
  obtain ⟨b, off, cap, rfl, -, -, -, cells⟩ := hu.at hpos
  obtain ⟨v', w', hrun, r1, r2⟩ := run_append_two w base o.type v xs hown ⟨b, off, none⟩ cap ys hpos (fun j hj => by rw [add_none]; exact cells j hj) hlen hbase
  refine wpList_plain hgd fun K hK' => ?_
  unfold Oper.wp
  simp [execOp, ho, resolve, invoke, builtin, hs, hx, hrun, Result.andThen]
  exact hK' _ _ (h v' w' r1 r2)

theorem Own.pre {w : World} {base g n m c : Nat} {l : List Int} (h : Own w base (.slice (some ⟨g, 0, none⟩) m c) l) (hn : n ≤ l.length) : Own w base (.slice (some ⟨g, 0, none⟩) n c) (l.take n) := by
  rcases h.2 with ⟨h1, _⟩ | ⟨g', cap, cur, h1, hb, hg, hnc, hcm, hcs, ht⟩
  · cases h1
  · cases h1
    have hl : (l.take n).length = n := by simp; omega
    refine ⟨by simp [bv], .inr ⟨g, c, cur, by rw [hl], hb, hg, by omega, hcm, hcs, ?_⟩⟩
    rw [hl, ← bv_take, ← ht, List.take_take]
    congr 1
    omega
theorem Own.slen {w : World} {base g n c : Nat} {l : List Int} (h : Own w base (.slice (some ⟨g, 0, none⟩) n c) l) : n = l.length := by
  obtain ⟨ao, cap, hv⟩ := h.bs.shape
  cases hv; rfl

/-- Row v: its i-th byte is written. -/
theorem Own.stored {w : World} {base g n c : Nat} {l : List Int} (h : Own w base (.slice (some ⟨g, 0, none⟩) n c) l) (i : Nat) (x : Int) : Own (w.setCell ⟨g, i, none⟩ (.int .u8 x)) base (.slice (some ⟨g, 0, none⟩) n c) (l.set i x) := by
  obtain rfl := h.slen
  have := (World.ownsRow.stored h i (.int .u8 x)).1
  unfold Own
  rw [List.length_set]
  simpa [bv, List.map_set] using this
end Go.Proofs.YthfkmackodbmkaaGreatDoor
