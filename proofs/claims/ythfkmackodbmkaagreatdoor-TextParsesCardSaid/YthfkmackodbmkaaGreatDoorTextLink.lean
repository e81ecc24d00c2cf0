/- The draft's jumps are linked to its labels. -/
import Derived.Test.YthfkmackodbmkaaGreatDoorTextAdd2
import Derived.Laws.OwnMore
import Derived.Laws.BitsLemmas
namespace Go.Proofs.YthfkmackodbmkaaGreatDoor
open Go.RowKit Go.MapKept
set_option linter.unusedVariables false
set_option linter.unusedSimpArgs false
set_option maxRecDepth 100000
set_option maxHeartbeats 1000000

theorem addP (t : Told) (at' : Int) {V : World} {mp D rb : Nat} {d : Dr} (h : DS V mp D rb d) (hj : d.jumps.length < 1000000) :
    Calls Tryz.prog 28 #[.pointer (some ⟨D, 0, none⟩), lineV t, .int .i64 at'] V (Added V mp D rb (addL d t at')) := by
  obtain ⟨lab, i, goal⟩ := t
  cases lab with
  | cons c r => exact addLabel c r i goal at' h
  | nil =>
    by_cases hi : i.op = 0
    · exact addNone i hi goal at' h
    · by_cases hf : d.list.length = 4096
      · exact addFull i hi goal at' h hf
      · cases goal with
        | nil => exact addPlain i hi at' h hf
        | cons c r => exact addJump i hi c r at' h hf hj
theorem icl_off (x : Int) : ∀ (l : List Ins) (k : Nat), k < l.length → (icl l).set (k * 8 + 5) (.int .i64 x) = icl (l.set k { ith l k with off := x })
  | [], k, h => by simp at h
  | i :: l, 0, h => by
    simp [icl, ith, List.set, icells]
  | i :: l, k + 1, h => by
    have := icl_off x l k (by simpa using h)
    have e : (k + 1) * 8 + 5 = (icells i).length + (k * 8 + 5) := by simp [icells]; omega
    simp only [icl, List.flatMap_cons] at this ⊢
    rw [e, List.set_append_right _ _ (by simp [icells])]
    simp only [List.set_cons_succ, List.flatMap_cons]
    rw [show (icells i).length + (k * 8 + 5) - (icells i).length = k * 8 + 5 from by omega, this]
    rfl
theorem linkL_len (marks : List (Str × Int)) : ∀ (js : List (Int × Int × Str)) (l l' : List Ins), linkL marks l js = .inl l' → l'.length = l.length
  | [], l, l', h => by simp [linkL] at h; rw [h]
  | j :: js, l, l', h => by
    unfold linkL at h
    split at h
    · cases h
    · have := linkL_len marks js _ l' h
      simpa using this
theorem DS.other {V V' : World} {mp D rb K : Nat} {d : Dr} {cs : Array Value} {t : TypeId} {fr : Nat × Nat} (h : DS V mp D rb d) (hK : V.heap[K]? = some (.cells cs t fr)) (t1 : t ≠ 56) (t2 : t ≠ 47) (t3 : t ≠ 132) (hg : V.grownBy V' (some K)) : DS V' mp D rb d := by
  obtain ⟨⟨vl, vj, h1, h2, h3⟩, h4, h5, h6⟩ := h
  refine ⟨⟨vl, vj, (hg.block _ (Array.getElem?_eq_some_iff.1 h1).1 (fun e => ?_)).trans h1, h2.kept hg ?_, h3.kept hg ?_⟩, h4.kept hg (fun e => ?_), ⟨h5.1, h5.2.1, Nat.le_trans h5.2.2 hg.size⟩, h6⟩
  · have e := Option.some.inj e
    subst e
    rw [hK] at h1
    simp only [Option.some.injEq, Obj.cells.injEq] at h1
    exact t1 h1.2.1
  · rcases h2.2 with ⟨rfl, _⟩ | ⟨g, c, cur, rfl, _, hgc, _⟩
    · exact .inl rfl
    · refine .inr (fun e => ?_)
      have e := Option.some.inj e
      simp only at e
      subst e
      rw [hK] at hgc
      simp only [Option.some.injEq, Obj.cells.injEq] at hgc
      exact t2 hgc.2.1
  · rcases h3.2 with ⟨rfl, _⟩ | ⟨g, c, cur, rfl, _, hgc, _⟩
    · exact .inl rfl
    · refine .inr (fun e => ?_)
      have e := Option.some.inj e
      simp only at e
      subst e
      rw [hK] at hgc
      simp only [Option.some.injEq, Obj.cells.injEq] at hgc
      exact t3 hgc.2.1
  · have e := Option.some.inj e
    subst e
    obtain ⟨es, c, hb, _⟩ := h4
    rw [hK] at hb
    cases hb
theorem fault_set {W : World} {K : Nat} {a b : Value} (h : W.heap[K]? = some (.cells #[a, b] 26 (0, 0))) (x y : Value) :
    ((W.setCell ⟨K, 0, none⟩ x).setCell ⟨K, 1, none⟩ y).cell? ⟨K, 0, none⟩ = some x ∧ ((W.setCell ⟨K, 0, none⟩ x).setCell ⟨K, 1, none⟩ y).cell? ⟨K, 1, none⟩ = some y ∧ W.grownBy ((W.setCell ⟨K, 0, none⟩ x).setCell ⟨K, 1, none⟩ y) (some K) := by
  have h1 := heap_set (heap_set h 0 x) 1 y
  refine ⟨by simp [World.cell?, h1], by simp [World.cell?, h1], grown_trans (setCell_grown _ _ _ _) (setCell_grown _ _ _ _)⟩
def Linked (V : World) (mp D rb : Nat) (d : Dr) (res : List Ins ⊕ Int) (e : Ending) (V' : World) : Prop :=
  (match res with | .inl l => e = .returned (.agg #[.int .i64 0, .int .i64 0]) ∧ DS V' mp D rb { d with list := l } | .inr n => e = .returned (.agg #[.int .i64 121, .int .i64 n])) ∧ Turn (AP mp D rb) V V'
theorem linked_no {V V' : World} {mp D rb : Nat} {d : Dr} {res : List Ins ⊕ Int} {e : Ending} {n : Int} (h : res = .inr n) (he : e = .returned (.agg #[.int .i64 121, .int .i64 n])) (ht : Turn (AP mp D rb) V V') : Linked V mp D rb d res e V' := by
  subst h; exact ⟨he, ht⟩
theorem linked_ok {V V' : World} {mp D rb : Nat} {d : Dr} {res : List Ins ⊕ Int} {e : Ending} {l : List Ins} (h : res = .inl l) (he : e = .returned (.agg #[.int .i64 0, .int .i64 0])) (hd : DS V' mp D rb { d with list := l }) (ht : Turn (AP mp D rb) V V') : Linked V mp D rb d res e V' := by
  subst h; exact ⟨⟨he, hd⟩, ht⟩
/-- Where the linking is: the first k jumps are. -/
structure LS (V : World) (mp D rb : Nat) (vj : Value) (d : Dr) (k : Nat) (W : World) (l : List Ins) : Prop where
  draft : DS W mp D rb { d with list := l }
  left : linkL d.marks l (d.jumps.drop k) = linkL d.marks d.list d.jumps
  len : l.length = d.list.length
  res : W.heap[V.heap.size]? = some (.cells #[.int .i64 0, .int .i64 0] 26 (0, 0))
  turn : Turn (AP mp D rb) V W
  jv : W.cell? ⟨D, 2, none⟩ = some vj
theorem linkP {V : World} {mp D rb : Nat} {d : Dr} (h : DS V mp D rb d) (hj : ∀ j ∈ d.jumps, 0 ≤ j.2.1 ∧ j.2.1 < d.list.length) (hm : ∀ e ∈ d.marks, 0 ≤ e.2 ∧ e.2 ≤ 4096) :
    Calls Tryz.prog 29 #[.pointer (some ⟨D, 0, none⟩)] V (Linked V mp D rb d (linkL d.marks d.list d.jumps)) := by
  obtain ⟨R0, hR0⟩ : ∃ R0, R0 = linkL d.marks d.list d.jumps := ⟨_, rfl⟩
  rw [← hR0]
  have HR0 := Lib.hid hR0
  have bB := alloc_below V (.cells #[.int .i64 0, .int .i64 0] 26)
  obtain ⟨vl, vj, hD, _, hjs⟩ := (h.past bB).cells
  obtain ⟨aj, cj, rfl⟩ := hjs.shape
  have c2 : (V.alloc (.cells #[.int .i64 0, .int .i64 0] 26)).cell? ⟨D, 2, none⟩ = some (.slice aj d.jumps.length cj) := by simp only [World.cell?, hD]; rfl
  have L0 : LS V mp D rb (.slice aj d.jumps.length cj) d 0 (V.alloc (.cells #[.int .i64 0, .int .i64 0] 26)) d.list := ⟨h.past bB, by simp, rfl, heap_alloc_new V _, Turn.of_below bB, c2⟩
  have HL0 := Lib.hid L0
  have HJ := Lib.hid hj
  have HM := Lib.hid hm
  have HLT := Lib.hid h.lt
  have HN := Lib.hid (show d.jumps.length ≤ 1000000 from h.len.2)
  have HJL := Lib.hid h.len.2
  clear bB L0 hR0 h hj hm hjs
  go_enter Tryz.func29, Tryz.ntmps29
  go_wp2_with fail
  go_loopw [12] (fun i wr => ∃ (k : Nat) (l : List Ins), k ≤ d.jumps.length ∧ i = .int .i64 k ∧ Hid (LS V mp D rb (.slice aj d.jumps.length cj) d k wr l)) (fun i _ => d.jumps.length - (intOf i).toNat)
  case atStart => exact ⟨0, d.list, Nat.zero_le _, rfl, HL0⟩
  case round =>
    obtain ⟨k, l, hk, rfl, HL⟩ := hrel
    by_cases hlt : k < d.jumps.length
    · have hd : decide (k < d.jumps.length) = true := by simpa using hlt
      have LL := HL.out
      obtain ⟨vl, vj, hD, hl, hj⟩ := LL.draft.cells
      have e := LL.jv
      simp only [World.cell?, hD] at e
      have e : vj = .slice aj d.jumps.length cj := by simpa using e
      subst e
      obtain ⟨g, rfl, hg1, hg2, hg3, hgc⟩ := hj.at (by simp only; omega)
      obtain ⟨⟨ln, at', goal⟩, hjk⟩ : ∃ j, d.jumps[k]? = some j := ⟨d.jumps[k], by simp [hlt]⟩
      obtain ⟨g0, g1, g2⟩ := hgc k _ hjk
      simp only at g0 g1 g2
      have hjm := HJ.out _ (List.mem_of_getElem? hjk)
      simp only at hjm
      have HK := Lib.hid hjk
      have bJ := alloc_below wr (.cells #[.int .i64 ln, .int .i64 at', str goal] 132)
      have hJ := heap_alloc_new wr (.cells #[.int .i64 ln, .int .i64 at', str goal] 132)
      have hD2 := (bJ.block D (Array.getElem?_eq_some_iff.1 hD).1).trans hD
      have LK := look_mark (LL.draft.places.below (show Below wr.heap.size wr ((wr.alloc (.cells #[.int .i64 ln, .int .i64 at', str goal] 132)).drew) from bJ.drew) LL.draft.places.lt) goal
      simp only at LK
      have HTB := Lib.hid (LL.turn.trans (Turn.of_below bJ))
      have HRS := Lib.hid ((bJ.block _ (Array.getElem?_eq_some_iff.1 LL.res).1).trans LL.res)
      have HBJ := Lib.hid bJ
      have HDL := Lib.hid (LL.draft.past bJ)
      have HLN := Lib.hid (And.intro LL.left LL.len)
      have k0 : (k : Int) < d.jumps.length := by omega
      clear hgc hjk LL hl hj bJ e
      have hjb : wr.heap.size ≠ D := by have := (Array.getElem?_eq_some_iff.1 hD).1; omega
      go_upto_region 4 with fail
      generalize wr.alloc (.cells #[.int .i64 ln, .int .i64 at', str goal] 132) = w2 at *
      generalize hjs : wr.heap.size = bj at *
      have q0 : w2.drew.cell? ⟨D, 1, none⟩ = some (.map (some mp)) := by simp only [World.cell?]; rw [show w2.drew.heap[D]? = _ from hD2]; rfl
      have q1 : w2.drew.cell? ⟨bj, 2, none⟩ = some (str goal) := by simp only [World.cell?]; rw [show w2.drew.heap[bj]? = _ from hJ]; rfl
      obtain ⟨fm, hfm⟩ : ∃ fm, fm = findM d.marks goal := ⟨_, rfl⟩
      rw [← hfm] at LK
      have HFM := Lib.hid hfm
      clear hfm
      refine wp_region_held_drew (S := fun w' => w'.cell? ⟨bj, 2, none⟩ = some (str goal) ∧ w'.cell? ⟨D, 1, none⟩ = some (.map (some mp)) ∧ (Instr.lookup 53 (.map (some mp)) (str goal) true).run Tryz.prog w' = .ok (.tuple #[.int .i64 (fm.getD 0), .bool fm.isSome]) w') (by kernel_rfl) ⟨q1, q0, LK⟩ (fun S0 => ?_)
      refine wpAnyH_take (i := 0) (v := ?v0t1) rfl (by kernel_rfl) (by kernel_rfl) (by kernel_rfl) (fun _ _ _ h => h) (Or.inl ⟨by rfl, ?y0t1⟩) S0 ?z0t1
      case y0t1 => intro w_ hSw; (try dsimp only at hSw); go_simp; with_reducible rfl
      try simp only [List.getElem_toArray, List.getElem_cons_zero, List.getElem_cons_succ, Act.put, List.setIfInBounds_toArray, List.set_cons_zero, List.set_cons_succ]
      refine wpAnyH_take (i := 1) (v := ?v1t2) rfl (by kernel_rfl) (by kernel_rfl) (by kernel_rfl) (fun _ _ _ h => h) (Or.inl ⟨by rfl, ?y1t2⟩) S0 ?z1t2
      case y1t2 => intro w_ hSw; (try dsimp only at hSw); go_simp; with_reducible rfl
      try simp only [List.getElem_toArray, List.getElem_cons_zero, List.getElem_cons_succ, Act.put, List.setIfInBounds_toArray, List.set_cons_zero, List.set_cons_succ]
      refine wpAnyH_take (i := 2) (v := ?v2t3) rfl (by kernel_rfl) (by kernel_rfl) (by kernel_rfl) (fun _ _ _ h => h) (Or.inl ⟨by rfl, ?y2t3⟩) S0 ?z2t3
      case y2t3 => intro w_ hSw; (try dsimp only at hSw); go_simp; with_reducible rfl
      try simp only [List.getElem_toArray, List.getElem_cons_zero, List.getElem_cons_succ, Act.put, List.setIfInBounds_toArray, List.set_cons_zero, List.set_cons_succ]
      refine wpAnyH_take (i := 3) (v := ?v3t4) rfl (by kernel_rfl) (by kernel_rfl) (by kernel_rfl) (fun _ _ _ h => h) (Or.inl ⟨by rfl, ?y3t4⟩) S0 ?z3t4
      case y3t4 => intro w_ hSw; (try dsimp only at hSw); go_simp; with_reducible rfl
      try simp only [List.getElem_toArray, List.getElem_cons_zero, List.getElem_cons_succ, Act.put, List.setIfInBounds_toArray, List.set_cons_zero, List.set_cons_succ]
      refine wpAnyH_take (i := 4) (v := ?v4t5) rfl (by kernel_rfl) (by kernel_rfl) (by kernel_rfl) (fun _ _ _ h => h) (Or.inl ⟨by rfl, ?y4t5⟩) S0 ?z4t5
      case y4t5 => intro w_ hSw; (try dsimp only at hSw); go_simp; with_reducible rfl
      try simp only [List.getElem_toArray, List.getElem_cons_zero, List.getElem_cons_succ, Act.put, List.setIfInBounds_toArray, List.set_cons_zero, List.set_cons_succ]
      refine wpAnyH_take (i := 5) (v := ?v5t6) rfl (by kernel_rfl) (by kernel_rfl) (by kernel_rfl) (fun _ _ _ h => h) (Or.inl ⟨by rfl, ?y5t6⟩) S0 ?z5t6
      case y5t6 => intro w_ hSw; (try dsimp only at hSw); go_simp; with_reducible rfl
      try simp only [List.getElem_toArray, List.getElem_cons_zero, List.getElem_cons_succ, Act.put, List.setIfInBounds_toArray, List.set_cons_zero, List.set_cons_succ]
      refine wpAnyH_take (i := 6) (v := ?v6t7) rfl (by kernel_rfl) (by kernel_rfl) (by kernel_rfl) (fun _ _ _ h => h) (Or.inl ⟨by rfl, ?y6t7⟩) S0 ?z6t7
      case y6t7 => intro w_ hSw; (try dsimp only at hSw); go_simp; with_reducible rfl
      try simp only [List.getElem_toArray, List.getElem_cons_zero, List.getElem_cons_succ, Act.put, List.setIfInBounds_toArray, List.set_cons_zero, List.set_cons_succ]
      refine wpAnyH_take (i := 7) (v := ?v7t8) rfl (by kernel_rfl) (by kernel_rfl) (by kernel_rfl) (fun _ _ _ h => h) (Or.inl ⟨by rfl, ?y7t8⟩) S0 ?z7t8
      case y7t8 => intro w_ hSw; (try dsimp only at hSw); go_simp; with_reducible rfl
      try simp only [List.getElem_toArray, List.getElem_cons_zero, List.getElem_cons_succ, Act.put, List.setIfInBounds_toArray, List.set_cons_zero, List.set_cons_succ]
      refine wpAnyH_take (i := 8) (v := ?v8t9) rfl (by kernel_rfl) (by kernel_rfl) (by kernel_rfl) (fun _ _ _ h => h) (Or.inl ⟨by rfl, ?y8t9⟩) S0 ?z8t9
      case y8t9 => intro w_ hSw; (try dsimp only at hSw); go_simp; with_reducible rfl
      try simp only [List.getElem_toArray, List.getElem_cons_zero, List.getElem_cons_succ, Act.put, List.setIfInBounds_toArray, List.set_cons_zero, List.set_cons_succ]
      refine wpAnyH_take (i := 9) (v := ?v9t10) rfl (by kernel_rfl) (by kernel_rfl) (by kernel_rfl) (fun _ _ _ h => h) (Or.inl ⟨by rfl, ?y9t10⟩) S0 ?z9t10
      case y9t10 => intro w_ hSw; (try dsimp only at hSw); go_simp; with_reducible rfl
      try simp only [List.getElem_toArray, List.getElem_cons_zero, List.getElem_cons_succ, Act.put, List.setIfInBounds_toArray, List.set_cons_zero, List.set_cons_succ]
      refine wpAnyH_take (i := 10) (v := ?v10t11) rfl (by kernel_rfl) (by kernel_rfl) (by kernel_rfl) (fun _ _ _ h => h) (Or.inl ⟨by rfl, ?y10t11⟩) S0 ?z10t11
      case y10t11 => intro w_ hSw; (try dsimp only at hSw); go_simp; with_reducible rfl
      try simp only [List.getElem_toArray, List.getElem_cons_zero, List.getElem_cons_succ, Act.put, List.setIfInBounds_toArray, List.set_cons_zero, List.set_cons_succ]
      refine wpAnyH_take (i := 11) (v := ?v11t12) rfl (by kernel_rfl) (by kernel_rfl) (by kernel_rfl) (fun _ _ _ h => h) (Or.inl ⟨by rfl, ?y11t12⟩) S0 ?z11t12
      case y11t12 => intro w_ hSw; (try dsimp only at hSw); go_simp; with_reducible rfl
      try simp only [List.getElem_toArray, List.getElem_cons_zero, List.getElem_cons_succ, Act.put, List.setIfInBounds_toArray, List.set_cons_zero, List.set_cons_succ]
      refine wpAnyH_done (by kernel_rfl) ?_ _
      clear S0 LK q0 q1
      have hJ3 : w2.drew.heap[bj]? = some (.cells #[.int .i64 ln, .int .i64 at', str goal] 132 (0, 0)) := hJ
      have hD3 : w2.drew.heap[D]? = some (.cells #[vl, .map (some mp), .slice (some ⟨g, 0, none⟩) d.jumps.length cj] 56 (0, 0)) := hD2
      have hF : w2.drew.heap[V.heap.size]? = some (.cells #[.int .i64 0, .int .i64 0] 26 (0, 0)) := HRS.out
      have HT3 := Lib.hid ((HTB.out).trans (Turn.of_below (show Below w2.heap.size w2 w2.drew from (Below.refl _ w2).drew)))
      have HD3 := Lib.hid ((HDL.out).past (show Below w2.heap.size w2 w2.drew from (Below.refl _ w2).drew))
      clear hJ hD2 HRS HTB HDL HBJ
      generalize w2.drew = w3 at *
      clear w2
      have j0 : w3.cell? ⟨bj, 0, none⟩ = some (.int .i64 ln) := by simp only [World.cell?, hJ3]; rfl
      have j1 : w3.cell? ⟨bj, 1, none⟩ = some (.int .i64 at') := by simp only [World.cell?, hJ3]; rfl
      cases fm with
      | none =>
        have f0 : w3.frozen? ⟨V.heap.size, 0, none⟩ = false := by simp only [World.frozen?, hF]; rfl
        have f1 : w3.frozen? ⟨V.heap.size, 1, none⟩ = false := by simp only [World.frozen?, hF]; rfl
        have c0 : w3.cell? ⟨V.heap.size, 0, none⟩ = some (.int .i64 0) := by simp only [World.cell?, hF]; rfl
        have c1 : w3.cell? ⟨V.heap.size, 1, none⟩ = some (.int .i64 0) := by simp only [World.cell?, hF]; rfl
        obtain ⟨y0, y1, gy⟩ := fault_set hF (.int .i64 121) (.int .i64 ln)
        have HT9 := Lib.hid ((HT3.out).trans (Turn.of_grown gy (fun k e => by cases e; exact .inr (.inr HLT.out.2.2))))
        have HE := Lib.hid (show R0 = .inr ln by
          rw [HR0.out, ← (HLN.out).1, List.drop_eq_getElem_cons hlt]
          have := HK.out
          rw [List.getElem?_eq_getElem hlt] at this
          rw [Option.some.inj this]
          unfold linkL
          simp only
          rw [← HFM.out])
        clear gy
        go_wp2_with fail
        refine bodyPost_ret (v := .agg #[.int .i64 121, .int .i64 ln]) (by simp [results, Tryz.results29, go_sem, y0, y1]) rfl ?_
        exact linked_no HE.out rfl HT9.out
      | some p =>
        obtain ⟨vl', vj', hD4, hl4, hj4⟩ := (HD3.out).cells
        rw [hD3] at hD4
        simp only [Option.some.injEq, Obj.cells.injEq, Array.mk.injEq, List.cons.injEq, and_true, true_and] at hD4
        obtain ⟨e1, e2⟩ := hD4
        subst e1
        simp only at hl4
        have hll := (HLN.out).2
        obtain ⟨gi, ci, hvl⟩ : ∃ gi ci, vl = .slice (some ⟨gi, 0, none⟩) l.length ci := by
          rcases hl4.2 with ⟨_, h0⟩ | ⟨gi, c, cur, e, _⟩
          · omega
          · exact ⟨gi, c, e⟩
        subst hvl
        obtain ⟨a, ha⟩ := Int.eq_ofNat_of_zero_le hjm.1
        have haL : a < l.length := by omega
        have hcap : l.length ≤ ci ∧ ci ≤ 9223372036854775807 := by
          rcases hl4.2 with ⟨h, _⟩ | ⟨g', c, cur, e, _, _, h1, h2, _⟩
          · cases h
          · cases e; unfold maxLen at h2; exact ⟨h1, h2⟩
        have hp := HM.out (goal, p) (by
          have := HFM.out
          unfold findM at this
          obtain ⟨e, he, h2⟩ := Option.map_eq_some_iff.1 this.symm
          have hm := List.mem_of_find?_eq_some he
          have hq := List.find?_some he
          simp only [beq_iff_eq] at hq
          rw [← hq, ← h2]
          exact hm)
        simp only at hp
        have hl5 : w3.drew.ownsRow rb 47 8 (.slice (some ⟨gi, 0, none⟩) l.length ci) l.length (icl l) := hl4
        have st := World.ownsRow.stored hl5 (a * 8 + 5) (.int .i64 (p - (a + 1)))
        have clx := World.ownsRow.cellAt hl5 (a * 8 + 5) (by omega)
        have fl := World.ownsRow.frozenAt hl5 (a * 8 + 5)
        rw [icl_off _ l a haL] at st
        rw [icl_get haL (by omega)] at clx
        have cl : w3.drew.cell? ⟨gi, a * 8 + 5, none⟩ = some (.int .i64 (ith l a).off) := clx
        have qD : w3.drew.cell? ⟨D, 0, none⟩ = some (.slice (some ⟨gi, 0, none⟩) l.length ci) := by simp only [World.cell?]; rw [show w3.drew.heap[D]? = _ from hD3]; rfl
        have qJ : w3.drew.cell? ⟨bj, 1, none⟩ = some (.int .i64 a) := by rw [← ha]; exact j1
        subst ha
        have L1 := (HD3.out).lt
        have hgi : rb ≤ gi := by
          rcases hl5.2 with ⟨h, _⟩ | ⟨g', c, cur, e, h, _⟩
          · cases h
          · cases e; exact h
        have gs := st.2
        have hDn : some D ≠ some gi := fun e => by have := Option.some.inj e; omega
        have hF5 : some V.heap.size ≠ some gi := by
          intro e
          have e := Option.some.inj e
          rcases hl4.2 with ⟨h, _⟩ | ⟨g', c, cur, e1, _, h, _⟩
          · cases h
          · cases e1
            rw [← e, hF] at h
            simp at h
        have hJn : some bj ≠ some gi := by
          intro e
          have e := Option.some.inj e
          rcases hl4.2 with ⟨h, _⟩ | ⟨g', c, cur, e1, _, h, _⟩
          · cases h
          · cases e1
            rw [← e, hJ3] at h
            simp at h
        have hD6 := (gs.block D (Array.getElem?_eq_some_iff.1 (show w3.drew.heap[D]? = _ from hD3)).1 hDn).trans (show w3.drew.heap[D]? = _ from hD3)
        have LN : Hid (LS V mp D rb (.slice (some ⟨g, 0, none⟩) d.jumps.length cj) d (k + 1) (w3.drew.setCell ⟨gi, a * 8 + 5, none⟩ (.int .i64 (p - (a + 1)))) (l.set a { ith l a with off := p - (a + 1) })) := Lib.hid (by
          refine ⟨⟨⟨_, _, hD6, ?_, ?_⟩, ?_, ⟨L1.1, L1.2.1, Nat.le_trans L1.2.2 gs.size⟩, ?_⟩, ?_, by simpa using hll, ?_, ?_, ?_⟩
          · have := st.1
            unfold OwnI
            simpa using this
          · subst e2
            refine OwnJ.kept (show OwnJ w3.drew rb _ _ from hj4) gs ?_
            refine .inr (fun e => ?_)
            have e := Option.some.inj e
            simp only at e
            rcases hl4.2 with ⟨h, _⟩ | ⟨g', c, cur, e1, _, h, _⟩
            · cases h
            · rcases hj4.2 with ⟨h', _⟩ | ⟨g2, c2, cur2, e3, _, h2, _⟩
              · cases h'
              · cases e1
                cases e3
                rw [e] at h2
                rw [h2] at h
                simp at h
          · exact (show SMap w3.drew mp _ from (HD3.out).places).kept gs (fun e => by have := Option.some.inj e; omega)
          · simpa using (HD3.out).len
          · rw [← (HLN.out).1, List.drop_eq_getElem_cons hlt]
            have := HK.out
            rw [List.getElem?_eq_getElem hlt] at this
            rw [Option.some.inj this]
            conv => rhs; unfold linkL
            simp only
            rw [← HFM.out]
            simp
          · exact (gs.block _ (Array.getElem?_eq_some_iff.1 (show w3.drew.heap[_]? = _ from hF)).1 hF5).trans (show w3.drew.heap[_]? = _ from hF)
          · exact ((HT3.out).trans (Turn.of_below (show Below w3.heap.size w3 w3.drew from (Below.refl _ w3).drew))).trans (Turn.of_grown gs (fun k e => by cases e; exact .inr (.inr hgi)))
          · simp only [World.cell?, hD6]; rfl)
        have S5 : (w3.drew.setCell ⟨gi, a * 8 + 5, none⟩ (.int .i64 (p - (a + 1)))).cell? ⟨D, 0, none⟩ = some (.slice (some ⟨gi, 0, none⟩) l.length ci) ∧ (w3.drew.setCell ⟨gi, a * 8 + 5, none⟩ (.int .i64 (p - (a + 1)))).cell? ⟨bj, 1, none⟩ = some (.int .i64 a) := ⟨gs.cell qD hDn, gs.cell qJ hJn⟩
        have a1 : (a : Int) < l.length := by omega
        have a2 : (a : Int) ≤ 4096 := by have := (HD3.out).len.1; simp only at this; omega
        have hw1 : IntKind.i64.wrap ((a : Int) + 1) = (a : Int) + 1 := by rw [IntKind.wrap_i64]; omega
        have hw2 : IntKind.i64.wrap (p - ((a : Int) + 1)) = p - ((a : Int) + 1) := by rw [IntKind.wrap_i64]; omega
        generalize (ith l a).off = oldoff at cl
        have HLL := Lib.hid hll
        clear hD6 gs st hl5 hF5 hJn hDn hF hD3 hJ3 hj4 hl4 j0 j1 HT3 HD3 e2 clx hll
        generalize hLN : l.set a { ith l a with off := p - (a + 1) } = l' at LN
        clear hLN
        go_wp2_with fail
        refine wp_region_held_drew (S := fun w' => w'.cell? ⟨D, 0, none⟩ = some (.slice (some ⟨gi, 0, none⟩) l.length ci) ∧ w'.cell? ⟨bj, 1, none⟩ = some (.int .i64 a)) (by kernel_rfl) ⟨qD, qJ⟩ (fun S0 => ?_)
        refine wpAnyH_take (i := 0) (v := ?v0t13) rfl (by kernel_rfl) (by kernel_rfl) (by kernel_rfl) (fun _ _ _ h => h) (Or.inl ⟨by rfl, ?y0t13⟩) S0 ?z0t13
        case y0t13 => intro w_ hSw; (try dsimp only at hSw); go_simp; with_reducible rfl
        try simp only [List.getElem_toArray, List.getElem_cons_zero, List.getElem_cons_succ, Act.put, List.setIfInBounds_toArray, List.set_cons_zero, List.set_cons_succ]
        refine wpAnyH_take (i := 1) (v := ?v1t14) rfl (by kernel_rfl) (by kernel_rfl) (by kernel_rfl) (fun _ _ _ h => h) (Or.inl ⟨by rfl, ?y1t14⟩) S0 ?z1t14
        case y1t14 => intro w_ hSw; (try dsimp only at hSw); go_simp; with_reducible rfl
        try simp only [List.getElem_toArray, List.getElem_cons_zero, List.getElem_cons_succ, Act.put, List.setIfInBounds_toArray, List.set_cons_zero, List.set_cons_succ]
        refine wpAnyH_take (i := 2) (v := ?v2t15) rfl (by kernel_rfl) (by kernel_rfl) (by kernel_rfl) (fun _ _ _ h => h) (Or.inl ⟨by rfl, ?y2t15⟩) S0 ?z2t15
        case y2t15 => intro w_ hSw; (try dsimp only at hSw); go_simp; with_reducible rfl
        try simp only [List.getElem_toArray, List.getElem_cons_zero, List.getElem_cons_succ, Act.put, List.setIfInBounds_toArray, List.set_cons_zero, List.set_cons_succ]
        refine wpAnyH_take (i := 3) (v := ?v3t16) rfl (by kernel_rfl) (by kernel_rfl) (by kernel_rfl) (fun _ _ _ h => h) (Or.inl ⟨by rfl, ?y3t16⟩) S0 ?z3t16
        case y3t16 => intro w_ hSw; (try dsimp only at hSw); go_simp; with_reducible rfl
        try simp only [List.getElem_toArray, List.getElem_cons_zero, List.getElem_cons_succ, Act.put, List.setIfInBounds_toArray, List.set_cons_zero, List.set_cons_succ]
        refine wpAnyH_take (i := 4) (v := ?v4t17) rfl (by kernel_rfl) (by kernel_rfl) (by kernel_rfl) (fun _ _ _ h => h) (Or.inl ⟨by rfl, ?y4t17⟩) S0 ?z4t17
        case y4t17 => intro w_ hSw; (try dsimp only at hSw); go_simp; with_reducible rfl
        try simp only [List.getElem_toArray, List.getElem_cons_zero, List.getElem_cons_succ, Act.put, List.setIfInBounds_toArray, List.set_cons_zero, List.set_cons_succ]
        refine wpAnyH_take (i := 5) (v := ?v5t18) rfl (by kernel_rfl) (by kernel_rfl) (by kernel_rfl) (fun _ _ _ h => h) (Or.inl ⟨by rfl, ?y5t18⟩) S0 ?z5t18
        case y5t18 => intro w_ hSw; (try dsimp only at hSw); go_simp; with_reducible rfl
        try simp only [List.getElem_toArray, List.getElem_cons_zero, List.getElem_cons_succ, Act.put, List.setIfInBounds_toArray, List.set_cons_zero, List.set_cons_succ]
        refine wpAnyH_take (i := 6) (v := ?v6t19) rfl (by kernel_rfl) (by kernel_rfl) (by kernel_rfl) (fun _ _ _ h => h) (Or.inl ⟨by rfl, ?y6t19⟩) S0 ?z6t19
        case y6t19 => intro w_ hSw; (try dsimp only at hSw); go_simp; with_reducible rfl
        try simp only [List.getElem_toArray, List.getElem_cons_zero, List.getElem_cons_succ, Act.put, List.setIfInBounds_toArray, List.set_cons_zero, List.set_cons_succ]
        refine wpAnyH_take (i := 7) (v := ?v7t20) rfl (by kernel_rfl) (by kernel_rfl) (by kernel_rfl) (fun _ _ _ h => h) (Or.inl ⟨by rfl, ?y7t20⟩) S0 ?z7t20
        case y7t20 => intro w_ hSw; (try dsimp only at hSw); go_simp; with_reducible rfl
        try simp only [List.getElem_toArray, List.getElem_cons_zero, List.getElem_cons_succ, Act.put, List.setIfInBounds_toArray, List.set_cons_zero, List.set_cons_succ]
        refine wpAnyH_take (i := 8) (v := ?v8t21) rfl (by kernel_rfl) (by kernel_rfl) (by kernel_rfl) (fun _ _ _ h => h) (Or.inl ⟨by rfl, ?y8t21⟩) S0 ?z8t21
        case y8t21 => intro w_ hSw; (try dsimp only at hSw); go_simp; with_reducible rfl
        try simp only [List.getElem_toArray, List.getElem_cons_zero, List.getElem_cons_succ, Act.put, List.setIfInBounds_toArray, List.set_cons_zero, List.set_cons_succ]
        refine wpAnyH_take (i := 9) (v := ?v9t22) rfl (by kernel_rfl) (by kernel_rfl) (by kernel_rfl) (fun _ _ _ h => h) (Or.inl ⟨by rfl, ?y9t22⟩) S0 ?z9t22
        case y9t22 => intro w_ hSw; (try dsimp only at hSw); go_simp; with_reducible rfl
        try simp only [List.getElem_toArray, List.getElem_cons_zero, List.getElem_cons_succ, Act.put, List.setIfInBounds_toArray, List.set_cons_zero, List.set_cons_succ]
        refine wpAnyH_take (i := 10) (v := ?v10t23) rfl (by kernel_rfl) (by kernel_rfl) (by kernel_rfl) (fun _ _ _ h => h) (Or.inl ⟨by rfl, ?y10t23⟩) S0 ?z10t23
        case y10t23 => intro w_ hSw; (try dsimp only at hSw); go_simp; with_reducible rfl
        try simp only [List.getElem_toArray, List.getElem_cons_zero, List.getElem_cons_succ, Act.put, List.setIfInBounds_toArray, List.set_cons_zero, List.set_cons_succ]
        refine wpAnyH_take (i := 11) (v := ?v11t24) rfl (by kernel_rfl) (by kernel_rfl) (by kernel_rfl) (fun _ _ _ h => h) (Or.inl ⟨by rfl, ?y11t24⟩) S0 ?z11t24
        case y11t24 => intro w_ hSw; (try dsimp only at hSw); go_simp; with_reducible rfl
        try simp only [List.getElem_toArray, List.getElem_cons_zero, List.getElem_cons_succ, Act.put, List.setIfInBounds_toArray, List.set_cons_zero, List.set_cons_succ]
        refine wpAnyH_take (i := 12) (v := ?v12t25) rfl (by kernel_rfl) (by kernel_rfl) (by kernel_rfl) (fun _ _ _ h => h) (Or.inl ⟨by rfl, ?y12t25⟩) S0 ?z12t25
        case y12t25 => intro w_ hSw; (try dsimp only at hSw); go_simp; with_reducible rfl
        try simp only [List.getElem_toArray, List.getElem_cons_zero, List.getElem_cons_succ, Act.put, List.setIfInBounds_toArray, List.set_cons_zero, List.set_cons_succ]
        refine wpAnyH_ready (rs := [13]) (by kernel_rfl) (by simp) ?_
        refine AllReadyH.cons rfl (fun K hK => ?_) AllReadyH.nil
        go_simp
        refine hK.out _ _ S5 (fun _ => ?_)
        clear hK K
        try simp only [List.getElem_toArray, List.getElem_cons_zero, List.getElem_cons_succ, Act.put, List.setIfInBounds_toArray, List.set_cons_zero, List.set_cons_succ]
        refine wpAnyH_done (by kernel_rfl) ?_ _
        clear S0 S5 qD qJ cl fl
        have n1 : (k : Int) + 1 ≤ 9223372036854775807 := by have := HN.out; omega
        go_wp2_with fail
        go_roundw
        case rel => exact ⟨k + 1, l', by omega, by simp, LN⟩
        all_goals
          simp only [intOf]
          omega
    · have hd : decide (k < d.jumps.length) = false := by simpa using hlt
      have hkn : k = d.jumps.length := by omega
      have LL := HL.out
      have e1 : linkL d.marks l [] = linkL d.marks d.list d.jumps := by have := LL.left; rwa [hkn, List.drop_length] at this
      have r0 : wr.cell? ⟨V.heap.size, 0, none⟩ = some (.int .i64 0) := by simp only [World.cell?, LL.res]; rfl
      have r1 : wr.cell? ⟨V.heap.size, 1, none⟩ = some (.int .i64 0) := by simp only [World.cell?, LL.res]; rfl
      have f0 : wr.frozen? ⟨V.heap.size, 0, none⟩ = false := by simp [World.frozen?, LL.res]
      have f1 : wr.frozen? ⟨V.heap.size, 1, none⟩ = false := by simp [World.frozen?, LL.res]
      have HE := Lib.hid (show R0 = .inl l by rw [HR0.out, ← e1]; rfl)
      obtain ⟨y0, y1, gy⟩ := fault_set LL.res (.int .i64 0) (.int .i64 0)
      have HD9 := Lib.hid (LL.draft.other LL.res (by decide) (by decide) (by decide) gy)
      have HT9 := Lib.hid (LL.turn.trans (Turn.of_grown gy (fun k e => by cases e; exact .inr (.inr HLT.out.2.2))))
      clear LL e1 gy
      go_wp2_with fail
      refine bodyPost_ret (v := .agg #[.int .i64 0, .int .i64 0]) (by simp [results, Tryz.results29, go_sem, y0, y1]) rfl ?_
      exact linked_ok HE.out rfl HD9.out HT9.out
end Go.Proofs.YthfkmackodbmkaaGreatDoor
