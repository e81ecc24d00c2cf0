/- The document's rows of labels and of jumps. -/
import Derived.Test.YthfkmackodbmkaaGreatDoorTextRefA
import Derived.Test.YthfkmackodbmkaaGreatDoorTextDraft
import Derived.Laws.OwnMore
import Derived.Test.YthfkmackodbmkaaGreatDoorTextRefInst
import Derived.Test.YthfkmackodbmkaaGreatDoorTextRun
import Derived.Test.YthfkmackodbmkaaGreatDoorTextParse
namespace Go.Proofs.YthfkmackodbmkaaGreatDoor
open Go.RowKit
set_option linter.unusedVariables false
set_option linter.unusedSimpArgs false
set_option maxRecDepth 100000
set_option maxHeartbeats 2000000

/-- Own rows of other types are other blocks. -/
theorem own_ne {w : World} {B t1 t2 s1 s2 n1 n2 : Nat} {v1 v2 : Value} {x1 x2 : List Value} (h1 : w.ownsRow B t1 s1 v1 n1 x1) (h2 : w.ownsRow B t2 s2 v2 n2 x2) (hne : t1 ≠ t2) : v1.ownBlock = none ∨ v1.ownBlock ≠ v2.ownBlock := by
  rcases h1.2 with ⟨rfl, _⟩ | ⟨g, c, cur, rfl, _, hg, _⟩
  · exact .inl rfl
  · rcases h2.2 with ⟨rfl, _⟩ | ⟨g', c', cur', rfl, _, hg', _⟩
    · exact .inr (by simp [Value.ownBlock])
    · refine .inr (fun e => ?_)
      have e := Option.some.inj e
      simp only at e
      subst e
      rw [hg] at hg'
      simp only [Option.some.injEq, Obj.cells.injEq] at hg'
      exact hne hg'.2.1
def mcells (e : Str × Int) : List Value := [str e.1, .int .i64 e.2]
def mcl (l : List (Str × Int)) : List Value := l.flatMap mcells
theorem mcl_append (a b : List (Str × Int)) : mcl (a ++ b) = mcl a ++ mcl b := by simp [mcl]
theorem mcl_get : ∀ (l : List (Str × Int)) (k : Nat) (j : Str × Int) (i : Nat), l[k]? = some j → i < 2 → (mcl l)[k * 2 + i]? = (mcells j)[i]?
  | [], _, _, _, h, _ => by simp at h
  | x :: l, 0, j, i, h, hi => by
    simp at h; subst h
    simp only [mcl, List.flatMap_cons, Nat.zero_mul, Nat.zero_add]
    rw [List.getElem?_append_left (by simpa [mcells] using hi)]
  | x :: l, k + 1, j, i, h, hi => by
    have := mcl_get l k j i (by simpa using h) hi
    simp only [mcl, List.flatMap_cons] at this ⊢
    rw [List.getElem?_append_right (by simp [mcells]; omega), ← this]
    congr 1
    simp [mcells]; omega
/-- v is a row of labels of the call's own. -/
def OwnM (w : World) (base : Nat) (v : Value) (l : List (Str × Int)) : Prop := w.ownsRow base 143 2 v l.length (mcl l)
theorem markInfo : ∃ i, Tryz.prog.info? 143 = some i ∧ i.zero = some (.agg #[str [], .int .i64 0]) ∧ i.size = 2 ∧ i.bytes = 24 := ⟨_, rfl, rfl, rfl, rfl⟩
theorem OwnM.shape {w : World} {base : Nat} {v : Value} {l : List (Str × Int)} (h : OwnM w base v l) : ∃ ao cap, v = .slice ao l.length cap := by
  rcases h.2 with ⟨rfl, h0⟩ | ⟨g, c, cur, rfl, _⟩
  · exact ⟨none, 0, by rw [h0]⟩
  · exact ⟨_, c, rfl⟩
theorem OwnM.past {w w' : World} {base : Nat} {v : Value} {l : List (Str × Int)} (h : OwnM w base v l) (hb : Below w.heap.size w w') : OwnM w' base v l :=
  World.ownsRow.kept h (row := none) ⟨hb.os, hb.tape, hb.output, hb.size, fun k hk _ => hb.block k hk⟩ (by cases v.ownBlock <;> simp)
theorem OwnM.at {w : World} {base : Nat} {ao : Option Addr} {n cap : Nat} {l : List (Str × Int)} (h : OwnM w base (.slice ao n cap) l) (hp : 0 < l.length) :
    ∃ g, ao = some ⟨g, 0, none⟩ ∧ base ≤ g ∧ n ≤ cap ∧ cap ≤ 9223372036854775807 ∧ ∀ k j, l[k]? = some j → w.cell? ⟨g, k * 2, none⟩ = some (str j.1) ∧ w.cell? ⟨g, k * 2 + 1, none⟩ = some (.int .i64 j.2) := by
  rcases h.2 with ⟨_, h0⟩ | ⟨g, c, cur, hv, hb, hg, hn, hc, hs, ht⟩
  · omega
  · cases hv
    unfold maxLen at hc
    refine ⟨g, rfl, hb, hn, hc, fun k j hj => ?_⟩
    have hk : k < l.length := (List.getElem?_eq_some_iff.1 hj).1
    have get : ∀ i, i < 2 → cur[k * 2 + i]? = (mcells j)[i]? := by
      intro i hi
      rw [← mcl_get l k j i hj hi, ← ht, List.getElem?_take, if_pos (by omega)]
      simp
    have g0 := get 0 (by omega)
    have g1 := get 1 (by omega)
    simp [mcells] at g0 g1
    simp [World.cell?, hg, g0, g1]
theorem wpList_append_m (w : World) {ops : Array Oper} {rest : List Oper} {o : Oper} {a : Act} {Q : Exit → Act → World → Prop} (hgd : o.guard = none) (s x : Operand)
    (ho : o.op = .call { callee := .builtin .append, args := #[s, x], argTypes := #[134, 134] })
    (base : Nat) (v : Value) (xs : List (Str × Int)) (hs : a.eval s = v) (hown : OwnM w base v xs) (b : Nat) (y : Str × Int) (hx : a.eval x = .slice (some ⟨b, 0, none⟩) 1 1) (hy : w.heap[b]? = some (.cells (mcells y).toArray 143 (0, 0)))
    (hlen : xs.length ≤ 1000000000) (hbase : base ≤ w.heap.size)
    (h : ∀ v' w', OwnM w' base v' (xs ++ [y]) → w.grownBy w' v.ownBlock → wpList Tryz.prog ops Q rest (a.put o.dst v') w') : wpList Tryz.prog ops Q (o :: rest) a w := by
  obtain ⟨i, hi, hz, hs1, hb1⟩ := markInfo
  refine wpList_append_own w hgd s x 134 ho base 143 i _ 2 24 Tryz.underlying134 hi hz hs1 hb1 rfl (by decide) v _ _ hs hown ⟨b, 0, none⟩ 1 1 (mcells y) hx rfl
    (fun j u hj => by
      have : (mcells y).toArray[j]? = some u := by simpa using hj
      rw [show Addr.add ⟨b, 0, none⟩ j = ⟨b, 0 + j, none⟩ from add_none b 0 j]
      simp [World.cell?, hy, this]) (fun u hu => by simp [mcells] at hu; rcases hu with rfl | rfl <;> rfl) (by unfold maxLen; omega) (by omega) hbase (fun v' w' ho' hg _ => h v' w' ?_ hg)
  unfold OwnM
  rw [List.length_append, mcl_append]
  simpa [mcl] using ho'
/-- A jump as the document has it: its place, its line, its label. -/
def dcells (j : Int × Int × Str) : List Value := [.int .i64 j.2.1, .int .i64 j.1, str j.2.2]
def dcl (l : List (Int × Int × Str)) : List Value := l.flatMap dcells
theorem dcl_append (a b : List (Int × Int × Str)) : dcl (a ++ b) = dcl a ++ dcl b := by simp [dcl]
theorem dcl_get : ∀ (l : List (Int × Int × Str)) (k : Nat) (j : Int × Int × Str) (i : Nat), l[k]? = some j → i < 3 → (dcl l)[k * 3 + i]? = (dcells j)[i]?
  | [], _, _, _, h, _ => by simp at h
  | x :: l, 0, j, i, h, hi => by
    simp at h; subst h
    simp only [dcl, List.flatMap_cons, Nat.zero_mul, Nat.zero_add]
    rw [List.getElem?_append_left (by simpa [dcells] using hi)]
  | x :: l, k + 1, j, i, h, hi => by
    have := dcl_get l k j i (by simpa using h) hi
    simp only [dcl, List.flatMap_cons] at this ⊢
    rw [List.getElem?_append_right (by simp [dcells]; omega), ← this]
    congr 1
    simp [dcells]; omega
def OwnD (w : World) (base : Nat) (v : Value) (l : List (Int × Int × Str)) : Prop := w.ownsRow base 147 3 v l.length (dcl l)
theorem djumpInfo : ∃ i, Tryz.prog.info? 147 = some i ∧ i.zero = some (.agg #[.int .i64 0, .int .i64 0, str []]) ∧ i.size = 3 ∧ i.bytes = 32 := ⟨_, rfl, rfl, rfl, rfl⟩
theorem OwnD.shape {w : World} {base : Nat} {v : Value} {l : List (Int × Int × Str)} (h : OwnD w base v l) : ∃ ao cap, v = .slice ao l.length cap := by
  rcases h.2 with ⟨rfl, h0⟩ | ⟨g, c, cur, rfl, _⟩
  · exact ⟨none, 0, by rw [h0]⟩
  · exact ⟨_, c, rfl⟩
theorem OwnD.past {w w' : World} {base : Nat} {v : Value} {l : List (Int × Int × Str)} (h : OwnD w base v l) (hb : Below w.heap.size w w') : OwnD w' base v l :=
  World.ownsRow.kept h (row := none) ⟨hb.os, hb.tape, hb.output, hb.size, fun k hk _ => hb.block k hk⟩ (by cases v.ownBlock <;> simp)
theorem OwnD.at {w : World} {base : Nat} {ao : Option Addr} {n cap : Nat} {l : List (Int × Int × Str)} (h : OwnD w base (.slice ao n cap) l) (hp : 0 < l.length) :
    ∃ g, ao = some ⟨g, 0, none⟩ ∧ base ≤ g ∧ n ≤ cap ∧ cap ≤ 9223372036854775807 ∧ ∀ k j, l[k]? = some j → w.cell? ⟨g, k * 3, none⟩ = some (.int .i64 j.2.1) ∧ w.cell? ⟨g, k * 3 + 1, none⟩ = some (.int .i64 j.1) ∧ w.cell? ⟨g, k * 3 + 2, none⟩ = some (str j.2.2) := by
  rcases h.2 with ⟨_, h0⟩ | ⟨g, c, cur, hv, hb, hg, hn, hc, hs, ht⟩
  · omega
  · cases hv
    unfold maxLen at hc
    refine ⟨g, rfl, hb, hn, hc, fun k j hj => ?_⟩
    have hk : k < l.length := (List.getElem?_eq_some_iff.1 hj).1
    have get : ∀ i, i < 3 → cur[k * 3 + i]? = (dcells j)[i]? := by
      intro i hi
      rw [← dcl_get l k j i hj hi, ← ht, List.getElem?_take, if_pos (by omega)]
      simp
    have g0 := get 0 (by omega)
    have g1 := get 1 (by omega)
    have g2 := get 2 (by omega)
    simp [dcells] at g0 g1 g2
    simp [World.cell?, hg, g0, g1, g2]
theorem wpList_append_d (w : World) {ops : Array Oper} {rest : List Oper} {o : Oper} {a : Act} {Q : Exit → Act → World → Prop} (hgd : o.guard = none) (s x : Operand)
    (ho : o.op = .call { callee := .builtin .append, args := #[s, x], argTypes := #[133, 133] })
    (base : Nat) (v : Value) (xs : List (Int × Int × Str)) (hs : a.eval s = v) (hown : OwnD w base v xs) (b : Nat) (y : Int × Int × Str) (hx : a.eval x = .slice (some ⟨b, 0, none⟩) 1 1) (hy : w.heap[b]? = some (.cells (dcells y).toArray 147 (0, 0)))
    (hlen : xs.length ≤ 1000000000) (hbase : base ≤ w.heap.size)
    (h : ∀ v' w', OwnD w' base v' (xs ++ [y]) → w.grownBy w' v.ownBlock → wpList Tryz.prog ops Q rest (a.put o.dst v') w') : wpList Tryz.prog ops Q (o :: rest) a w := by
  obtain ⟨i, hi, hz, hs1, hb1⟩ := djumpInfo
  refine wpList_append_own w hgd s x 133 ho base 147 i _ 3 32 Tryz.underlying133 hi hz hs1 hb1 rfl (by decide) v _ _ hs hown ⟨b, 0, none⟩ 1 1 (dcells y) hx rfl
    (fun j u hj => by
      have : (dcells y).toArray[j]? = some u := by simpa using hj
      rw [show Addr.add ⟨b, 0, none⟩ j = ⟨b, 0 + j, none⟩ from add_none b 0 j]
      simp [World.cell?, hy, this]) (fun u hu => by simp [dcells] at hu; rcases hu with rfl | rfl | rfl <;> rfl) (by unfold maxLen; omega) (by omega) hbase (fun v' w' ho' hg _ => h v' w' ?_ hg)
  unfold OwnD
  rw [List.length_append, dcl_append]
  simpa [dcl] using ho'
/-- Where a label stands; none: -1. -/
def findV (l : List (Str × Int)) (s : Str) : Int := (findM l s).getD (-1)
theorem findM_at (s : Str) {l : List (Str × Int)} {k : Nat} {e : Str × Int} (h : l[k]? = some e) : findM (l.drop k) s = if e.1 = s then some e.2 else findM (l.drop (k + 1)) s := by
  obtain ⟨hk, he⟩ := List.getElem?_eq_some_iff.1 h
  rw [List.drop_eq_getElem_cons hk, he]
  unfold findM
  rw [List.find?_cons]
  by_cases hq : e.1 = s
  · simp [hq]
  · have : (e.1 == s) = false := by simpa using hq
    rw [this]
    simp [hq]
theorem refFind {w : World} {B : Nat} {v : Value} {l : List (Str × Int)} (h : OwnM w B v l) (s : Str) (hl : l.length ≤ 1000000000) :
    Calls Tryz.prog 71 #[v, str s] w fun e w' => e = .returned (.int .i64 (findV l s)) ∧ w = w' := by
  obtain ⟨ao, cap, hv⟩ := h.shape
  subst hv
  have HH := Lib.hid h
  obtain ⟨R, hR⟩ : ∃ R, R = findV l s := ⟨_, rfl⟩
  rw [← hR]
  have HR := Lib.hid hR
  clear h hR
  go_enter Tryz.func71, Tryz.ntmps71
  go_wp2_with fail
  go_loopw [5] (fun i wr => ∃ k : Nat, k ≤ l.length ∧ i = .int .i64 k ∧ Hid (findM l s = findM (l.drop k) s) ∧ wr = w) (fun i _ => l.length - (intOf i).toNat)
  case atStart => exact ⟨0, Nat.zero_le _, rfl, Lib.hid rfl, rfl⟩
  case round =>
    obtain ⟨k, hk, rfl, HK, rfl⟩ := hrel
    by_cases hlt : k < l.length
    · have hd : decide ((k : Int) < l.length) = true := by simp; omega
      have hd2 : decide (k < l.length) = true := by simpa using hlt
      obtain ⟨g, rfl, _, z1, z2, cells⟩ := (HH.out).at (by omega)
      obtain ⟨e, he⟩ : ∃ e, l[k]? = some e := ⟨l[k], by simp [hlt]⟩
      obtain ⟨c0, c1⟩ := cells k e he
      have k0 : 0 ≤ (k : Int) := by omega
      have k1 : (k : Int) < (l.length : Int) := by omega
      have HF := Lib.hid (findM_at s he)
      clear cells he
      obtain ⟨et, en⟩ := e
      simp only at c0 c1 HF
      cases q : (et == s) with
      | true =>
        have HR2 := Lib.hid (show R = en by rw [HR.out, findV, HK.out, HF.out, if_pos (eq_of_beq q)]; rfl)
        go_wp2_with fail
        go_ret
        exact ⟨by rw [HR2.out]; rfl, rfl⟩
      | false =>
        have nq : ¬ et = s := by simpa using q
        have HK2 := Lib.hid (show findM l s = findM (l.drop (k + 1)) s by rw [HK.out, HF.out, if_neg nq])
        clear nq
        go_wp2_with fail
        go_roundw
        case rel => exact ⟨k + 1, by omega, by go_num, HK2, by trivial⟩
        case measure =>
          simp only [intOf]
          omega
    · have hd : decide ((k : Int) < l.length) = false := by simp; omega
      have hd2 : decide (k < l.length) = false := by simpa using hlt
      have hkn : k = l.length := by omega
      have HR2 := Lib.hid (show R = -1 by rw [HR.out, findV, HK.out, hkn, List.drop_length]; rfl)
      clear hkn
      go_wp2_with fail
      go_ret
      exact ⟨by rw [HR2.out]; rfl, rfl⟩
end Go.Proofs.YthfkmackodbmkaaGreatDoor
/- A line, as the document goes through it, as plain lists; what stands in memory while it does. -/
namespace Go.Proofs.YthfkmackodbmkaaGreatDoor
open Go.RowKit
set_option linter.unusedVariables false
set_option linter.unusedSimpArgs false
set_option maxRecDepth 100000
set_option maxHeartbeats 2000000

theorem toks_short : ∀ (s cur : Str) (ts : List Str), toks cur s = some ts → ∀ t ∈ ts, t.length ≤ cur.length + s.length := by
  intro s
  induction s with
  | nil =>
    intro cur ts h t ht
    simp only [toks, Option.some.injEq] at h
    subst h
    unfold flush at ht
    split at ht
    · cases ht
    · simp only [List.mem_singleton] at ht
      subst ht
      simp
  | cons b s ih =>
    intro cur ts h t ht
    have fl : ∀ ts', (∀ t ∈ ts', t.length ≤ s.length + 1) → ∀ t ∈ flush cur ts', t.length ≤ cur.length + (s.length + 1) := by
      intro ts' h' t ht
      unfold flush at ht
      split at ht
      · have := h' t ht; omega
      · rcases List.mem_cons.1 ht with rfl | ht
        · omega
        · have := h' t ht; omega
    simp only [List.length_cons]
    unfold toks at h
    split at h
    · have := ih _ ts h t ht
      simp at this
      omega
    · split at h
      · cases hr : toks [] s with
        | none => rw [hr] at h; cases h
        | some ts' =>
          rw [hr, Option.map_some, Option.some.injEq] at h
          subst h
          exact fl ts' (fun t ht => by have := ih [] ts' hr t ht; simp at this; omega) t ht
      · split at h
        · cases hr : toks [] s with
          | none => rw [hr] at h; cases h
          | some ts' =>
            rw [hr, Option.map_some, Option.some.injEq] at h
            subst h
            refine fl ([b] :: ts') (fun t ht => ?_) t ht
            rcases List.mem_cons.1 ht with rfl | ht
            · simp
            · have := ih [] ts' hr t ht; simp at this; omega
        · cases h
theorem tokL_short {s : Str} {ts : List Str} (h : tokL s = some ts) : ∀ t ∈ ts, t.length ≤ s.length := by
  intro t ht
  have h1 := toks_short _ [] ts h t ht
  have h2 := (take_while (· != 35) s).2.2
  unfold cutHash at h1
  simp at h1
  omega
theorem step_none {d : Dr} {n : Int} {l : Str} (h : tokL l = none) : stepL d n l = .inr 120 := by
  unfold stepL told; rw [h]; rfl
theorem step_empty {d : Dr} {n : Int} {l : Str} (h : tokL l = some []) : stepL d n l = .inl d := by
  unfold stepL told
  rw [h, Option.bind_some]
  simp [rdLine, addL, nothing, noIns]
theorem step_label {d : Dr} {n : Int} {l : Str} {u : Str} (h : tokL l = some [u, [58]]) (hw : labelOk u = true) :
    stepL d n l = if (findM d.marks u).isSome then .inr 121 else .inl { d with marks := d.marks ++ [(u, (d.list.length : Int))] } := by
  have hne : u ≠ [] := by rintro rfl; cases hw
  unfold stepL told
  rw [h, Option.bind_some]
  have : rdLine [u, [58]] = some ⟨u, noIns, []⟩ := by
    unfold rdLine
    rw [if_neg (by simp), if_pos (by simp [isLab])]
    show (if labelOk u = true then some (u, [[58]]) else none).map _ = _
    rw [if_pos hw]; rfl
  rw [this]
  simp [addL, hne]
theorem colon_noneW {u : Str} {x : (Ins × Str) × List Str} (h : rdW [u, [58]] = some x) : x.2 ≠ [] := by
  change (Option.bind (entry u) _) = _ at h
  cases he : entry u with
  | none => rw [he] at h; cases h
  | some e =>
    rw [he, Option.bind_some] at h
    obtain ⟨i, k⟩ := e
    have c1 : rdReg [[58]] = none := by decide
    have c2 : rdOf [[91]] [[58]] = none := by decide
    have c3 : rdOf [[43], [45]] [[58]] = none := by decide
    have c4 : rdLabel [[58]] = none := by decide
    cases k with
    | exit =>
      simp only [rdKind] at h
      cases h; simp
    | reckon => simp [rdKind, rdReckon, rdTarget, c1] at h
    | target => simp [rdKind, rdTarget, c1] at h
    | ask => simp [rdKind, rdAsk, rdReckon, rdTarget, c1] at h
    | load => simp [rdKind, rdLoad, rdTarget, c1] at h
    | put => simp [rdKind, rdPut, rdCell, c2] at h
    | jump => simp [rdKind, rdJump, c3, c4] at h
theorem isLab_two {ts : List Str} (h : isLab ts = true) : ∃ u, ts = [u, [58]] := by
  unfold isLab at h
  simp only [Bool.and_eq_true, decide_eq_true_eq] at h
  match ts, h with
  | [a, b], ⟨_, h2⟩ => simp at h2; subst h2; exact ⟨a, rfl⟩
theorem rdIns_w (ts : List Str) : rdIns ts = (rdW ts).bind fun x => if right x.1.1 then some x else none := by
  cases ts with
  | nil => rfl
  | cons u r =>
    show (entry u).bind _ = ((entry u).bind _).bind _
    cases entry u <;> rfl
/-- The document's test whether a line is a label's. -/
def labD (ts : List Str) : Prop := ts.length = 2 ∧ nx ts 1 = [58] ∧ labelOk (nx ts 0) = true
theorem step_bad {d : Dr} {n : Int} {l : Str} {ts : List Str} (h : tokL l = some ts) (h0 : ts ≠ []) (hn : ¬ labD ts) (hb : ∀ x, rdW ts = some x → x.2 = [] → right x.1.1 = false) : stepL d n l = .inr 120 := by
  unfold stepL told
  rw [h, Option.bind_some]
  have : rdLine ts = none := by
    unfold rdLine
    rw [if_neg h0]
    split
    · rename_i hi
      obtain ⟨u, rfl⟩ := isLab_two hi
      have hu : ¬ labelOk u = true := fun e => hn ⟨rfl, rfl, e⟩
      show (if labelOk u = true then some (u, [[58]]) else none).map _ = _
      rw [if_neg hu]; rfl
    · rw [rdIns_w]
      cases hr : rdW ts with
      | none => rfl
      | some x =>
        rw [Option.bind_some]
        by_cases hx : x.2 = []
        · rw [hb x hr hx]; rfl
        · split
          · rw [Option.bind_some, if_neg hx]
          · rfl
  rw [this]
theorem step_ins {d : Dr} {n : Int} {l : Str} {ts : List Str} {i : Ins} {g : Str} (h : tokL l = some ts) (h0 : ts ≠ []) (hr : rdW ts = some ((i, g), [])) (hi : right i = true) :
    stepL d n l = if d.list.length = 4096 then .inr 3 else .inl { d with jumps := if g ≠ [] then d.jumps ++ [(n, (d.list.length : Int), g)] else d.jumps, list := d.list ++ [i] } := by
  have hop : i.op ≠ 0 := by have := (tame hi).op0; omega
  unfold stepL told
  rw [h, Option.bind_some]
  have : rdLine ts = some ⟨[], i, g⟩ := by
    unfold rdLine
    rw [if_neg h0, if_neg]
    · rw [rdIns_w, hr, Option.bind_some]
      simp [hi]
    · intro hl
      obtain ⟨u, rfl⟩ := isLab_two hl
      exact colon_noneW hr rfl
  rw [this]
  simp [addL, hop]
/-- The document's draft in memory. -/
structure PD (B : Nat) (wb w : World) (vo vj vm : Value) (d : Dr) : Prop where
  oi : OwnI w B vo d.list
  od : OwnD w B vj d.jumps
  om : OwnM w B vm d.marks
  below : Below B wb w
  base : B ≤ wb.heap.size
theorem PD.past {B : Nat} {wb w w' : World} {vo vj vm : Value} {d : Dr} (h : PD B wb w vo vj vm d) (hb : Below w.heap.size w w') : PD B wb w' vo vj vm d :=
  ⟨h.oi.past hb, h.od.past hb, h.om.past hb, h.below.trans (hb.mono (Nat.le_trans h.base h.below.size)), h.base⟩
theorem PD.size {B : Nat} {wb w : World} {vo vj vm : Value} {d : Dr} (h : PD B wb w vo vj vm d) : B ≤ w.heap.size := Nat.le_trans h.base h.below.size
theorem PD.marks {B : Nat} {wb w w' : World} {vo vj vm vm' : Value} {d : Dr} {m : List (Str × Int)} (h : PD B wb w vo vj vm d) (ho : OwnM w' B vm' m) (hg : w.grownBy w' vm.ownBlock) : PD B wb w' vo vj vm' { d with marks := m } :=
  ⟨World.ownsRow.kept h.oi hg (own_ne h.oi h.om (by decide)), World.ownsRow.kept h.od hg (own_ne h.od h.om (by decide)), ho, h.below.grown hg h.size (fun k hk => (World.ownsRow.lt h.om k hk).1), h.base⟩
theorem PD.jumps {B : Nat} {wb w w' : World} {vo vj vm vj' : Value} {d : Dr} {j : List (Int × Int × Str)} (h : PD B wb w vo vj vm d) (ho : OwnD w' B vj' j) (hg : w.grownBy w' vj.ownBlock) : PD B wb w' vo vj' vm { d with jumps := j } :=
  ⟨World.ownsRow.kept h.oi hg (own_ne h.oi h.od (by decide)), ho, World.ownsRow.kept h.om hg (own_ne h.om h.od (by decide)), h.below.grown hg h.size (fun k hk => (World.ownsRow.lt h.od k hk).1), h.base⟩
theorem PD.list {B : Nat} {wb w w' : World} {vo vj vm vo' : Value} {d : Dr} {l : List Ins} (h : PD B wb w vo vj vm d) (ho : OwnI w' B vo' l) (hg : w.grownBy w' vo.ownBlock) : PD B wb w' vo' vj vm { d with list := l } :=
  ⟨ho, World.ownsRow.kept h.od hg (own_ne h.od h.oi (by decide)), World.ownsRow.kept h.om hg (own_ne h.om h.oi (by decide)), h.below.grown hg h.size (fun k hk => (World.ownsRow.lt h.oi k hk).1), h.base⟩
theorem linkL_snoc (marks : List (Str × Int)) : ∀ (js : List (Int × Int × Str)) (l : List Ins) (j : Int × Int × Str), linkL marks l (js ++ [j]) = match linkL marks l js with | .inl l' => linkL marks l' [j] | .inr n => .inr n
  | [], l, j => by simp [linkL]
  | x :: js, l, j => by
    rw [List.cons_append]
    unfold linkL
    cases findM marks x.2.2 with
    | none => rfl
    | some p => exact linkL_snoc marks js _ j
theorem linkL_stop (marks : List (Str × Int)) : ∀ (js : List (Int × Int × Str)) (l : List Ins) (n : Int) (r : List (Int × Int × Str)), linkL marks l js = .inr n → linkL marks l (js ++ r) = .inr n
  | [], l, n, r, h => by simp [linkL] at h
  | x :: js, l, n, r, h => by
    rw [List.cons_append]
    unfold linkL at h ⊢
    cases hf : findM marks x.2.2 with
    | none => rw [hf] at h; exact h
    | some p => rw [hf] at h; exact linkL_stop marks js _ n r h
/-- Parse's answer, as the document has it. -/
def ParsedD (r : List Ins × Int × Int) (w : World) (e : Ending) (w' : World) : Prop :=
  ∃ v, e = .returned (.tuple #[v, .agg #[.int .i64 r.2.1, .int .i64 r.2.2]]) ∧ Inss w' v r.1 ∧ Below w.heap.size w w'
end Go.Proofs.YthfkmackodbmkaaGreatDoor
/- The document's Parse tells what the language has of a text. -/
namespace Go.Proofs.YthfkmackodbmkaaGreatDoor
open Go.RowKit
set_option linter.unusedVariables false
set_option linter.unusedSimpArgs false
set_option maxRecDepth 100000
set_option maxHeartbeats 40000000

theorem two_cells {W : World} {K : Nat} {a b : Value} {t : TypeId} {fr : Nat × Nat} (h : W.heap[K]? = some (.cells #[a, b] t fr)) : W.cell? ⟨K, 0, none⟩ = some a ∧ W.cell? ⟨K, 1, none⟩ = some b := by simp [World.cell?, h]
theorem two_free {W : World} {K : Nat} {a b : Value} {t : TypeId} (h : W.heap[K]? = some (.cells #[a, b] t (0, 0))) : W.frozen? ⟨K, 0, none⟩ = false ∧ W.frozen? ⟨K, 1, none⟩ = false := by simp [World.frozen?, h]
/-- A fault is told. -/
theorem fault_end {w W : World} {e k : Int} {R : List Ins × Int × Int} (hF : W.heap[w.heap.size]? = some (.cells #[.int .i64 0, .int .i64 0] 26 (0, 0))) (hb : Below w.heap.size w W) (hR : R = ([], e, k)) :
    ParsedD R w (.returned (.tuple #[.slice none 0 0, .agg #[.int .i64 e, .int .i64 k]])) ((W.setCell ⟨w.heap.size, 0, none⟩ (.int .i64 e)).setCell ⟨w.heap.size, 1, none⟩ (.int .i64 k)) := by
  subst hR
  exact ⟨_, rfl, Inss.nil _, hb.grown (fault_set hF (.int .i64 e) (.int .i64 k)).2.2 hb.size (fun j hj => by cases hj; exact Nat.le_refl _)⟩
theorem take_next {ls : List Str} {k : Nat} {x : Str} (hx : ls[k]? = some x) : ls.take (k + 1) = ls.take k ++ [x] := by rw [List.take_add_one, hx]; rfl
theorem take_len {ls : List Str} {k : Nat} (h : k ≤ ls.length) : (ls.take k).length = k := by rw [List.length_take]; omega
theorem round_on {ls : List Str} {k : Nat} {x : Str} {d d' : Dr} (hx : ls[k]? = some x) (hr : runL dr0 0 (ls.take k) = .inl d ∧ DrOk d) (hs : stepL d ((k : Int) + 1) x = .inl d') : runL dr0 0 (ls.take (k + 1)) = .inl d' ∧ DrOk d' := by
  have hk : k < ls.length := (List.getElem?_eq_some_iff.1 hx).1
  refine ⟨?_, stepL_ok hr.2 hs⟩
  rw [take_next hx, runL_snoc _ _ _ _ _ hr.1, take_len (by omega), show (0 : Int) + k + 1 = k + 1 by omega, hs]
theorem round_err {ls : List Str} {k : Nat} {x : Str} {d : Dr} {e : Int} (hx : ls[k]? = some x) (hr : runL dr0 0 (ls.take k) = .inl d ∧ DrOk d) (hs : stepL d ((k : Int) + 1) x = .inr e) : runL dr0 0 ls = .inr (e, (k : Int) + 1) := by
  have hk : k < ls.length := (List.getElem?_eq_some_iff.1 hx).1
  have h1 : runL dr0 0 (ls.take (k + 1)) = .inr (e, (k : Int) + 1) := by
    rw [take_next hx, runL_snoc _ _ _ _ _ hr.1, take_len (by omega), show (0 : Int) + k + 1 = k + 1 by omega, hs]
  have := runL_stop _ _ _ _ (ls.drop (k + 1)) h1
  rwa [List.take_append_drop] at this
theorem find_at {marks : List (Str × Int)} {s : Str} {p : Int} (h : findM marks s = some p) (hm : ∀ e ∈ marks, 0 ≤ e.2 ∧ e.2 ≤ 4096) : 0 ≤ p ∧ p ≤ 4096 := by
  unfold findM at h
  cases hf : marks.find? (fun e => e.1 == s) with
  | none => rw [hf] at h; cases h
  | some x =>
    rw [hf, Option.map_some, Option.some.injEq] at h
    rw [← h]
    exact hm x (List.mem_of_find?_eq_some hf)
theorem other_block {w : World} {B t s n I : Nat} {v : Value} {x : List Value} {t' : TypeId} {c0 c1 c2 c3 c4 c5 c6 c7 : Value} (h : w.ownsRow B t s v n x) (hI : Oc w t' I c0 c1 c2 c3 c4 c5 c6 c7) (hne : t ≠ t') (e : v.ownBlock = some I) : False := by
  rcases h.2 with ⟨rfl, _⟩ | ⟨g, c, cur, rfl, _, hg, _⟩
  · cases e
  · have e := Option.some.inj e
    simp only at e
    subst e
    rw [show w.heap[g]? = _ from hI] at hg
    simp only [Option.some.injEq, Obj.cells.injEq] at hg
    exact hne hg.2.1.symm
theorem own_fault {w : World} {B t s n F : Nat} {v : Value} {x : List Value} {c : Array Value} {t' : TypeId} {fr : Nat × Nat} (h : w.ownsRow B t s v n x) (hF : w.heap[F]? = some (.cells c t' fr)) (hne : t ≠ t') : v.ownBlock = none ∨ v.ownBlock ≠ some F := by
  rcases h.2 with ⟨rfl, _⟩ | ⟨g, c, cur, rfl, _, hg, _⟩
  · exact .inl rfl
  · refine .inr (fun e => ?_)
    have e := Option.some.inj e
    simp only at e
    subst e
    rw [hF] at hg
    simp only [Option.some.injEq, Obj.cells.injEq] at hg
    exact hne hg.2.1.symm
theorem parsedD_drew {r : List Ins × Int × Int} {w W : World} {e : Ending} (h : ParsedD r w e W) : ParsedD r w e W.drew := by
  obtain ⟨v, he, hi, hb⟩ := h
  exact ⟨v, he, hi.past ((Below.refl _ W).drew), hb.drew⟩
theorem refParse_long (s : Str) (w : World) (h : 262144 < s.length) : Calls Tryz.prog 30 #[str s] w (ParsedD ([], 3, 0) w) := by
  have hc0 : (⟨s.toArray⟩ : ByteArray).size = s.length := by simp [ByteArray.size]
  have hd : decide ((262144 : Int) < s.length) = true := by simp; omega
  have B1 := Lib.hid (alloc_below w (.cells #[.int .i64 3, .int .i64 0] 26))
  obtain ⟨c0, c1⟩ := two_cells (heap_alloc_new w (.cells #[.int .i64 3, .int .i64 0] 26))
  clear h
  go_enter Tryz.func30, Tryz.ntmps30
  go_wp2_with fail
  refine bodyPost_ret (v := .tuple #[.slice none 0 0, .agg #[.int .i64 3, .int .i64 0]]) (by simp [results, Tryz.results30, go_sem, c0, c1]) rfl ?_
  exact ⟨_, rfl, Inss.nil _, B1.out⟩
theorem refParse_short (s : Str) (w : World) (h : ¬ 262144 < s.length) (L : Lay w) : Calls Tryz.prog 30 #[str s] w (ParsedD (parseL s) w) := by
  have hc0 : (⟨s.toArray⟩ : ByteArray).size = s.length := by simp [ByteArray.size]
  have hd : decide ((262144 : Int) < s.length) = false := by simp; omega
  obtain ⟨RR, hRR⟩ : ∃ RR, RR = parseL s := ⟨_, rfl⟩
  rw [← hRR]
  have hRR2 : RR = match runL dr0 0 (lines s) with | .inl d => linked d | .inr x => ([], x.1, x.2) := by rw [hRR]; unfold parseL; rw [if_neg h]; rfl
  have HRR := Lib.hid hRR2
  have HLS := Lib.hid (show s.length ≤ 262144 by omega)
  have A0 := alloc_below w (.cells #[.int .i64 0, .int .i64 0] 26)
  have F0 := heap_alloc_new w (.cells #[.int .i64 0, .int .i64 0] 26)
  have LI := refLines s (by omega) (w.alloc (.cells #[.int .i64 0, .int .i64 0] 26))
  have HL := Lib.hid L
  have HA0 := Lib.hid A0
  have HF0 := Lib.hid F0
  clear hRR hRR2 h L A0 F0
  go_enter Tryz.func30, Tryz.ntmps30
  go_wp2_with fail
  refine LI.mono ?_; rintro e w1 ⟨vl, rfl, S1, b1⟩
  have hls := lines_len s
  have hlm := lines_mem s
  obtain ⟨al, cl, hvl⟩ := S1.shape
  subst hvl
  have HS1 := Lib.hid S1
  have HW1 := Lib.hid ((HA0.out).trans (b1.mono (HA0.out).size))
  have HF1 := Lib.hid ((b1.block w.heap.size (by simp)).trans HF0.out)
  have HLM := Lib.hid hlm
  generalize hLs : lines s = ls at *
  have HLN := Lib.hid (show ls.length ≤ 300000 by have := HLS.out; omega)
  have P0 := Lib.hid (show PD w1.heap.size w1 w1 (.slice none 0 0) (.slice none 0 0) (.slice none 0 0) dr0 from ⟨OwnI.nil _ _, World.ownsRow_nil _ _ _ _, World.ownsRow_nil _ _ _ _, Below.refl _ _, Nat.le_refl _⟩)
  clear hls hlm b1 S1 LI
  go_wp2_with fail
  go_loopw [4, 5, 6, 8] (fun vo vj vm i wr => ∃ (k : Nat) (d : Dr), k ≤ ls.length ∧ i = .int .i64 k ∧ Hid (runL dr0 0 (ls.take k) = .inl d ∧ DrOk d) ∧ Hid (d.marks.length ≤ k) ∧ Hid (PD w1.heap.size w1 wr vo vj vm d)) (fun _ _ _ i _ => ls.length - (intOf i).toNat)
  case atStart => exact ⟨0, dr0, Nat.zero_le _, rfl, Lib.hid ⟨rfl, dr0_ok⟩, Lib.hid (by simp [dr0]), P0⟩
  case round =>
    obtain ⟨k, d, hk, rfl, HR, HMK, HP⟩ := hrel
    obtain ⟨ao, co, hvo⟩ := (HP.out).oi.shape
    obtain ⟨aj, cj, hvj⟩ := OwnD.shape (HP.out).od
    obtain ⟨am, cm, hvm⟩ := OwnM.shape (HP.out).om
    subst hvo hvj hvm
    have HDL := Lib.hid (show d.list.length ≤ 4096 ∧ d.jumps.length ≤ 4096 from ⟨(HR.out).2.list, Nat.le_trans (HR.out).2.few (HR.out).2.list⟩)
    have HF2 := (((HP.out).below).block w.heap.size (by have := (HW1.out).size; have := (Array.getElem?_eq_some_iff.1 HF1.out).1; omega)).trans HF1.out
    have HF2h := Lib.hid HF2
    obtain ⟨z0, z1⟩ : wr.cell? ⟨w.heap.size, 0, none⟩ = some (.int .i64 0) ∧ wr.cell? ⟨w.heap.size, 1, none⟩ = some (.int .i64 0) := by simp [World.cell?, HF2]
    obtain ⟨y0, y1⟩ : wr.frozen? ⟨w.heap.size, 0, none⟩ = false ∧ wr.frozen? ⟨w.heap.size, 1, none⟩ = false := by simp [World.frozen?, HF2]
    clear HF2
    by_cases hlt : k < ls.length
    · have hd3 : decide ((k : Int) < ls.length) = true := by simp; omega
      have hd4 : decide (k < ls.length) = true := by simpa using hlt
      obtain ⟨x, hx⟩ : ∃ x, ls[k]? = some x := ⟨ls[k], by simp [hlt]⟩
      have HX := Lib.hid hx
      have hxl : x.length ≤ 1000000000 := by
        have := HLM.out x (List.mem_of_getElem? hx)
        have := HLS.out
        omega
      obtain ⟨gl, ol, eal, enl, w1l, w2l, w3l, cells⟩ := ((HS1.out).past (by exact (HP.out).below)).at (by omega)
      subst eal
      have dl : wr.cell? ⟨gl, ol + k, none⟩ = some (str x) := by
        have := cells k hlt
        rw [List.getD_eq_getElem?_getD, hx] at this
        exact this
      have k0 : 0 ≤ (k : Int) := by omega
      have k1 : (k : Int) < (ls.length : Int) := by omega
      have hkw : wrap64 ((k : Int) + 1) = (k : Int) + 1 := IntWalk.wrap64_in _ ⟨by omega, by have := HLN.out; omega⟩
      have TK := refTokens x hxl wr
      have HXL := Lib.hid hxl
      clear cells hx hxl
      go_wp2_with fail
      refine TK.mono ?_; intro e w2 hT
      have T2 := Lib.hid hT.2
      have hT1 := hT.1
      clear hT TK
      cases htk : tokL x with
      | none =>
        rw [htk] at hT1
        simp only at hT1
        subst hT1
        have HRE := Lib.hid (round_err HX.out HR.out (step_none htk))
        have P2 := Lib.hid ((HP.out).past T2.out)
        have PX := Lib.hid ((P2.out).past (alloc_below w2 (.cells #[.slice none 0 0, .int .i64 0, .bool false] 140)))
        have HF3 := Lib.hid (((PX.out).below.block w.heap.size (by have := (HW1.out).size; have := (Array.getElem?_eq_some_iff.1 HF1.out).1; omega)).trans HF1.out)
        obtain ⟨z0, z1⟩ := two_cells HF3.out
        obtain ⟨y0, y1⟩ := two_free HF3.out
        have HB3 := Lib.hid ((HW1.out).trans ((PX.out).below.mono (HW1.out).size))
        go_wp2_with fail
        obtain ⟨r0, r1, -⟩ := fault_set (HF3.out) (.int .i64 120) (.int .i64 ((k : Int) + 1))
        refine bodyPost_ret (v := .tuple #[.slice none 0 0, .agg #[.int .i64 120, .int .i64 ((k : Int) + 1)]]) (by simp [results, Tryz.results30, go_sem, r0, r1]) rfl ?_
        exact fault_end HF3.out HB3.out (by rw [HRR.out, HRE.out])
      | some ts =>
        rw [htk] at hT1
        obtain ⟨vt, he, hts, htl⟩ := hT1
        subst he
        have HTK := Lib.hid htk
        have HSH := Lib.hid (show ∀ t ∈ ts, t.length ≤ 1000000000 from fun t ht => by have := tokL_short htk t ht; have := HXL.out; omega)
        obtain ⟨at', ct, hvt⟩ := hts.shape
        subst hvt
        have HTS := Lib.hid hts
        have HTL := Lib.hid htl
        have P2 := Lib.hid ((HP.out).past T2.out)
        have B2 := alloc_below w2 (.cells #[.slice at' ts.length ct, .int .i64 0, .bool false] 140)
        have X2 := Lib.hid (heap_alloc_new w2 (.cells #[.slice at' ts.length ct, .int .i64 0, .bool false] 140))
        have P3 := Lib.hid ((P2.out).past B2)
        have S3 := Lib.hid ((HTS.out).past B2)
        have HLL := Lib.hid (show LnS w2 (w2.alloc (.cells #[.slice at' ts.length ct, .int .i64 0, .bool false] 140)) w2.heap.size ts 0 false from
          ⟨⟨_, X2.out, S3.out⟩, HTL.out, HSH.out, B2, (HL.out).past ((HW1.out).trans ((P2.out).below.mono (HW1.out).size)), Nat.le_refl _⟩)
        clear htk hts htl B2
        have HF3 := Lib.hid (((P3.out).below.block w.heap.size (by have := (HW1.out).size; have := (Array.getElem?_eq_some_iff.1 HF1.out).1; omega)).trans HF1.out)
        obtain ⟨z0, z1⟩ := two_cells HF3.out
        obtain ⟨y0, y1⟩ := two_free HF3.out
        have HB3 := Lib.hid ((HW1.out).trans ((P3.out).below.mono (HW1.out).size))
        cases ts with
        | nil =>
          have HRO := Lib.hid (round_on HX.out HR.out (step_empty HTK.out))
          go_wp2_with fail
          go_roundw
          case rel => exact ⟨k + 1, d, by omega, by go_num, HRO, Lib.hid (Nat.le_succ_of_le HMK.out), P3⟩
          case measure =>
            simp only [intOf]
            omega
        | cons t0 tr =>
          obtain ⟨ga, oa, eaa, ena, u1, u2, u3, cells⟩ := (HTS.out).at (by simp)
          have hgne : ga ≠ w2.heap.size := by omega
          have hgne2 : w2.heap.size ≠ ga := by omega
          subst eaa
          have ld : (t0 :: tr).length = tr.length + 1 := rfl
          have d00 := cells 0 (by simp)
          have e00 : (t0 :: tr).getD 0 [] = t0 := rfl
          rw [e00, Nat.add_zero] at d00
          have HT0 := Lib.hid (show t0.length ≤ 1000000000 from HSH.out t0 (by simp))
          clear e00
          by_cases hlab : labD (t0 :: tr)
          · obtain ⟨q1, q2, q30⟩ := hlab
            have q3 : labelOk t0 = true := q30
            clear q30
            match tr, q1, q2 with
            | [t1], _, q2 =>
              have q2 : t1 = [58] := q2
              subst q2
              have SL := Lib.hid (step_label (d := d) (n := (k : Int) + 1) HTK.out q3)
              have d11 := cells 1 (by simp)
              rw [show ([t0, [58]] : List Str).getD 1 [] = [58] from rfl] at d11
              have LB := labelP' t0 HT0.out
              rw [q3] at LB
              have FD := fun W (h : OwnM W w1.heap.size (.slice am d.marks.length cm) d.marks) => refFind h t0 (by have := HMK.out; have := HLN.out; omega)
              obtain ⟨fv, hfv⟩ : ∃ fv, fv = findV d.marks t0 := ⟨_, rfl⟩
              rw [← hfv] at FD
              have HFV := Lib.hid hfv
              clear cells q1 q3 hfv
              have P9 := Lib.hid (show PD w1.heap.size w1 (w2.alloc (.cells #[.slice (some ⟨ga, oa, none⟩) 2 ct, .int .i64 0, .bool false] 140)) (.slice ao d.list.length co) (.slice aj d.jumps.length cj) (.slice am d.marks.length cm) d from P3.out)
              have HF9 := Lib.hid (show (w2.alloc (.cells #[.slice (some ⟨ga, oa, none⟩) 2 ct, .int .i64 0, .bool false] 140)).heap[w.heap.size]? = some (.cells #[.int .i64 0, .int .i64 0] 26 (0, 0)) from HF3.out)
              have HB9 := Lib.hid (show Below w.heap.size w (w2.alloc (.cells #[.slice (some ⟨ga, oa, none⟩) 2 ct, .int .i64 0, .bool false] 140)) from HB3.out)
              clear z0 z1 y0 y1
              obtain ⟨z0, z1⟩ := two_cells HF9.out
              obtain ⟨y0, y1⟩ := two_free HF9.out
              go_wp2_with fail
              refine (LB _).mono ?_; rintro e w3 ⟨rfl, rfl⟩
              go_wp2_with fail
              refine (FD _ (P9.out).om).mono ?_; rintro e w3 ⟨rfl, rfl⟩
              by_cases hq : 0 ≤ fv
              · have dq : decide (0 ≤ fv) = true := by simpa using hq
                have HRE := Lib.hid (round_err HX.out HR.out (by
                  rw [SL.out, if_pos]
                  have := HFV.out
                  unfold findV at this
                  cases hf : findM d.marks t0 with
                  | none => rw [hf] at this; simp at this; omega
                  | some p => rfl))
                clear hq
                go_wp2_with fail
                obtain ⟨r0, r1, -⟩ := fault_set (HF9.out) (.int .i64 121) (.int .i64 ((k : Int) + 1))
                refine bodyPost_ret (v := .tuple #[.slice none 0 0, .agg #[.int .i64 121, .int .i64 ((k : Int) + 1)]]) (by simp [results, Tryz.results30, go_sem, r0, r1]) rfl ?_
                exact fault_end HF9.out HB9.out (by rw [HRR.out, HRE.out])
              · have dq : decide (0 ≤ fv) = false := by simpa using hq
                have HRO := Lib.hid (round_on HX.out HR.out (by
                  rw [SL.out, if_neg]
                  have := HFV.out
                  unfold findV at this
                  cases hf : findM d.marks t0 with
                  | none => simp
                  | some p =>
                    rw [hf] at this
                    have hm := find_at hf (HR.out).2.marks
                    simp at this
                    omega))
                have AM := Lib.hid (heap_alloc_new (w2.alloc (.cells #[.slice (some ⟨ga, oa, none⟩) 2 ct, .int .i64 0, .bool false] 140)) (.cells #[str t0, .int .i64 d.list.length] 143))
                have P4 := Lib.hid ((P9.out).past (alloc_below _ (.cells #[str t0, .int .i64 d.list.length] 143)))
                have hz : (w2.alloc (.cells #[.slice (some ⟨ga, oa, none⟩) 2 ct, .int .i64 0, .bool false] 140)).heap.size = w2.heap.size + 1 := by simp
                rw [hz] at AM
                clear hq
                go_wp2_with (at_builtin; refine wpList_append_m _ rfl _ _ rfl w1.heap.size _ d.marks rfl (P4.out).om (w2.heap.size + 1) (t0, (d.list.length : Int)) rfl AM.out (by have := HMK.out; have := HLN.out; omega) (P4.out).size ?_)
                intro v' w' ho' hg'
                have PN := Lib.hid ((P4.out).marks ho' hg')
                have HMK2 := Lib.hid (show (d.marks ++ [(t0, (d.list.length : Int))]).length ≤ k + 1 by have := HMK.out; simp; omega)
                obtain ⟨am', cm', hv'⟩ := OwnM.shape ho'
                subst hv'
                clear ho' hg'
                go_wp2_with fail
                go_roundw
                case rel => exact ⟨k + 1, _, by omega, by go_num, HRO, HMK2, PN⟩
                case measure =>
                  simp only [intOf]
                  omega
          · have HNL := Lib.hid hlab
            go_upto_region 15 with fail
            go_cut [62] (fun c wx => c = .bool false ∧ wx = (w2.alloc (.cells #[.slice (some ⟨ga, oa, none⟩) (tr.length + 1) ct, .int .i64 0, .bool false] 140)))
            case first =>
              match tr, hlab with
              | [], _ =>
                go_wp2_with fail
                go_meet
                exact ⟨rfl, rfl⟩
              | [t1], hlab =>
                have d11 := cells 1 (by simp)
                rw [show ([t0, t1] : List Str).getD 1 [] = t1 from rfl] at d11
                cases q1 : (t1 == [58]) with
                | false =>
                  go_wp2_with fail
                  go_meet
                  exact ⟨rfl, rfl⟩
                | true =>
                  have q3 : labelOk t0 = false := by
                    cases hq : labelOk t0 with
                    | false => rfl
                    | true => exact absurd ⟨rfl, eq_of_beq q1, hq⟩ hlab
                  have LB := labelP' t0 HT0.out
                  rw [q3] at LB
                  go_wp2_with fail
                  refine (LB _).mono ?_; rintro e w3 ⟨rfl, rfl⟩
                  go_wp2_with fail
                  go_meet
                  exact ⟨rfl, rfl⟩
              | t1 :: t2 :: r, _ =>
                have q2 : (((t1 :: t2 :: r).length : Int) + 1 == 2) = false := by simp; omega
                go_wp2_with fail
                go_meet
                exact ⟨rfl, rfl⟩
            case rest =>
            obtain ⟨rfl, rfl⟩ := hcut
            have P8 := Lib.hid (show PD w1.heap.size w1 (w2.alloc (.cells #[.slice (some ⟨ga, oa, none⟩) (tr.length + 1) ct, .int .i64 0, .bool false] 140)) (.slice ao d.list.length co) (.slice aj d.jumps.length cj) (.slice am d.marks.length cm) d from P3.out)
            have HF8 := Lib.hid (show (w2.alloc (.cells #[.slice (some ⟨ga, oa, none⟩) (tr.length + 1) ct, .int .i64 0, .bool false] 140)).heap[w.heap.size]? = some (.cells #[.int .i64 0, .int .i64 0] 26 (0, 0)) from HF3.out)
            have HB8 := Lib.hid (show Below w.heap.size w (w2.alloc (.cells #[.slice (some ⟨ga, oa, none⟩) (tr.length + 1) ct, .int .i64 0, .bool false] 140)) from HB3.out)
            clear z0 z1 y0 y1
            obtain ⟨z0, z1⟩ := two_cells HF8.out
            obtain ⟨y0, y1⟩ := two_free HF8.out
            have LN8 := refInst (show LnS w2 (w2.alloc (.cells #[.slice (some ⟨ga, oa, none⟩) (tr.length + 1) ct, .int .i64 0, .bool false] 140)) w2.heap.size (t0 :: tr) 0 false from HLL.out) (by simp)
            go_wp2_with fail
            refine LN8.mono ?_; intro e w4 h4
            obtain ⟨⟨xo, xn, xd, xs, xu, xf, xm, xz⟩, g, at2, bad2, rfl, h1, h2, hgl, L4, T4⟩ := h4
            have b4 : Below w2.heap.size w2 w4 := (alloc_below w2 (.cells #[.slice (some ⟨ga, oa, none⟩) (tr.length + 1) ct, .int .i64 0, .bool false] 140)).trans (T4.below (by simp) (fun j hj hp => by subst hp; omega))
            have P4 := Lib.hid ((P2.out).past b4)
            have A4 := alloc_below w4 (.cells #[.int .u8 xo, .bool xn, .int .i64 xd, .int .i64 xs, .bool xu, .int .i64 xf, .int .i64 xm, .int .i64 xz] 47)
            have P5 := Lib.hid ((P4.out).past A4)
            have O5 := oc_new w4 47 (.int .u8 xo) (.bool xn) (.int .i64 xd) (.int .i64 xs) (.bool xu) (.int .i64 xf) (.int .i64 xm) (.int .i64 xz)
            have HO5 := Lib.hid O5
            obtain ⟨o0, o1, o2, o3, o4, o5, o6, o7⟩ := Oc.cells O5
            obtain ⟨aX, cX, lX, sX⟩ := (L4.past A4).shape
            obtain ⟨c0, c1, c2, f1, f2⟩ := lX.cells
            have H1 := Lib.hid h1
            have H2 := Lib.hid h2
            have HGL := Lib.hid hgl
            simp only [agg]
            clear h1 h2 hgl L4 T4 b4 A4 O5 lX sX LN8 d00 hgne hgne2
            have HF5 := Lib.hid (((P5.out).below.block w.heap.size (by have := (HW1.out).size; have := (Array.getElem?_eq_some_iff.1 HF1.out).1; omega)).trans HF1.out)
            have HB5 := Lib.hid ((HW1.out).trans ((P5.out).below.mono (HW1.out).size))
            clear z0 z1 y0 y1
            obtain ⟨z0, z1⟩ := two_cells HF5.out
            obtain ⟨y0, y1⟩ := two_free HF5.out
            cases bad2 with
            | true =>
              have HRE := Lib.hid (round_err HX.out HR.out (step_bad HTK.out (by simp) HNL.out (fun x hx he => absurd he (H2.out rfl x hx))))
              go_wp2_with fail
              obtain ⟨r0, r1, -⟩ := fault_set (HF5.out) (.int .i64 120) (.int .i64 ((k : Int) + 1))
              refine bodyPost_ret (v := .tuple #[.slice none 0 0, .agg #[.int .i64 120, .int .i64 ((k : Int) + 1)]]) (by simp [results, Tryz.results30, go_sem, r0, r1]) rfl ?_
              exact fault_end HF5.out HB5.out (by rw [HRR.out, HRE.out])
            | false =>
              have RI := Lib.hid (fun W => refRight ⟨xo, xn, xd, xs, xu, xf, xm, xz⟩ W)
              simp only [agg] at RI
              go_wp2_with fail
              refine ((RI.out) _).mono ?_; rintro e w6 ⟨rfl, b6⟩
              have P6 := Lib.hid ((P5.out).past b6)
              have O6 := Oc.past HO5.out b6
              clear o0 o1 o2 o3 o4 o5 o6 o7 c0 c1 c2 f1 f2 RI b6
              obtain ⟨o0, o1, o2, o3, o4, o5, o6, o7⟩ := Oc.cells O6
              have O6h := Lib.hid O6
              clear O6
              have HF6 := Lib.hid (((P6.out).below.block w.heap.size (by have := (HW1.out).size; have := (Array.getElem?_eq_some_iff.1 HF1.out).1; omega)).trans HF1.out)
              have HB6 := Lib.hid ((HW1.out).trans ((P6.out).below.mono (HW1.out).size))
              clear z0 z1 y0 y1
              obtain ⟨z0, z1⟩ := two_cells HF6.out
              obtain ⟨y0, y1⟩ := two_free HF6.out
              cases hr : right ⟨xo, xn, xd, xs, xu, xf, xm, xz⟩ with
              | false =>
                have HRE := Lib.hid (round_err HX.out HR.out (step_bad HTK.out (by simp) HNL.out (fun x hx _ => by rw [H1.out (by trivial)] at hx; cases hx; exact hr)))
                go_wp2_with fail
                obtain ⟨r0, r1, -⟩ := fault_set (HF6.out) (.int .i64 120) (.int .i64 ((k : Int) + 1))
                refine bodyPost_ret (v := .tuple #[.slice none 0 0, .agg #[.int .i64 120, .int .i64 ((k : Int) + 1)]]) (by simp [results, Tryz.results30, go_sem, r0, r1]) rfl ?_
                exact fault_end HF6.out HB6.out (by rw [HRR.out, HRE.out])
              | true =>
                have SI := Lib.hid (step_ins (d := d) (n := (k : Int) + 1) HTK.out (by simp) (H1.out (by trivial)) hr)
                clear hr
                by_cases hfull : d.list.length = 4096
                · have qf : ((d.list.length : Int) == 4096) = true := by simp [hfull]
                  have HRE := Lib.hid (round_err HX.out HR.out (by rw [SI.out, if_pos hfull]))
                  clear hfull
                  go_wp2_with fail
                  obtain ⟨r0, r1, -⟩ := fault_set (HF6.out) (.int .i64 3) (.int .i64 ((k : Int) + 1))
                  refine bodyPost_ret (v := .tuple #[.slice none 0 0, .agg #[.int .i64 3, .int .i64 ((k : Int) + 1)]]) (by simp [results, Tryz.results30, go_sem, r0, r1]) rfl ?_
                  exact fault_end HF6.out HB6.out (by rw [HRR.out, HRE.out])
                · have qf : ((d.list.length : Int) == 4096) = false := by simp; omega
                  have HNF := Lib.hid hfull
                  clear hfull
                  cases qg : (g == []) with
                  | true =>
                    have HRO := Lib.hid (round_on HX.out HR.out (by rw [SI.out, if_neg HNF.out, if_neg (show ¬ g ≠ [] from fun e => e (eq_of_beq qg))]))
                    have PA7 := Lib.hid ((P6.out).past (alloc_below w6 (.cells #[.int .u8 xo, .bool xn, .int .i64 xd, .int .i64 xs, .bool xu, .int .i64 xf, .int .i64 xm, .int .i64 xz] 47)))
                    have MI7 := Lib.hid (inss_one w6 ⟨xo, xn, xd, xs, xu, xf, xm, xz⟩)
                    go_wp2_with (at_builtin; refine wpList_append_i _ rfl _ _ rfl w1.heap.size _ d.list rfl (PA7.out).oi _ [⟨xo, xn, xd, xs, xu, xf, xm, xz⟩] rfl MI7.out (by have := HDL.out; simp; omega) (PA7.out).size ?_)
                    intro v' w' ho' hg'
                    have PN := Lib.hid ((PA7.out).list ho' hg')
                    have HMK2 := Lib.hid (show d.marks.length ≤ k + 1 by have := HMK.out; omega)
                    obtain ⟨ao', co', hv'⟩ := OwnI.shape ho'
                    subst hv'
                    clear ho' hg'
                    go_wp2_with fail
                    go_roundw
                    case rel => exact ⟨k + 1, _, by omega, by go_num, HRO, HMK2, PN⟩
                    case measure =>
                      simp only [intOf]
                      omega
                  | false =>
                    have ng : g ≠ [] := by simpa using qg
                    have HRO := Lib.hid (round_on HX.out HR.out (by rw [SI.out, if_neg HNF.out, if_pos ng]))
                    have AJ := Lib.hid (heap_alloc_new w6 (.cells #[.int .i64 d.list.length, .int .i64 ((k : Int) + 1), str g] 147))
                    have P7 := Lib.hid ((P6.out).past (alloc_below w6 (.cells #[.int .i64 d.list.length, .int .i64 ((k : Int) + 1), str g] 147)))
                    clear ng
                    go_wp2_with (at_builtin; refine wpList_append_d _ rfl _ _ rfl w1.heap.size _ d.jumps rfl (P7.out).od w6.heap.size ((k : Int) + 1, (d.list.length : Int), g) rfl AJ.out (by have := HDL.out; omega) (P7.out).size ?_)
                    intro vj' w7 hoj hgj
                    have P8 := Lib.hid ((P7.out).jumps hoj hgj)
                    obtain ⟨aj', cj', hvj'⟩ := OwnD.shape hoj
                    rw [show (d.jumps ++ [((k : Int) + 1, (d.list.length : Int), g)]).length = d.jumps.length + 1 by simp] at hvj'
                    subst hvj'
                    have O7 := Oc.keep (Oc.alloc O6h.out (.cells #[.int .i64 d.list.length, .int .i64 ((k : Int) + 1), str g] 147)) hgj (fun e => other_block (P7.out).od (Oc.alloc O6h.out (.cells #[.int .i64 d.list.length, .int .i64 ((k : Int) + 1), str g] 147)) (by decide) e)
                    clear o0 o1 o2 o3 o4 o5 o6 o7
                    obtain ⟨o0, o1, o2, o3, o4, o5, o6, o7⟩ := Oc.cells O7
                    clear O7 hoj hgj
                    have HF8 := Lib.hid (((P8.out).below.block w.heap.size (by have := (HW1.out).size; have := (Array.getElem?_eq_some_iff.1 HF1.out).1; omega)).trans HF1.out)
                    have HB8 := Lib.hid ((HW1.out).trans ((P8.out).below.mono (HW1.out).size))
                    clear z0 z1 y0 y1
                    obtain ⟨z0, z1⟩ := two_cells HF8.out
                    obtain ⟨y0, y1⟩ := two_free HF8.out
                    have PA9 := Lib.hid ((P8.out).past (alloc_below w7 (.cells #[.int .u8 xo, .bool xn, .int .i64 xd, .int .i64 xs, .bool xu, .int .i64 xf, .int .i64 xm, .int .i64 xz] 47)))
                    have MI9 := Lib.hid (inss_one w7 ⟨xo, xn, xd, xs, xu, xf, xm, xz⟩)
                    go_wp2_with (at_builtin; refine wpList_append_i _ rfl _ _ rfl w1.heap.size _ d.list rfl (PA9.out).oi _ [⟨xo, xn, xd, xs, xu, xf, xm, xz⟩] rfl MI9.out (by have := HDL.out; simp; omega) (PA9.out).size ?_)
                    intro v' w' ho' hg'
                    have PN := Lib.hid ((PA9.out).list ho' hg')
                    have HMK2 := Lib.hid (show d.marks.length ≤ k + 1 by have := HMK.out; omega)
                    obtain ⟨ao', co', hv'⟩ := OwnI.shape ho'
                    subst hv'
                    clear ho' hg'
                    go_wp2_with fail
                    go_roundw
                    case rel => exact ⟨k + 1, _, by omega, by go_num, HRO, HMK2, PN⟩
                    case measure =>
                      simp only [intOf]
                      omega
    · have hd3 : decide ((k : Int) < ls.length) = false := by simp; omega
      have hd4 : decide (k < ls.length) = false := by simpa using hlt
      have hkn : k = ls.length := by omega
      have hR := (HR.out).1
      rw [hkn, List.take_length] at hR
      have HE := Lib.hid (show RR = linked d by rw [HRR.out, hR])
      have HOK := Lib.hid (HR.out).2
      have P1 := Lib.hid (show PD w1.heap.size w1 wr (.slice ao d.list.length co) (.slice aj d.jumps.length cj) (.slice am d.marks.length cm) { d with list := d.list } from HP.out)
      have HM3 := Lib.hid (show d.marks.length ≤ 1000000000 by have := HMK.out; have := HLN.out; omega)
      clear hR hkn HRR hd3 z0 z1 y0 y1
      have hd3 : decide ((k : Int) < ls.length) = false := by simp; omega
      go_wp2_with fail
      clear hd3 hd4 hlt hk
      go_loopw [14] (fun i ws => ∃ (m : Nat) (l : List Ins), m ≤ d.jumps.length ∧ i = .int .i64 m ∧ Hid (linkL d.marks d.list d.jumps = linkL d.marks l (d.jumps.drop m) ∧ l.length = d.list.length) ∧ Hid (PD w1.heap.size w1 ws (.slice ao d.list.length co) (.slice aj d.jumps.length cj) (.slice am d.marks.length cm) { d with list := l })) (fun i _ => d.jumps.length - (intOf i).toNat)
      case atStart => exact ⟨0, d.list, Nat.zero_le _, rfl, Lib.hid ⟨rfl, rfl⟩, P1⟩
      case round =>
        obtain ⟨m, l, hm, rfl, HK2, HQ⟩ := hrel
        have HF2 := Lib.hid (((HQ.out).below.block w.heap.size (by have := (HW1.out).size; have := (Array.getElem?_eq_some_iff.1 HF1.out).1; omega)).trans HF1.out)
        obtain ⟨z0, z1⟩ := two_cells HF2.out
        obtain ⟨y0, y1⟩ := two_free HF2.out
        have HB2 := Lib.hid ((HW1.out).trans ((HQ.out).below.mono (HW1.out).size))
        by_cases hlm : m < d.jumps.length
        · have hd5 : decide ((m : Int) < d.jumps.length) = true := by simp; omega
          have hd6 : decide (m < d.jumps.length) = true := by simpa using hlm
          obtain ⟨j, hj⟩ : ∃ j, d.jumps[m]? = some j := ⟨d.jumps[m], by simp [hlm]⟩
          obtain ⟨gj, rfl, _, v1, v2, cells⟩ := OwnD.at (HQ.out).od (by simp; omega)
          obtain ⟨j0, j1, j2⟩ := cells m j hj
          have m0 : 0 ≤ (m : Int) := by omega
          have m1 : (m : Int) < (d.jumps.length : Int) := by omega
          have hdr : d.jumps.drop m = j :: d.jumps.drop (m + 1) := by
            obtain ⟨h1, h2⟩ := List.getElem?_eq_some_iff.1 hj
            rw [List.drop_eq_getElem_cons h1, h2]
          have hjm : j ∈ d.jumps := List.mem_of_getElem? hj
          have hja := (HOK.out).jumps j hjm
          have hll := (HOK.out).list
          have HDR := Lib.hid hdr
          have FD := refFind (HQ.out).om j.2.2 HM3.out
          obtain ⟨line, at2, goal⟩ := j
          simp only at j0 j1 j2 hja FD
          obtain ⟨a, rfl⟩ := Int.eq_ofNat_of_zero_le hja.1
          have haL : a < d.list.length := by omega
          clear cells hdr hjm hj
          go_wp2_with fail
          refine FD.mono ?_; rintro e w3 ⟨rfl, rfl⟩
          cases hf : findM d.marks goal with
          | none =>
            have hfv : findV d.marks goal = -1 := by unfold findV; rw [hf]; rfl
            have HRE := Lib.hid (show RR = ([], 121, line) by
              rw [HE.out]
              unfold linked
              rw [(HK2.out).1, HDR.out]
              unfold linkL
              simp only
              rw [hf])
            rw [hfv]
            clear hf hfv FD
            go_wp2_with fail
            go_region
            go_wp2_with fail
            obtain ⟨r0, r1, -⟩ := fault_set (HF2.out) (.int .i64 121) (.int .i64 line)
            refine bodyPost_ret (v := .tuple #[.slice none 0 0, .agg #[.int .i64 121, .int .i64 line]]) (by simp [results, Tryz.results30, go_sem, r0, r1]) rfl ?_
            exact parsedD_drew (fault_end HF2.out HB2.out HRE.out)
          | some p =>
            have hpb := find_at hf (HOK.out).marks
            have hfv : findV d.marks goal = p := by unfold findV; rw [hf]; rfl
            rw [hfv]
            have HFM := Lib.hid hf
            have hlen2 := (HK2.out).2
            have hoi : OwnI wr w1.heap.size (.slice ao d.list.length co) l := (HQ.out).oi
            obtain ⟨gi, rfl, hbi, vi1, vi2⟩ : ∃ gi, ao = some ⟨gi, 0, none⟩ ∧ w1.heap.size ≤ gi ∧ d.list.length ≤ co ∧ co ≤ 9223372036854775807 := by
              rcases hoi.2 with ⟨h', h0⟩ | ⟨g', c', cur, h', q1, _, q2, q3, _⟩
              · omega
              · simp only [Value.slice.injEq] at h'
                obtain ⟨rfl, _, rfl⟩ := h'
                unfold maxLen at q3
                exact ⟨g', rfl, q1, by omega, q3⟩
            have hoi2 : wr.ownsRow w1.heap.size 47 8 (.slice (some ⟨gi, 0, none⟩) l.length co) l.length (icl l) := by
              have := hoi
              unfold OwnI at this
              rw [← hlen2] at this
              exact this
            have st := World.ownsRow.stored hoi2 (a * 8 + 5) (.int .i64 (p - a - 1))
            have clx := World.ownsRow.cellAt hoi2 (a * 8 + 5) (by omega)
            have fl := World.ownsRow.frozenAt hoi2 (a * 8 + 5)
            rw [icl_off _ l a (by omega)] at st
            rw [icl_get (show a < l.length by omega) (by omega)] at clx
            have cl : wr.cell? ⟨gi, a * 8 + 5, none⟩ = some (.int .i64 (ith l a).off) := clx
            have b1 : decide (p < 0) = false := by simp; omega
            have b2 : decide (p - (a : Int) - 1 < -32768) = false := by simp; omega
            have b3 : decide ((32768 : Int) ≤ p - a - 1) = false := by simp; omega
            have a0 : 0 ≤ (a : Int) := by omega
            have a1 : (a : Int) < (d.list.length : Int) := by omega
            have w1' : wrap64 (p - (a : Int)) = p - a := IntWalk.wrap64_in _ ⟨by omega, by omega⟩
            have w2' : wrap64 (p - (a : Int) - 1) = p - a - 1 := IntWalk.wrap64_in _ ⟨by omega, by omega⟩
            have PN := Lib.hid (show PD w1.heap.size w1 (wr.setCell ⟨gi, a * 8 + 5, none⟩ (.int .i64 (p - a - 1))) (.slice (some ⟨gi, 0, none⟩) d.list.length co) (.slice (some ⟨gj, 0, none⟩) d.jumps.length cj) (.slice am d.marks.length cm) { d with list := l.set a { ith l a with off := p - a - 1 } } from by
              have := (HQ.out).list (vo' := .slice (some ⟨gi, 0, none⟩) d.list.length co) (w' := wr.setCell ⟨gi, a * 8 + 5, none⟩ (.int .i64 (p - a - 1))) (l := l.set a { ith l a with off := p - a - 1 }) (by
                have h := st.1
                unfold OwnI
                rw [List.length_set, ← hlen2]
                exact h) st.2
              exact this)
            have HKN := Lib.hid (show linkL d.marks d.list d.jumps = linkL d.marks (l.set a { ith l a with off := p - a - 1 }) (d.jumps.drop (m + 1)) ∧ (l.set a { ith l a with off := p - a - 1 }).length = d.list.length from by
              refine ⟨?_, by rw [List.length_set]; exact hlen2⟩
              rw [(HK2.out).1, HDR.out]
              conv => lhs; unfold linkL
              simp only
              rw [HFM.out]
              simp only [Int.toNat_natCast]
              rw [show p - ((a : Int) + 1) = p - a - 1 by omega])
            clear hf hfv FD st clx hoi hoi2 hlen2 hja hpb
            go_wp2_with fail
            go_roundw
            case rel => exact ⟨m + 1, _, by omega, by go_num, HKN, PN⟩
            case measure =>
              simp only [intOf]
              omega
        · have hd5 : decide ((m : Int) < d.jumps.length) = false := by simp; omega
          have hd6 : decide (m < d.jumps.length) = false := by simpa using hlm
          have hmn : m = d.jumps.length := by omega
          have HRE := Lib.hid (show RR = (l, 0, 0) by
            rw [HE.out]
            unfold linked
            rw [(HK2.out).1, hmn, List.drop_length]
            rfl)
          clear hmn
          go_wp2_with fail
          obtain ⟨r0, r1, rg⟩ := fault_set (HF2.out) (.int .i64 0) (.int .i64 0)
          refine bodyPost_ret (v := .tuple #[.slice ao d.list.length co, .agg #[.int .i64 0, .int .i64 0]]) (by simp [results, Tryz.results30, go_sem, r0, r1]) rfl ?_
          rw [HRE.out]
          exact ⟨_, rfl, (OwnI.kept (HQ.out).oi rg (own_fault (HQ.out).oi HF2.out (by decide))).inss, (HB2.out).grown rg (HB2.out).size (fun j hj => by cases hj; exact Nat.le_refl _)⟩
theorem refParse (s : Str) (w : World) (L : Lay w) : Calls Tryz.prog 30 #[str s] w (ParsedD (parseL s) w) := by
  by_cases h : 262144 < s.length
  · have := refParse_long s w h
    rwa [show parseL s = ([], 3, 0) by unfold parseL; rw [if_pos h]]
  · exact refParse_short s w h L
end Go.Proofs.YthfkmackodbmkaaGreatDoor
