/- What any text says is right; faults are at its lines; texts one behind the other say what both say. -/
import Derived.Test.YthfkmackodbmkaaGreatDoorTextBackMath
import Derived.Lib.Replace
import Derived.Lib.IndexBytes
namespace Go.Proofs.YthfkmackodbmkaaGreatDoor
set_option linter.unusedVariables false
set_option linter.unusedSimpArgs false
set_option maxRecDepth 10000

theorem table_kinds : ∀ e ∈ table, (e.2.2 = .jump → e.2.1.op = 16) ∧ (e.2.2 = .ask → 17 ≤ e.2.1.op ∧ e.2.1.op ≤ 27) := by decide
theorem entry_kind {s : Str} {e : Ins × Kind} (h : entry s = some e) : (e.2 = .jump → e.1.op = 16) ∧ (e.2 = .ask → 17 ≤ e.1.op ∧ e.1.op ≤ 27) := by
  unfold entry at h
  cases hf : table.find? (fun e => e.1 == s) with
  | none => rw [hf] at h; cases h
  | some x =>
    rw [hf, Option.map_some, Option.some.injEq] at h
    subst h
    exact table_kinds x (List.mem_of_find?_eq_some hf)
theorem second_ops {i i' : Ins} {ts r : List Str} (h : rdSecond i ts = some (i', r)) : i'.op = i.op := by
  unfold rdSecond at h
  split at h
  · cases h; rfl
  · rename_i hr
    cases hn : rdNum (decide ((takeOf [[45]] ts).1 = 0)) (takeOf [[45]] ts).2 with
    | none => rw [hn] at h; cases h
    | some x => rw [hn] at h; cases h; rfl
theorem reckon_ops {i i' : Ins} {ts r : List Str} (h : rdReckon i ts = some (i', r)) : i'.op = i.op := by
  unfold rdReckon rdTarget at h
  cases h1 : rdReg ts with
  | none => rw [h1] at h; cases h
  | some x =>
    rw [h1, Option.map_some, Option.bind_some] at h
    cases h2 : rdOf [[44]] x.2 with
    | none => rw [h2] at h; cases h
    | some y =>
      rw [h2, Option.bind_some] at h
      have := second_ops h
      exact this
theorem jump_ops {i : Ins} {x : (Ins × Str) × List Str} {ts : List Str} (h : rdJump i ts = some x) : x.1.1.op = i.op := by
  unfold rdJump at h
  split at h
  · rename_i y hy
    cases hn : rdNum (decide (y.1 = 1)) y.2 with
    | none => rw [hn] at h; cases h
    | some z => rw [hn] at h; cases h; rfl
  · cases hn : rdLabel ts with
    | none => rw [hn] at h; cases h
    | some z => rw [hn] at h; cases h; rfl
/-- An instruction that names a label jumps. -/
theorem rdIns_told {ts : List Str} {x : (Ins × Str) × List Str} (h : rdIns ts = some x) : right x.1.1 = true ∧ (x.1.2 ≠ [] → 16 ≤ x.1.1.op ∧ x.1.1.op ≤ 27) := by
  cases ts with
  | nil => cases h
  | cons w r =>
    change (Option.bind (entry w) _) = _ at h
    cases he : entry w with
    | none => rw [he] at h; cases h
    | some e =>
      rw [he, Option.bind_some] at h
      cases hk : rdKind e.2 e.1 r with
      | none => rw [hk] at h; cases h
      | some y =>
        rw [hk, Option.bind_some] at h
        split at h
        · rename_i hr
          cases h
          refine ⟨hr, fun hg => ?_⟩
          obtain ⟨k1, k2⟩ := entry_kind he
          obtain ⟨i, k⟩ := e
          cases k with
          | reckon => simp only [rdKind] at hk; cases hq : rdReckon i r with
            | none => rw [hq] at hk; cases hk
            | some z => rw [hq] at hk; cases hk; exact absurd rfl hg
          | target => simp only [rdKind] at hk; cases hq : rdTarget i r with
            | none => rw [hq] at hk; cases hk
            | some z => rw [hq] at hk; cases hk; exact absurd rfl hg
          | load => simp only [rdKind] at hk; cases hq : rdLoad i r with
            | none => rw [hq] at hk; cases hk
            | some z => rw [hq] at hk; cases hk; exact absurd rfl hg
          | put => simp only [rdKind] at hk; cases hq : rdPut i r with
            | none => rw [hq] at hk; cases hk
            | some z => rw [hq] at hk; cases hk; exact absurd rfl hg
          | exit => simp only [rdKind] at hk; cases hk; exact absurd rfl hg
          | jump =>
            have := jump_ops (i := i) (ts := r) (x := x) (by simpa [rdKind] using hk)
            have := k1 rfl
            simp only at this
            omega
          | ask =>
            have ho : x.1.1.op = i.op := by
              simp only [rdKind, rdAsk] at hk
              cases h1 : rdReckon i r with
              | none => rw [h1] at hk; cases hk
              | some a =>
                rw [h1, Option.bind_some] at hk
                cases h2 : rdOf [[44]] a.2 with
                | none => rw [h2] at hk; cases hk
                | some b =>
                  rw [h2, Option.bind_some] at hk
                  rw [jump_ops hk, reckon_ops h1]
            have := k2 rfl
            simp only at this
            omega
        · cases h
theorem told_ins {l : Str} {t : Told} (h : told l = some t) : (t.ins.op ≠ 0 → right t.ins = true) ∧ (t.goal ≠ [] → 16 ≤ t.ins.op ∧ t.ins.op ≤ 27) := by
  unfold told at h
  cases hl : tokL l with
  | none => rw [hl] at h; cases h
  | some ts =>
    rw [hl, Option.bind_some] at h
    unfold rdLine at h
    split at h
    · cases h; exact ⟨fun h => absurd rfl h, fun h => absurd rfl h⟩
    · split at h
      · cases hq : rdLabel ts with
        | none => rw [hq] at h; cases h
        | some x => rw [hq] at h; cases h; exact ⟨fun h => absurd rfl h, fun h => absurd rfl h⟩
      · cases hq : rdIns ts with
        | none => rw [hq] at h; cases h
        | some x =>
          rw [hq, Option.bind_some] at h
          split at h
          · cases h
            obtain ⟨a, b⟩ := rdIns_told hq
            exact ⟨fun _ => a, b⟩
          · cases h
/-- What holds of a draft's instructions and jumps, behind n lines. -/
structure DrR (d : Dr) (n : Int) : Prop where
  rights : d.list.all right = true
  jump : ∀ j ∈ d.jumps, 16 ≤ (ith d.list j.2.1.toNat).op ∧ (ith d.list j.2.1.toNat).op ≤ 27
  line : ∀ j ∈ d.jumps, 1 ≤ j.1 ∧ j.1 ≤ n
theorem ith_app (l : List Ins) (x : Ins) {k : Nat} (h : k < l.length) : ith (l ++ [x]) k = ith l k := by
  simp [ith, List.getD_eq_getElem?_getD, List.getElem?_append_left h]
theorem ith_new (l : List Ins) (x : Ins) : ith (l ++ [x]) l.length = x := by simp [ith]
theorem step_r {d d' : Dr} {l : Str} {n : Int} (h0 : 0 ≤ n) (hk : DrOk d) (h : DrR d n) (hd : stepL d (n + 1) l = .inl d') : DrR d' (n + 1) := by
  have up : ∀ j ∈ d.jumps, 1 ≤ j.1 ∧ j.1 ≤ n + 1 := fun j hj => by have := h.line j hj; omega
  unfold stepL at hd
  split at hd
  · cases hd
  · rename_i t ht
    obtain ⟨t1, t2⟩ := told_ins ht
    unfold addL at hd
    split at hd
    · split at hd
      · cases hd
      · cases hd; exact ⟨h.rights, h.jump, up⟩
    · split at hd
      · rename_i hop
        split at hd
        · cases hd
        · cases hd
          refine ⟨by simp [List.all_append, h.rights, t1 hop], fun j hj => ?_, fun j hj => ?_⟩
          · simp only at hj
            have old : j ∈ d.jumps → 16 ≤ (ith (d.list ++ [t.ins]) j.2.1.toNat).op ∧ (ith (d.list ++ [t.ins]) j.2.1.toNat).op ≤ 27 := fun hj => by
              rw [ith_app _ _ (by have := hk.jumps j hj; omega)]
              exact h.jump j hj
            split at hj
            · rename_i hg
              rcases List.mem_append.1 hj with hj | hj
              · exact old hj
              · simp only [List.mem_singleton] at hj
                subst hj
                simp only [Int.toNat_natCast]
                rw [ith_new]
                exact t2 hg
            · exact old hj
          · simp only at hj
            split at hj
            · rcases List.mem_append.1 hj with hj | hj
              · exact up j hj
              · simp only [List.mem_singleton] at hj
                subst hj
                simp only
                omega
            · exact up j hj
      · cases hd; exact ⟨h.rights, h.jump, up⟩
theorem run_r : ∀ (ls : List Str) (d d' : Dr) (n : Int), 0 ≤ n → DrOk d → DrR d n → runL d n ls = .inl d' → DrOk d' ∧ DrR d' (n + ls.length)
  | [], d, d', n, _, hk, h, hr => by
    simp only [runL] at hr
    cases hr
    exact ⟨hk, by simpa using h⟩
  | l :: ls, d, d', n, h0, hk, h, hr => by
    simp only [runL] at hr
    cases hs : stepL d (n + 1) l with
    | inr e => rw [hs] at hr; cases hr
    | inl d1 =>
      rw [hs] at hr
      have := run_r ls d1 d' (n + 1) (by omega) (stepL_ok hk hs) (step_r h0 hk h hs) hr
      rw [show n + ((l :: ls).length : Int) = n + 1 + ls.length by simp only [List.length_cons]; omega]
      exact this
theorem run_err : ∀ (ls : List Str) (d : Dr) (n : Int) (e : Int × Int), runL d n ls = .inr e → n + 1 ≤ e.2 ∧ e.2 ≤ n + ls.length ∧ e.1 ≠ 0
  | [], d, n, e, hr => by simp only [runL] at hr; cases hr
  | l :: ls, d, n, e, hr => by
    simp only [runL] at hr
    cases hs : stepL d (n + 1) l with
    | inl d1 =>
      rw [hs] at hr
      have := run_err ls d1 (n + 1) e hr
      simp only [List.length_cons]; omega
    | inr x =>
      rw [hs] at hr
      cases hr
      have hx : x ≠ 0 := by
        unfold stepL at hs
        split at hs
        · cases hs; decide
        · unfold addL at hs
          split at hs
          · split at hs
            · cases hs; decide
            · cases hs
          · split at hs
            · split at hs
              · cases hs; decide
              · cases hs
            · cases hs
      simp only [List.length_cons]
      exact ⟨by omega, by omega, hx⟩
theorem dr0_r : DrR dr0 0 := ⟨rfl, by intro j h; simp [dr0] at h, by intro j h; simp [dr0] at h⟩
theorem right_off {i : Ins} {x : Int} (h : right i = true) (hj : 16 ≤ i.op ∧ i.op ≤ 27) (h0 : -32768 ≤ x) (h1 : x < 32768) : right { i with off := x } = true := by
  obtain ⟨op, nw, dst, src, ui, off, im, sz⟩ := i
  simp only at hj ⊢
  have c1 : ¬ (1 ≤ op ∧ op ≤ 12) := by omega
  by_cases e : op = 16
  · subst e
    simp [right, farI] at h ⊢
    exact ⟨⟨h0, h1⟩, h.2⟩
  · have c2 : 17 ≤ op ∧ op ≤ 27 := by omega
    have c3 : ¬ op = 13 := by omega
    have c4 : ¬ op = 14 := by omega
    have c5 : ¬ op = 15 := by omega
    simp [right, c1, c2, c3, c4, c5, e, farI, second] at h ⊢
    exact ⟨h.1, ⟨h0, h1⟩, h.2.2⟩
theorem find_in {marks : List (Str × Int)} {s : Str} {p : Int} (h : findM marks s = some p) : ∃ e ∈ marks, e.2 = p := by
  unfold findM at h
  cases hf : marks.find? (fun e => e.1 == s) with
  | none => rw [hf] at h; cases h
  | some x =>
    rw [hf, Option.map_some, Option.some.injEq] at h
    exact ⟨x, List.mem_of_find?_eq_some hf, h⟩
theorem ith_set (l : List Ins) (k j : Nat) (x : Ins) (hk : k < l.length) : ith (l.set k x) j = if j = k then x else ith l j := by
  unfold ith
  simp only [List.getD_eq_getElem?_getD, List.getElem?_set]
  by_cases h : k = j
  · subst h; simp [hk]
  · have h' : ¬ j = k := fun e => h e.symm
    simp [h, h']
theorem link_right {marks : List (Str × Int)} (hm : ∀ e ∈ marks, 0 ≤ e.2 ∧ e.2 ≤ 4096) : ∀ (js : List (Int × Int × Str)) (l l' : List Ins), l.length ≤ 4096 → l.all right = true → (∀ j ∈ js, 0 ≤ j.2.1 ∧ j.2.1 < l.length) → (∀ j ∈ js, 16 ≤ (ith l j.2.1.toNat).op ∧ (ith l j.2.1.toNat).op ≤ 27) → linkL marks l js = .inl l' → l'.all right = true ∧ l'.length = l.length
  | [], l, l', _, hr, _, _, h => by simp only [linkL] at h; cases h; exact ⟨hr, rfl⟩
  | j :: js, l, l', hl, hr, h1, h2, h => by
    unfold linkL at h
    split at h
    · cases h
    · rename_i p hp
      obtain ⟨e, he, rfl⟩ := find_in hp
      have hb := hm e he
      have a := h1 j (by simp)
      have b := h2 j (by simp)
      have hk : j.2.1.toNat < l.length := by omega
      have hi : right (ith l j.2.1.toNat) = true := by
        rw [List.all_eq_true] at hr
        refine hr _ ?_
        unfold ith
        rw [List.getD_eq_getElem?_getD, List.getElem?_eq_getElem hk]
        exact List.getElem_mem hk
      have hr2 := right_off hi b (x := e.2 - (j.2.1 + 1)) (by omega) (by omega)
      have := link_right hm js _ l' (by simpa using hl) ?_ (fun j' hj' => ?_) (fun j' hj' => ?_) h
      · simpa using this
      · rw [List.all_eq_true] at hr ⊢
        intro x hx
        rcases List.mem_or_eq_of_mem_set hx with hx | rfl
        · exact hr x hx
        · exact hr2
      · have := h1 j' (by simp [hj'])
        simpa using this
      · rw [ith_set _ _ _ _ hk]
        split
        · exact b
        · exact h2 j' (by simp [hj'])
theorem link_err {marks : List (Str × Int)} : ∀ (js : List (Int × Int × Str)) (l : List Ins) (n : Int), linkL marks l js = .inr n → ∃ j ∈ js, j.1 = n
  | [], l, n, h => by simp only [linkL] at h; cases h
  | j :: js, l, n, h => by
    unfold linkL at h
    split at h
    · cases h; exact ⟨j, by simp, rfl⟩
    · obtain ⟨j', a, b⟩ := link_err js _ n h
      exact ⟨j', by simp [a], b⟩
theorem lines_count : ∀ s : Str, (lines s).length = s.count 10 + 1
  | [] => rfl
  | c :: s => by
    unfold lines
    split
    · rename_i h
      subst h
      rw [List.length_cons, lines_count s, List.count_cons_self]
    · rename_i h
      rw [List.length_cons, List.length_tail, lines_count s, List.count_cons_of_ne (by simpa using h)]
      omega
/-- What a text says is right, and not too much; a fault is at a line of it. -/
theorem parse_told (s : Str) : ((parseL s).2.1 = 0 → (parseL s).2.2 = 0 ∧ (parseL s).1.all right = true ∧ (parseL s).1.length ≤ 4096) ∧
    ((parseL s).2.1 ≠ 0 → (parseL s).1 = [] ∧ 0 ≤ (parseL s).2.2 ∧ (parseL s).2.2 ≤ 1 + (s.count 10 : Int)) := by
  have hlc := lines_count s
  unfold parseL
  split
  · exact ⟨fun h => absurd h (by decide), fun _ => ⟨rfl, by decide, by simp only; omega⟩⟩
  · cases hr : runL ⟨[], [], []⟩ 0 (lines s) with
    | inr e =>
      have := run_err _ _ _ _ hr
      rw [hlc] at this
      simp only
      exact ⟨fun h => absurd h this.2.2, fun _ => ⟨trivial, by omega, by omega⟩⟩
    | inl d =>
      obtain ⟨hk, hd⟩ := run_r _ _ _ _ (by omega) dr0_ok dr0_r hr
      simp only [linked]
      cases hl : linkL d.marks d.list d.jumps with
      | inl l =>
        obtain ⟨a, b⟩ := link_right hk.marks _ _ _ hk.list hd.rights hk.jumps hd.jump hl
        simp only
        exact ⟨fun _ => ⟨trivial, a, by rw [b]; exact hk.list⟩, fun h => absurd rfl h⟩
      | inr n =>
        obtain ⟨j, hj, rfl⟩ := link_err _ _ _ hl
        have := hd.line j hj
        simp only
        exact ⟨fun h => absurd h (by decide), fun _ => ⟨trivial, by omega, by omega⟩⟩

/-- The instructions of lines that have no label. -/
def insOf (t : Told) : List Ins := if t.ins.op ≠ 0 then [t.ins] else []
def plainT (t : Told) : Bool := decide (t.label = []) && decide (t.goal = [])
def runs : List Str → Option (List Ins)
  | [] => some []
  | l :: ls => (told l).bind fun t => if plainT t then (runs ls).map (insOf t ++ ·) else none
theorem runs_app : ∀ a b : List Str, runs (a ++ b) = (runs a).bind fun x => (runs b).map (x ++ ·)
  | [], b => by simp [runs]
  | l :: a, b => by
    rw [List.cons_append, runs, runs]
    cases told l with
    | none => rfl
    | some t =>
      simp only [Option.bind_some]
      split
      · rw [runs_app a b]
        cases runs a with
        | none => rfl
        | some x =>
          simp only [Option.bind_some, Option.map_some]
          cases runs b <;> simp
      · rfl
/-- Lines that say plain things are gone through. -/
theorem runs_run : ∀ (ls : List Str) (d : Dr) (n : Int) (z : List Ins), runs ls = some z → d.list.length + z.length ≤ 4096 → runL d n ls = .inl { d with list := d.list ++ z }
  | [], d, n, z, h, _ => by
    simp only [runs, Option.some.injEq] at h
    subst h
    simp [runL]
  | l :: ls, d, n, z, h, hz => by
    rw [runs] at h
    cases ht : told l with
    | none => rw [ht] at h; cases h
    | some t =>
      rw [ht, Option.bind_some] at h
      split at h
      · rename_i hp
        cases hr : runs ls with
        | none => rw [hr] at h; cases h
        | some y =>
          rw [hr, Option.map_some, Option.some.injEq] at h
          subst h
          simp [plainT] at hp
          have hs : stepL d (n + 1) l = .inl { d with list := d.list ++ insOf t } := by
            unfold stepL
            rw [ht]
            unfold insOf at hz ⊢
            simp only [addL, hp.1, hp.2, ne_eq, not_true_eq_false, if_false]
            split
            · rename_i hop
              simp [hop] at hz
              rw [if_neg (by omega)]
            · simp
          rw [runL, hs]
          simp only
          rw [runs_run ls _ _ y hr (by simp at hz ⊢; omega)]
          simp
      · cases h
theorem toks_mem : ∀ (s cur : Str) (ts : List Str), toks cur s = some ts → ∀ t ∈ ts, ∀ c ∈ t, c ∈ cur ∨ c ∈ s := by
  intro s
  induction s with
  | nil =>
    intro cur ts h t ht c hc
    simp only [toks, Option.some.injEq] at h
    subst h
    unfold flush at ht
    split at ht
    · cases ht
    · simp only [List.mem_singleton] at ht
      subst ht
      exact .inl hc
  | cons b s ih =>
    intro cur ts h t ht c hc
    have fl : ∀ ts', (∀ t ∈ ts', ∀ c ∈ t, c ∈ b :: s) → ∀ t ∈ flush cur ts', ∀ c ∈ t, c ∈ cur ∨ c ∈ b :: s := by
      intro ts' h' t ht c hc
      unfold flush at ht
      split at ht
      · exact .inr (h' t ht c hc)
      · rcases List.mem_cons.1 ht with rfl | ht
        · exact .inl hc
        · exact .inr (h' t ht c hc)
    unfold toks at h
    split at h
    · rcases ih _ ts h t ht c hc with h | h
      · rcases List.mem_append.1 h with h | h
        · exact .inl h
        · simp at h; subst h; simp
      · exact .inr (List.mem_cons_of_mem _ h)
    · split at h
      · cases hr : toks [] s with
        | none => rw [hr] at h; cases h
        | some ts' =>
          rw [hr, Option.map_some, Option.some.injEq] at h
          subst h
          refine fl ts' (fun t ht c hc => ?_) t ht c hc
          rcases ih [] ts' hr t ht c hc with h | h
          · cases h
          · exact List.mem_cons_of_mem _ h
      · split at h
        · cases hr : toks [] s with
          | none => rw [hr] at h; cases h
          | some ts' =>
            rw [hr, Option.map_some, Option.some.injEq] at h
            subst h
            refine fl ([b] :: ts') (fun t ht c hc => ?_) t ht c hc
            rcases List.mem_cons.1 ht with rfl | ht
            · simp at hc; subst hc; simp
            · rcases ih [] ts' hr t ht c hc with h | h
              · cases h
              · exact List.mem_cons_of_mem _ h
        · cases h
theorem told_label {l : Str} {t : Told} (h : told l = some t) (h58 : (58 : UInt8) ∉ l) : t.label = [] := by
  unfold told at h
  cases hl : tokL l with
  | none => rw [hl] at h; cases h
  | some ts =>
    rw [hl, Option.bind_some] at h
    unfold rdLine at h
    split at h
    · cases h; rfl
    · split at h
      · rename_i hi
        exfalso
        simp [isLab] at hi
        have hm : [58] ∈ ts := List.mem_of_getElem? hi.2
        rcases toks_mem _ _ _ hl _ hm 58 (by simp) with h | h
        · cases h
        · exact h58 (List.takeWhile_sublist _ |>.mem h)
      · cases hq : rdIns ts with
        | none => rw [hq] at h; cases h
        | some x =>
          rw [hq, Option.bind_some] at h
          split at h
          · cases h; rfl
          · cases h
theorem run_plain : ∀ (ls : List Str) (d d' : Dr) (n : Int), (∀ l ∈ ls, (58 : UInt8) ∉ l) → runL d n ls = .inl d' → d'.marks = d.marks ∧ (d'.jumps = [] → d.jumps = [] ∧ ∃ z, runs ls = some z ∧ d'.list = d.list ++ z)
  | [], d, d', n, _, h => by
    simp only [runL] at h
    cases h
    exact ⟨rfl, fun h => ⟨h, [], rfl, by simp⟩⟩
  | l :: ls, d, d', n, h58, h => by
    rw [runL] at h
    cases hs : stepL d (n + 1) l with
    | inr e => rw [hs] at h; cases h
    | inl d1 =>
      rw [hs] at h
      obtain ⟨m1, m2⟩ := run_plain ls d1 d' (n + 1) (fun x hx => h58 x (by simp [hx])) h
      unfold stepL at hs
      split at hs
      · cases hs
      · rename_i t ht
        have hlab := told_label ht (h58 l (by simp))
        unfold addL at hs
        rw [if_neg (by simp [hlab])] at hs
        have key : ∀ z, runs ls = some z → t.goal = [] → runs (l :: ls) = some (insOf t ++ z) := fun z hz hg => by
          rw [runs, ht, Option.bind_some, if_pos (by simp [plainT, hlab, hg]), hz]; rfl
        split at hs
        · rename_i hop
          split at hs
          · cases hs
          · cases hs
            refine ⟨m1, fun hj => ?_⟩
            obtain ⟨a, z, b, c⟩ := m2 hj
            simp only at a c
            split at a
            · simp at a
            · rename_i hg
              have hg' : t.goal = [] := Decidable.byContradiction fun e => hg e
              refine ⟨a, _, key z b hg', ?_⟩
              rw [c, insOf, if_pos hop]
              simp
        · rename_i hop
          cases hs
          refine ⟨m1, fun hj => ?_⟩
          obtain ⟨a, z, b, c⟩ := m2 hj
          have hg' : t.goal = [] := Decidable.byContradiction fun e => by
            have := (told_ins ht).2 e
            exact hop (by omega)
          refine ⟨a, _, key z b hg', ?_⟩
          rw [c, insOf, if_neg hop]
          simp
theorem lines_char : ∀ (s : Str) (l : Str), l ∈ lines s → ∀ c ∈ l, c ∈ s
  | [], l, h, c, hc => by simp [lines] at h; subst h; cases hc
  | b :: s, l, h, c, hc => by
    unfold lines at h
    split at h
    · rcases List.mem_cons.1 h with rfl | h
      · cases hc
      · exact List.mem_cons_of_mem _ (lines_char s l h c hc)
    · cases hl : lines s with
      | nil =>
        rw [hl] at h
        simp at h
        subst h
        simp at hc; subst hc; simp
      | cons y ys =>
        rw [hl] at h
        simp only [List.headD_cons, List.tail_cons] at h
        rcases List.mem_cons.1 h with rfl | h
        · rcases List.mem_cons.1 hc with rfl | hc
          · simp
          · exact List.mem_cons_of_mem _ (lines_char s y (by rw [hl]; simp) c hc)
        · exact List.mem_cons_of_mem _ (lines_char s l (by rw [hl]; simp [h]) c hc)
theorem parse_plain {s : Str} {x : List Ins} (h58 : (58 : UInt8) ∉ s) (h : (parseL s).2.1 = 0) (hx : (parseL s).1 = x) : runs (lines s) = some x := by
  unfold parseL at h hx
  split at h
  · exact absurd h (by decide)
  · rename_i hl
    rw [if_neg hl] at hx
    cases hr : runL ⟨[], [], []⟩ 0 (lines s) with
    | inr e =>
      rw [hr] at h
      exact absurd h (run_err _ _ _ _ hr).2.2
    | inl d =>
      rw [hr] at h hx
      simp only at h hx
      obtain ⟨m1, m2⟩ := run_plain (lines s) _ d 0 (fun l hl' hc => h58 (lines_char s l hl' _ hc)) hr
      have hj : d.jumps = [] := by
        cases hq : d.jumps with
        | nil => rfl
        | cons j js =>
          exfalso
          unfold linked at h
          rw [m1, hq] at h
          simp [linkL, findM] at h
      obtain ⟨-, z, hz, he⟩ := m2 hj
      unfold linked at hx
      rw [hj] at hx
      simp only [linkL] at hx
      simp only [List.nil_append] at he
      rw [hz, ← hx, he]
theorem lines_two (s r : Str) : lines (s ++ 10 :: r) = lines s ++ lines r := by
  induction s with
  | nil => simp [lines]
  | cons c s ih =>
    rw [List.cons_append]
    have e : ∀ x : Str, lines (c :: x) = if c = 10 then [] :: lines x else (c :: (lines x).headD []) :: (lines x).tail := fun _ => rfl
    rw [e, e, ih]
    split
    · rfl
    · cases hl : lines s with
      | nil => exact absurd hl (by have := lines_count s; intro e; rw [e] at this; simp at this)
      | cons y ys => simp
theorem toks_end : ∀ (s cur : Str) (c : UInt8), blankC c = true → toks cur (s ++ [c]) = toks cur s
  | [], cur, c, hb => by
    have hw : wordC c = false := by have := blank_word c; simp_all
    simp [toks, hw, hb, flush]
  | b :: s, cur, c, hb => by
    rw [List.cons_append, toks, toks, toks_end s _ c hb, toks_end s [] c hb]
theorem cut_app (s r : Str) : cutHash (s ++ r) = if (35 : UInt8) ∈ s then cutHash s else s ++ cutHash r := by
  unfold cutHash
  induction s with
  | nil => simp
  | cons b s ih =>
    rw [List.cons_append]
    by_cases hb : b = 35
    · subst hb; simp
    · have hb' : ¬ (35 : UInt8) = b := fun e => hb e.symm
      have hp : (b != 35) = true := by simpa using hb
      rw [List.takeWhile_cons_of_pos (by simpa using hp), ih, List.takeWhile_cons_of_pos (by simpa using hp)]
      by_cases hm : (35 : UInt8) ∈ s
      · simp [hm]
      · simp [hm, hb']
theorem tokL_cr (s : Str) : tokL (s ++ [13]) = tokL s := by
  unfold tokL
  rw [cut_app]
  split
  · rfl
  · rename_i h
    rw [cut_none h]
    exact toks_end s [] 13 (by decide)
def remark : Str := [32, 35, 32, 120, 58, 32, 91]
theorem tokL_remark (s : Str) : tokL (s ++ remark) = tokL s := by
  unfold tokL
  rw [cut_app]
  split
  · rfl
  · rename_i h
    rw [cut_none h]
    exact toks_end s [] 32 (by decide)
theorem tokL_tab (s : Str) : tokL (9 :: s) = tokL s := by
  unfold tokL
  have : cutHash (9 :: s) = 9 :: cutHash s := by unfold cutHash; rw [List.takeWhile_cons_of_pos (by decide)]
  rw [this, toks_blank _ (by decide)]
theorem told_of {s t : Str} (h : tokL s = tokL t) : told s = told t := by unfold told; rw [h]
theorem runs_told {a b : Str} (ls : List Str) (h : told a = told b) : runs (a :: ls) = runs (b :: ls) := by rw [runs, runs, h]
theorem runs_tail {a : Str} {x y : List Str} (h : runs x = runs y) : runs (a :: x) = runs (a :: y) := by rw [runs, runs, h]
theorem runs_still {a : Str} (ls : List Str) (h : told a = some nothing) : runs (a :: ls) = runs ls := by
  rw [runs, h, Option.bind_some, if_pos (by decide)]
  cases runs ls <;> rfl
/-- The lines' ends turned into remarks, blanks and empty lines. -/
def repl (s : Str) : Str := Lib.replaceAll s [10] (remark ++ [10, 32, 10])
theorem repl_none {s : Str} (h : (10 : UInt8) ∉ s) : repl s = s := by
  unfold repl Lib.replaceAll Lib.replace Lib.replaceNum
  rw [if_neg (by decide), if_pos (.inl (by decide)), Lib.count_one, List.count_eq_zero_of_not_mem h]
  rfl
theorem index_ten' {s r : Str} (h : (10 : UInt8) ∉ s) : Lib.index (s ++ 10 :: r) [10] = (s.length : Int) := by
  rw [Lib.index_one]
  induction s with
  | nil => rfl
  | cons b s ih =>
    simp only [List.mem_cons, not_or] at h
    have hb : ¬ b = 10 := fun e => h.1 e.symm
    rw [List.cons_append, Lib.indexByte, ih h.2]
    simp [hb]
theorem repl_some {s r : Str} (h : (10 : UInt8) ∉ s) : repl (s ++ 10 :: r) = s ++ (remark ++ 10 :: ([32] ++ 10 :: repl r)) := by
  have hn : Lib.replaceNum (s ++ 10 :: r) [10] (-1) = Lib.replaceNum r [10] (-1) + 1 := by
    unfold Lib.replaceNum
    rw [if_pos (.inl (by decide)), if_pos (.inl (by decide)), Lib.count_one, Lib.count_one, List.count_append, List.count_eq_zero_of_not_mem h, List.count_cons_self]
    omega
  have e : ∀ t : Str, repl t = Lib.replaceK [10] (remark ++ [10, 32, 10]) (Lib.replaceNum t [10] (-1)) t := fun t => by
    unfold repl Lib.replaceAll Lib.replace
    rw [if_neg (by decide)]
  rw [e, hn, Lib.replaceK_hit _ _ _ _ _ (index_ten' h), e r]
  have hd : (s ++ 10 :: r).drop (s.length + [(10 : UInt8)].length) = r := by
    rw [show s ++ 10 :: r = (s ++ [10]) ++ r by simp, show s.length + [(10 : UInt8)].length = (s ++ [(10 : UInt8)]).length by simp]
    exact List.drop_left
  rw [hd]
  simp [remark]
theorem ten_split {s : Str} (h : (10 : UInt8) ∈ s) : ∃ a b, s = a ++ 10 :: b ∧ (10 : UInt8) ∉ a ∧ b.length < s.length := by
  induction s with
  | nil => cases h
  | cons c s ih =>
    by_cases hc : c = 10
    · subst hc
      exact ⟨[], s, rfl, by simp, by simp⟩
    · have hm : (10 : UInt8) ∈ s := by
        rcases List.mem_cons.1 h with e | h
        · exact absurd e.symm hc
        · exact h
      obtain ⟨a, b, rfl, h1, h2⟩ := ih hm
      refine ⟨c :: a, b, rfl, ?_, by simp at h2 ⊢; omega⟩
      simp only [List.mem_cons, not_or]
      exact ⟨fun e => hc e.symm, h1⟩
theorem runs_repl : ∀ (n : Nat) (a q : Str), a.length ≤ n → (q = [] ∨ q = [9]) → runs (lines (q ++ (repl a ++ [13]))) = runs (lines a)
  | n, a, q, hn, hq => by
    have hqt : ∀ s, told (q ++ s) = told s := fun s => by
      rcases hq with rfl | rfl
      · rfl
      · exact told_of (tokL_tab s)
    have hq10 : (10 : UInt8) ∉ q := by rcases hq with rfl | rfl <;> decide
    by_cases h : (10 : UInt8) ∈ a
    · obtain ⟨s, r, rfl, h1, h2⟩ := ten_split h
      rw [repl_some h1]
      have e : q ++ (s ++ (remark ++ 10 :: ([32] ++ 10 :: repl r)) ++ [13]) = (q ++ (s ++ remark)) ++ 10 :: ([32] ++ 10 :: ([] ++ (repl r ++ [13]))) := by simp
      have h3 : (10 : UInt8) ∉ q ++ (s ++ remark) := by
        simp only [List.mem_append, not_or]
        exact ⟨hq10, h1, by decide⟩
      rw [e, lines_part _ _ h3, lines_part _ _ (by decide), lines_part _ _ h1]
      have ih : runs (lines ([] ++ (repl r ++ [13]))) = runs (lines r) := by
        cases n with
        | zero => omega
        | succ n => exact runs_repl n r [] (by omega) (.inl rfl)
      rw [runs_told _ ((hqt _).trans (told_of (tokL_remark s)))]
      exact runs_tail ((runs_still _ rfl).trans ih)
    · rw [repl_none h]
      have h3 : (10 : UInt8) ∉ q ++ (a ++ [13]) := by
        simp only [List.mem_append, not_or]
        exact ⟨hq10, h, by decide⟩
      rw [lines_none h3, lines_none h]
      exact runs_told _ ((hqt _).trans (told_of (tokL_cr a)))
theorem repl_len (a : Str) : (repl a).length ≤ 11 * a.length := by
  suffices ∀ n (a : Str), a.length ≤ n → (repl a).length ≤ 11 * a.length from this _ a (Nat.le_refl _)
  intro n
  induction n with
  | zero =>
    intro a hn
    have : a = [] := List.eq_nil_of_length_eq_zero (by omega)
    subst this
    rw [repl_none (by simp)]; omega
  | succ n ih =>
    intro a hn
    by_cases h : (10 : UInt8) ∈ a
    · obtain ⟨s, r, rfl, h1, h2⟩ := ten_split h
      rw [repl_some h1]
      have := ih r (by omega)
      simp only [List.length_append, List.length_cons, List.length_nil, remark] at hn ⊢
      omega
    · rw [repl_none h]; omega
def head1 : Str := [35, 32, 102, 105, 114, 115, 116]
/-- The text that is put together. -/
def both (a b : Str) : Str := head1 ++ 10 :: (([9] ++ (repl a ++ [13])) ++ 10 :: ([] ++ 10 :: (b ++ 10 :: [35])))
theorem rows {a b : Str} (ha : (58 : UInt8) ∉ a) (hb : (58 : UInt8) ∉ b) (hl : a.length + b.length ≤ 20000) (h1 : (parseL a).2.1 = 0) (h2 : (parseL b).2.1 = 0) (h3 : (parseL a).1.length + (parseL b).1.length ≤ 4096) :
    parseL (both a b) = ((parseL a).1 ++ (parseL b).1, 0, 0) := by
  have ra := parse_plain ha h1 rfl
  have rb := parse_plain hb h2 rfl
  have hr : runs (lines (both a b)) = some ((parseL a).1 ++ (parseL b).1) := by
    unfold both
    rw [lines_two, lines_two, lines_two, lines_two, show lines head1 = [head1] from rfl, show lines ([] : Str) = [[]] from rfl, show lines [35] = [[35]] from rfl]
    rw [runs_app, runs_still (a := head1) _ rfl, runs_app, runs_repl _ a [9] (Nat.le_refl _) (.inr rfl), ra, runs_app, runs_still (a := []) _ rfl, runs_app, rb, runs_still (a := [35]) _ rfl]
    simp [runs]
  have hlen : (both a b).length ≤ 262144 := by
    have := repl_len a
    unfold both head1
    simp only [List.length_append, List.length_cons, List.length_nil]
    omega
  unfold parseL
  rw [if_neg (by omega), show (⟨[], [], []⟩ : Dr) = dr0 from rfl]
  have := runs_run _ dr0 0 _ hr (by simp [dr0]; omega)
  unfold parseL at this
  rw [this]
  simp [linked, linkL, dr0]
end Go.Proofs.YthfkmackodbmkaaGreatDoor
