/- Filters as lines: the language, as plain lists. -/
import Derived.Test.YthfkmackodbmkaaGreatDoorInsMath
import Derived.Lib.ItoaNum
import Derived.Lib.AtoiTie
namespace Go.Proofs.YthfkmackodbmkaaGreatDoor
set_option linter.unusedVariables false
set_option linter.unusedSimpArgs false

abbrev Str := List UInt8
def letterC (c : UInt8) : Bool := decide (97 ≤ c.toNat) && decide (c.toNat ≤ 122)
def digitC (c : UInt8) : Bool := decide (48 ≤ c.toNat) && decide (c.toNat ≤ 57)
def wordC (c : UInt8) : Bool := letterC c || (digitC c || decide (c.toNat = 95))
def signC (c : UInt8) : Bool := [44, 91, 93, 43, 45, 58].contains c
def blankC (c : UInt8) : Bool := [9, 13, 32].contains c
theorem all8 {p : UInt8 → Bool} (h : ∀ n : Fin 256, p (UInt8.ofNat n.val) = true) (c : UInt8) : p c = true := by
  have := h ⟨c.toNat, c.toNat_lt⟩
  simpa using this
theorem blank_word (c : UInt8) : (!(blankC c && wordC c)) = true := all8 (p := fun c => !(blankC c && wordC c)) (by decide +kernel) c
theorem sign_word (c : UInt8) : (!(signC c && wordC c)) = true := all8 (p := fun c => !(signC c && wordC c)) (by decide +kernel) c
theorem sign_blank (c : UInt8) : (!(signC c && blankC c)) = true := all8 (p := fun c => !(signC c && blankC c)) (by decide +kernel) c
theorem ten_other : wordC 10 = false ∧ blankC 10 = false ∧ signC 10 = false := by decide
theorem hash_other : wordC 35 = false ∧ blankC 35 = false ∧ signC 35 = false := by decide

/-- A token that is under way, and what is got if it is one. -/
def flush (cur : Str) (ts : List Str) : List Str := if cur = [] then ts else cur :: ts
/-- The tokens of a line (cur: the word that is under way); none: something in it is none. -/
def toks : Str → Str → Option (List Str)
  | cur, [] => some (flush cur [])
  | cur, c :: r =>
    if wordC c then toks (cur ++ [c]) r
    else if blankC c then (toks [] r).map (flush cur)
    else if signC c then (toks [] r).map fun ts => flush cur ([c] :: ts)
    else none
def cutHash (s : Str) : Str := s.takeWhile (· != 35)
def tokL (s : Str) : Option (List Str) := toks [] (cutHash s)
/-- The lines of a text. -/
def lines : Str → List Str
  | [] => [[]]
  | c :: r => if c = 10 then [] :: lines r else (c :: (lines r).headD []) :: (lines r).tail

theorem toks_words : ∀ (u cur r : Str), u.all wordC = true → toks cur (u ++ r) = toks (cur ++ u) r
  | [], cur, r, _ => by simp
  | c :: u, cur, r, h => by
    simp only [List.all_cons, Bool.and_eq_true] at h
    rw [List.cons_append, toks, if_pos h.1, toks_words u _ r h.2]
    simp
theorem toks_stop (cur r : Str) (h : ∀ c, r.head? = some c → wordC c = false) : toks cur r = (toks [] r).map (flush cur) := by
  cases r with
  | nil => simp [toks, flush]
  | cons c r =>
    have hw := h c rfl
    have hb := blank_word c
    simp only [toks, hw, Bool.false_eq_true, if_false]
    split
    · cases toks [] r <;> simp [flush]
    · split
      · cases toks [] r <;> simp [flush]
      · rfl
theorem toks_word {u r : Str} (hu : u.all wordC = true) (h0 : u ≠ []) (h : ∀ c, r.head? = some c → wordC c = false) : toks [] (u ++ r) = (toks [] r).map (u :: ·) := by
  rw [toks_words u [] r hu, List.nil_append, toks_stop u r h]
  congr 1
  funext ts
  simp [flush, h0]
theorem toks_blank {c : UInt8} (r : Str) (h : blankC c = true) : toks [] (c :: r) = toks [] r := by
  have hw : wordC c = false := by have := blank_word c; simp_all
  have : flush ([] : Str) = id := by funext ts; simp [flush]
  simp [toks, hw, h, this]
theorem toks_sign {c : UInt8} (r : Str) (h : signC c = true) : toks [] (c :: r) = (toks [] r).map ([c] :: ·) := by
  have hw : wordC c = false := by have := sign_word c; simp_all
  have hb : blankC c = false := by have := sign_blank c; simp_all
  have : (fun ts : List Str => flush ([] : Str) ([c] :: ts)) = ([c] :: ·) := by funext ts; simp [flush]
  simp [toks, hw, hb, h, this]
theorem toks_none {c : UInt8} (r : Str) (hw : wordC c = false) (hb : blankC c = false) (h : signC c = false) : toks [] (c :: r) = none := by
  simp [toks, hw, hb, h]
/-- What a token is. -/
def Tok (t : Str) : Prop := (t ≠ [] ∧ t.all wordC = true) ∨ ∃ c, signC c = true ∧ t = [c]
theorem Tok.ne {t : Str} (h : Tok t) : t ≠ [] := by
  rcases h with h | ⟨c, _, rfl⟩
  · exact h.1
  · simp
theorem toks_tok : ∀ (r cur : Str) (ts : List Str), cur.all wordC = true → toks cur r = some ts → ∀ t ∈ ts, Tok t := by
  intro r
  induction r with
  | nil =>
    intro cur ts hc h t ht
    simp only [toks, Option.some.injEq] at h
    subst h
    unfold flush at ht
    split at ht
    · cases ht
    · rename_i h0
      simp only [List.mem_singleton] at ht
      subst ht
      exact .inl ⟨h0, hc⟩
  | cons c r ih =>
    intro cur ts hc h t ht
    have fl : ∀ ts', (∀ t ∈ ts', Tok t) → ∀ t ∈ flush cur ts', Tok t := by
      intro ts' h' t ht
      unfold flush at ht
      split at ht
      · exact h' t ht
      · rename_i h0
        rcases List.mem_cons.1 ht with rfl | h1
        · exact .inl ⟨h0, hc⟩
        · exact h' t h1
    unfold toks at h
    split at h
    · rename_i hw
      exact ih _ ts (by simp [hc, hw]) h t ht
    · split at h
      · cases hr : toks [] r with
        | none => rw [hr] at h; cases h
        | some ts' =>
          rw [hr, Option.map_some, Option.some.injEq] at h
          subst h
          exact fl ts' (ih [] ts' rfl hr) t ht
      · split at h
        · rename_i hs
          cases hr : toks [] r with
          | none => rw [hr] at h; cases h
          | some ts' =>
            rw [hr, Option.map_some, Option.some.injEq] at h
            subst h
            refine fl ([c] :: ts') ?_ t ht
            intro t' h'
            rcases List.mem_cons.1 h' with rfl | h1
            · exact .inr ⟨c, hs, rfl⟩
            · exact ih [] ts' rfl hr t' h1
        · cases h
theorem tokL_tok {s : Str} {ts : List Str} (h : tokL s = some ts) : ∀ t ∈ ts, Tok t := toks_tok _ [] ts rfl h

def opNames : List Str := [[], [97, 100, 100], [115, 117, 98], [109, 117, 108], [100, 105, 118], [109, 111, 100], [97, 110, 100], [111, 114], [120, 111, 114], [115, 104, 108], [115, 104, 114], [115, 97, 114], [109, 111, 118], [110, 101, 103], [108, 111, 97, 100], [112, 117, 116], [106, 117, 109, 112], [106, 101, 113], [106, 110, 101], [106, 103, 116], [106, 103, 101], [106, 108, 116], [106, 108, 101], [106, 115, 103, 116], [106, 115, 103, 101], [106, 115, 108, 116], [106, 115, 108, 101], [106, 115, 101, 116], [101, 120, 105, 116]]
def regs : List Str := [[114, 48], [114, 49], [114, 50], [114, 51], [114, 52], [114, 53], [114, 54], [114, 55], [114, 56], [114, 57], [114, 49, 48]]
inductive Kind | reckon | target | ask | load | put | jump | exit
deriving DecidableEq
def table : List (Str × Ins × Kind) := [
  ([97, 100, 100], ⟨1, false, 0, 0, false, 0, 0, 0⟩, .reckon),
  ([97, 100, 100, 51, 50], ⟨1, true, 0, 0, false, 0, 0, 0⟩, .reckon),
  ([115, 117, 98], ⟨2, false, 0, 0, false, 0, 0, 0⟩, .reckon),
  ([115, 117, 98, 51, 50], ⟨2, true, 0, 0, false, 0, 0, 0⟩, .reckon),
  ([109, 117, 108], ⟨3, false, 0, 0, false, 0, 0, 0⟩, .reckon),
  ([109, 117, 108, 51, 50], ⟨3, true, 0, 0, false, 0, 0, 0⟩, .reckon),
  ([100, 105, 118], ⟨4, false, 0, 0, false, 0, 0, 0⟩, .reckon),
  ([100, 105, 118, 51, 50], ⟨4, true, 0, 0, false, 0, 0, 0⟩, .reckon),
  ([109, 111, 100], ⟨5, false, 0, 0, false, 0, 0, 0⟩, .reckon),
  ([109, 111, 100, 51, 50], ⟨5, true, 0, 0, false, 0, 0, 0⟩, .reckon),
  ([97, 110, 100], ⟨6, false, 0, 0, false, 0, 0, 0⟩, .reckon),
  ([97, 110, 100, 51, 50], ⟨6, true, 0, 0, false, 0, 0, 0⟩, .reckon),
  ([111, 114], ⟨7, false, 0, 0, false, 0, 0, 0⟩, .reckon),
  ([111, 114, 51, 50], ⟨7, true, 0, 0, false, 0, 0, 0⟩, .reckon),
  ([120, 111, 114], ⟨8, false, 0, 0, false, 0, 0, 0⟩, .reckon),
  ([120, 111, 114, 51, 50], ⟨8, true, 0, 0, false, 0, 0, 0⟩, .reckon),
  ([115, 104, 108], ⟨9, false, 0, 0, false, 0, 0, 0⟩, .reckon),
  ([115, 104, 108, 51, 50], ⟨9, true, 0, 0, false, 0, 0, 0⟩, .reckon),
  ([115, 104, 114], ⟨10, false, 0, 0, false, 0, 0, 0⟩, .reckon),
  ([115, 104, 114, 51, 50], ⟨10, true, 0, 0, false, 0, 0, 0⟩, .reckon),
  ([115, 97, 114], ⟨11, false, 0, 0, false, 0, 0, 0⟩, .reckon),
  ([115, 97, 114, 51, 50], ⟨11, true, 0, 0, false, 0, 0, 0⟩, .reckon),
  ([109, 111, 118], ⟨12, false, 0, 0, false, 0, 0, 0⟩, .reckon),
  ([109, 111, 118, 51, 50], ⟨12, true, 0, 0, false, 0, 0, 0⟩, .reckon),
  ([110, 101, 103], ⟨13, false, 0, 0, false, 0, 0, 0⟩, .target),
  ([110, 101, 103, 51, 50], ⟨13, true, 0, 0, false, 0, 0, 0⟩, .target),
  ([106, 101, 113], ⟨17, false, 0, 0, false, 0, 0, 0⟩, .ask),
  ([106, 101, 113, 51, 50], ⟨17, true, 0, 0, false, 0, 0, 0⟩, .ask),
  ([106, 110, 101], ⟨18, false, 0, 0, false, 0, 0, 0⟩, .ask),
  ([106, 110, 101, 51, 50], ⟨18, true, 0, 0, false, 0, 0, 0⟩, .ask),
  ([106, 103, 116], ⟨19, false, 0, 0, false, 0, 0, 0⟩, .ask),
  ([106, 103, 116, 51, 50], ⟨19, true, 0, 0, false, 0, 0, 0⟩, .ask),
  ([106, 103, 101], ⟨20, false, 0, 0, false, 0, 0, 0⟩, .ask),
  ([106, 103, 101, 51, 50], ⟨20, true, 0, 0, false, 0, 0, 0⟩, .ask),
  ([106, 108, 116], ⟨21, false, 0, 0, false, 0, 0, 0⟩, .ask),
  ([106, 108, 116, 51, 50], ⟨21, true, 0, 0, false, 0, 0, 0⟩, .ask),
  ([106, 108, 101], ⟨22, false, 0, 0, false, 0, 0, 0⟩, .ask),
  ([106, 108, 101, 51, 50], ⟨22, true, 0, 0, false, 0, 0, 0⟩, .ask),
  ([106, 115, 103, 116], ⟨23, false, 0, 0, false, 0, 0, 0⟩, .ask),
  ([106, 115, 103, 116, 51, 50], ⟨23, true, 0, 0, false, 0, 0, 0⟩, .ask),
  ([106, 115, 103, 101], ⟨24, false, 0, 0, false, 0, 0, 0⟩, .ask),
  ([106, 115, 103, 101, 51, 50], ⟨24, true, 0, 0, false, 0, 0, 0⟩, .ask),
  ([106, 115, 108, 116], ⟨25, false, 0, 0, false, 0, 0, 0⟩, .ask),
  ([106, 115, 108, 116, 51, 50], ⟨25, true, 0, 0, false, 0, 0, 0⟩, .ask),
  ([106, 115, 108, 101], ⟨26, false, 0, 0, false, 0, 0, 0⟩, .ask),
  ([106, 115, 108, 101, 51, 50], ⟨26, true, 0, 0, false, 0, 0, 0⟩, .ask),
  ([106, 115, 101, 116], ⟨27, false, 0, 0, false, 0, 0, 0⟩, .ask),
  ([106, 115, 101, 116, 51, 50], ⟨27, true, 0, 0, false, 0, 0, 0⟩, .ask),
  ([108, 111, 97, 100, 49], ⟨14, false, 0, 0, false, 0, 0, 1⟩, .load),
  ([112, 117, 116, 49], ⟨15, false, 0, 0, false, 0, 0, 1⟩, .put),
  ([108, 111, 97, 100, 50], ⟨14, false, 0, 0, false, 0, 0, 2⟩, .load),
  ([112, 117, 116, 50], ⟨15, false, 0, 0, false, 0, 0, 2⟩, .put),
  ([108, 111, 97, 100, 52], ⟨14, false, 0, 0, false, 0, 0, 4⟩, .load),
  ([112, 117, 116, 52], ⟨15, false, 0, 0, false, 0, 0, 4⟩, .put),
  ([108, 111, 97, 100, 56], ⟨14, false, 0, 0, false, 0, 0, 8⟩, .load),
  ([112, 117, 116, 56], ⟨15, false, 0, 0, false, 0, 0, 8⟩, .put),
  ([106, 117, 109, 112], ⟨16, false, 0, 0, false, 0, 0, 0⟩, .jump),
  ([101, 120, 105, 116], ⟨28, false, 0, 0, false, 0, 0, 0⟩, .exit)]
def entry (s : Str) : Option (Ins × Kind) := (table.find? fun e => e.1 == s).map (·.2)

/-- Where one of them stands. -/
def ixOf : List Str → Str → Option Nat
  | [], _ => none
  | x :: l, s => if x = s then some 0 else (ixOf l s).map (· + 1)
theorem ixOf_lt : ∀ {l : List Str} {s : Str} {k : Nat}, ixOf l s = some k → k < l.length ∧ l[k]? = some s
  | [], _, _, h => by cases h
  | x :: l, s, k, h => by
    unfold ixOf at h
    split at h
    · rename_i e; cases h; simp [e]
    · cases hr : ixOf l s with
      | none => rw [hr] at h; cases h
      | some k' =>
        rw [hr, Option.map_some, Option.some.injEq] at h
        subst h
        have := ixOf_lt hr
        simpa using this
theorem ixOf_none : ∀ {l : List Str} {s : Str}, ixOf l s = none → s ∉ l
  | [], _, _ => by simp
  | x :: l, s, h => by
    unfold ixOf at h
    split at h
    · cases h
    · rename_i hx
      simp only [Option.map_eq_none_iff] at h
      have := ixOf_none h
      simp only [List.mem_cons, not_or]
      exact ⟨fun e => hx e.symm, this⟩

def numOf (s : Str) : Option Int := if s.length ≤ 10 ∧ (s.length = 1 ∨ s.head? ≠ some 48) then (Lib.decNat s).map fun n : Nat => (n : Int) else none
def labelOk (s : Str) : Bool := decide (s.length ≤ 30) && (s.head?.map letterC).getD false

/-- One of those that may come. -/
def rdOf (may : List Str) : List Str → Option (Int × List Str)
  | [] => none
  | t :: r => (ixOf may t).map fun k : Nat => ((k : Int), r)
def takeOf (may : List Str) (ts : List Str) : Int × List Str := (rdOf may ts).getD (-1, ts)
def rdReg : List Str → Option (Int × List Str) := rdOf regs
def rdNum (below : Bool) : List Str → Option (Int × List Str)
  | [] => none
  | t :: r => (numOf t).map fun n => (if below then -n else n, r)
def rdSigned (ts : List Str) : Option (Int × List Str) := (rdOf [[43], [45]] ts).bind fun x => rdNum (decide (x.1 = 1)) x.2
def rdLabel : List Str → Option (Str × List Str)
  | [] => none
  | t :: r => if labelOk t then some (t, r) else none
def rdCell (ts : List Str) : Option ((Int × Int) × List Str) :=
  (rdOf [[91]] ts).bind fun a => (rdReg a.2).bind fun b => (rdSigned b.2).bind fun c => (rdOf [[93]] c.2).map fun d => ((b.1, c.1), d.2)
def rdTarget (i : Ins) (ts : List Str) : Option (Ins × List Str) := (rdReg ts).map fun x => ({ i with dst := x.1 }, x.2)
def rdSecond (i : Ins) (ts : List Str) : Option (Ins × List Str) :=
  match rdReg ts with
  | some x => some ({ i with src := x.1 }, x.2)
  | none => (rdNum (decide ((takeOf [[45]] ts).1 = 0)) (takeOf [[45]] ts).2).map fun x => ({ i with ui := true, im := x.1 }, x.2)
def rdReckon (i : Ins) (ts : List Str) : Option (Ins × List Str) :=
  (rdTarget i ts).bind fun a => (rdOf [[44]] a.2).bind fun b => rdSecond a.1 b.2
def rdLoad (i : Ins) (ts : List Str) : Option (Ins × List Str) :=
  (rdTarget i ts).bind fun a => (rdOf [[44]] a.2).bind fun b => (rdCell b.2).map fun c => ({ a.1 with src := c.1.1, off := c.1.2 }, c.2)
def rdPut (i : Ins) (ts : List Str) : Option (Ins × List Str) :=
  (rdCell ts).bind fun a => (rdOf [[44]] a.2).bind fun b => rdSecond { i with dst := a.1.1, off := a.1.2 } b.2
def rdJump (i : Ins) (ts : List Str) : Option ((Ins × Str) × List Str) :=
  match rdOf [[43], [45]] ts with
  | some x => (rdNum (decide (x.1 = 1)) x.2).map fun y => (({ i with off := y.1 }, []), y.2)
  | none => (rdLabel ts).map fun y => ((i, y.1), y.2)
def rdAsk (i : Ins) (ts : List Str) : Option ((Ins × Str) × List Str) :=
  (rdReckon i ts).bind fun a => (rdOf [[44]] a.2).bind fun b => rdJump a.1 b.2
def rdKind (k : Kind) (i : Ins) (ts : List Str) : Option ((Ins × Str) × List Str) :=
  match k with
  | .reckon => (rdReckon i ts).map fun x => ((x.1, []), x.2)
  | .target => (rdTarget i ts).map fun x => ((x.1, []), x.2)
  | .ask => rdAsk i ts
  | .load => (rdLoad i ts).map fun x => ((x.1, []), x.2)
  | .put => (rdPut i ts).map fun x => ((x.1, []), x.2)
  | .jump => rdJump i ts
  | .exit => some ((i, []), ts)
def rdIns : List Str → Option ((Ins × Str) × List Str)
  | [] => none
  | w :: r => (entry w).bind fun e => (rdKind e.2 e.1 r).bind fun x => if right x.1.1 then some x else none

structure Told where
  label : Str
  ins : Ins
  goal : Str
deriving DecidableEq
def nothing : Told := ⟨[], noIns, []⟩
def isLab (ts : List Str) : Bool := decide (ts.length = 2) && decide (ts[1]? = some [58])
def rdLine (ts : List Str) : Option Told :=
  if ts = [] then some nothing
  else if isLab ts then (rdLabel ts).map fun x => ⟨x.1, noIns, []⟩
  else (rdIns ts).bind fun x => if x.2 = [] then some ⟨[], x.1.1, x.1.2⟩ else none
def told (l : Str) : Option Told := (tokL l).bind rdLine

structure Dr where
  list : List Ins
  marks : List (Str × Int)
  jumps : List (Int × Int × Str)
def findM (l : List (Str × Int)) (s : Str) : Option Int := (l.find? fun e => e.1 == s).map (·.2)
def addL (d : Dr) (t : Told) (at' : Int) : Dr ⊕ Int :=
  if t.label ≠ [] then if (findM d.marks t.label).isSome then .inr 121 else .inl { d with marks := d.marks ++ [(t.label, (d.list.length : Int))] }
  else if t.ins.op ≠ 0 then
    if d.list.length = 4096 then .inr 3
    else .inl { d with jumps := if t.goal ≠ [] then d.jumps ++ [(at', (d.list.length : Int), t.goal)] else d.jumps, list := d.list ++ [t.ins] }
  else .inl d
def stepL (d : Dr) (at' : Int) (l : Str) : Dr ⊕ Int :=
  match told l with
  | none => .inr 120
  | some t => addL d t at'
def runL : Dr → Int → List Str → Dr ⊕ (Int × Int)
  | d, _, [] => .inl d
  | d, n, l :: r =>
    match stepL d (n + 1) l with
    | .inl d' => runL d' (n + 1) r
    | .inr e => .inr (e, n + 1)
def linkL (marks : List (Str × Int)) : List Ins → List (Int × Int × Str) → List Ins ⊕ Int
  | l, [] => .inl l
  | l, j :: r =>
    match findM marks j.2.2 with
    | none => .inr j.1
    | some p => linkL marks (l.set j.2.1.toNat { ith l j.2.1.toNat with off := p - (j.2.1 + 1) }) r
def linked (d : Dr) : List Ins × Int × Int :=
  match linkL d.marks d.list d.jumps with
  | .inl l => (l, 0, 0)
  | .inr n => ([], 121, n)
def parseL (s : Str) : List Ins × Int × Int :=
  if 262144 < s.length then ([], 3, 0)
  else match runL ⟨[], [], []⟩ 0 (lines s) with
    | .inl d => linked d
    | .inr x => ([], x.1, x.2)

def nameOf (i : Ins) : Str := (opNames[i.op.toNat]?.getD []) ++ ((if i.nw then [51, 50] else []) ++ (if i.sz ≠ 0 then Lib.itoa i.sz else []))
def regS (n : Int) : Str := regs[n.toNat]?.getD []
def secondS (i : Ins) : Str := if i.ui then Lib.itoa i.im else regS i.src
def farS (off : Int) (gap : Str) : Str := if off < 0 then 45 :: (gap ++ Lib.itoa (-off)) else 43 :: (gap ++ Lib.itoa off)
def cellS (n off : Int) : Str := [91] ++ regS n ++ [32] ++ farS off [32] ++ [93]
def partsS (i : Ins) : List Str :=
  if i.op = 28 then [] else if i.op = 13 then [regS i.dst] else if i.op = 14 then [regS i.dst, cellS i.src i.off]
  else if i.op = 15 then [cellS i.dst i.off, secondS i] else if i.op = 16 then [farS i.off []]
  else if jumpsI i then [regS i.dst, secondS i, farS i.off []] else [regS i.dst, secondS i]
def joinS : List Str → Str
  | [] => []
  | [x] => x
  | x :: y :: r => x ++ ([44, 32] ++ joinS (y :: r))
def bareS (i : Ins) : Str := if partsS i = [] then nameOf i else nameOf i ++ ([32] ++ joinS (partsS i))
def oneS (i : Ins) : Str := bareS i ++ [10]
def textS (l : List Ins) : Str := (l.map oneS).flatten
def showL (l : List Ins) : Str × Int :=
  if 4096 < l.length then ([], 3) else if l.all right then (textS l, 0) else ([], 4)

theorem awake_parse : parseL [109, 111, 118, 32, 114, 48, 44, 32, 49, 10, 106, 101, 113, 51, 50, 32, 114, 50, 44, 32, 45, 53, 44, 32, 101, 110, 100, 10, 108, 111, 97, 100, 50, 32, 114, 51, 44, 32, 91, 114, 49, 32, 43, 32, 49, 50, 93, 10, 112, 117, 116, 56, 32, 91, 114, 49, 48, 32, 45, 32, 56, 93, 44, 32, 114, 51, 10, 101, 110, 100, 58, 10, 101, 120, 105, 116] = ([⟨12, false, 0, 0, true, 0, 1, 0⟩, ⟨17, true, 2, 0, true, 2, -5, 0⟩, ⟨14, false, 3, 1, false, 12, 0, 2⟩, ⟨15, false, 10, 3, false, -8, 0, 8⟩, ⟨28, false, 0, 0, false, 0, 0, 0⟩], 0, 0) := by decide +kernel
theorem awake_jump : parseL [106, 117, 109, 112, 32, 104, 101, 114, 101] = ([], 121, 1) := by decide +kernel
theorem awake_line : parseL [97, 100, 100, 32, 114, 49, 48, 44, 32, 49] = ([], 120, 1) := by decide +kernel
theorem awake_show : showL [⟨17, true, 2, 0, true, 2, -5, 0⟩] = ([106, 101, 113, 51, 50, 32, 114, 50, 44, 32, 45, 53, 44, 32, 43, 50, 10], 0) := by decide +kernel
end Go.Proofs.YthfkmackodbmkaaGreatDoor
