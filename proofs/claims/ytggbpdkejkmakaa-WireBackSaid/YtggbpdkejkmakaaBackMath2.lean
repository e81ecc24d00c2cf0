/- What was put is read back, in a row; a beginning of it is not read whole: over lists alone. -/
import Derived.Test.YtggbpdkejkmakaaBackMath
import Derived.Test.YtggbpdkejkmakaaRefEnt
namespace Go.Proofs.Ytggbpdkejkmakaa
open Go.RowKit
set_option linter.unusedVariables false
set_option linter.unusedSimpArgs false

theorem six_of {st s1 s2 s3 s4 s5 s6 : Option (List Int)} {n1 n2 n3 n4 n5 : Int} {d : List Int} (h1 : ans rdNum 0 st = (n1, s1)) (h2 : ans rdNum 0 s1 = (n2, s2)) (h3 : ans rdNum 0 s2 = (n3, s3)) (h4 : ans rdNum 0 s3 = (n4, s4)) (h5 : ans rdNum 0 s4 = (n5, s5)) (h6 : ans rdBytes [] s5 = (d, s6)) :
    sixOf st = six n1 n2 n3 n4 n5 d s6 := by
  unfold sixOf
  rw [h1]; dsimp only
  rw [h2]; dsimp only
  rw [h3]; dsimp only
  rw [h4]; dsimp only
  rw [h5]; dsimp only
  rw [h6]

/-- s is bad, or has left a beginning of rest, cut. -/
def Behind (st : Option (List Int)) (rest : List Int) : Prop := ∀ p, st = some p → ∃ q, q ≠ [] ∧ p ++ q = rest
theorem Behind.end {st : Option (List Int)} (h : Behind st []) : st = none := by
  cases st with
  | none => rfl
  | some p =>
    obtain ⟨q, hq, e⟩ := h p rfl
    exact absurd (List.append_eq_nil_iff.1 e).2 hq
theorem Behind.bad (rest : List Int) : Behind none rest := fun p h => by cases h
theorem behind_drop {p q r x : List Int} {k : Nat} (hx : x.length = k) (e : p ++ q = x ++ r) (hk : k ≤ p.length) : p.drop k ++ q = r := by
  have h : (p ++ q).drop k = (x ++ r).drop k := by rw [e]
  rw [List.drop_append_of_le_length hk] at h
  rw [h, ← hx]
  simp
theorem be_left {p q : List Int} {k : Nat} (h : k ≤ p.length) : be (p ++ q) k = be p k := by
  induction k with
  | zero => rfl
  | succ k ih => rw [be_succ, be_succ, ih (by omega), nth_append_left (by omega)]
theorem val_left {p q : List Int} (h : 8 ≤ p.length) : val (p ++ q) = val p := by unfold val; rw [be_left h]
theorem behind_num {st : Option (List Int)} {n : Int} {r : List Int} (h : Behind st (num8 n ++ r)) : Behind (ans rdNum 0 st).2 r := by
  cases st with
  | none => exact Behind.bad r
  | some p =>
    obtain ⟨q, hq, e⟩ := h p rfl
    cases hn : rdNum p with
    | none => rw [ans_none hn]; exact Behind.bad r
    | some y =>
      obtain ⟨a, t⟩ := y
      rw [ans_some hn]
      obtain ⟨h8, _, rfl⟩ := rdNum_some hn
      intro p' hp'
      cases hp'
      exact ⟨q, hq, behind_drop (num8_length n) e h8⟩
theorem behind_bytes {st : Option (List Int)} {d r : List Int} (hd : d.length ≤ 140737488355328) (h : Behind st (len8 d ++ r)) : Behind (ans rdBytes [] st).2 r := by
  cases st with
  | none => exact Behind.bad r
  | some p =>
    obtain ⟨q, hq, e⟩ := h p rfl
    cases hn : rdBytes p with
    | none => rw [ans_none hn]; exact Behind.bad r
    | some y =>
      obtain ⟨a, t⟩ := y
      rw [ans_some hn]
      obtain ⟨n, r0, h1, h2, h3, rfl, rfl⟩ := rdBytes_some hn
      obtain ⟨h8, rfl, rfl⟩ := rdNum_some h1
      unfold len8 at e
      rw [List.append_assoc] at e
      have ev : val p = d.length := by
        rw [← val_left (q := q) h8, e]
        exact val_num8 _ _ (by omega) (by omega)
      intro p' hp'
      cases hp'
      have e2 := behind_drop (num8_length _) e h8
      rw [ev] at h3 ⊢
      exact ⟨q, hq, behind_drop rfl e2 (by omega)⟩
theorem six_snd (n1 n2 n3 n4 n5 : Int) (d : List Int) (s6 : Option (List Int)) : (six n1 n2 n3 n4 n5 d s6).2 = s6 ∨ (six n1 n2 n3 n4 n5 d s6).2 = none := by
  unfold six
  split
  · exact Or.inl rfl
  · exact Or.inr rfl
/-- An entry's bytes. -/
def entB (x : Ent) : List Int := ent8 x.t x.k x.v x.s x.g x.d
/-- An entry that has bytes: each number is one. -/
structure Fits (x : Ent) : Prop where
  t0 : -9223372036854775808 ≤ x.t
  t1 : x.t ≤ 9223372036854775807
  k0 : 0 ≤ x.k
  k1 : x.k ≤ 255
  v0 : -9223372036854775808 ≤ x.v
  v1 : x.v ≤ 9223372036854775807
  s0 : -9223372036854775808 ≤ x.s
  s1 : x.s ≤ 9223372036854775807
  d1 : x.d.length ≤ 140737488351232
theorem behind_ent {st : Option (List Int)} {x : Ent} {r : List Int} (hd : x.d.length ≤ 140737488351232) (h : Behind st (entB x ++ r)) : Behind (ans rdEnt zeroEnt st).2 r := by
  rw [← sixOf_is]
  unfold entB ent8 at h
  simp only [List.append_assoc] at h
  have b1 := behind_num h
  have b2 := behind_num b1
  have b3 := behind_num b2
  have b4 := behind_num b3
  have b5 := behind_num b4
  have b6 := behind_bytes (by omega) b5
  unfold sixOf
  rcases six_snd (ans rdNum 0 st).1 (ans rdNum 0 (ans rdNum 0 st).2).1 (ans rdNum 0 (ans rdNum 0 (ans rdNum 0 st).2).2).1 (ans rdNum 0 (ans rdNum 0 (ans rdNum 0 (ans rdNum 0 st).2).2).2).1
    (ans rdNum 0 (ans rdNum 0 (ans rdNum 0 (ans rdNum 0 (ans rdNum 0 st).2).2).2).2).1 (ans rdBytes [] (ans rdNum 0 (ans rdNum 0 (ans rdNum 0 (ans rdNum 0 (ans rdNum 0 st).2).2).2).2).2).1
    (ans rdBytes [] (ans rdNum 0 (ans rdNum 0 (ans rdNum 0 (ans rdNum 0 (ans rdNum 0 st).2).2).2).2).2).2 with e | e
  · rw [e]; exact b6
  · rw [e]; exact Behind.bad r
theorem six_ok {n1 n2 n3 n4 n5 : Int} {d r : List Int} (h : (0 ≤ n2 ∧ n2 ≤ 255) ∧ (0 ≤ n5 ∧ n5 ≤ 1)) : six n1 n2 n3 n4 n5 d (some r) = (⟨n1, n2, n3, n4, decide (n5 = 1), d⟩, some r) := by
  unfold six
  rw [if_pos ⟨rfl, h.1, h.2⟩]
theorem ans_num8 (n : Int) (r : List Int) (h0 : -9223372036854775808 ≤ n) (h1 : n ≤ 9223372036854775807) : ans rdNum 0 (some (num8 n ++ r)) = (n, some r) := ans_some (rdNum_num8 n r h0 h1)
theorem ans_len8 (d r : List Int) (h : d.length ≤ 140737488355328) : ans rdBytes [] (some (len8 d ++ r)) = (d, some r) := ans_some (rdBytes_len8 d r h)
theorem ans_ent (x : Ent) (r : List Int) (h : Fits x) : ans rdEnt zeroEnt (some (entB x ++ r)) = (x, some r) := by
  rw [← sixOf_is]
  unfold entB ent8
  simp only [List.append_assoc]
  obtain ⟨t, k, v, s, g, d⟩ := x
  have hg : (0 ≤ (if g then (1 : Int) else 0) ∧ (if g then (1 : Int) else 0) ≤ 1) ∧ decide ((if g then (1 : Int) else 0) = 1) = g := by cases g <;> decide
  have a1 := h.t0
  have a2 := h.t1
  have a3 := h.k0
  have a4 := h.k1
  have a5 := h.v0
  have a6 := h.v1
  have a7 := h.s0
  have a8 := h.s1
  have a9 := h.d1
  dsimp only at *
  generalize (if g then (1 : Int) else 0) = y at *
  rw [six_of (ans_num8 t _ a1 a2) (ans_num8 k _ (by omega) (by omega)) (ans_num8 v _ a5 a6) (ans_num8 s _ a7 a8) (ans_num8 y _ (by omega) (by omega)) (ans_len8 d r (by omega)), six_ok ⟨⟨a3, a4⟩, hg.1⟩, hg.2]
/-- The bytes of entries, one behind the other. -/
def flatE (xs : List Ent) : List Int := (xs.map entB).flatten
theorem flatE_nil : flatE [] = [] := rfl
theorem flatE_cons (x : Ent) (xs : List Ent) : flatE (x :: xs) = entB x ++ flatE xs := by simp [flatE]
theorem flatE_snoc (xs : List Ent) (x : Ent) : flatE (xs ++ [x]) = flatE xs ++ entB x := by simp [flatE]
end Go.Proofs.Ytggbpdkejkmakaa
