/- A text's lines, one by one: what the library's iterator hands out, whatever the rounds do. -/
import Derived.Test.YthfkmackodbmkaaGreatDoorTextLink
import Derived.RangeFuncFrom
import Derived.RangeFuncBound
import Derived.RangeFuncCalls
import Derived.RangeFuncLeaves
import Derived.Shelf.Abstract
import Derived.OwnWalkIn
import Derived.TacticsInMore
import Derived.LoopNIn
import Derived.LoopIn
namespace Go.Proofs.YthfkmackodbmkaaGreatDoor
open Go.RowKit
set_option linter.unusedVariables false
set_option linter.unusedSimpArgs false
set_option maxRecDepth 100000
set_option maxHeartbeats 4000000
attribute [local go_sem] Oper.semAt_some

theorem lines_none : ∀ {s : Str}, (10 : UInt8) ∉ s → lines s = [s]
  | [], _ => rfl
  | c :: r, h => by
    simp only [List.mem_cons, not_or] at h
    have hc : ¬ c = 10 := fun e => h.1 e.symm
    rw [lines, if_neg hc, lines_none h.2]
    rfl
theorem lines_some : ∀ {s : Str}, (10 : UInt8) ∈ s → lines s = s.takeWhile (· != 10) :: lines (s.drop ((s.takeWhile (· != 10)).length + 1)) ∧ (s.takeWhile (· != 10)).length < s.length
  | [], h => by cases h
  | c :: r, h => by
    by_cases hc : c = 10
    · subst hc
      simp [lines]
    · have hr : (10 : UInt8) ∈ r := by
        rcases List.mem_cons.1 h with e | e
        · exact absurd e.symm hc
        · exact e
      obtain ⟨h1, h2⟩ := lines_some hr
      have e : (c :: r).takeWhile (· != 10) = c :: r.takeWhile (· != 10) := List.takeWhile_cons_of_pos (by simpa using hc)
      rw [lines, if_neg hc, h1, e]
      simp only [List.headD_cons, List.tail_cons, List.length_cons, List.drop_succ_cons]
      exact ⟨trivial, by omega⟩
theorem index_ten (s : Str) : Lib.indexByte s 10 = if (10 : UInt8) ∈ s then ((s.takeWhile (· != 10)).length : Int) else -1 := by
  induction s with
  | nil => rfl
  | cons b s ih =>
    unfold Lib.indexByte
    by_cases h : b = 10
    · subst h; simp
    · have h' : ¬ (10 : UInt8) = b := fun e => h e.symm
      have h2 : ¬ (b == 10) = true := by simpa using h
      rw [if_neg h2, ih]
      by_cases hm : (10 : UInt8) ∈ s
      · simp [hm, h, h']
      · simp [hm, h, h']
/-- What a round keeps: the iterator's three boxes. -/
structure Boxes (B1 B2 B3 : Nat) (W W' : World) : Prop where
  b1 : W'.heap[B1]? = W.heap[B1]?
  b2 : W'.heap[B2]? = W.heap[B2]?
  b3 : W'.heap[B3]? = W.heap[B3]?
structure Sq (B1 B2 B3 : Nat) (s : Str) (W : World) : Prop where
  sep : W.heap[B1]? = some (.cells #[str [10]] 9 (0, 0))
  rest : W.heap[B2]? = some (.cells #[str s] 9 (0, 0))
  save : W.heap[B3]? = some (.cells #[.int .i64 0] 3 (0, 0))
  far : B1 ≠ B2 ∧ B3 ≠ B2
theorem Sq.cells {B1 B2 B3 : Nat} {s : Str} {W : World} (h : Sq B1 B2 B3 s W) : W.cell? ⟨B1, 0, none⟩ = some (str [10]) ∧ W.cell? ⟨B2, 0, none⟩ = some (str s) ∧ W.cell? ⟨B3, 0, none⟩ = some (.int .i64 0) ∧ W.frozen? ⟨B2, 0, none⟩ = false := by
  simp [World.cell?, World.frozen?, h.sep, h.rest, h.save]
theorem Sq.boxes {B1 B2 B3 : Nat} {s : Str} {W W' : World} (h : Sq B1 B2 B3 s W) (k : Boxes B1 B2 B3 W W') : Sq B1 B2 B3 s W' := ⟨k.b1.trans h.sep, k.b2.trans h.rest, k.b3.trans h.save, h.far⟩
theorem Sq.put {B1 B2 B3 : Nat} {s : Str} {W : World} (h : Sq B1 B2 B3 s W) (s' : Str) : Sq B1 B2 B3 s' (W.setCell ⟨B2, 0, none⟩ (str s')) := by
  have g := setCell_grown W B2 0 (str s')
  refine ⟨(g.block _ (Array.getElem?_eq_some_iff.1 h.sep).1 (fun e => h.far.1 (Option.some.inj e))).trans h.sep, by have := heap_set h.rest 0 (str s'); simpa using this, (g.block _ (Array.getElem?_eq_some_iff.1 h.save).1 (fun e => h.far.2 (Option.some.inj e))).trans h.save, h.far⟩
def sizeAt (w : World) (B : Nat) : Nat := match w.cell? ⟨B, 0, none⟩ with
  | some (.string b) => b.size
  | _ => 0
theorem Sq.size {B1 B2 B3 : Nat} {s : Str} {W : World} (h : Sq B1 B2 B3 s W) : sizeAt W B2 = s.length := by
  unfold sizeAt
  rw [h.cells.2.1]
  simp [ByteArray.size]

theorem splits (B1 B2 B3 L : Nat) (s0 : Str) (hlen : s0.length ≤ 1000000000) (J : List Str → World → Prop) (Jx : World → Prop)
    (hJ : ∀ ls W W', J ls W → W.grownBy W' (some B2) → J ls W')
    (hY : ∀ ls x W, J ls W → (ls ++ [x]) <+: lines s0 → YieldAt Fence.wide 1 Tryz.prog L #[str x] W fun e W' => (e = .returned (.bool true) ∧ J (ls ++ [x]) W' ∧ Boxes B1 B2 B3 W W') ∨ (e = .returned (.bool false) ∧ Jx W'))
    (W : World) (h0 : J [] W) (hS : Sq B1 B2 B3 s0 W) :
    CallsIn Fence.wide 2 Tryz.prog 128 #[.func (.yield L) #[] #[], .pointer (some ⟨B1, 0, none⟩), .pointer (some ⟨B2, 0, none⟩), .pointer (some ⟨B3, 0, none⟩)] W fun e W' => (∃ v, e = .returned v) ∧ (J (lines s0) W' ∨ Jx W') := by
  refine callsIn_of_wp Tryz.func128 rfl trivial ?_ rfl
  simp only [Tryz.ntmps128, List.size_toArray, List.length_cons, List.length_nil, Nat.reduceAdd, Nat.reduceSub, Array.replicate_succ, Array.replicate_zero, List.push_toArray, List.append_toArray, List.nil_append, List.cons_append]
  have H0 := Lib.hid h0
  have HS := Lib.hid hS
  obtain ⟨c1, c2, c3, f2⟩ := hS.cells
  clear h0 hS
  gi_wp2_with fail
  gi_loopw [7, 8] (fun _ _ wr => ∃ (ls : List Str) (s : Str), Hid (J ls wr) ∧ Hid (Sq B1 B2 B3 s wr) ∧ Hid (lines s0 = ls ++ lines s ∧ s.length ≤ 1000000000)) (fun _ _ wr => sizeAt wr B2)
  case atStart => exact ⟨[], s0, H0, HS, Lib.hid ⟨by simp, hlen⟩⟩
  case round =>
    obtain ⟨ls, s, HJ, HSq, HL⟩ := hrel
    obtain ⟨d1, d2, d3, f2⟩ := (HSq.out).cells
    have IX := Tryz.strings_Index_one ⟨s.toArray⟩ 10 wr
    rw [show Lib.indexByte (⟨s.toArray⟩ : ByteArray).data.toList 10 = Lib.indexByte s 10 from rfl, index_ten] at IX
    clear c1 c2 c3
    by_cases hm : (10 : UInt8) ∈ s
    · rw [if_pos hm] at IX
      obtain ⟨l1, l2⟩ := lines_some hm
      have t1 := (take_while (· != 10) s).1
      have hLL := (HL.out).1
      rw [l1] at hLL
      obtain ⟨x, hx⟩ : ∃ x, x = s.takeWhile (· != 10) := ⟨_, rfl⟩
      rw [← hx] at IX hLL t1 l2
      obtain ⟨n, hn⟩ : ∃ n, n = x.length := ⟨_, rfl⟩
      rw [← hn] at IX hLL t1 l2
      have e1 := ext_to (n := n) (l := s)
      rw [t1] at e1
      have e2 := ext_from (n := n + 1) (m := s.length) (l := s) rfl
      have hsl := (HL.out).2
      have n0 : decide ((n : Int) < 0) = false := by simp
      have n1 : wrap64 (n : Int) = (n : Int) := IntWalk.wrap64_in _ ⟨by omega, by omega⟩
      have n2 : wrap64 ((n : Int) + 1) = (n : Int) + 1 := IntWalk.wrap64_in _ ⟨by omega, by omega⟩
      have n3 : (n : Int) ≤ s.length := by omega
      have n4 : (n : Int) + 1 ≤ s.length := by omega
      have n5 : (0 : Int) ≤ (n : Int) + 1 := by omega
      have n6 : ((n : Int) + 1).toNat = n + 1 := by omega
      have YY := hY ls x wr HJ.out ⟨lines (s.drop (n + 1)), by rw [hLL]; simp⟩
      obtain ⟨fn, tmps, assign, body, hy, hR⟩ := YY
      have HYR := Lib.hid hR
      have HLL := Lib.hid (And.intro hLL (And.intro hsl l2))
      clear hR l1 l2 t1 hx hn hLL hsl
      gi_wp2_with fail
      refine ⟨trivial, callsIn_wide.2 ?_⟩
      refine IX.mono ?_; rintro e w1 ⟨rfl, rfl⟩
      gi_wp2_with fail
      refine (HYR.out).mono ?_
      rintro e W5 (⟨rfl, hJ5, hk⟩ | ⟨rfl, hx5⟩)
      · have S5 := (HSq.out).boxes hk
        obtain ⟨k1, k2, k3, k4⟩ := S5.cells
        have S6 := Lib.hid (S5.put (s.drop (n + 1)))
        have J6 := Lib.hid (hJ _ _ _ hJ5 (setCell_grown W5 B2 0 (str (s.drop (n + 1)))))
        clear S5 hJ5 hk HYR
        gi_wp2_with fail
        refine ⟨⟨ls ++ [x], s.drop (n + 1), J6, S6, Lib.hid ⟨by rw [(HLL.out).1]; simp, by have := (HLL.out).2.1; rw [List.length_drop]; omega⟩⟩, ?_⟩
        have e1 := (S6.out).size
        have e2 := (HSq.out).size
        change sizeAt _ B2 = _ at e1
        rw [e1, e2, List.length_drop]
        have := (HLL.out).2.2
        omega
      · have HX5 := Lib.hid hx5
        clear hx5 HYR
        gi_wp2_with fail
        refine bodyPost_ret (results_none (by rfl) _ _ _) rfl ?_
        exact ⟨⟨_, rfl⟩, .inr HX5.out⟩
    · rw [if_neg hm] at IX
      have hLL := (HL.out).1
      rw [lines_none hm] at hLL
      have YY := hY ls s wr HJ.out ⟨[], by rw [hLL]; simp⟩
      obtain ⟨fn, tmps, assign, body, hy, hR⟩ := YY
      have HYR := Lib.hid hR
      have HLL := Lib.hid hLL
      clear hR hLL
      gi_wp2_with fail
      refine ⟨trivial, callsIn_wide.2 ?_⟩
      refine IX.mono ?_; rintro e w1 ⟨rfl, rfl⟩
      gi_wp2_with fail
      refine (HYR.out).mono ?_
      rintro e W5 (⟨rfl, hJ5, hk⟩ | ⟨rfl, hx5⟩)
      · have HJ5 := Lib.hid hJ5
        clear hJ5 hk HYR
        gi_wp2_with fail
        go_end0
        exact ⟨⟨_, rfl⟩, .inl (by rw [HLL.out]; exact HJ5.out)⟩
      · have HX5 := Lib.hid hx5
        clear hx5 HYR
        gi_wp2_with fail
        go_end0
        exact ⟨⟨_, rfl⟩, .inr HX5.out⟩
/-- A range over a function whose rounds go on or return: the loop's record is known by its states alone. -/
theorem range_law2 {P : Program} {n : Nat} {g : Operand} {ps : Array Tmp} {assign body : Code} {Q : Exit → Act → World → Prop} {a : Act} {w : World} (h1 : 1 ≤ n) {gf : Nat} {lb : Array Value}
    (hg : a.eval g = .func (.func gf) #[] lb) (eg : ∀ args w, (callFunc gf args).run P w = .ok (.enter gf args) w)
    (h : ∀ (rec : LoopState → Option Code → Loop),
      (∀ (args : Array Value) (W : World) (R : Ending → World → Prop), args.size = ps.size → W.heap[w.heap.size + 1]? = some (.loop (rec .ready none)) →
        assign.wpIn (Fence.wide.inRound (w.heap.size + 1)) (n - 1 - 1) P (Exit.then (fun a₁ w₁ => w₁.heap[w.heap.size + 1]? = some (.loop (rec .ready none)) ∧
          body.wpIn (Fence.wide.inRound (w.heap.size + 1)) (n - 1 - 1) P (fun e _ w₃ => w₃.heap[w.heap.size + 1]? = some (.loop (rec .busy none)) ∧
            ((e = .normal ∧ R (.returned (.bool true)) (w₃.putObj (w.heap.size + 1) (.loop (rec .ready none)))) ∨ (e = .ret ∧ R (.returned (.bool false)) (w₃.putObj (w.heap.size + 1) (.loop (rec .done (some .ret))))))) a₁ (w₁.putObj (w.heap.size + 1) (.loop (rec .busy none)))) (fun _ _ _ => False))
          { tmps := (ps.zip args).foldl (fun t (p, v) => t.setIfInBounds p v) a.tmps, defers := [] } W →
        YieldAt Fence.wide (n - 1 - 1) P (w.heap.size + 1) args W R) →
      CallsIn Fence.wide (n - 1) P gf (#[.func (.yield (w.heap.size + 1)) #[] #[]] ++ lb) ((w.alloc (.deferred (some []))).alloc (.loop (rec .ready none))) fun e W' => (∃ v, e = .returned v) ∧
        ((W'.heap[w.heap.size + 1]? = some (.loop (rec .ready none)) ∧ Q .normal { a with defers := { target := .collected w.heap.size, args := #[] } :: a.defers } (W'.putObj (w.heap.size + 1) (.loop (rec .exhausted none)))) ∨
         (W'.heap[w.heap.size + 1]? = some (.loop (rec .done (some .ret))) ∧ Q .ret { a with defers := { target := .collected w.heap.size, args := #[] } :: a.defers } (W'.putObj (w.heap.size + 1) (.loop (rec .exhausted (some .ret))))))) :
    (Code.rangeFunc g ps assign body).wpIn Fence.wide n P Q a w := by
  refine wpIn_rangeFunc ?_
  intro fn hfn
  obtain ⟨rec, hrec⟩ : ∃ rec : LoopState → Option Code → Loop, rec = fun st pe => { state := st, pending := pe, fn, tmps := a.tmps, params := ps, assign, body, defers := w.heap.size } := ⟨_, rfl⟩
  refine ⟨w.heap.size + 1, [{ target := .collected w.heap.size, args := #[] }], (w.alloc (.deferred (some []))).alloc (.loop (rec .ready none)), { target := .fn (.func gf) lb, args := #[.func (.yield (w.heap.size + 1)) #[] #[]] }, (w.alloc (.deferred (some []))).alloc (.loop (rec .ready none)), gf,
    #[.func (.yield (w.heap.size + 1)) #[] #[]] ++ lb, (w.alloc (.deferred (some []))).alloc (.loop (rec .ready none)), ?_, ?_, ?_, ?_, fun _ => h1, ?_⟩
  · rw [hrec]; exact run_enterLoop_outer _ _ _ _ _
  · simp only [resolve, hg]
    simp [go_sem]
  · intro f' hf'; trivial
  · simp [invoke, go_sem, eg]
  · refine (h rec (fun args W R hs hl hw => ?_)).mono ?_
    · have hy := run_yield (P := P) (args := args) hl (by rw [hrec]; exact hs)
      rw [hrec] at hy
      refine ⟨fn, _, assign, body, hy, roundIn_of_wpIn hfn (wpIn_mono hw ?_)⟩
      rintro e a₁ w₁ hp
      cases e with
      | normal =>
        obtain ⟨hl1, hb⟩ := hp
        have hbr := run_beginRound (P := P) hl1 (by rw [hrec])
        refine ⟨_, hbr, ?_⟩
        rw [hrec] at hb hbr ⊢
        refine wpIn_mono hb ?_
        rintro e2 a2 w₃ ⟨hl3, hR⟩
        rcases hR with ⟨rfl, hR⟩ | ⟨rfl, hR⟩
        · have her := run_endRound (P := P) none hl3
          exact ⟨_, _, her, hR⟩
        · have her := run_endRound (P := P) (some .ret) hl3
          exact ⟨_, _, her, hR⟩
      | exit id => exact hp.elim
      | goto t => exact hp.elim
      | ret => exact hp.elim
      | panic c => exact hp.elim
      | outgrown => exact hp.elim
    · rintro e W2 ⟨⟨v, rfl⟩, ⟨hl, hQ⟩ | ⟨hl, hQ⟩⟩
      · have hel := run_endLoop (P := P) hl (by rw [hrec]; simp)
        exact ⟨none, W2.putObj (w.heap.size + 1) (.loop (rec .exhausted none)), by rw [hrec] at hel ⊢; exact hel, hQ⟩
      · have hel := run_endLoop (P := P) hl (by rw [hrec]; simp)
        refine ⟨some .ret, W2.putObj (w.heap.size + 1) (.loop (rec .exhausted (some .ret))), by rw [hrec] at hel ⊢; exact hel, ?_⟩
        exact wpIn_ret hQ
end Go.Proofs.YthfkmackodbmkaaGreatDoor
