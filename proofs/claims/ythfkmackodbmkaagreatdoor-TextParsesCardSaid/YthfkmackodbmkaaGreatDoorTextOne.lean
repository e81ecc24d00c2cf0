/- What a line tells; where it says nothing that the language has, the panic is recovered. -/
import Derived.Test.YthfkmackodbmkaaGreatDoorTextLine
import Derived.Defers
import Derived.Recover
namespace Go.Proofs.YthfkmackodbmkaaGreatDoor
open Go.RowKit
set_option linter.unusedVariables false
set_option linter.unusedSimpArgs false
set_option maxRecDepth 100000
set_option maxHeartbeats 1000000

theorem len_two {l : List Str} (h : l.length = 2) : ∃ t x, l = [t, x] := by
  match l, h with
  | [t, x], _ => exact ⟨t, x, rfl⟩
theorem lineP {w : World} {R : Nat} {ts : List Str} {mb : Nat} (h : Rdr w R ts [] noIns []) (M : SMap w mb tabV) (L : Lay w) :
    Calls Tryz.prog 67 #[.pointer (some ⟨R, 0, none⟩), .map (some mb)] w (Reads w R (rdLine ts) (fun _ => .tuple #[]) (fun x w' => Rdr w' R [] x.label x.ins x.goal)) := by
  have E := empty h
  by_cases h0 : ts = []
  · subst h0
    have HR := Lib.hid h
    clear h M L
    go_enter Tryz.func67, Tryz.ntmps67
    go_wp2_with fail
    refine E.mono ?_; rintro e w' ⟨rfl, rfl⟩
    go_wp2_with fail
    go_end0
    exact reads_some nothing rfl rfl HR.out (grown_refl _ _)
  · have hE : decide (ts = []) = false := decide_eq_false h0
    rw [hE] at E
    obtain ⟨ao, cap, h1, h2⟩ := h.shape
    obtain ⟨g, o, rfl, _, z1, z2, z3, z4⟩ := h2.at (by cases ts with | nil => exact absurd rfl h0 | cons t r => simp)
    have c0 := h1.cells.1
    by_cases hlab : isLab ts = true
    · obtain ⟨t, rfl⟩ : ∃ t, ts = [t, [58]] := by
        unfold isLab at hlab
        simp only [Bool.and_eq_true, decide_eq_true_eq] at hlab
        match ts, hlab with
        | [t, x], hlab => have := hlab.2; simp at this; subst this; exact ⟨t, rfl⟩
      have d1 : w.cell? ⟨g, o + 1, none⟩ = some (str [58]) := by simpa using z4 1 (by simp)
      have LB := labelP h
      have hl : rdLine [t, [58]] = (rdLabel [t, [58]]).map fun x => ⟨x.1, noIns, []⟩ := rfl
      rw [hl]
      clear h M L h1 h2 z4 hE h0 hl hlab
      go_enter Tryz.func67, Tryz.ntmps67
      go_wp2_with fail
      refine E.mono ?_; rintro e w' ⟨rfl, rfl⟩
      go_wp2_with fail
      refine LB.mono ?_; intro e w1 h1
      rcases h1.out with ⟨hx, rfl, hg⟩ | ⟨x, hx, rfl, hr, hg⟩
      · go_wp2_with fail
        exact ⟨rfl, reads_none (by rw [hx]; rfl) rfl hg⟩
      · have hx2 : x = (t, [[58]]) := by
          unfold rdLabel at hx
          split at hx
          · cases hx
          · rename_i heq
            cases heq
            split at hx
            · cases hx; rfl
            · cases hx
        subst hx2
        have HX := Lib.hid hx
        obtain ⟨_, c1, _, _, _, _, _, _, _, _, _, fr⟩ := hr.at
        have f1 := fr 1
        have S1 := hr.set1 t
        have N := need_lit [[58]] (by decide) S1.1
        have hs : (w1.setCell ⟨R, 1, none⟩ (str t)).heap.size = w1.heap.size := by simp [World.setCell]
        rw [hs] at N
        have G1 := Lib.hid (grown_trans hg S1.2)
        clear fr S1 hs hr hg h1 hx d1 c0
        go_wp2_with fail
        refine N.mono ?_; intro e w2 h2
        rcases h2.out with ⟨hy, rfl, hg2⟩ | ⟨y, hy, rfl, hr2, hg2⟩
        · exfalso
          exact absurd hy (by decide)
        · have hy2 : y = (0, []) := by have : rdOf [[58]] [[58]] = some ((0 : Int), []) := by decide
                                       rw [this] at hy; exact (Option.some.inj hy).symm
          subst hy2
          have E2 := empty hr2
          have R2 := Lib.hid hr2
          have G2 := Lib.hid (grown_trans G1.out hg2)
          clear hr2 hg2 h2 hy
          go_wp2_with fail
          refine E2.mono ?_; rintro e w' ⟨rfl, rfl⟩
          go_wp2_with fail
          refine (must_ok w2).mono ?_; rintro e w' ⟨rfl, rfl⟩
          go_wp2_with fail
          go_end0
          exact reads_some ⟨t, noIns, []⟩ (by rw [HX.out]; rfl) rfl R2.out G2.out
    · have I := instructionP h M L
      have hl : rdLine ts = (rdIns ts).bind fun x => if x.2 = [] then some ⟨[], x.1.1, x.1.2⟩ else none := by
        unfold rdLine; rw [if_neg h0, if_neg hlab]
      have HLN := Lib.hid hl
      have TAIL : (∃ b : Bool, (((ts.length : Int) == 2) = b) ∧ (b = true → ∃ t x, ts = [t, x] ∧ x ≠ [58])) := by
        refine ⟨_, rfl, fun hb => ?_⟩
        have hb : ts.length = 2 := by have := eq_of_beq hb; omega
        obtain ⟨t, x, e⟩ := len_two hb
        exact ⟨t, x, e, fun e2 => hlab (by rw [e, e2]; rfl)⟩
      obtain ⟨b, hb, hb2⟩ := TAIL
      cases b with
      | true =>
        obtain ⟨t, x, hts, hx⟩ := hb2 rfl
        have d1 : w.cell? ⟨g, o + 1, none⟩ = some (str x) := by have := z4 1 (by rw [hts]; simp); rw [hts] at this; simpa using this
        have hxe : (x == [58]) = false := by simpa using hx
        have hlen : ts.length = 2 := by rw [hts]; rfl
        rw [hlen] at c0 z1
        clear h M L h1 h2 z4 hE h0 hl hlab hb hb2 hts hx hlen
        go_enter Tryz.func67, Tryz.ntmps67
        go_wp2_with fail
        refine E.mono ?_; rintro e w' ⟨rfl, rfl⟩
        go_wp2_with fail
        refine I.mono ?_; intro e w1 h1
        rcases h1.out with ⟨hx, rfl, hg⟩ | ⟨x, hx, rfl, hr, hg⟩
        · go_wp2_with fail
          exact ⟨rfl, reads_none (by rw [HLN.out, hx]; rfl) rfl hg⟩
        · have E2 := empty hr
          have R2 := Lib.hid hr
          have G2 := Lib.hid hg
          clear hr hg h1
          obtain ⟨⟨ins, to'⟩, rest⟩ := x
          cases rest with
          | nil =>
            have HX := Lib.hid (show rdLine ts = some ⟨[], ins, to'⟩ by rw [HLN.out, hx]; rfl)
            clear hx
            go_wp2_with fail
            refine E2.mono ?_; rintro e w' ⟨rfl, rfl⟩
            go_wp2_with fail
            refine (must_ok w1).mono ?_; rintro e w' ⟨rfl, rfl⟩
            go_wp2_with fail
            go_end0
            exact reads_some ⟨[], ins, to'⟩ HX.out rfl R2.out G2.out
          | cons y rest =>
            have HX := Lib.hid (show rdLine ts = none by rw [HLN.out, hx]; rfl)
            clear hx
            go_wp2_with fail
            refine E2.mono ?_; rintro e w' ⟨rfl, rfl⟩
            go_wp2_with fail
            refine (must_no w1).mono ?_; rintro e w' ⟨rfl, rfl⟩
            go_wp2_with fail
            exact ⟨rfl, reads_none HX.out rfl G2.out⟩
      | false =>
        clear h M L h1 h2 z4 hE h0 hl hlab hb2
        go_enter Tryz.func67, Tryz.ntmps67
        go_wp2_with fail
        refine E.mono ?_; rintro e w' ⟨rfl, rfl⟩
        go_wp2_with fail
        refine I.mono ?_; intro e w1 h1
        rcases h1.out with ⟨hx, rfl, hg⟩ | ⟨x, hx, rfl, hr, hg⟩
        · go_wp2_with fail
          exact ⟨rfl, reads_none (by rw [HLN.out, hx]; rfl) rfl hg⟩
        · have E2 := empty hr
          have R2 := Lib.hid hr
          have G2 := Lib.hid hg
          clear hr hg h1
          obtain ⟨⟨ins, to'⟩, rest⟩ := x
          cases rest with
          | nil =>
            have HX := Lib.hid (show rdLine ts = some ⟨[], ins, to'⟩ by rw [HLN.out, hx]; rfl)
            clear hx
            go_wp2_with fail
            refine E2.mono ?_; rintro e w' ⟨rfl, rfl⟩
            go_wp2_with fail
            refine (must_ok w1).mono ?_; rintro e w' ⟨rfl, rfl⟩
            go_wp2_with fail
            go_end0
            exact reads_some ⟨[], ins, to'⟩ HX.out rfl R2.out G2.out
          | cons y rest =>
            have HX := Lib.hid (show rdLine ts = none by rw [HLN.out, hx]; rfl)
            clear hx
            go_wp2_with fail
            refine E2.mono ?_; rintro e w' ⟨rfl, rfl⟩
            go_wp2_with fail
            refine (must_no w1).mono ?_; rintro e w' ⟨rfl, rfl⟩
            go_wp2_with fail
            exact ⟨rfl, reads_none HX.out rfl G2.out⟩

/-- What was recovered of a line that says nothing. -/
def lineV (t : Told) : Value := .agg #[str t.label, .int .u8 t.ins.op, .bool t.ins.nw, .int .i64 t.ins.dst, .int .i64 t.ins.src, .bool t.ins.ui, .int .i64 t.ins.off, .int .i64 t.ins.im, .int .i64 t.ins.sz, str t.goal]
def lineC (t : Told) : Array Value := #[str t.label, .int .u8 t.ins.op, .bool t.ins.nw, .int .i64 t.ins.dst, .int .i64 t.ins.src, .bool t.ins.ui, .int .i64 t.ins.off, .int .i64 t.ins.im, .int .i64 t.ins.sz, str t.goal]
theorem setCell_other (w : World) {R k : Nat} (i : Nat) (u : Value) (h : k ≠ R) : (w.setCell ⟨R, i, none⟩ u).heap[k]? = w.heap[k]? := by
  have : R ≠ k := fun e => h e.symm
  simp [World.setCell, Array.getElem?_modify, this]
theorem catchRead (a b : Nat) (pv : Value) (u : TypeId) (older : List PanicEntry) (w : World)
    (ha : w.heap[a]? = some (.cells (lineC nothing) 61 (0, 0))) (hb : w.heap[b]? = some (.cells #[.int .i64 0] 24 (0, 0))) (hab : a ≠ b) :
    CallsD Tryz.prog 65 #[.pointer (some ⟨a, 0, none⟩), .pointer (some ⟨b, 0, none⟩)] (.panicking ({ v := .iface u pv, recovered := false } :: older)) w fun e u' w' =>
      e = .returned (.tuple #[]) ∧ u' = .panicking ({ v := .iface u pv, recovered := true } :: older) ∧ w'.heap[a]? = some (.cells (lineC nothing) 61 (0, 0)) ∧ w'.heap[b]? = some (.cells #[.int .i64 120] 24 (0, 0)) ∧ (∀ k, k ≠ a → k ≠ b → w'.heap[k]? = w.heap[k]?) ∧ w'.heap.size = w.heap.size ∧ w'.os = w.os ∧ w'.tape = w.tape ∧ w'.output = w.output := by
  refine callsD_of_wpS Tryz.func65 rfl fun c₀ cs hu => ?_
  apply wpS_seq
  apply wpS_region
  simp [wpOpsS, go_sem, recoverD, hu, Tryz.ntmps65, Exit.thenS]
  refine wpS_cond (t := true) (by simp [Act.eval, Array.replicate]) ?_
  simp only [if_true]
  apply wpS_region
  have c0 : w.cell? ⟨a, 0, none⟩ = some (str []) := by simp [World.cell?, ha, lineC, nothing, noIns]
  have c1 : w.cell? ⟨a, 1, none⟩ = some (.int .u8 0) := by simp [World.cell?, ha, lineC, nothing, noIns]
  have c2 : w.cell? ⟨a, 2, none⟩ = some (.bool false) := by simp [World.cell?, ha, lineC, nothing, noIns]
  have c3 : w.cell? ⟨a, 3, none⟩ = some (.int .i64 0) := by simp [World.cell?, ha, lineC, nothing, noIns]
  have c4 : w.cell? ⟨a, 4, none⟩ = some (.int .i64 0) := by simp [World.cell?, ha, lineC, nothing, noIns]
  have c5 : w.cell? ⟨a, 5, none⟩ = some (.bool false) := by simp [World.cell?, ha, lineC, nothing, noIns]
  have c6 : w.cell? ⟨a, 6, none⟩ = some (.int .i64 0) := by simp [World.cell?, ha, lineC, nothing, noIns]
  have c7 : w.cell? ⟨a, 7, none⟩ = some (.int .i64 0) := by simp [World.cell?, ha, lineC, nothing, noIns]
  have c8 : w.cell? ⟨a, 8, none⟩ = some (.int .i64 0) := by simp [World.cell?, ha, lineC, nothing, noIns]
  have c9 : w.cell? ⟨a, 9, none⟩ = some (str []) := by simp [World.cell?, ha, lineC, nothing, noIns]
  have fa : ∀ k, w.frozen? ⟨a, k, none⟩ = false := by intro k; simp [World.frozen?, ha]
  have f0 := fa 0
  have f1 := fa 1
  have f2 := fa 2
  have f3 := fa 3
  have f4 := fa 4
  have f5 := fa 5
  have f6 := fa 6
  have f7 := fa 7
  have f8 := fa 8
  have f9 := fa 9
  have cb : w.cell? ⟨b, 0, none⟩ = some (.int .i64 0) := by simp [World.cell?, hb]
  have fb : w.frozen? ⟨b, 0, none⟩ = false := by simp [World.frozen?, hb]
  simp [wpOpsS, go_sem, c0, f0, c1, f1, c2, f2, c3, f3, c4, f4, c5, f5, c6, f6, c7, f7, c8, f8, c9, f9, cb, fb, bodyPostS, results, Tryz.results65]
  have A := (heap_set (heap_set (heap_set (heap_set (heap_set (heap_set (heap_set (heap_set (heap_set (heap_set ha 0 (str [])) 1 (.int .u8 0)) 2 (.bool false)) 3 (.int .i64 0)) 4 (.int .i64 0)) 5 (.bool false)) 6 (.int .i64 0)) 7 (.int .i64 0)) 8 (.int .i64 0)) 9 (str []))
  refine ⟨?_, ?_, ?_, ?_⟩
  · rw [setCell_other _ _ _ hab]
    simpa [lineC, nothing, noIns] using A
  · refine (heap_set (cs := #[.int .i64 0]) (t := 24) (fr := (0, 0)) ?_ 0 _).trans (by simp)
    simp only [setCell_other _ _ _ (Ne.symm hab)]
    exact hb
  · intro k h1 h2
    rw [setCell_other _ _ _ h2]
    simp only [setCell_other _ _ _ h1]
  · simp [World.setCell]
theorem idleRead (a b : Nat) (w : World) :
    CallsD Tryz.prog 65 #[.pointer (some ⟨a, 0, none⟩), .pointer (some ⟨b, 0, none⟩)] .returning w fun e u' w' => e = .returned (.tuple #[]) ∧ u' = .returning ∧ w' = w := by
  refine callsD_of_wpS Tryz.func65 rfl fun c₀ cs hu => ?_
  apply wpS_seq
  apply wpS_region
  simp [wpOpsS, go_sem, recoverD, hu, Tryz.ntmps65, Exit.thenS]
  refine wpS_cond (t := false) (by simp [Act.eval, Array.replicate]) ?_
  simp only [Bool.false_eq_true, if_false]
  refine wpS_of_wp (wp_skip ?_)
  cases c₀
  simp_all [bodyPostS, results, Tryz.results65]
def wroteL (w : World) (a b : Nat) (t : Told) : World := (((((((((((w.setCell ⟨a, 0, none⟩ (str t.label)).setCell ⟨a, 1, none⟩ (.int .u8 t.ins.op)).setCell ⟨a, 2, none⟩ (.bool t.ins.nw)).setCell ⟨a, 3, none⟩ (.int .i64 t.ins.dst)).setCell ⟨a, 4, none⟩ (.int .i64 t.ins.src)).setCell ⟨a, 5, none⟩ (.bool t.ins.ui)).setCell ⟨a, 6, none⟩ (.int .i64 t.ins.off)).setCell ⟨a, 7, none⟩ (.int .i64 t.ins.im)).setCell ⟨a, 8, none⟩ (.int .i64 t.ins.sz)).setCell ⟨a, 9, none⟩ (str t.goal))).setCell ⟨b, 0, none⟩ (.int .i64 0)
theorem wroteL_at {w : World} {a b : Nat} (t : Told) (h : w.heap[a]? = some (.cells (lineC nothing) 61 (0, 0))) (hb : w.heap[b]? = some (.cells #[.int .i64 0] 24 (0, 0))) (hab : a ≠ b) :
    (wroteL w a b t).heap[a]? = some (.cells (lineC t) 61 (0, 0)) ∧ (wroteL w a b t).heap[b]? = some (.cells #[.int .i64 0] 24 (0, 0)) ∧ (∀ k, k ≠ a → k ≠ b → (wroteL w a b t).heap[k]? = w.heap[k]?) ∧ (wroteL w a b t).heap.size = w.heap.size := by
  have A := (heap_set (heap_set (heap_set (heap_set (heap_set (heap_set (heap_set (heap_set (heap_set (heap_set h 0 (str t.label)) 1 (.int .u8 t.ins.op)) 2 (.bool t.ins.nw)) 3 (.int .i64 t.ins.dst)) 4 (.int .i64 t.ins.src)) 5 (.bool t.ins.ui)) 6 (.int .i64 t.ins.off)) 7 (.int .i64 t.ins.im)) 8 (.int .i64 t.ins.sz)) 9 (str t.goal))
  unfold wroteL
  refine ⟨?_, ?_, ?_, by simp [World.setCell]⟩
  · rw [setCell_other _ _ _ hab]
    simpa [lineC, nothing, noIns] using A
  · refine (heap_set (cs := #[.int .i64 0]) (t := 24) (fr := (0, 0)) ?_ 0 _).trans (by simp)
    simp only [setCell_other _ _ _ (Ne.symm hab)]
    exact hb
  · intro k h1 h2
    rw [setCell_other _ _ _ h2]
    simp only [setCell_other _ _ _ h1]
theorem wroteL_os (w : World) (a b : Nat) (t : Told) : (wroteL w a b t).os = w.os ∧ (wroteL w a b t).tape = w.tape ∧ (wroteL w a b t).output = w.output := by
  unfold wroteL
  exact ⟨by simp only [World.setCell], by simp only [World.setCell], by simp only [World.setCell]⟩
def errOf (o : Option Told) : Int := if o.isSome then 0 else 120
def toldOf (o : Option Told) : Told := o.getD nothing
theorem readP (mb : Nat) (s : Str) (hs : s.length ≤ 1000000000) (w : World) (M : SMap w mb tabV) (L : Lay w) :
    Calls Tryz.prog 27 #[.map (some mb), str s] w fun e w' => e = .returned (.tuple #[lineV (toldOf (told s)), .int .i64 (errOf (told s))]) ∧ Below w.heap.size w w' := by
  have b1 := alloc_below w (.cells #[.string ⟨#[]⟩, .int .u8 0, .bool false, .int .i64 0, .int .i64 0, .bool false, .int .i64 0, .int .i64 0, .int .i64 0, .string ⟨#[]⟩] 61)
  have b2 := alloc_below (w.alloc (.cells #[.string ⟨#[]⟩, .int .u8 0, .bool false, .int .i64 0, .int .i64 0, .bool false, .int .i64 0, .int .i64 0, .int .i64 0, .string ⟨#[]⟩] 61)) (.cells #[.int .i64 0] 24)
  have B2 : Below w.heap.size w ((w.alloc (.cells #[.string ⟨#[]⟩, .int .u8 0, .bool false, .int .i64 0, .int .i64 0, .bool false, .int .i64 0, .int .i64 0, .int .i64 0, .string ⟨#[]⟩] 61)).alloc (.cells #[.int .i64 0] 24)) := b1.trans (b2.mono b1.size)
  have hA : ((w.alloc (.cells #[.string ⟨#[]⟩, .int .u8 0, .bool false, .int .i64 0, .int .i64 0, .bool false, .int .i64 0, .int .i64 0, .int .i64 0, .string ⟨#[]⟩] 61)).alloc (.cells #[.int .i64 0] 24)).heap[w.heap.size]? = some (.cells (lineC nothing) 61 (0, 0)) := (b2.block _ (by simp)).trans (heap_alloc_new w _)
  have hB : ((w.alloc (.cells #[.string ⟨#[]⟩, .int .u8 0, .bool false, .int .i64 0, .int .i64 0, .bool false, .int .i64 0, .int .i64 0, .int .i64 0, .string ⟨#[]⟩] 61)).alloc (.cells #[.int .i64 0] 24)).heap[w.heap.size + 1]? = some (.cells #[.int .i64 0] 24 (0, 0)) := by
    have := heap_alloc_new (w.alloc (.cells #[.string ⟨#[]⟩, .int .u8 0, .bool false, .int .i64 0, .int .i64 0, .bool false, .int .i64 0, .int .i64 0, .int .i64 0, .string ⟨#[]⟩] 61)) (.cells #[.int .i64 0] 24)
    simpa using this
  have T := tokensP s hs _ (L.past B2)
  have hsz : ((w.alloc (.cells #[.string ⟨#[]⟩, .int .u8 0, .bool false, .int .i64 0, .int .i64 0, .bool false, .int .i64 0, .int .i64 0, .int .i64 0, .string ⟨#[]⟩] 61)).alloc (.cells #[.int .i64 0] 24)).heap.size = w.heap.size + 2 := by simp
  have HF := Lib.hid (And.intro B2 (And.intro hA (And.intro hB hsz)))
  have HM := Lib.hid (M.below B2 M.lt)
  have HL := Lib.hid (L.past B2)
  unfold told
  clear L M b1 b2 B2 hA hB hsz hs
  have hmf : ∀ (fn : Fn) (first cap : Array Value) (w : World), (Instr.makeFunc fn first cap).run Tryz.prog w = .ok (.func fn first cap) w := fun _ _ _ _ => rfl
  go_enter_defers Tryz.func27, Tryz.ntmps27
  go_wp2_with fail
  generalize (w.alloc (.cells #[.string ⟨#[]⟩, .int .u8 0, .bool false, .int .i64 0, .int .i64 0, .bool false, .int .i64 0, .int .i64 0, .int .i64 0, .string ⟨#[]⟩] 61)).alloc (.cells #[.int .i64 0] 24) = W2 at *
  refine T.mono ?_; intro e w1 h1
  obtain ⟨B2, hA, hB, hsz⟩ := HF.out
  have hb1 := h1.2
  have hA1 := (hb1.block _ (by omega)).trans hA
  have hB1 := (hb1.block _ (by omega)).trans hB
  have B1 := B2.trans (hb1.mono B2.size)
  cases ht : tokL s with
  | none =>
    rw [ht] at h1
    obtain ⟨rfl, -⟩ := h1
    clear HF T HM HL B2 hA hB hsz
    go_wp2_with fail
    refine leaves_cons (f := 65) (args := #[.pointer (some ⟨w.heap.size, 0, none⟩), .pointer (some ⟨w.heap.size + 1, 0, none⟩)]) (by simp) (by simp [go_sem]) ?_
    refine (catchRead w.heap.size (w.heap.size + 1) _ _ [] _ hA1 hB1 (by omega)).mono ?_
    rintro e u' w'' ⟨rfl, rfl, r1, r2, r3, r4, r5, r6, r7⟩
    have z : ∀ k, k < 10 → w''.cell? ⟨w.heap.size, k, none⟩ = (lineC nothing)[k]? := by intro k hk; simp [World.cell?, r1]
    have y0 := z 0 (by omega)
    have y1 := z 1 (by omega)
    have y2 := z 2 (by omega)
    have y3 := z 3 (by omega)
    have y4 := z 4 (by omega)
    have y5 := z 5 (by omega)
    have y6 := z 6 (by omega)
    have y7 := z 7 (by omega)
    have y8 := z 8 (by omega)
    have y9 := z 9 (by omega)
    have y10 : w''.cell? ⟨w.heap.size + 1, 0, none⟩ = some (.int .i64 120) := by simp [World.cell?, r2]
    simp [lineC, nothing, noIns] at y0 y1 y2 y3 y4 y5 y6 y7 y8 y9
    have BW : Below w.heap.size w w'' := by
      have B := B1
      exact ⟨r5.trans B.os, r6.trans B.tape, r7.trans B.output, by rw [r4]; exact B.size, fun k hk => (r3 k (by omega) (by omega)).trans (B.block k hk)⟩
    refine ⟨.tuple #[lineV nothing, .int .i64 120], by simp [results, Tryz.results27, go_sem, lineV, nothing, noIns, y0, y1, y2, y3, y4, y5, y6, y7, y8, y9, y10], ?_⟩
    exact ⟨by rw [ht]; rfl, BW⟩
  | some ts =>
    rw [ht] at h1
    obtain ⟨⟨v, rfl, hv, hlen⟩, -⟩ := h1
    have HV := Lib.hid (And.intro hv (And.intro hlen (tokL_tok ht)))
    have HF1 := Lib.hid (And.intro B1 (And.intro hA1 hB1))
    have HM1 := Lib.hid ((HM.out).below hb1 (HM.out).lt)
    have HL1 := Lib.hid ((HL.out).past hb1)
    have hs1 : w.heap.size + 2 ≤ w1.heap.size := by have := hb1.size; omega
    have HS1 := Lib.hid hs1
    obtain ⟨ao, cap, rfl⟩ := hv.shape
    clear hv hlen HM HL HF hb1 B1 B2 hA hB hA1 hB1 hsz T hs1
    have bR := alloc_below w1 (.cells #[.slice ao ts.length cap, .string ⟨#[]⟩, .int .u8 0, .bool false, .int .i64 0, .int .i64 0, .bool false, .int .i64 0, .int .i64 0, .int .i64 0, .string ⟨#[]⟩] 127)
    have hRd : Rdr (w1.alloc (.cells #[.slice ao ts.length cap, .string ⟨#[]⟩, .int .u8 0, .bool false, .int .i64 0, .int .i64 0, .bool false, .int .i64 0, .int .i64 0, .int .i64 0, .string ⟨#[]⟩] 127)) w1.heap.size ts [] noIns [] :=
      ⟨(HV.out).2.2, (HV.out).2.1, _, heap_alloc_new w1 _, (HV.out).1.past bR⟩
    have HLP := Lib.hid (lineP hRd ((HM1.out).below bR (HM1.out).lt) ((HL1.out).past bR))
    have HBR := Lib.hid bR
    clear bR hRd
    go_upto_region 3 with fail
    generalize w1.alloc (.cells #[.slice ao ts.length cap, .string ⟨#[]⟩, .int .u8 0, .bool false, .int .i64 0, .int .i64 0, .bool false, .int .i64 0, .int .i64 0, .int .i64 0, .string ⟨#[]⟩] 127) = w2 at *
    have hR := HS1.out
    generalize w1.heap.size = R at *
    have LP := HLP.out
    clear HLP
    go_wp2_with fail
    refine LP.mono ?_; intro e w3 h3
    have F : w2.grownBy w3 (some R) → Below w.heap.size w w3 ∧ w3.heap[w.heap.size]? = some (.cells (lineC nothing) 61 (0, 0)) ∧ w3.heap[w.heap.size + 1]? = some (.cells #[.int .i64 0] 24 (0, 0)) := by
      intro hg
      obtain ⟨B1, hA1, hB1⟩ := HF1.out
      have bR := HBR.out
      have hlt1 := (Array.getElem?_eq_some_iff.1 hB1).1
      have e2 : ∀ k, k < w.heap.size + 2 → w3.heap[k]? = w1.heap[k]? := fun k hk => (hg.block k (Nat.lt_of_lt_of_le (by omega) bR.size) (fun e => by have := Option.some.inj e; omega)).trans (bR.block k (by omega))
      refine ⟨⟨hg.os.trans (bR.os.trans B1.os), hg.tape.trans (bR.tape.trans B1.tape), hg.output.trans (bR.output.trans B1.output), Nat.le_trans B1.size (Nat.le_trans bR.size hg.size), fun k hk => (e2 k (by omega)).trans (B1.block k hk)⟩, (e2 _ (by omega)).trans hA1, (e2 _ (by omega)).trans hB1⟩
    rcases h3.out with ⟨hx, rfl, hg⟩ | ⟨x, hx, rfl, hr, hg⟩
    · obtain ⟨B3, hA3, hB3⟩ := F hg
      clear F LP h3 hg HBR HF1 HM1 HL1 HV HS1
      go_wp2_with fail
      refine leaves_cons (f := 65) (args := #[.pointer (some ⟨w.heap.size, 0, none⟩), .pointer (some ⟨w.heap.size + 1, 0, none⟩)]) (by simp) (by simp [go_sem]) ?_
      refine (catchRead w.heap.size (w.heap.size + 1) _ _ [] _ hA3 hB3 (by omega)).mono ?_
      rintro e u' w'' ⟨rfl, rfl, r1, r2, r3, r4, r5, r6, r7⟩
      have z : ∀ k, k < 10 → w''.cell? ⟨w.heap.size, k, none⟩ = (lineC nothing)[k]? := by intro k hk; simp [World.cell?, r1]
      have y0 := z 0 (by omega)
      have y1 := z 1 (by omega)
      have y2 := z 2 (by omega)
      have y3 := z 3 (by omega)
      have y4 := z 4 (by omega)
      have y5 := z 5 (by omega)
      have y6 := z 6 (by omega)
      have y7 := z 7 (by omega)
      have y8 := z 8 (by omega)
      have y9 := z 9 (by omega)
      have y10 : w''.cell? ⟨w.heap.size + 1, 0, none⟩ = some (.int .i64 120) := by simp [World.cell?, r2]
      simp [lineC, nothing, noIns] at y0 y1 y2 y3 y4 y5 y6 y7 y8 y9
      have BW : Below w.heap.size w w'' := by
        have B := B3
        exact ⟨r5.trans B.os, r6.trans B.tape, r7.trans B.output, by rw [r4]; exact B.size, fun k hk => (r3 k (by omega) (by omega)).trans (B.block k hk)⟩
      refine ⟨.tuple #[lineV nothing, .int .i64 120], by simp [results, Tryz.results27, go_sem, lineV, nothing, noIns, y0, y1, y2, y3, y4, y5, y6, y7, y8, y9, y10], ?_⟩
      exact ⟨by rw [ht]; simp only [Option.bind_some]; rw [hx]; rfl, BW⟩
    · obtain ⟨B3, hA3, hB3⟩ := F hg
      obtain ⟨_, c1, c2, c3, c4, c5, c6, c7, c8, c9, c10, _⟩ := hr.at
      clear F LP h3 hg HBR HF1 HM1 HL1 HV HS1
      have d0 : w3.cell? ⟨w.heap.size, 0, none⟩ = some (str []) := by simp [World.cell?, hA3, lineC, nothing, noIns]
      have d1 : w3.cell? ⟨w.heap.size, 1, none⟩ = some (.int .u8 0) := by simp [World.cell?, hA3, lineC, nothing, noIns]
      have d2 : w3.cell? ⟨w.heap.size, 2, none⟩ = some (.bool false) := by simp [World.cell?, hA3, lineC, nothing, noIns]
      have d3 : w3.cell? ⟨w.heap.size, 3, none⟩ = some (.int .i64 0) := by simp [World.cell?, hA3, lineC, nothing, noIns]
      have d4 : w3.cell? ⟨w.heap.size, 4, none⟩ = some (.int .i64 0) := by simp [World.cell?, hA3, lineC, nothing, noIns]
      have d5 : w3.cell? ⟨w.heap.size, 5, none⟩ = some (.bool false) := by simp [World.cell?, hA3, lineC, nothing, noIns]
      have d6 : w3.cell? ⟨w.heap.size, 6, none⟩ = some (.int .i64 0) := by simp [World.cell?, hA3, lineC, nothing, noIns]
      have d7 : w3.cell? ⟨w.heap.size, 7, none⟩ = some (.int .i64 0) := by simp [World.cell?, hA3, lineC, nothing, noIns]
      have d8 : w3.cell? ⟨w.heap.size, 8, none⟩ = some (.int .i64 0) := by simp [World.cell?, hA3, lineC, nothing, noIns]
      have d9 : w3.cell? ⟨w.heap.size, 9, none⟩ = some (str []) := by simp [World.cell?, hA3, lineC, nothing, noIns]
      have fa : ∀ k, w3.frozen? ⟨w.heap.size, k, none⟩ = false := by intro k; simp [World.frozen?, hA3]
      have f0 := fa 0
      have f1 := fa 1
      have f2 := fa 2
      have f3 := fa 3
      have f4 := fa 4
      have f5 := fa 5
      have f6 := fa 6
      have f7 := fa 7
      have f8 := fa 8
      have f9 := fa 9
      have db : w3.cell? ⟨w.heap.size + 1, 0, none⟩ = some (.int .i64 0) := by simp [World.cell?, hB3]
      have fb : w3.frozen? ⟨w.heap.size + 1, 0, none⟩ = false := by simp [World.frozen?, hB3]
      have HWL := Lib.hid (wroteL_at x hA3 hB3 (by omega))
      have HB3 := Lib.hid B3
      have HX := Lib.hid hx
      clear fa hA3 hB3 B3 hx hr
      go_wp2_with fail
      change bodyPostD _ _ _ _ _ (wroteL w3 w.heap.size (w.heap.size + 1) x)
      have HO := Lib.hid (wroteL_os w3 w.heap.size (w.heap.size + 1) x)
      generalize wroteL w3 w.heap.size (w.heap.size + 1) x = V at *
      refine leaves_cons (f := 65) (args := #[.pointer (some ⟨w.heap.size, 0, none⟩), .pointer (some ⟨w.heap.size + 1, 0, none⟩)]) (by simp) (by simp [go_sem]) ?_
      refine (idleRead w.heap.size (w.heap.size + 1) _).mono ?_
      rintro e u' w'' ⟨rfl, rfl, rfl⟩
      obtain ⟨r1, r2, r3, r4⟩ := HWL.out
      have z : ∀ k, k < 10 → w''.cell? ⟨w.heap.size, k, none⟩ = (lineC x)[k]? := by intro k hk; simp [World.cell?, r1]
      have y0 := z 0 (by omega)
      have y1 := z 1 (by omega)
      have y2 := z 2 (by omega)
      have y3 := z 3 (by omega)
      have y4 := z 4 (by omega)
      have y5 := z 5 (by omega)
      have y6 := z 6 (by omega)
      have y7 := z 7 (by omega)
      have y8 := z 8 (by omega)
      have y9 := z 9 (by omega)
      have y10 : w''.cell? ⟨w.heap.size + 1, 0, none⟩ = some (.int .i64 0) := by simp [World.cell?, r2]
      simp [lineC] at y0 y1 y2 y3 y4 y5 y6 y7 y8 y9
      have BW : Below w.heap.size w w'' := by
        have B := HB3.out
        obtain ⟨o1, o2, o3⟩ := HO.out
        exact ⟨o1.trans B.os, o2.trans B.tape, o3.trans B.output, by rw [r4]; exact B.size, fun k hk => (r3 k (by omega) (by omega)).trans (B.block k hk)⟩
      refine ⟨.tuple #[lineV x, .int .i64 0], by simp [results, Tryz.results27, go_sem, lineV, y0, y1, y2, y3, y4, y5, y6, y7, y8, y9, y10], ?_⟩
      exact ⟨by rw [ht]; simp only [Option.bind_some]; rw [HX.out]; rfl, BW⟩
end Go.Proofs.YthfkmackodbmkaaGreatDoor
