/- The document's examples. -/
import Derived.Test.YthfkmackodbmkaaGreatDoorTextParse
import Derived.Test.YthfkmackodbmkaaGreatDoorTextBuild
import Derived.Test.YthfkmackodbmkaaGreatDoorInsLent
namespace Go.Proofs.YthfkmackodbmkaaGreatDoor
open Go.RowKit
set_option linter.unusedVariables false
set_option linter.unusedSimpArgs false
set_option maxRecDepth 100000
set_option maxHeartbeats 4000000

def exL : List Ins := [⟨12, false, 0, 0, true, 0, 1, 0⟩, ⟨17, true, 2, 0, true, 2, -5, 0⟩, ⟨14, false, 3, 1, false, 12, 0, 2⟩, ⟨15, false, 10, 3, false, -8, 0, 8⟩, ⟨28, false, 0, 0, false, 0, 0, 0⟩]
def exT : Str := [109, 111, 118, 32, 114, 48, 44, 32, 49, 10, 106, 101, 113, 51, 50, 32, 114, 50, 44, 32, 45, 53, 44, 32, 101, 110, 100, 10, 108, 111, 97, 100, 50, 32, 114, 51, 44, 32, 91, 114, 49, 32, 43, 32, 49, 50, 93, 10, 112, 117, 116, 56, 32, 91, 114, 49, 48, 32, 45, 32, 56, 93, 44, 32, 114, 51, 10, 101, 110, 100, 58, 10, 101, 120, 105, 116]
theorem Inss.part {w : World} {g o c : Nat} {l : List Ins} (h : Inss w (.slice (some ⟨g, o, none⟩) l.length c) l) {k : Nat} (hk : k < l.length) : Inss w (.slice (some ⟨g, o + k * 8, none⟩) 1 (c - k)) [ith l k] := by
  obtain ⟨ao, cap, hv, h1, h2, h3, h4⟩ := h
  cases hv
  refine ⟨_, _, rfl, by simp; omega, by omega, fun h => (by cases h), fun a ha j u hu => ?_⟩
  cases ha
  have hj : j < 8 := by have := (List.getElem?_eq_some_iff.1 hu).1; simpa [icl_length] using this
  have e : (icl l)[k * 8 + j]? = some u := by
    rw [icl_get hk hj]
    have : icl [ith l k] = icells (ith l k) := by simp [icl]
    rw [this] at hu
    exact hu
  have := h4 _ rfl (k * 8 + j) u e
  rw [add_none] at this ⊢
  rw [show o + k * 8 + j = o + (k * 8 + j) by omega]
  exact this
theorem exParse (w : World) (L : Lay w) : Calls Tryz.prog 9 #[str exT] w fun e w' => ∃ g c, e = .returned (.tuple #[.slice (some ⟨g, 0, none⟩) 5 c, .agg #[.int .i64 0, .int .i64 0]]) ∧ 5 ≤ c ∧ c ≤ 9223372036854775807 ∧ Inss w' (.slice (some ⟨g, 0, none⟩) 5 c) exL ∧ Below w.heap.size w w' := by
  have P := parseP exT w L (by decide)
  have hp : parseL exT = (exL, 0, 0) := awake_parse
  rw [hp] at P
  refine P.mono ?_; rintro e w' ⟨v, rfl, ho, hb⟩
  have hi := ho.inss
  have hl : exL.length = 5 := rfl
  rcases ho.2 with ⟨rfl, hn⟩ | ⟨g, cap, cur, rfl, -, hg, hn, hc, hs, ht⟩
  · exact absurd hn (by decide)
  · rw [hl] at hi hn
    exact ⟨g, cap, rfl, hn, by unfold maxLen at hc; omega, hi, hb⟩
theorem exJump (w : World) (L : Lay w) : Calls Tryz.prog 9 #[.string ⟨#[106, 117, 109, 112, 32, 104, 101, 114, 101]⟩] w fun e w' => ∃ v, e = .returned (.tuple #[v, .agg #[.int .i64 121, .int .i64 1]]) ∧ Below w.heap.size w w' := by
  have P := parseP [106, 117, 109, 112, 32, 104, 101, 114, 101] w L (by decide)
  rw [awake_jump] at P
  refine P.mono ?_; rintro e w' ⟨v, rfl, ho, hb⟩
  exact ⟨v, rfl, hb⟩
theorem exLine (w : World) (L : Lay w) : Calls Tryz.prog 9 #[.string ⟨#[97, 100, 100, 32, 114, 49, 48, 44, 32, 49]⟩] w fun e w' => ∃ v, e = .returned (.tuple #[v, .agg #[.int .i64 120, .int .i64 1]]) ∧ Below w.heap.size w w' := by
  have P := parseP [97, 100, 100, 32, 114, 49, 48, 44, 32, 49] w L (by decide)
  rw [awake_line] at P
  refine P.mono ?_; rintro e w' ⟨v, rfl, ho, hb⟩
  exact ⟨v, rfl, hb⟩
theorem exShow (v : Value) (w : World) (h : Inss w v [⟨17, true, 2, 0, true, 2, -5, 0⟩]) (L : Lay w) : Calls Tryz.prog 13 #[v] w fun e w' => e = .returned (.tuple #[.string ⟨#[106, 101, 113, 51, 50, 32, 114, 50, 44, 32, 45, 53, 44, 32, 43, 50, 10]⟩, .int .i64 0]) ∧ Below w.heap.size w w' := by
  have P := showP v _ w h (fun k hk => by
    have : k = 0 := by simp at hk; omega
    subst this
    exact ⟨by decide, by decide, by decide, by decide, by decide, by decide, by decide, by decide, by decide, by decide, by decide, by decide⟩) L
  rw [awake_show] at P
  exact P
/-- A fault's block. -/
def Fb (w : World) (F : Nat) (a b : Int) : Prop := w.heap[F]? = some (.cells #[.int .i64 a, .int .i64 b] 26 (0, 0))
theorem Fb.past {w w' : World} {F : Nat} {a b : Int} (h : Fb w F a b) (hb : Below w.heap.size w w') : Fb w' F a b := (hb.block F (Array.getElem?_eq_some_iff.1 h).1).trans h
theorem Fb.cells {w : World} {F : Nat} {a b : Int} (h : Fb w F a b) : w.cell? ⟨F, 0, none⟩ = some (.int .i64 a) ∧ w.cell? ⟨F, 1, none⟩ = some (.int .i64 b) := by
  unfold Fb at h
  simp [World.cell?, h]
theorem awake (w : World) (L : Lay w) : Calls Tryz.prog 8 #[] w (Says true w) := by
  have HL := Lib.hid L
  have X := exParse w L
  unfold exT at X
  clear L
  go_enter Tryz.func8, Tryz.ntmps8
  go_wp2_with fail
  refine X.mono ?_; rintro e w1 ⟨g, c, rfl, c5, cm, i1, b1⟩
  have A1 := alloc_below w1 (.cells #[.int .i64 0, .int .i64 0] 26)
  have F1 := Lib.hid (show Fb (w1.alloc (.cells #[.int .i64 0, .int .i64 0] 26)) w1.heap.size 0 0 from heap_alloc_new w1 _)
  have I1 := Lib.hid (i1.past A1)
  have B1 := Lib.hid (b1.trans (A1.mono b1.size))
  have X2 := exJump _ ((HL.out).past B1.out)
  clear i1 b1 A1 X
  go_wp2_with fail
  refine X2.mono ?_; rintro e w2 ⟨v2, rfl, b2⟩
  have A2 := alloc_below w2 (.cells #[.int .i64 121, .int .i64 1] 26)
  have F2 := Lib.hid (show Fb (w2.alloc (.cells #[.int .i64 121, .int .i64 1] 26)) w2.heap.size 121 1 from heap_alloc_new w2 _)
  have G1 := Lib.hid (((F1.out).past b2).past A2)
  have I2 := Lib.hid (((I1.out).past b2).past A2)
  have b2' := (B1.out).trans (b2.mono (B1.out).size)
  have B2 := Lib.hid (b2'.trans (A2.mono b2'.size))
  have X3 := exLine _ ((HL.out).past B2.out)
  clear b2 A2 b2' X2 F1 I1
  go_wp2_with fail
  refine X3.mono ?_; rintro e w3 ⟨v3, rfl, b3⟩
  have A3 := alloc_below w3 (.cells #[.int .i64 120, .int .i64 1] 26)
  have F3 := (show Fb (w3.alloc (.cells #[.int .i64 120, .int .i64 1] 26)) w3.heap.size 120 1 from heap_alloc_new w3 _)
  have G2 := (((F2.out).past b3).past A3)
  have G1 := (((G1.out).past b3).past A3)
  have I3 := (((I2.out).past b3).past A3)
  have b3' := (B2.out).trans (b3.mono (B2.out).size)
  have B3 := Lib.hid (b3'.trans (A3.mono b3'.size))
  have IP := Lib.hid (Inss.part (l := exL) (show Inss (w3.alloc (.cells #[.int .i64 120, .int .i64 1] 26)) (.slice (some ⟨g, 0, none⟩) exL.length c) exL from I3) (k := 1) (by decide))
  obtain ⟨p0, p1⟩ := G1.cells
  obtain ⟨q0, q1⟩ := G2.cells
  obtain ⟨r0, r1⟩ := F3.cells
  obtain ⟨g', o', cc, hcc, -, -, -, cells⟩ := I3.at (by decide)
  cases hcc
  obtain ⟨x0, x1, x2, x3, x4, x5, x6, x7⟩ := cells 1 (by decide)
  clear b3 A3 b3' X3 F2 I2 F3 G2 G1 I3 cells
  go_wp2_with fail
  have IQ : Inss (w3.alloc (.cells #[.int .i64 120, .int .i64 1] 26)) (.slice (some ⟨g, 8, none⟩) 1 (c - 1)) [⟨17, true, 2, 0, true, 2, -5, 0⟩] := IP.out
  refine (exShow _ _ IQ ((HL.out).past B3.out)).mono ?_; rintro e w4 ⟨rfl, b4⟩
  have B4 := Lib.hid ((B3.out).trans (b4.mono (B3.out).size))
  clear b4 IQ
  go_wp2_with fail
  go_ret
  exact ⟨rfl, B4.out⟩
/-- Parse's answer, with the letters of its slice. -/
theorem parseC (s : Str) (w : World) (L : Lay w) (hs : s.length ≤ 1000000000) : Calls Tryz.prog 9 #[str s] w fun e w' =>
    ∃ ao cap, e = .returned (.tuple #[.slice ao (parseL s).1.length cap, .agg #[.int .i64 (parseL s).2.1, .int .i64 (parseL s).2.2]]) ∧ OwnI w' w.heap.size (.slice ao (parseL s).1.length cap) (parseL s).1 ∧ Below w.heap.size w w' := by
  refine (parseP s w L hs).mono ?_; rintro e w' ⟨v, rfl, ho, hb⟩
  obtain ⟨ao, cap, hv⟩ := ho.shape
  subst hv
  exact ⟨ao, cap, rfl, ho, hb⟩
end Go.Proofs.YthfkmackodbmkaaGreatDoor
