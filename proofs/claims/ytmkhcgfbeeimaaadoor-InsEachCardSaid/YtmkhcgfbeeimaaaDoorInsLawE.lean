/- Each first byte and second byte there may be (InsEach). -/
import Derived.Test.YtmkhcgfbeeimaaaDoorInsLawK
namespace Go.Proofs.YtmkhcgfbeeimaaaDoor
open Go.RowKit
set_option linter.unusedVariables false
set_option linter.unusedSimpArgs false
set_option maxRecDepth 100000

/-- First bytes of conditional jumps without an Imm; second bytes that they may have. -/
def cj (a : Nat) : Bool := decide (17 ≤ a % 32) && (decide (a % 32 ≤ 27) && (decide (a / 32 % 2 = 0) && decide (a / 64 ≤ 1)))
def oc (c : Nat) : Bool := decide (c / 16 ≤ 10) && decide (c % 16 ≤ 10)
def cnt (f : Nat → Bool) : Nat → Nat
  | 0 => 0
  | n + 1 => cnt f n + (if f n = true then 1 else 0)
theorem cnt_cj : cnt cj 256 = 22 := by decide +kernel
theorem cnt_oc : cnt oc 256 = 121 := by decide +kernel
/-- As many as are surely seen. -/
def lo (a c k : Nat) : Nat := 242 * cnt cj a + (if cj a = true then 2 * cnt oc c + (if oc c = true then min k 2 else 0) else 0)
theorem lo_take {a c k q : Nat} (h : lo a c k ≤ q) : lo a c (k + 1) ≤ q + 1 := by
  unfold lo at *; split <;> (try split) <;> simp_all <;> omega
theorem lo_skip0 {a c q : Nat} (h : lo a c 0 ≤ q) (hn : cj a = true → oc c = true → False) : lo a c 1 ≤ q := by
  unfold lo at *
  by_cases h1 : cj a = true
  · by_cases h2 : oc c = true
    · exact absurd (hn h1 h2) (fun h => h)
    · simp_all
  · simp_all
theorem lo_skip1 {a c q : Nat} (h : lo a c 1 ≤ q) (hn : cj a = true → oc c = true → False) : lo a c 2 ≤ q := by
  unfold lo at *
  by_cases h1 : cj a = true
  · by_cases h2 : oc c = true
    · exact absurd (hn h1 h2) (fun h => h)
    · simp_all
  · simp_all
theorem lo_skip2 {a c q : Nat} (h : lo a c 2 ≤ q) (hn : cj a = true → oc c = true → True) : lo a c 3 ≤ q := h
theorem lo_skip3 {a c q : Nat} (h : lo a c 3 ≤ q) (hn : cj a = true → oc c = true → True) : lo a c 4 ≤ q := h
theorem lo_next {a c q : Nat} (h : lo a c 4 ≤ q) : lo a (c + 1) 0 ≤ q := by
  unfold lo at *
  by_cases h1 : cj a = true
  · by_cases h2 : oc c = true
    · simp_all [cnt]; omega
    · simp_all [cnt]
  · simp_all
theorem lo_row {a q : Nat} (h : lo a 256 0 ≤ q) : lo (a + 1) 0 0 ≤ q := by
  unfold lo at *
  rw [cnt_oc] at h
  by_cases h1 : cj a = true
  · simp_all [cnt]; omega
  · simp_all [cnt]
theorem lo_end {q : Nat} (h : lo 256 0 0 ≤ q) : 5324 ≤ q := by
  unfold lo at h
  rw [cnt_cj] at h
  have : cj 256 = false := by decide
  rw [this] at h
  simpa using h
theorem each_oct {a c : Nat} {x2 x3 x4 x7 : Int} (ha : a < 256) (hc : c < 256) (h2 : 0 ≤ x2 ∧ x2 < 256) (h3 : 0 ≤ x3 ∧ x3 < 256) (h4 : 0 ≤ x4 ∧ x4 < 256) (h7 : 0 ≤ x7 ∧ x7 < 256) : ([(a : Int), (c : Int), x2, x3, x4, 0, 0, x7] : List Int).length = 8 ∧ Oct [(a : Int), (c : Int), x2, x3, x4, 0, 0, x7] := by
  refine ⟨rfl, fun n hn => ?_⟩
  simp only [List.mem_cons, List.not_mem_nil, or_false] at hn
  rcases hn with rfl | rfl | rfl | rfl | rfl | rfl | rfl | rfl <;> omega
theorem each_got {b : List Int} (h : getE b = 0) (h8 : b.length = 8 := by rfl) : (getI b).length = 1 ∧ putE (getI b) = 0 ∧ putI (getI b) = b ∧ rights (getI b) = true ∧ ∀ j, j < (getI b).length → InsWf (ith (getI b) j) := by
  obtain ⟨p1, p2, p3⟩ := put_get h
  exact ⟨by unfold getI; rw [if_pos h, decs_length, h8], p1, p2, p3, fun j hj => (tame (rights_ith p3 hj)).wf⟩
theorem each_ok {a c : Nat} {x2 x3 : Int} (h1 : cj a = true) (h2 : oc c = true) (h : ∀ p : Nat, 17 ≤ p → p ≤ 27 → ∀ nw : Bool, ∀ d s : Nat, d ≤ 10 → s ≤ 10 → okI [(p : Int) + (if nw = true then 64 else 0), (16 * d + s : Nat), x2, x3, 0, 0, 0, 0] = true) : getE [(a : Int), (c : Int), x2, x3, 0, 0, 0, 0] = 0 := by
  unfold cj oc at *
  simp only [Bool.and_eq_true, decide_eq_true_eq] at h1 h2
  have e := h (a % 32) h1.1 h1.2.1 (decide (a / 64 = 1)) (c / 16) (c % 16) h2.1 h2.2
  have e1 : ((a % 32 : Nat) : Int) + (if decide (a / 64 = 1) = true then 64 else 0) = (a : Int) := by
    by_cases hq : a / 64 = 1
    · simp only [hq, decide_true, if_true]; omega
    · simp only [hq, decide_false, Bool.false_eq_true, if_false]; omega
  have e2 : ((16 * (c / 16) + c % 16 : Nat) : Int) = (c : Int) := by omega
  rw [e1, e2] at e
  refine getE_zero.2 ⟨by simp, by simp, fun k hk => ?_⟩
  have : k = 0 := by simp at hk; omega
  subst this
  exact e
theorem ok_jump (x2 x3 : Int) (off : Int) (hx : wrap off 65536 / 256 = x2 ∧ wrap off 65536 % 256 = x3) (h0 : -32768 ≤ off) (h1 : off < 32768) (p : Nat) (hp : 17 ≤ p) (hp2 : p ≤ 27) (nw : Bool) (d s : Nat) (hd : d ≤ 10) (hs : s ≤ 10) : okI [(p : Int) + (if nw = true then 64 else 0), (16 * d + s : Nat), x2, x3, 0, 0, 0, 0] = true := by
  have hr : right ⟨p, nw, d, s, false, off, 0, 0⟩ = true := by
    unfold right
    rw [if_neg (by show ¬ (1 ≤ (p : Int) ∧ (p : Int) ≤ 12); omega), if_neg (by show ¬ (p : Int) = 13; omega), if_neg (by show ¬ (p : Int) = 14; omega), if_neg (by show ¬ (p : Int) = 15; omega), if_neg (by show ¬ (p : Int) = 16; omega), if_pos (by show 17 ≤ (p : Int) ∧ (p : Int) ≤ 27; omega)]
    simp [isR, farI, second]; omega
  have := ok_enc hr
  have e : enc ⟨p, nw, d, s, false, off, 0, 0⟩ = [(p : Int) + (if nw = true then 64 else 0), (16 * d + s : Nat), x2, x3, 0, 0, 0, 0] := by
    unfold enc first szb
    simp only [hx.1, hx.2]
    simp [wrap]
  rwa [e] at this
theorem each_ok0 {a c : Nat} (h1 : cj a = true) (h2 : oc c = true) : getE [(a : Int), (c : Int), 0, 0, 0, 0, 0, 0] = 0 := each_ok h1 h2 (ok_jump 0 0 0 (by decide) (by decide) (by decide))
theorem each_ok1 {a c : Nat} (h1 : cj a = true) (h2 : oc c = true) : getE [(a : Int), (c : Int), 255, 254, 0, 0, 0, 0] = 0 := each_ok h1 h2 (ok_jump 255 254 (-2) (by decide) (by decide) (by decide))

set_option maxHeartbeats 32000000 in
theorem insEachOf (w : World) (T : Tab w) : Calls Tryd.prog 7 #[] w (Says true w) := by
  have HT := Lib.hid T
  clear T
  go_enter Tryd.func7, Tryd.ntmps7
  go_wp2_with fail
  refine (awake _ HT.out).mono ?_; rintro e w1 ⟨rfl, b1⟩
  have B0 := Lib.hid b1
  have T0 := Lib.hid ((HT.out).past b1)
  clear b1
  go_wp2_with fail
  go_loopw [0, 1, 2] (fun r s i wr1 => ∃ a q1 : Nat, a ≤ 256 ∧ r = .bool false ∧ i = .int .i64 a ∧ s = .int .i64 q1 ∧ Hid (lo a 0 0 ≤ q1) ∧ Hid (q1 ≤ 1024 * a) ∧ Hid (Tab wr1) ∧ Hid (Below w.heap.size w wr1)) (fun _ _ i _ => 256 - (intOf i).toNat)
  case atStart => exact ⟨0, 0, by decide, rfl, rfl, rfl, Lib.hid (by decide), Lib.hid (by decide), T0, B0⟩
  case round =>
    obtain ⟨a, q1, ha', rfl, rfl, rfl, Q1L, Q1U, T1, B1⟩ := hrel
    by_cases ha : a < 256
    · have hda : decide ((a : Int) < 256) = true := by simp; omega
      go_wp2_with fail
      go_loopw [0, 1, 3] (fun r s i wr2 => ∃ c q2 : Nat, c ≤ 256 ∧ r = .bool false ∧ i = .int .i64 c ∧ s = .int .i64 q2 ∧ Hid (lo a c 0 ≤ q2) ∧ Hid (q2 ≤ 1024 * a + 4 * c) ∧ Hid (Tab wr2) ∧ Hid (Below w.heap.size w wr2)) (fun _ _ i _ => 256 - (intOf i).toNat)
      case atStart => exact ⟨0, q1, by decide, rfl, rfl, rfl, Q1L, Lib.hid (by have := Q1U.out; omega), T1, B1⟩
      case round =>
        obtain ⟨c, q2, hc', rfl, rfl, rfl, Q2L, Q2U, T2, B2⟩ := hrel
        by_cases hc : c < 256
        · have hdc : decide ((c : Int) < 256) = true := by simp; omega
          go_wp2_with fail
          go_loopw [0, 1, 4] (fun r s i wr3 => ∃ k q3 : Nat, k ≤ 4 ∧ r = .bool false ∧ i = .int .i64 k ∧ s = .int .i64 q3 ∧ Hid (lo a c k ≤ q3) ∧ Hid (q3 ≤ 1024 * a + 4 * c + k) ∧ Hid (Tab wr3) ∧ Hid (Below w.heap.size w wr3)) (fun _ _ i _ => 4 - (intOf i).toNat)
          case atStart => exact ⟨0, q2, by decide, rfl, rfl, rfl, Q2L, Lib.hid (by have := Q2U.out; omega), T2, B2⟩
          case round =>
            obtain ⟨k, q3, hk, rfl, rfl, rfl, Q3L, Q3U, T3, B3⟩ := hrel
            by_cases hk4 : k < 4
            · have ha0 : (a : Int) % 256 = (a : Int) := by omega
              have hc0 : (c : Int) % 256 = (c : Int) := by omega
              have hkk : k = 0 ∨ k = 1 ∨ k = 2 ∨ k = 3 := by omega
              rcases hkk with rfl | rfl | rfl | rfl
              · have HLB := Lib.hid (each_oct (a := a) (c := c) (x2 := 0) (x3 := 0) (x4 := 0) (x7 := 0) ha hc (by decide) (by decide) (by decide) (by decide))
                have HGE := Lib.hid (fun (h : getE [(a : Int), (c : Int), 0, 0, 0, 0, 0, 0] = 0) => each_got h)
                have HLO := Lib.hid (fun (h : getE [(a : Int), (c : Int), 0, 0, 0, 0, 0, 0] ≠ 0) => show lo a c 1 ≤ q3 from lo_skip0 (Q3L.out) (fun hj hc' => h (each_ok0 hj hc')))
                have OB := Lib.hid (show Bs (wr.alloc (Obj.cells #[.int .u8 (a : Int), .int .u8 (c : Int), .int .u8 0, .int .u8 0, .int .u8 0, .int .u8 0, .int .u8 0, .int .u8 0] 5)) (.slice (some ⟨wr.heap.size, 0, none⟩) 8 8) [(a : Int), (c : Int), 0, 0, 0, 0, 0, 0] from (own_lit8 wr [(a : Int), (c : Int), 0, 0, 0, 0, 0, 0] rfl).bs)
                have TA := Lib.hid ((T3.out).alloc (Obj.cells #[.int .u8 (a : Int), .int .u8 (c : Int), .int .u8 0, .int .u8 0, .int .u8 0, .int .u8 0, .int .u8 0, .int .u8 0] 5))
                have BA := Lib.hid ((B3.out).alloc (B3.out).size (Obj.cells #[.int .u8 (a : Int), .int .u8 (c : Int), .int .u8 0, .int .u8 0, .int .u8 0, .int .u8 0, .int .u8 0, .int .u8 0] 5))
                generalize hB : [(a : Int), (c : Int), 0, 0, 0, 0, 0, 0] = bb at HLB HGE HLO OB
                clear hB
                have GP := Lib.hid (getP _ bb _ TA.out OB.out HLB.out.2 (by rw [HLB.out.1]; decide))
                obtain ⟨ge, hge⟩ : ∃ ge, ge = getE bb := ⟨_, rfl⟩
                rw [← hge] at GP HGE HLO
                clear hge
                go_wp2_with fail
                refine (GP.out).mono ?_; rintro e w5 ⟨v5, rfl, o5, b5⟩
                have T5 := Lib.hid ((TA.out).past b5)
                have B5 := Lib.hid ((BA.out).trans (b5.mono (BA.out).size))
                by_cases h0 : ge = 0
                · subst h0
                  obtain ⟨g1, g2, g3, g4, g5⟩ := HGE.out rfl
                  obtain ⟨a5, c5, hv5⟩ := o5.shape
                  rw [g1] at hv5
                  subst hv5
                  have OB5 := Lib.hid ((OB.out).past b5)
                  have PP := Lib.hid (putP _ (getI bb) _ T5.out o5.inss (by rw [g1]; decide) g5)
                  rw [g2, g3] at PP
                  clear b5 o5 GP
                  have Wq : IntKind.i64.wrap ((q3 : Int) + 1) = ((q3 + 1 : Nat) : Int) := by rw [IntKind.wrap_i64]; have := Q3U.out; omega
                  go_wp2_with fail
                  refine (PP.out).mono ?_; rintro e w6 ⟨v6, rfl, o6, b6⟩
                  have T6 := Lib.hid ((T5.out).past b6)
                  have B6 := Lib.hid ((B5.out).trans (b6.mono (B5.out).size))
                  have OB6 := Lib.hid ((OB5.out).past b6)
                  have P6 := Lib.hid o6.bs
                  clear o6 b6
                  go_wp2_with fail
                  refine (sameBytes_yes P6.out OB6.out rfl).mono ?_; rintro e w7 ⟨rfl, b7⟩
                  have T7 := Lib.hid ((T6.out).past b7)
                  have B7 := Lib.hid ((B6.out).trans (b7.mono (B6.out).size))
                  clear b7
                  go_wp2_with fail
                  go_roundw
                  case rel => exact ⟨1, q3 + 1, by omega, rfl, by first | rfl | go_num, by first | rfl | go_num, Lib.hid (lo_take Q3L.out), Lib.hid (by have := Q3U.out; omega), T7, B7⟩
                  case measure => simp [intOf] <;> omega
                · have hne : (ge != 0) = true := by simpa using h0
                  clear b5 o5 GP
                  go_wp2_with fail
                  go_roundw
                  case rel => exact ⟨1, q3, by omega, rfl, by first | rfl | go_num, rfl, Lib.hid (HLO.out h0), Lib.hid (by have := Q3U.out; omega), T5, B5⟩
                  case measure => simp [intOf] <;> omega
              · have HLB := Lib.hid (each_oct (a := a) (c := c) (x2 := 255) (x3 := 254) (x4 := 0) (x7 := 0) ha hc (by decide) (by decide) (by decide) (by decide))
                have HGE := Lib.hid (fun (h : getE [(a : Int), (c : Int), 255, 254, 0, 0, 0, 0] = 0) => each_got h)
                have HLO := Lib.hid (fun (h : getE [(a : Int), (c : Int), 255, 254, 0, 0, 0, 0] ≠ 0) => show lo a c 2 ≤ q3 from lo_skip1 (Q3L.out) (fun hj hc' => h (each_ok1 hj hc')))
                have OB := Lib.hid (show Bs (wr.alloc (Obj.cells #[.int .u8 (a : Int), .int .u8 (c : Int), .int .u8 255, .int .u8 254, .int .u8 0, .int .u8 0, .int .u8 0, .int .u8 0] 5)) (.slice (some ⟨wr.heap.size, 0, none⟩) 8 8) [(a : Int), (c : Int), 255, 254, 0, 0, 0, 0] from (own_lit8 wr [(a : Int), (c : Int), 255, 254, 0, 0, 0, 0] rfl).bs)
                have TA := Lib.hid ((T3.out).alloc (Obj.cells #[.int .u8 (a : Int), .int .u8 (c : Int), .int .u8 255, .int .u8 254, .int .u8 0, .int .u8 0, .int .u8 0, .int .u8 0] 5))
                have BA := Lib.hid ((B3.out).alloc (B3.out).size (Obj.cells #[.int .u8 (a : Int), .int .u8 (c : Int), .int .u8 255, .int .u8 254, .int .u8 0, .int .u8 0, .int .u8 0, .int .u8 0] 5))
                generalize hB : [(a : Int), (c : Int), 255, 254, 0, 0, 0, 0] = bb at HLB HGE HLO OB
                clear hB
                have GP := Lib.hid (getP _ bb _ TA.out OB.out HLB.out.2 (by rw [HLB.out.1]; decide))
                obtain ⟨ge, hge⟩ : ∃ ge, ge = getE bb := ⟨_, rfl⟩
                rw [← hge] at GP HGE HLO
                clear hge
                go_wp2_with fail
                refine (GP.out).mono ?_; rintro e w5 ⟨v5, rfl, o5, b5⟩
                have T5 := Lib.hid ((TA.out).past b5)
                have B5 := Lib.hid ((BA.out).trans (b5.mono (BA.out).size))
                by_cases h0 : ge = 0
                · subst h0
                  obtain ⟨g1, g2, g3, g4, g5⟩ := HGE.out rfl
                  obtain ⟨a5, c5, hv5⟩ := o5.shape
                  rw [g1] at hv5
                  subst hv5
                  have OB5 := Lib.hid ((OB.out).past b5)
                  have PP := Lib.hid (putP _ (getI bb) _ T5.out o5.inss (by rw [g1]; decide) g5)
                  rw [g2, g3] at PP
                  clear b5 o5 GP
                  have Wq : IntKind.i64.wrap ((q3 : Int) + 1) = ((q3 + 1 : Nat) : Int) := by rw [IntKind.wrap_i64]; have := Q3U.out; omega
                  go_wp2_with fail
                  refine (PP.out).mono ?_; rintro e w6 ⟨v6, rfl, o6, b6⟩
                  have T6 := Lib.hid ((T5.out).past b6)
                  have B6 := Lib.hid ((B5.out).trans (b6.mono (B5.out).size))
                  have OB6 := Lib.hid ((OB5.out).past b6)
                  have P6 := Lib.hid o6.bs
                  clear o6 b6
                  go_wp2_with fail
                  refine (sameBytes_yes P6.out OB6.out rfl).mono ?_; rintro e w7 ⟨rfl, b7⟩
                  have T7 := Lib.hid ((T6.out).past b7)
                  have B7 := Lib.hid ((B6.out).trans (b7.mono (B6.out).size))
                  clear b7
                  go_wp2_with fail
                  go_roundw
                  case rel => exact ⟨2, q3 + 1, by omega, rfl, by first | rfl | go_num, by first | rfl | go_num, Lib.hid (lo_take Q3L.out), Lib.hid (by have := Q3U.out; omega), T7, B7⟩
                  case measure => simp [intOf] <;> omega
                · have hne : (ge != 0) = true := by simpa using h0
                  clear b5 o5 GP
                  go_wp2_with fail
                  go_roundw
                  case rel => exact ⟨2, q3, by omega, rfl, by first | rfl | go_num, rfl, Lib.hid (HLO.out h0), Lib.hid (by have := Q3U.out; omega), T5, B5⟩
                  case measure => simp [intOf] <;> omega
              · have HLB := Lib.hid (each_oct (a := a) (c := c) (x2 := 0) (x3 := 0) (x4 := 128) (x7 := 1) ha hc (by decide) (by decide) (by decide) (by decide))
                have HGE := Lib.hid (fun (h : getE [(a : Int), (c : Int), 0, 0, 128, 0, 0, 1] = 0) => each_got h)
                have HLO := Lib.hid (fun (h : getE [(a : Int), (c : Int), 0, 0, 128, 0, 0, 1] ≠ 0) => show lo a c 3 ≤ q3 from lo_skip2 (Q3L.out) (fun _ _ => trivial))
                have OB := Lib.hid (show Bs (wr.alloc (Obj.cells #[.int .u8 (a : Int), .int .u8 (c : Int), .int .u8 0, .int .u8 0, .int .u8 128, .int .u8 0, .int .u8 0, .int .u8 1] 5)) (.slice (some ⟨wr.heap.size, 0, none⟩) 8 8) [(a : Int), (c : Int), 0, 0, 128, 0, 0, 1] from (own_lit8 wr [(a : Int), (c : Int), 0, 0, 128, 0, 0, 1] rfl).bs)
                have TA := Lib.hid ((T3.out).alloc (Obj.cells #[.int .u8 (a : Int), .int .u8 (c : Int), .int .u8 0, .int .u8 0, .int .u8 128, .int .u8 0, .int .u8 0, .int .u8 1] 5))
                have BA := Lib.hid ((B3.out).alloc (B3.out).size (Obj.cells #[.int .u8 (a : Int), .int .u8 (c : Int), .int .u8 0, .int .u8 0, .int .u8 128, .int .u8 0, .int .u8 0, .int .u8 1] 5))
                generalize hB : [(a : Int), (c : Int), 0, 0, 128, 0, 0, 1] = bb at HLB HGE HLO OB
                clear hB
                have GP := Lib.hid (getP _ bb _ TA.out OB.out HLB.out.2 (by rw [HLB.out.1]; decide))
                obtain ⟨ge, hge⟩ : ∃ ge, ge = getE bb := ⟨_, rfl⟩
                rw [← hge] at GP HGE HLO
                clear hge
                go_wp2_with fail
                refine (GP.out).mono ?_; rintro e w5 ⟨v5, rfl, o5, b5⟩
                have T5 := Lib.hid ((TA.out).past b5)
                have B5 := Lib.hid ((BA.out).trans (b5.mono (BA.out).size))
                by_cases h0 : ge = 0
                · subst h0
                  obtain ⟨g1, g2, g3, g4, g5⟩ := HGE.out rfl
                  obtain ⟨a5, c5, hv5⟩ := o5.shape
                  rw [g1] at hv5
                  subst hv5
                  have OB5 := Lib.hid ((OB.out).past b5)
                  have PP := Lib.hid (putP _ (getI bb) _ T5.out o5.inss (by rw [g1]; decide) g5)
                  rw [g2, g3] at PP
                  clear b5 o5 GP
                  have Wq : IntKind.i64.wrap ((q3 : Int) + 1) = ((q3 + 1 : Nat) : Int) := by rw [IntKind.wrap_i64]; have := Q3U.out; omega
                  go_wp2_with fail
                  refine (PP.out).mono ?_; rintro e w6 ⟨v6, rfl, o6, b6⟩
                  have T6 := Lib.hid ((T5.out).past b6)
                  have B6 := Lib.hid ((B5.out).trans (b6.mono (B5.out).size))
                  have OB6 := Lib.hid ((OB5.out).past b6)
                  have P6 := Lib.hid o6.bs
                  clear o6 b6
                  go_wp2_with fail
                  refine (sameBytes_yes P6.out OB6.out rfl).mono ?_; rintro e w7 ⟨rfl, b7⟩
                  have T7 := Lib.hid ((T6.out).past b7)
                  have B7 := Lib.hid ((B6.out).trans (b7.mono (B6.out).size))
                  clear b7
                  go_wp2_with fail
                  go_roundw
                  case rel => exact ⟨3, q3 + 1, by omega, rfl, by first | rfl | go_num, by first | rfl | go_num, Lib.hid (lo_take Q3L.out), Lib.hid (by have := Q3U.out; omega), T7, B7⟩
                  case measure => simp [intOf] <;> omega
                · have hne : (ge != 0) = true := by simpa using h0
                  clear b5 o5 GP
                  go_wp2_with fail
                  go_roundw
                  case rel => exact ⟨3, q3, by omega, rfl, by first | rfl | go_num, rfl, Lib.hid (HLO.out h0), Lib.hid (by have := Q3U.out; omega), T5, B5⟩
                  case measure => simp [intOf] <;> omega
              · have HLB := Lib.hid (each_oct (a := a) (c := c) (x2 := 255) (x3 := 254) (x4 := 128) (x7 := 1) ha hc (by decide) (by decide) (by decide) (by decide))
                have HGE := Lib.hid (fun (h : getE [(a : Int), (c : Int), 255, 254, 128, 0, 0, 1] = 0) => each_got h)
                have HLO := Lib.hid (fun (h : getE [(a : Int), (c : Int), 255, 254, 128, 0, 0, 1] ≠ 0) => show lo a c 4 ≤ q3 from lo_skip3 (Q3L.out) (fun _ _ => trivial))
                have OB := Lib.hid (show Bs (wr.alloc (Obj.cells #[.int .u8 (a : Int), .int .u8 (c : Int), .int .u8 255, .int .u8 254, .int .u8 128, .int .u8 0, .int .u8 0, .int .u8 1] 5)) (.slice (some ⟨wr.heap.size, 0, none⟩) 8 8) [(a : Int), (c : Int), 255, 254, 128, 0, 0, 1] from (own_lit8 wr [(a : Int), (c : Int), 255, 254, 128, 0, 0, 1] rfl).bs)
                have TA := Lib.hid ((T3.out).alloc (Obj.cells #[.int .u8 (a : Int), .int .u8 (c : Int), .int .u8 255, .int .u8 254, .int .u8 128, .int .u8 0, .int .u8 0, .int .u8 1] 5))
                have BA := Lib.hid ((B3.out).alloc (B3.out).size (Obj.cells #[.int .u8 (a : Int), .int .u8 (c : Int), .int .u8 255, .int .u8 254, .int .u8 128, .int .u8 0, .int .u8 0, .int .u8 1] 5))
                generalize hB : [(a : Int), (c : Int), 255, 254, 128, 0, 0, 1] = bb at HLB HGE HLO OB
                clear hB
                have GP := Lib.hid (getP _ bb _ TA.out OB.out HLB.out.2 (by rw [HLB.out.1]; decide))
                obtain ⟨ge, hge⟩ : ∃ ge, ge = getE bb := ⟨_, rfl⟩
                rw [← hge] at GP HGE HLO
                clear hge
                go_wp2_with fail
                refine (GP.out).mono ?_; rintro e w5 ⟨v5, rfl, o5, b5⟩
                have T5 := Lib.hid ((TA.out).past b5)
                have B5 := Lib.hid ((BA.out).trans (b5.mono (BA.out).size))
                by_cases h0 : ge = 0
                · subst h0
                  obtain ⟨g1, g2, g3, g4, g5⟩ := HGE.out rfl
                  obtain ⟨a5, c5, hv5⟩ := o5.shape
                  rw [g1] at hv5
                  subst hv5
                  have OB5 := Lib.hid ((OB.out).past b5)
                  have PP := Lib.hid (putP _ (getI bb) _ T5.out o5.inss (by rw [g1]; decide) g5)
                  rw [g2, g3] at PP
                  clear b5 o5 GP
                  have Wq : IntKind.i64.wrap ((q3 : Int) + 1) = ((q3 + 1 : Nat) : Int) := by rw [IntKind.wrap_i64]; have := Q3U.out; omega
                  go_wp2_with fail
                  refine (PP.out).mono ?_; rintro e w6 ⟨v6, rfl, o6, b6⟩
                  have T6 := Lib.hid ((T5.out).past b6)
                  have B6 := Lib.hid ((B5.out).trans (b6.mono (B5.out).size))
                  have OB6 := Lib.hid ((OB5.out).past b6)
                  have P6 := Lib.hid o6.bs
                  clear o6 b6
                  go_wp2_with fail
                  refine (sameBytes_yes P6.out OB6.out rfl).mono ?_; rintro e w7 ⟨rfl, b7⟩
                  have T7 := Lib.hid ((T6.out).past b7)
                  have B7 := Lib.hid ((B6.out).trans (b7.mono (B6.out).size))
                  clear b7
                  go_wp2_with fail
                  go_roundw
                  case rel => exact ⟨4, q3 + 1, by omega, rfl, by first | rfl | go_num, by first | rfl | go_num, Lib.hid (lo_take Q3L.out), Lib.hid (by have := Q3U.out; omega), T7, B7⟩
                  case measure => simp [intOf] <;> omega
                · have hne : (ge != 0) = true := by simpa using h0
                  clear b5 o5 GP
                  go_wp2_with fail
                  go_roundw
                  case rel => exact ⟨4, q3, by omega, rfl, by first | rfl | go_num, rfl, Lib.hid (HLO.out h0), Lib.hid (by have := Q3U.out; omega), T5, B5⟩
                  case measure => simp [intOf] <;> omega
            · have hk5 : k = 4 := by omega
              subst hk5
              go_wp2_with fail
              go_roundw
              case rel => exact ⟨c + 1, q3, by omega, rfl, by go_num, rfl, Lib.hid (lo_next Q3L.out), Lib.hid (by have := Q3U.out; omega), T3, B3⟩
              case measure => simp [intOf]; omega
        · have hc5 : c = 256 := by omega
          subst hc5
          go_wp2_with fail
          go_roundw
          case rel => exact ⟨a + 1, q2, by omega, rfl, by go_num, rfl, Lib.hid (lo_row Q2L.out), Lib.hid (by have := Q2U.out; omega), T2, B2⟩
          case measure => simp [intOf]; omega
    · have ha5 : a = 256 := by omega
      subst ha5
      have hs := lo_end Q1L.out
      have hd : decide ((5000 : Int) < (q1 : Int)) = true := by simp; omega
      have hd2 : decide (5000 < q1) = true := by simp; omega
      go_wp2_with fail
      go_ret
      exact ⟨by first | rfl | (simp; omega), B1.out⟩
end Go.Proofs.YtmkhcgfbeeimaaaDoor
