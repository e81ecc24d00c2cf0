/- The way of WireNumbers: the two laws, called with numbers at their ends, and an entry's bytes, each turned and cut. -/
import Derived.Test.YtggbpdkejkmakaaGreatNumsKit
import Derived.Deep.RegionHeld3
import Derived.Deep.DeepCutAuto
namespace Go.Proofs.YtggbpdkejkmakaaGreat
open Go.RowKit
set_option linter.unusedVariables false
set_option linter.unusedSimpArgs false

def numsL : List Int := [-9223372036854775808, -1, 0, 1, 2, 3, 4, 5, 6, 255, 256, 2147483648, 4294967296, 9223372036854775807]
theorem nums_cell (w : World) (k : Nat) (h : k < 14) : (w.alloc (.cells #[.int .i64 (-9223372036854775808), .int .i64 (-1), .int .i64 0, .int .i64 1, .int .i64 2, .int .i64 3, .int .i64 4, .int .i64 5, .int .i64 6, .int .i64 255, .int .i64 256, .int .i64 2147483648, .int .i64 4294967296, .int .i64 9223372036854775807] 3)).cell? ⟨w.heap.size, k, none⟩ = some (.int .i64 (nth numsL k)) := by
  obtain ⟨ao, cap, h1, h2, h3, h4, h5⟩ := is_lit w numsL (by decide)
  cases h1
  have := h5 _ rfl k h
  rw [add_none, Nat.zero_add] at this
  exact this
theorem Is.grown {w w' : World} {B n c : Nat} {l : List Int} {row : Option Nat} (h : Is w (.slice (some ⟨B, 0, none⟩) n c) l) (hg : w.grownBy w' row) (hne : row ≠ some B) : Is w' (.slice (some ⟨B, 0, none⟩) n c) l := by
  obtain ⟨ao, cap, h1, h2, h3, h4, h5⟩ := h
  cases h1
  refine ⟨_, _, rfl, h2, h3, h4, fun a ha j hj => ?_⟩
  cases ha
  have h0 := h5 _ rfl j hj
  rw [add_none] at h0 ⊢
  exact hg.cell (a := ⟨B, 0 + j, none⟩) h0 (fun e => hne e.symm)
theorem u8_wrapped (z : Int) : 0 ≤ IntKind.u8.wrap z ∧ IntKind.u8.wrap z < 256 := by rw [IntKind.wrap_u8]; omega
theorem cellA {w : World} {o : Obj} {b i : Nat} {v : Value} (h : w.cell? ⟨b, i, none⟩ = some v) : (w.alloc o).cell? ⟨b, i, none⟩ = some v :=
  ((alloc_below w o).cell (p := ⟨b, i, none⟩) (World.block_lt_of_cell? w _ h)).trans h
theorem ownNe {w : World} {base B : Nat} {v : Value} {l : List Int} (h : Own w base v l) (hB : w.heap.size ≤ B) : v.ownBlock ≠ some B := fun e => by
  have := (h.lt _ e).2
  omega
theorem cellP {w w' : World} {b i : Nat} {v : Value} (h : w.cell? ⟨b, i, none⟩ = some v) (hb : Below w.heap.size w w') : w'.cell? ⟨b, i, none⟩ = some v :=
  (hb.cell (p := ⟨b, i, none⟩) (World.block_lt_of_cell? w _ h)).trans h
theorem cellG {w w1 w' : World} {base b i : Nat} {u v : Value} {l : List Int} (h : w.cell? ⟨b, i, none⟩ = some v) (ho : Own w1 base u l) (hB : b < base) (hg : w.grownBy w' u.ownBlock) : w'.cell? ⟨b, i, none⟩ = some v :=
  hg.cell (a := ⟨b, i, none⟩) h (fun e => by have := (ho.lt b e.symm).1; omega)
theorem bel_app {wl W1 y2 w1 : World} {base : Nat} {v : Value} {xs : List Int} (h : Below wl.heap.size wl W1) (ho : Own w1 base v xs) (hb : wl.heap.size ≤ base) (hg : W1.grownBy y2 v.ownBlock) : Below wl.heap.size wl y2 :=
  h.grown hg h.size (fun k hk => Nat.le_trans hb (ho.lt k hk).1)
theorem bel_two {wl w : World} (h : Below wl.heap.size wl w) (o o' : Obj) : Below wl.heap.size wl ((w.alloc o).alloc o') := (h.alloc h.size o).alloc (by have := h.size; simp; omega) o'
theorem bel_past {wl w w' : World} (h : Below wl.heap.size wl w) (hb : Below w.heap.size w w') : Below wl.heap.size wl w' := h.trans (hb.mono h.size)
theorem ent8_oct {t k v s : Int} {g : Bool} {l : List Int} (h : Oct l) : Oct (ent8 t k v s g l) := (((((num8_oct _).append (num8_oct _)).append (num8_oct _)).append (num8_oct _)).append (num8_oct _)).append ((num8_oct _).append h)
theorem Bs.form {w : World} {v : Value} {l : List Int} (h : Bs w v l) : ∃ a p c, v = .slice a p c := by
  obtain ⟨a, c, h⟩ := h.shape; exact ⟨a, _, c, h⟩
theorem drop_at {w : World} {g m cap n : Nat} {l : List Int} (h : Bs w (.slice (some ⟨g, 0, none⟩) m cap) l) (hn : n ≤ l.length) :
    (cap = n → Bs w (.slice (some ⟨g, 0, none⟩) (m - n) (cap - n)) (l.drop n)) ∧ (¬ cap = n → Bs w (.slice (some ⟨g, n, none⟩) (m - n) (cap - n)) (l.drop n)) := by
  have h1 := h.drop hn
  have hc : n ≤ cap := by obtain ⟨_, _, e, h1, _⟩ := h; injection e with _ _ e; omega
  refine ⟨fun e => ?_, fun e => ?_⟩
  · rw [if_pos (by omega)] at h1; exact h1
  · rw [if_neg (by omega)] at h1
    by_cases h0 : n = 0
    · subst h0; simpa [Addr.add] using h1
    · simpa [Addr.add, h0] using h1
def four : List Int := [1, 2, 3, 4]
theorem lit4 (w : World) : Bs (w.alloc (.cells #[.int .u8 1, .int .u8 2, .int .u8 3, .int .u8 4] 5)) (.slice (some ⟨w.heap.size, 0, none⟩) 4 4) four := bs_list w four (by decide)
theorem oct_four : Oct four := by intro n hn; simp [four] at hn; omega
theorem lit10 (w : World) : Is (w.alloc (.cells #[.int .i64 1, .int .i64 0] 3)) (.slice (some ⟨w.heap.size, 0, none⟩) 2 2) [1, 0] := is_lit w [1, 0] (by decide)

theorem lit4b (w : World) (o : Obj) : Bs ((w.alloc o).alloc (.cells #[.int .u8 1, .int .u8 2, .int .u8 3, .int .u8 4] 5)) (.slice (some ⟨w.heap.size + 1, 0, none⟩) 4 4) four := by
  have := lit4 (w.alloc o); simpa using this
theorem lit10b (w : World) (o : Obj) : Is ((w.alloc o).alloc (.cells #[.int .i64 1, .int .i64 0] 3)) (.slice (some ⟨w.heap.size + 1, 0, none⟩) 2 2) [1, 0] := by
  have := lit10 (w.alloc o); simpa using this

set_option maxHeartbeats 8000000 in
set_option maxRecDepth 100000 in
theorem wireNumbers (w : World) : Calls Tryz.prog 3 #[] w fun e w' => e = .returned (.bool true) ∧ Below w.heap.size w w' := by
  have HN := Lib.hid (fun k h => nums_cell w k h)
  have HB0 := Lib.hid (alloc_below w (.cells #[.int .i64 (-9223372036854775808), .int .i64 (-1), .int .i64 0, .int .i64 1, .int .i64 2, .int .i64 3, .int .i64 4, .int .i64 5, .int .i64 6, .int .i64 255, .int .i64 256, .int .i64 2147483648, .int .i64 4294967296, .int .i64 9223372036854775807] 3))
  have hsz : w.heap.size < (w.alloc (.cells #[.int .i64 (-9223372036854775808), .int .i64 (-1), .int .i64 0, .int .i64 1, .int .i64 2, .int .i64 3, .int .i64 4, .int .i64 5, .int .i64 6, .int .i64 255, .int .i64 256, .int .i64 2147483648, .int .i64 4294967296, .int .i64 9223372036854775807] 3)).heap.size := by simp
  generalize hW : w.alloc (.cells #[.int .i64 (-9223372036854775808), .int .i64 (-1), .int .i64 0, .int .i64 1, .int .i64 2, .int .i64 3, .int .i64 4, .int .i64 5, .int .i64 6, .int .i64 255, .int .i64 256, .int .i64 2147483648, .int .i64 4294967296, .int .i64 9223372036854775807] 3) = wl at *
  have HW := Lib.hid hW
  clear hW
  generalize hbn : w.heap.size = bn at *
  have HBN := Lib.hid hbn
  clear hbn
  go_enter Tryz.func3, Tryz.ntmps3
  go_wp2_with fail
  rw [HW.out, HBN.out]
  go_loopw [2, 3, 4, 5] (fun i _ _ _ wr => ∃ k : Nat, k ≤ 14 ∧ i = .int .i64 k ∧ Hid (Below wl.heap.size wl wr)) (fun i _ _ _ _ => 14 - (intOf i).toNat)
  case atStart => exact ⟨0, by omega, rfl, Lib.hid (Below.refl _ _)⟩
  case round =>
    obtain ⟨k, hk, rfl, HB⟩ := hrel
    by_cases hlt : k < 14
    · have hd : decide ((k : Int) < 14) = true := by simp; omega
      have ck : wr.cell? ⟨bn, k, none⟩ = some (.int .i64 (nth numsL k)) := ((HB.out).cell (p := ⟨bn, k, none⟩) hsz).trans (HN.out k hlt)
      generalize nth numsL k = x at *
      have RN := fun W => Lib.hid ((refNumber x W).mono fun e w' h => h.shaped (n := 8) rfl)
      go_wp2_with fail
      refine ((RN _).out).mono ?_; rintro e w1 ⟨a1, c1, rfl, o1, b1⟩
      have hbs : wl.heap.size ≤ wr.heap.size := (HB.out).size
      have HB1 := Lib.hid ((HB.out).trans (b1.mono hbs))
      have HO := Lib.hid o1
      have hbl : bn < w1.heap.size := Nat.lt_of_lt_of_le hsz (HB1.out).size
      have ck := (b1.cell (p := ⟨bn, k, none⟩) (Nat.lt_of_lt_of_le hsz hbs)).trans ck
      have hq := b1.size
      clear RN o1 b1
      have hdr : Below w1.heap.size w1 w1.drew := (Below.refl _ _).drew
      have ck1 : w1.drew.cell? ⟨bn, k, none⟩ = some (.int .i64 x) := ck
      have hbw : bn < wr.heap.size := Nat.lt_of_lt_of_le hsz hbs
      have i0 : (0 : Int) ≤ (k : Int) := by omega
      have i1 : (k : Int) ≤ 14 := by omega
      have i2 : (k : Int) < 14 := by omega
      have PU := Lib.hid (fun n t kk v s g h0 h1 => wirePutsAny n t kk v s g (num8 x) (num8 x) (.slice a1 8 c1) (.slice a1 8 c1) w1.drew ((HO.out).bs.past hdr) ((HO.out).bs.past hdr) h0 h1)
      go_upto_region 6 with fail
      go_cut [56] (fun s wx => s = .bool false ∧ Hid (Below wl.heap.size wl wx) ∧ Hid (Own wx wr.heap.size (.slice a1 8 c1) (num8 x)))
      case first =>
        go_region_held3 (fun w' => w'.cell? ⟨bn, k, none⟩ = some (.int .i64 x)) (first | (with_reducible assumption) | (with_reducible exact cellA (by with_reducible assumption)) | (with_reducible exact cellA (cellA (by with_reducible assumption)))) (first | (go_at_call 5; refine (PU.out _ _ _ _ _ _ (u8_wrapped _).1 (u8_wrapped _).2).mono ?_; rintro e y1 ⟨rfl, p1⟩; have ck2 : y1.cell? ⟨bn, k, none⟩ = some (.int .i64 x) := (p1.cell (p := ⟨bn, k, none⟩) hbl).trans ck1; have O1 := ((HO.out).below hdr (Nat.le_refl _)).below p1 (Nat.le_refl _); have hq1 : wr.heap.size ≤ y1.heap.size := Nat.le_trans hq (Nat.le_trans hdr.size p1.size); have HB2 := ((HB1.out).trans (hdr.mono (HB1.out).size)).trans (p1.mono (Nat.le_trans (HB1.out).size hdr.size))) | (refine step_append_two (by rfl) (.tmp 50) (.tmp 51) (by rfl) wr.heap.size (.slice a1 8 c1) (num8 x) (by rfl) (O1.alloc _) (.slice (some ⟨y1.heap.size, 0, none⟩) 4 4) four (by rfl) (lit4 y1) (by decide) (by rw [num8_length]; decide) (by simp; omega) ?_; intro v2 y2 o2 g2; have ck3 := cellG (cellA ck2) O1 hbw g2.grown; have HB3 := bel_app (HB2.alloc HB2.size _) O1 hbs g2.grown; have O2 := (O1.alloc _).behind o2 g2) | (refine step_append_two (by rfl) (.tmp 50) (.tmp 51) (by rfl) wr.heap.size (.slice a1 8 c1) (num8 x) (by rfl) ((O1.alloc _).alloc _) (.slice (some ⟨y1.heap.size, 0, none⟩) 4 4) four (by rfl) ((lit4 y1).alloc _) (by decide) (by rw [num8_length]; decide) (by simp; omega) ?_; intro v2 y2 o2 g2; have ck3 := cellG (cellA (cellA ck2)) O1 hbw g2.grown; have HB3 := bel_app (bel_two HB2 _ _) O1 hbs g2.grown; have O2 := ((O1.alloc _).alloc _).behind o2 g2) | (refine step_append_two (by rfl) (.tmp 50) (.tmp 51) (by rfl) wr.heap.size (.slice a1 8 c1) (num8 x) (by rfl) ((O1.alloc _).alloc _) (.slice (some ⟨y1.heap.size + 1, 0, none⟩) 4 4) four (by rfl) (lit4b y1 _) (by decide) (by rw [num8_length]; decide) (by simp; omega) ?_; intro v2 y2 o2 g2; have ck3 := cellG (cellA (cellA ck2)) O1 hbw g2.grown; have HB3 := bel_app (bel_two HB2 _ _) O1 hbs g2.grown; have O2 := ((O1.alloc _).alloc _).behind o2 g2) | (go_at_call 6; refine (wireReadsAny (num8 x ++ four) [1, 0] _ _ _ (by first | (with_reducible exact o2.bs) | (with_reducible exact o2.bs.alloc _)) ((num8_oct x).append oct_four) (by first | (with_reducible exact lit10 y2) | (with_reducible exact (lit10b y1 _).grown g2.grown (ownNe O1 (Nat.le_succ _))) | (with_reducible exact ((lit10 y1).past (alloc_below _ _)).grown g2.grown (ownNe O1 (Nat.le_refl _)))) (small_wf (by decide))).mono ?_; rintro e y3 ⟨rfl, p3⟩; have ck4 := cellP (by first | (with_reducible exact ck3) | (with_reducible exact cellA ck3)) p3))
        all_goals
          have R1 : Hid (Below wl.heap.size wl y3) := Lib.hid (by first | (with_reducible exact bel_past HB3 p3) | (with_reducible exact bel_past (HB3.alloc HB3.size _) p3))
          have R2 : Hid (Own y3 wr.heap.size (.slice a1 8 c1) (num8 x)) := Lib.hid (by first | (with_reducible exact O2.below p3 (Nat.le_refl _)) | (with_reducible exact (O2.alloc _).below p3 (Nat.le_refl _)))
          go_wp2_with fail
          go_meet
          exact ⟨rfl, R1, R2⟩
      case rest =>
        obtain ⟨rfl, HBx, HOx⟩ := hcut
        clear HB1 HO PU ck ck1 hdr
        have hbase := (HOx.out).lt
        obtain ⟨wq, hwq⟩ : ∃ wq : Nat, wr.heap.size = wq := ⟨_, rfl⟩
        rw [hwq] at HOx hbs hbw hq
        clear hwq hbase hq
        obtain ⟨wo, rfl⟩ : ∃ wo : World, wo = wr := ⟨_, rfl⟩
        go_wp2_with fail
        go_loopw [4, 5] (fun j _ wr => ∃ q : Nat, q ≤ 6 ∧ j = .int .i64 q ∧ Hid (Below wl.heap.size wl wr) ∧ Hid (Own wr wq (.slice a1 8 c1) (num8 x))) (fun j _ _ => 6 - (intOf j).toNat)
        case atStart => exact ⟨0, by omega, rfl, HBx, HOx⟩
        case round =>
          obtain ⟨q, hq6, rfl, HBr, HOr⟩ := hrel
          clear HBx HOx
          by_cases hlq : q < 6
          · have hdq : decide ((q : Int) < 6) = true := by simp; omega
            have RE := Lib.hid ((refEntry 1 2 3 4 true (.slice (some ⟨wr.heap.size, 0, none⟩) 2 2) [5, 6] (wr.alloc (.cells #[.int .u8 5, .int .u8 6] 5)) (bs_list wr [5, 6] (by decide)) (by decide) (by omega) (by omega)).mono fun e w' h => h.shaped (n := 50) (by rw [ent8_length]; rfl))
            go_wp2_with fail
            refine (RE.out).mono ?_; rintro e y1 ⟨a5, c5, rfl, o5, b5⟩
            have hL5 : (ent8 1 2 3 4 true [5, 6]).length = 50 := by rw [ent8_length]; rfl
            have oL5 : Oct (ent8 1 2 3 4 true [5, 6]) := ent8_oct (by intro n hn; simp at hn; omega)
            have HB1 := Lib.hid (bel_past ((HBr.out).alloc (HBr.out).size (.cells #[.int .u8 5, .int .u8 6] 5)) b5)
            have O1 := Lib.hid (((HOr.out).alloc (.cells #[.int .u8 5, .int .u8 6] 5)).below b5 (Nat.le_refl _))
            have h5 : wl.heap.size ≤ (wr.alloc (.cells #[.int .u8 5, .int .u8 6] 5)).heap.size := by have := (HBr.out).size; simp; omega
            have h6 : wr.heap.size < (wr.alloc (.cells #[.int .u8 5, .int .u8 6] 5)).heap.size := by simp
            have h7 := (HOr.out).lt
            have h8 := b5.size
            generalize (wr.alloc (.cells #[.int .u8 5, .int .u8 6] 5)).heap.size = B5 at *
            generalize ent8 1 2 3 4 true [5, 6] = L5 at *
            obtain ⟨g5, c5', hs5, -⟩ := own_pos o5 (by omega)
            injection hs5 with e1 e2 e3
            subst e1
            have E1 := Lib.hid o5
            have hc5 : 50 ≤ c5 := by obtain ⟨_, _, h, h1, _⟩ := o5.bs; injection h with _ _ h; omega
            have H7 := Lib.hid h7
            have HL5 := Lib.hid hL5
            have HO5 := Lib.hid oL5
            clear o5 b5 RE HBr HOr h7 hL5 oL5 e2 e3
            have j0 : (0 : Int) ≤ (q : Int) := by omega
            have j1 : 8 * (q : Int) ≤ 50 := by omega
            have j2 : (8 * (q : Int)).toNat = 8 * q := by omega
            have j3 : ¬ (c5 = 8 * q) := by omega
            go_wp2_with (refine wpList_copy_bs (o := ⟨some 69, _, _, _, _, _⟩) rfl _ _ rfl B5 g5 50 c5 (8 * q) (50 - 8 * q) (c5 - 8 * q) L5 E1.out rfl (.slice a1 8 c1) (num8 x) rfl (O1.out).bs (by rw [num8_length]; decide) (by rw [num8_length]; omega) (by rw [num8_length, HL5.out]; omega) ?_)
            intro y2 o6 g6
            have hg5 : B5 ≤ g5 := ((E1.out).lt g5 rfl).1
            have O2 := Lib.hid ((O1.out).kept g6 (Or.inr (fun e => by have := ((H7.out) _ e).2; omega)))
            have HB2 := Lib.hid ((HB1.out).grown g6 (HB1.out).size (fun k hk => by cases hk; omega))
            have hL6 : (L5.take (8 * q) ++ (num8 x ++ L5.drop (8 * q + (num8 x).length))).length = 50 := by simp [num8_length, HL5.out]; omega
            have oL6 : Oct (L5.take (8 * q) ++ (num8 x ++ L5.drop (8 * q + (num8 x).length))) := ((HO5.out).take _).append ((num8_oct x).append ((HO5.out).drop _))
            have E2 := Lib.hid o6
            generalize L5.take (8 * q) ++ (num8 x ++ L5.drop (8 * q + (num8 x).length)) = L6 at *
            have HL6 := Lib.hid hL6
            have HO6 := Lib.hid oL6
            have RD := Lib.hid (readsLit (w := y2) [2, 0] o6.bs oL6 (by decide) (by decide))
            have hBy : B5 ≤ y2.heap.size := Nat.le_trans hg5 (Nat.le_of_lt ((E2.out).lt g5 rfl).2)
            clear o6 g6 hL6 oL6 E1 O1 HB1 HL5 HO5
            go_wp2_with fail
            refine (RD.out).mono ?_; rintro e y3 ⟨rfl, p3⟩
            have O3 := Lib.hid ((O2.out).below p3 (Nat.le_refl _))
            have E3 := Lib.hid ((E2.out).below p3 (Nat.le_refl _))
            have HB3 := Lib.hid (bel_past HB2.out p3)
            have hBy3 : B5 ≤ y3.heap.size := Nat.le_trans hBy p3.size
            clear p3 RD O2 E2 HB2
            go_wp2_with (at_builtin; refine wpList_append_want _ (by rfl) (.tmp 75) (.tmp 76) rfl B5 (.slice (some ⟨g5, 0, none⟩) 50 c5) L6 rfl E3.out (.slice (some ⟨g5, 0, none⟩) 50 c5) L6 rfl (E3.out).bs (by rw [HL6.out]; decide) (by rw [HL6.out]; decide) hBy3 ?_)
            intro v7 y4 o7 g7
            obtain ⟨a7, p7, c7, hs7⟩ := o7.bs.form
            have g7' := g7.grown
            have O4 := Lib.hid ((O3.out).kept g7' (Or.inr (fun e => by have := ((H7.out) g5 e).2; omega)))
            have HB4 := Lib.hid ((HB3.out).grown g7' (HB3.out).size (fun k hk => by cases hk; show wl.heap.size ≤ g5; omega))
            have RD := Lib.hid (readsLit (w := y4) [2, 2, 2] o7.bs ((HO6.out).append HO6.out) (by decide) (by decide))
            subst hs7
            clear o7 g7 g7' E3 O3 HB3 H7
            go_wp2_with fail
            refine (RD.out).mono ?_; rintro e y5 ⟨rfl, p5⟩
            have O5 := Lib.hid ((O4.out).below p5 (Nat.le_refl _))
            have HB5 := Lib.hid (bel_past HB4.out p5)
            clear p5 RD O4 HB4
            go_wp2_with fail
            go_roundw
            case rel => exact ⟨q + 1, by omega, by go_num, HB5, O5⟩
            case measure => simp [intOf]; omega
          · have hdq : decide ((q : Int) < 6) = false := by simp; omega
            go_wp2_with fail
            go_roundw
            case rel => exact ⟨k + 1, by omega, by go_num, HBr⟩
            case measure => simp [intOf]; omega
    · have hd : decide ((k : Int) < 14) = false := by simp; omega
      have RE := Lib.hid ((refEntry 7 1 0 0 true (.slice (some ⟨wr.heap.size, 0, none⟩) 3 3) [9, 8, 7] (wr.alloc (.cells #[.int .u8 9, .int .u8 8, .int .u8 7] 5)) (bs_list wr [9, 8, 7] (by decide)) (by decide) (by omega) (by omega)).mono fun e w' h => h.shaped (n := 51) (by rw [ent8_length]; rfl))
      go_wp2_with fail
      refine (RE.out).mono ?_; rintro e y1 ⟨a5, c5, rfl, o5, b5⟩
      have hL5 : (ent8 7 1 0 0 true [9, 8, 7]).length = 51 := by rw [ent8_length]; rfl
      have oL5 : Oct (ent8 7 1 0 0 true [9, 8, 7]) := ent8_oct (by intro n hn; simp at hn; omega)
      generalize ent8 7 1 0 0 true [9, 8, 7] = L5 at *
      have HB1 := Lib.hid (bel_past ((HB.out).alloc (HB.out).size (.cells #[.int .u8 9, .int .u8 8, .int .u8 7] 5)) b5)
      obtain ⟨g5, c5', hs5, -⟩ := own_pos o5 (by omega)
      injection hs5 with e1 e2 e3
      subst e1
      have E1 := Lib.hid o5.bs
      have hc5 : 51 ≤ c5 := by obtain ⟨_, _, h, h1, _⟩ := o5.bs; injection h with _ _ h; omega
      have HL5 := Lib.hid hL5
      have HO5 := Lib.hid oL5
      clear o5 b5 RE HB hL5 oL5 e2 e3
      go_wp2_with fail
      go_loopw [7] (fun i wr => ∃ q : Nat, q ≤ 52 ∧ i = .int .i64 q ∧ Hid (Below wl.heap.size wl wr) ∧ Hid (Bs wr (.slice (some ⟨g5, 0, none⟩) 51 c5) L5)) (fun i _ => 52 - (intOf i).toNat)
      case atStart => exact ⟨0, by omega, rfl, HB1, E1⟩
      case round =>
        obtain ⟨q, hq, rfl, HBr, HE⟩ := hrel
        clear HB1 E1
        by_cases hlq : q ≤ 51
        · have hdq : decide ((q : Int) ≤ 51) = true := by simp; omega
          have j0 : (0 : Int) ≤ (q : Int) := by omega
          have j1 : (q : Int) ≤ 51 := by omega
          have j4 : (q : Int) ≤ (c5 : Int) := by omega
          have BD := fun W (h : Bs W (.slice (some ⟨g5, 0, none⟩) 51 c5) L5) => drop_at h (n := q) (by have := HL5.out; omega)
          have R1 := Lib.hid (readsLit (w := wr) [2, 1] ((HE.out).take (n := q) (by have := HL5.out; omega)) ((HO5.out).take q) (by decide) (by decide))
          have R2 := fun W (h : Bs W (.slice (some ⟨g5, 0, none⟩) 51 c5) L5) => Lib.hid (readsLit (w := W) [0, 0, 0, 0, 0, 1, 0] (h.take (n := q) (by have := HL5.out; omega)) ((HO5.out).take q) (by decide) (by decide))
          by_cases hcq : c5 = q
          · obtain rfl : q = 51 := by omega
            subst hcq
            have R3 := fun W (h : Bs W (.slice (some ⟨g5, 0, none⟩) 51 51) L5) => Lib.hid (readsLit (w := W) (ub := .slice (some ⟨g5, 0, none⟩) 0 0) [1, 2] ((BD W h).1 rfl) ((HO5.out).drop 51) (by decide) (by decide))
            clear BD
            go_wp2_with fail
            refine (R1.out).mono ?_; rintro e z1 ⟨rfl, p1⟩
            have q2 := R2 _ ((HE.out).past p1)
            have E1 := Lib.hid ((HE.out).past p1)
            have B1 := Lib.hid (bel_past HBr.out p1)
            clear p1 R1 R2 HBr HE
            go_wp2_with fail
            refine (q2.out).mono ?_; rintro e z2 ⟨rfl, p2⟩
            have q3 := R3 _ ((E1.out).past p2)
            have E2 := Lib.hid ((E1.out).past p2)
            have B2 := Lib.hid (bel_past B1.out p2)
            clear p2 q2 R3 B1 E1
            go_wp2_with fail
            refine (q3.out).mono ?_; rintro e z3 ⟨rfl, p3⟩
            have E3 := Lib.hid ((E2.out).past p3)
            have B3 := Lib.hid (bel_past B2.out p3)
            clear p3 q3 B2 E2
            go_wp2_with fail
            go_roundw
            case rel => exact ⟨52, by omega, by go_num, B3, E3⟩
            case measure => simp [intOf]
          · have R3 := fun W (h : Bs W (.slice (some ⟨g5, 0, none⟩) 51 c5) L5) => Lib.hid (readsLit (w := W) [1, 2] ((BD W h).2 hcq) ((HO5.out).drop q) (by decide) (by decide))
            clear BD
            go_wp2_with fail
            refine (R1.out).mono ?_; rintro e z1 ⟨rfl, p1⟩
            have q2 := R2 _ ((HE.out).past p1)
            have E1 := Lib.hid ((HE.out).past p1)
            have B1 := Lib.hid (bel_past HBr.out p1)
            clear p1 R1 R2 HBr HE
            go_wp2_with fail
            refine (q2.out).mono ?_; rintro e z2 ⟨rfl, p2⟩
            have q3 := R3 _ ((E1.out).past p2)
            have E2 := Lib.hid ((E1.out).past p2)
            have B2 := Lib.hid (bel_past B1.out p2)
            clear p2 q2 R3 B1 E1
            go_wp2_with fail
            refine (q3.out).mono ?_; rintro e z3 ⟨rfl, p3⟩
            have E3 := Lib.hid ((E2.out).past p3)
            have B3 := Lib.hid (bel_past B2.out p3)
            clear p3 q3 B2 E2
            go_wp2_with fail
            go_roundw
            case rel => exact ⟨q + 1, by omega, by go_num, B3, E3⟩
            case measure => simp [intOf]; omega
        · have hdq : decide ((q : Int) ≤ 51) = false := by simp; omega
          have R1 := Lib.hid (readsLit (w := wr) [0, 1, 2] (Bs.nil wr) Oct.nil (by decide) (by decide))
          go_wp2_with fail
          refine (R1.out).mono ?_; rintro e z1 ⟨rfl, p1⟩
          have B1 := Lib.hid (bel_past HBr.out p1)
          clear p1 R1 HBr HE
          go_wp2_with fail
          refine (awake _).mono ?_; rintro e z2 ⟨rfl, p2⟩
          go_wp2_with fail
          go_ret
          exact ⟨rfl, (HB0.out).trans ((bel_past B1.out p2).mono (Nat.le_of_lt hsz))⟩
end Go.Proofs.YtggbpdkejkmakaaGreat
