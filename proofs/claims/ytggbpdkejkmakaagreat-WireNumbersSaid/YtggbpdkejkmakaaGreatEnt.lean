/- Contracts of Entry: package wire's and the document's. -/
import Derived.Test.YtggbpdkejkmakaaGreatJoin
import Derived.Deep.RegionHeld3
import Derived.IntWalk
namespace Go.Proofs.YtggbpdkejkmakaaGreat
open Go.RowKit
set_option linter.unusedVariables false

/-- An entry's bytes. -/
def ent8 (t k v s : Int) (g : Bool) (l : List Int) : List Int := num8 t ++ num8 k ++ num8 v ++ num8 s ++ num8 (if g then 1 else 0) ++ len8 l
theorem ent8_length (t k v s : Int) (g : Bool) (l : List Int) : (ent8 t k v s g l).length = 48 + l.length := by
  simp [ent8, num8_length, len8_length]; omega

theorem all_six {w : World} {v0 v1 v2 v3 v4 v5 : Value} {x0 x1 x2 x3 x4 x5 : List Int} (h0 : Bs w v0 x0) (h1 : Bs w v1 x1) (h2 : Bs w v2 x2) (h3 : Bs w v3 x3) (h4 : Bs w v4 x4) (h5 : Bs w v5 x5) : All w [v0, v1, v2, v3, v4, v5] [x0, x1, x2, x3, x4, x5] :=
  ⟨rfl, fun j hj => by
    match j, hj with
    | 0, _ => exact h0
    | 1, _ => exact h1
    | 2, _ => exact h2
    | 3, _ => exact h3
    | 4, _ => exact h4
    | 5, _ => exact h5⟩

theorem five_below {w w' : World} {B b : Nat} {c0 c1 c2 c3 c5 : Value} (hb : Below B w w') (hB : b < B)
    (h : w.cell? ⟨b, 0, none⟩ = some c0 ∧ w.cell? ⟨b, 1, none⟩ = some c1 ∧ w.cell? ⟨b, 2, none⟩ = some c2 ∧ w.cell? ⟨b, 3, none⟩ = some c3 ∧ w.cell? ⟨b, 5, none⟩ = some c5) :
    w'.cell? ⟨b, 0, none⟩ = some c0 ∧ w'.cell? ⟨b, 1, none⟩ = some c1 ∧ w'.cell? ⟨b, 2, none⟩ = some c2 ∧ w'.cell? ⟨b, 3, none⟩ = some c3 ∧ w'.cell? ⟨b, 5, none⟩ = some c5 := by
  obtain ⟨h0, h1, h2, h3, h5⟩ := h
  exact ⟨(hb.cell (p := ⟨b, 0, none⟩) hB).trans h0, (hb.cell (p := ⟨b, 1, none⟩) hB).trans h1, (hb.cell (p := ⟨b, 2, none⟩) hB).trans h2, (hb.cell (p := ⟨b, 3, none⟩) hB).trans h3, (hb.cell (p := ⟨b, 5, none⟩) hB).trans h5⟩

theorem five_kept {w w' : World} {row : Option Nat} {b : Nat} {c0 c1 c2 c3 c5 : Value} (hg : w.grownBy w' row) (hne : row = some b → False)
    (h : w.cell? ⟨b, 0, none⟩ = some c0 ∧ w.cell? ⟨b, 1, none⟩ = some c1 ∧ w.cell? ⟨b, 2, none⟩ = some c2 ∧ w.cell? ⟨b, 3, none⟩ = some c3 ∧ w.cell? ⟨b, 5, none⟩ = some c5) :
    w'.cell? ⟨b, 0, none⟩ = some c0 ∧ w'.cell? ⟨b, 1, none⟩ = some c1 ∧ w'.cell? ⟨b, 2, none⟩ = some c2 ∧ w'.cell? ⟨b, 3, none⟩ = some c3 ∧ w'.cell? ⟨b, 5, none⟩ = some c5 := by
  obtain ⟨h0, h1, h2, h3, h5⟩ := h
  have hn : some b ≠ row := fun e => hne e.symm
  exact ⟨hg.cell (a := ⟨b, 0, none⟩) h0 hn, hg.cell (a := ⟨b, 1, none⟩) h1 hn, hg.cell (a := ⟨b, 2, none⟩) h2 hn, hg.cell (a := ⟨b, 3, none⟩) h3 hn, hg.cell (a := ⟨b, 5, none⟩) h5 hn⟩

/-- .. of n bytes. -/
def Shaped (n : Nat) (l : List Int) (w : World) (e : Ending) (w' : World) : Prop := ∃ ao cap, e = .returned (.slice ao n cap) ∧ Own w' w.heap.size (.slice ao n cap) l ∧ Below w.heap.size w w'
theorem Fresh.shaped {l : List Int} {w w' : World} {e : Ending} (h : Fresh l w e w') {n : Nat} (hn : l.length = n) : Shaped n l w e w' := by
  obtain ⟨v, rfl, ho, hb⟩ := h
  obtain ⟨ao, cap, rfl⟩ := ho.bs.shape
  subst hn
  exact ⟨ao, cap, rfl, ho, hb⟩

theorem below_alloc {w w' : World} {o : Obj} (h : Below (w.alloc o).heap.size (w.alloc o) w') : Below w.heap.size w w' :=
  ((Below.refl _ _).alloc (Nat.le_refl _) o).trans (h.mono (by simp))

theorem joinSix {w1 w2 w3 w4 w5 w6 : World} {base1 base2 base3 base4 base5 base6 : Nat} {v1 v2 v3 v4 v5 v6 : Value} {x1 x2 x3 x4 x5 x6 : List Int}
    (o1 : Own w1 base1 v1 x1) (o2 : Own w2 base2 v2 x2) (o3 : Own w3 base3 v3 x3) (o4 : Own w4 base4 v4 x4) (o5 : Own w5 base5 v5 x5) (o6 : Own w6 base6 v6 x6)
    (b2 : Below w1.heap.size w1 w2) (b3 : Below w2.heap.size w2 w3) (b4 : Below w3.heap.size w3 w4) (b5 : Below w4.heap.size w4 w5) (b6 : Below w5.heap.size w5 w6)
    (hlen : (x1 ++ x2 ++ x3 ++ x4 ++ x5 ++ x6).length ≤ 140737488355328) :
    Hid (Calls Tryz.prog 15 #[.slice (some ⟨w6.heap.size, 0, none⟩) 6 6] (w6.alloc (.cells #[v1, v2, v3, v4, v5, v6] 23)) fun e w' => Fresh (x1 ++ x2 ++ x3 ++ x4 ++ x5 ++ x6) (w6.alloc (.cells #[v1, v2, v3, v4, v5, v6] 23)) e w') := by
  have := join (.slice (some ⟨w6.heap.size, 0, none⟩) 6 6) [v1, v2, v3, v4, v5, v6] [x1, x2, x3, x4, x5, x6] (w6.alloc (.cells #[v1, v2, v3, v4, v5, v6] 23)) (vals_lit w6 [v1, v2, v3, v4, v5, v6] (by simp))
    (all_six ((((((o1.bs.past b2).past b3).past b4).past b5).past b6).alloc _) (((((o2.bs.past b3).past b4).past b5).past b6).alloc _) ((((o3.bs.past b4).past b5).past b6).alloc _) (((o4.bs.past b5).past b6).alloc _) ((o5.bs.past b6).alloc _) (o6.bs.alloc _))
    (by simpa [List.append_assoc] using hlen)
  have e : [x1, x2, x3, x4, x5, x6].flatten = x1 ++ x2 ++ x3 ++ x4 ++ x5 ++ x6 := by simp
  rw [e] at this
  exact Lib.hid this

set_option maxHeartbeats 4000000 in
set_option maxRecDepth 100000 in
theorem wireEntry (t k v s : Int) (g : Bool) (d : Value) (l : List Int) (w : World) (hd : Bs w d l) (hlen : l.length ≤ 140737488351232) (k0 : 0 ≤ k) (k1 : k < 256) :
    Calls Tryz.prog 13 #[.agg #[.int .i64 t, .int .u8 k, .int .i64 v, .int .i64 s, .bool g, d]] w fun e w' => Fresh (ent8 t k v s g l) w e w' := by
  have Nm := fun n W => Lib.hid ((wireNumber n W).mono fun e w' h => h.shaped (n := 8) rfl)
  have J := fun v vs ls W a b c => Lib.hid (join v vs ls W a b c)
  obtain ⟨ao, cap, hsh⟩ := hd.shape
  have HD := Lib.hid hd
  subst hsh
  clear hd
  generalize hW : w.alloc (Obj.cells #[Value.int IntKind.i64 t, Value.int IntKind.u8 k, Value.int IntKind.i64 v, Value.int IntKind.i64 s, Value.bool g, Value.slice ao l.length cap] 28) = W
  have hBW : Below w.heap.size w W := by rw [← hW]; exact (Below.refl _ _).alloc (Nat.le_refl _) _
  have hlt : w.heap.size < W.heap.size := by rw [← hW]; simp
  have hcells : W.cell? ⟨w.heap.size, 0, none⟩ = some (.int .i64 t) ∧ W.cell? ⟨w.heap.size, 1, none⟩ = some (.int .u8 k) ∧ W.cell? ⟨w.heap.size, 2, none⟩ = some (.int .i64 v) ∧ W.cell? ⟨w.heap.size, 3, none⟩ = some (.int .i64 s) ∧ W.cell? ⟨w.heap.size, 4, none⟩ = some (.bool g) ∧ W.cell? ⟨w.heap.size, 5, none⟩ = some (Value.slice ao l.length cap) := by
    rw [← hW]; simp
  have hBs := (HD.out).past hBW
  have HW := Lib.hid hW
  have HS := Lib.hid hBs
  have HBW := Lib.hid hBW
  clear hW hBs HD hBW
  generalize hln : l.length = ln at *
  have HLN := Lib.hid hln
  have By := fun v W a => Lib.hid ((wireBytes v l W a (by omega)).mono fun e w' h => h.shaped (n := 8 + ln) (by rw [len8_length, HLN.out]))
  clear hln
  generalize hgi : (if g then (1 : Int) else 0) = gi
  have HGI := Lib.hid hgi
  have HT : (num8 t ++ num8 k ++ num8 v ++ num8 s ++ num8 gi ++ len8 l).length ≤ 140737488355328 := by
    simp [num8_length, len8_length]; have := HLN.out; omega
  obtain ⟨c0, c1, c2, c3, c4, c5⟩ := hcells
  cases g
  · obtain rfl : 0 = gi := hgi
    go_enter Tryz.func13, Tryz.ntmps13
    go_wp2_with fail
    rw [HW.out]
    go_wp2
    have hwk : IntKind.i64.wrap k = k := IntWalk.i64_in _ (by omega)
    go_region_held3 (fun w' => w'.cell? ⟨w.heap.size, 0, none⟩ = some (.int .i64 t) ∧ w'.cell? ⟨w.heap.size, 1, none⟩ = some (.int .u8 k) ∧ w'.cell? ⟨w.heap.size, 2, none⟩ = some (.int .i64 v) ∧ w'.cell? ⟨w.heap.size, 3, none⟩ = some (.int .i64 s) ∧ w'.cell? ⟨w.heap.size, 5, none⟩ = some (Value.slice ao ln cap)) (go_keep)
      (first | (go_at_call_of 11 (Value.int IntKind.i64 t); refine ((Nm _ _).out).mono ?_; rintro e w1 ⟨a1, q1, rfl, o1, b1⟩; have S1 := five_below b1 hlt (by assumption); have L1 := Nat.lt_of_lt_of_le hlt b1.size) | (go_at_call_of 11 (Value.int IntKind.i64 k); refine ((Nm _ _).out).mono ?_; rintro e w2 ⟨a2, q2, rfl, o2, b2⟩; have S2 := five_below b2 L1 (by assumption); have L2 := Nat.lt_of_lt_of_le L1 b2.size) | (go_at_call_of 11 (Value.int IntKind.i64 v); refine ((Nm _ _).out).mono ?_; rintro e w3 ⟨a3, q3, rfl, o3, b3⟩; have S3 := five_below b3 L2 (by assumption); have L3 := Nat.lt_of_lt_of_le L2 b3.size) | (go_at_call_of 11 (Value.int IntKind.i64 s); refine ((Nm _ _).out).mono ?_; rintro e w4 ⟨a4, q4, rfl, o4, b4⟩; have S4 := five_below b4 L3 (by assumption); have L4 := Nat.lt_of_lt_of_le L3 b4.size) | (go_at_call_of 11 (Value.int IntKind.i64 0); refine ((Nm _ _).out).mono ?_; rintro e w5 ⟨a5, q5, rfl, o5, b5⟩; have S5 := five_below b5 L4 (by assumption); have L5 := Nat.lt_of_lt_of_le L4 b5.size) | (go_at_call 12; have S0 := ((((((HS.out).drewN 1).past b1).past b2).past b3).past b4).past b5; refine ((By _ _ S0).out).mono ?_; rintro e w6 ⟨a6, q6, rfl, o6, b6⟩; have S6 := five_below b6 L5 (by assumption); have L6 := Nat.lt_of_lt_of_le L5 b6.size) | (go_at_call 15; refine ((joinSix o1 o2 o3 o4 o5 o6 b2 b3 b4 b5 b6 HT).out).mono ?_; rintro e w7 ⟨v7, rfl, o7, b7⟩; have B7 := below_alloc b7; have S7 := five_below B7 L6 S6))
    go_wp2
    go_ret
    have b0 : Below w.heap.size w W.drew := (HBW.out).drew
    have g1 := b0.trans (b1.mono (Nat.le_of_lt hlt))
    have g2 := g1.trans (b2.mono (Nat.le_of_lt L1))
    have g3 := g2.trans (b3.mono (Nat.le_of_lt L2))
    have g4 := g3.trans (b4.mono (Nat.le_of_lt L3))
    have g5 := g4.trans (b5.mono (Nat.le_of_lt L4))
    have g6 := g5.trans (b6.mono (Nat.le_of_lt L5))
    have g7 := g6.trans (B7.mono (Nat.le_of_lt L6))
    exact ⟨_, rfl, o7.mono (by have := L6; simp; omega), g7⟩
  · obtain rfl : 1 = gi := hgi
    go_enter Tryz.func13, Tryz.ntmps13
    go_wp2_with fail
    rw [HW.out]
    go_wp2
    have hwk : IntKind.i64.wrap k = k := IntWalk.i64_in _ (by omega)
    go_region_held3 (fun w' => w'.cell? ⟨w.heap.size, 0, none⟩ = some (.int .i64 t) ∧ w'.cell? ⟨w.heap.size, 1, none⟩ = some (.int .u8 k) ∧ w'.cell? ⟨w.heap.size, 2, none⟩ = some (.int .i64 v) ∧ w'.cell? ⟨w.heap.size, 3, none⟩ = some (.int .i64 s) ∧ w'.cell? ⟨w.heap.size, 5, none⟩ = some (Value.slice ao ln cap)) (go_keep)
      (first | (go_at_call_of 11 (Value.int IntKind.i64 t); refine ((Nm _ _).out).mono ?_; rintro e w1 ⟨a1, q1, rfl, o1, b1⟩; have S1 := five_below b1 hlt (by assumption); have L1 := Nat.lt_of_lt_of_le hlt b1.size) | (go_at_call_of 11 (Value.int IntKind.i64 k); refine ((Nm _ _).out).mono ?_; rintro e w2 ⟨a2, q2, rfl, o2, b2⟩; have S2 := five_below b2 L1 (by assumption); have L2 := Nat.lt_of_lt_of_le L1 b2.size) | (go_at_call_of 11 (Value.int IntKind.i64 v); refine ((Nm _ _).out).mono ?_; rintro e w3 ⟨a3, q3, rfl, o3, b3⟩; have S3 := five_below b3 L2 (by assumption); have L3 := Nat.lt_of_lt_of_le L2 b3.size) | (go_at_call_of 11 (Value.int IntKind.i64 s); refine ((Nm _ _).out).mono ?_; rintro e w4 ⟨a4, q4, rfl, o4, b4⟩; have S4 := five_below b4 L3 (by assumption); have L4 := Nat.lt_of_lt_of_le L3 b4.size) | (go_at_call_of 11 (Value.int IntKind.i64 1); refine ((Nm _ _).out).mono ?_; rintro e w5 ⟨a5, q5, rfl, o5, b5⟩; have S5 := five_below b5 L4 (by assumption); have L5 := Nat.lt_of_lt_of_le L4 b5.size) | (go_at_call 12; have S0 := ((((((HS.out).drewN 1).past b1).past b2).past b3).past b4).past b5; refine ((By _ _ S0).out).mono ?_; rintro e w6 ⟨a6, q6, rfl, o6, b6⟩; have S6 := five_below b6 L5 (by assumption); have L6 := Nat.lt_of_lt_of_le L5 b6.size) | (go_at_call 15; refine ((joinSix o1 o2 o3 o4 o5 o6 b2 b3 b4 b5 b6 HT).out).mono ?_; rintro e w7 ⟨v7, rfl, o7, b7⟩; have B7 := below_alloc b7; have S7 := five_below B7 L6 S6))
    go_wp2
    go_ret
    have b0 : Below w.heap.size w W.drew := (HBW.out).drew
    have g1 := b0.trans (b1.mono (Nat.le_of_lt hlt))
    have g2 := g1.trans (b2.mono (Nat.le_of_lt L1))
    have g3 := g2.trans (b3.mono (Nat.le_of_lt L2))
    have g4 := g3.trans (b4.mono (Nat.le_of_lt L3))
    have g5 := g4.trans (b5.mono (Nat.le_of_lt L4))
    have g6 := g5.trans (b6.mono (Nat.le_of_lt L5))
    have g7 := g6.trans (B7.mono (Nat.le_of_lt L6))
    exact ⟨_, rfl, o7.mono (by have := L6; simp; omega), g7⟩

set_option maxRecDepth 100000 in
theorem refBytes (v : Value) (l : List Int) (w : World) (hv : Bs w v l) (hlen : l.length ≤ 140737488351232) :
    Calls Tryz.prog 14 #[v] w fun e w' => Fresh (len8 l) w e w' := by
  have Nm := Lib.hid (refNumber l.length w)
  have hlv := hv.len
  obtain ⟨ao, cap, hsh⟩ := hv.shape
  have HV := Lib.hid hv
  subst hsh
  clear hv
  go_enter Tryz.func14, Tryz.ntmps14
  go_wp2_with fail
  refine (Nm.out).mono ?_
  rintro e w1 ⟨v1, rfl, ho, hb⟩
  have hv1 := (HV.out).past hb
  go_wp2_with (at_builtin; refine wpList_append_bs _ rfl _ _ rfl w.heap.size _ _ rfl ho _ _ rfl hv1 (by rw [num8_length]; omega) (hb.size) ?_)
  intro v2 w2 ho2 hg2
  go_wp2_with fail
  go_ret
  exact ⟨_, rfl, ho2, hb.grown hg2 hb.size (fun k hk => (ho.lt k hk).1)⟩

set_option maxHeartbeats 4000000 in
set_option maxRecDepth 100000 in
theorem refEntry (t k v s : Int) (g : Bool) (d : Value) (l : List Int) (w : World) (hd : Bs w d l) (hlen : l.length ≤ 140737488351232) (k0 : 0 ≤ k) (k1 : k < 256) :
    Calls Tryz.prog 7 #[.agg #[.int .i64 t, .int .u8 k, .int .i64 v, .int .i64 s, .bool g, d]] w fun e w' => Fresh (ent8 t k v s g l) w e w' := by
  have Nm := fun n W => Lib.hid ((refNumber n W).mono fun e w' h => h.shaped (n := 8) rfl)
  obtain ⟨ao, cap, hsh⟩ := hd.shape
  have HD := Lib.hid hd
  subst hsh
  clear hd
  generalize hW : w.alloc (Obj.cells #[Value.int IntKind.i64 t, Value.int IntKind.u8 k, Value.int IntKind.i64 v, Value.int IntKind.i64 s, Value.bool g, Value.slice ao l.length cap] 28) = W
  have hBW : Below w.heap.size w W := by rw [← hW]; exact (Below.refl _ _).alloc (Nat.le_refl _) _
  have hlt : w.heap.size < W.heap.size := by rw [← hW]; simp
  have hcells : W.cell? ⟨w.heap.size, 0, none⟩ = some (.int .i64 t) ∧ W.cell? ⟨w.heap.size, 1, none⟩ = some (.int .u8 k) ∧ W.cell? ⟨w.heap.size, 2, none⟩ = some (.int .i64 v) ∧ W.cell? ⟨w.heap.size, 3, none⟩ = some (.int .i64 s) ∧ W.cell? ⟨w.heap.size, 5, none⟩ = some (Value.slice ao l.length cap) := by
    rw [← hW]; simp
  have c4 : W.cell? ⟨w.heap.size, 4, none⟩ = some (.bool g) := by rw [← hW]; simp
  have hBs := (HD.out).past hBW
  have HW := Lib.hid hW
  have HS := Lib.hid hBs
  have HBW := Lib.hid hBW
  clear hW hBs HD hBW
  generalize hln : l.length = ln at *
  have HLN := Lib.hid hln
  have By := fun v W a => Lib.hid ((refBytes v l W a (by omega)).mono fun e w' h => h.shaped (n := 8 + ln) (by rw [len8_length, HLN.out]))
  clear hln
  generalize hgi : (if g then (1 : Int) else 0) = gi
  have HGI := Lib.hid hgi
  have HC := Lib.hid hcells
  cases g
  · obtain rfl : 0 = gi := hgi
    obtain ⟨c0, -⟩ := hcells
    go_enter Tryz.func7, Tryz.ntmps7
    go_wp2_with fail
    rw [HW.out]
    go_wp2_with fail
    refine ((Nm _ _).out).mono ?_
    rintro e w1 ⟨a1, q1, rfl, o1, b1⟩
    have T1 : W.heap.size ≤ w1.heap.size := b1.size
    have B1 := Lib.hid b1
    have C1 := Lib.hid (five_below b1 hlt (by exact HC.out))
    clear b1
    obtain ⟨-, c1, -, -, -⟩ := C1.out
    go_wp2_with fail
    refine ((Nm _ _).out).mono ?_
    rintro e w2 ⟨a2, q2, rfl, o2, b2⟩
    have z2 := (o1).below (B := w1.heap.size) b2 (Nat.le_refl _)
    have s2 := o2.bs
    have y2 := b2.size
    have L2 := Lib.hid (Nat.lt_of_lt_of_le hlt T1)
    have K2 := Lib.hid (five_below b2 L2.out C1.out)
    have D2 := Lib.hid ((B1.out).trans (b2.mono T1))
    clear b2
    go_wp2_with (at_builtin; refine wpList_append_bs _ rfl _ _ rfl W.heap.size _ _ rfl z2 _ _ rfl s2 (by simp [num8_length]) (by omega) ?_)
    intro x2 u2 p2 g2
    have B2 := Lib.hid ((D2.out).grown g2 (by omega) (fun k hk => (z2.lt k hk).1))
    have T2 : W.heap.size ≤ u2.heap.size := B2.out.size
    have C2 := Lib.hid (five_kept g2 (fun hk => by have := (z2.lt _ hk).1; have := hlt; omega) K2.out)
    clear g2 z2 s2
    obtain ⟨-, -, c2, -, -⟩ := C2.out
    go_wp2_with fail
    refine ((Nm _ _).out).mono ?_
    rintro e w3 ⟨a3, q3, rfl, o3, b3⟩
    have z3 := (p2).below (B := u2.heap.size) b3 (Nat.le_refl _)
    have s3 := o3.bs
    have y3 := b3.size
    have L3 := Lib.hid (Nat.lt_of_lt_of_le hlt T2)
    have K3 := Lib.hid (five_below b3 L3.out C2.out)
    have D3 := Lib.hid ((B2.out).trans (b3.mono T2))
    clear b3
    go_wp2_with (at_builtin; refine wpList_append_bs _ rfl _ _ rfl W.heap.size _ _ rfl z3 _ _ rfl s3 (by simp [num8_length]) (by omega) ?_)
    intro x3 u3 p3 g3
    have B3 := Lib.hid ((D3.out).grown g3 (by omega) (fun k hk => (z3.lt k hk).1))
    have T3 : W.heap.size ≤ u3.heap.size := B3.out.size
    have C3 := Lib.hid (five_kept g3 (fun hk => by have := (z3.lt _ hk).1; have := hlt; omega) K3.out)
    clear g3 z3 s3
    obtain ⟨-, -, -, c3, -⟩ := C3.out
    go_wp2_with fail
    refine ((Nm _ _).out).mono ?_
    rintro e w4 ⟨a4, q4, rfl, o4, b4⟩
    have z4 := (p3).below (B := u3.heap.size) b4 (Nat.le_refl _)
    have s4 := o4.bs
    have y4 := b4.size
    have L4 := Lib.hid (Nat.lt_of_lt_of_le hlt T3)
    have K4 := Lib.hid (five_below b4 L4.out C3.out)
    have D4 := Lib.hid ((B3.out).trans (b4.mono T3))
    clear b4
    go_wp2_with (at_builtin; refine wpList_append_bs _ rfl _ _ rfl W.heap.size _ _ rfl z4 _ _ rfl s4 (by simp [num8_length]) (by omega) ?_)
    intro x4 u4 p4 g4
    have B4 := Lib.hid ((D4.out).grown g4 (by omega) (fun k hk => (z4.lt k hk).1))
    have T4 : W.heap.size ≤ u4.heap.size := B4.out.size
    have C4 := Lib.hid (five_kept g4 (fun hk => by have := (z4.lt _ hk).1; have := hlt; omega) K4.out)
    clear g4 z4 s4
    go_wp2_with fail
    refine ((Nm _ _).out).mono ?_
    rintro e w5 ⟨a5, q5, rfl, o5, b5⟩
    have z5 := (p4).below (B := u4.heap.size) b5 (Nat.le_refl _)
    have s5 := o5.bs
    have y5 := b5.size
    have L5 := Lib.hid (Nat.lt_of_lt_of_le hlt T4)
    have K5 := Lib.hid (five_below b5 L5.out C4.out)
    have D5 := Lib.hid ((B4.out).trans (b5.mono T4))
    clear b5
    go_wp2_with (at_builtin; refine wpList_append_bs _ rfl _ _ rfl W.heap.size _ _ rfl z5 _ _ rfl s5 (by simp [num8_length]) (by omega) ?_)
    intro x5 u5 p5 g5
    have B5 := Lib.hid ((D5.out).grown g5 (by omega) (fun k hk => (z5.lt k hk).1))
    have T5 : W.heap.size ≤ u5.heap.size := B5.out.size
    have C5 := Lib.hid (five_kept g5 (fun hk => by have := (z5.lt _ hk).1; have := hlt; omega) K5.out)
    clear g5 z5 s5
    obtain ⟨-, -, -, -, c5⟩ := C5.out
    go_wp2_with fail
    have S0 := (HS.out).past (B5.out)
    refine ((By _ _ S0).out).mono ?_
    clear S0
    rintro e w6 ⟨a6, q6, rfl, o6, b6⟩
    have z6 := (p5).below (B := u5.heap.size) b6 (Nat.le_refl _)
    have s6 := o6.bs
    have y6 := b6.size
    have L6 := Lib.hid (Nat.lt_of_lt_of_le hlt T5)
    have K6 := Lib.hid (five_below b6 L6.out C5.out)
    have D6 := Lib.hid ((B5.out).trans (b6.mono T5))
    clear b6
    go_wp2_with (at_builtin; refine wpList_append_bs _ rfl _ _ rfl W.heap.size _ _ rfl z6 _ _ rfl s6 (by simp [num8_length, len8_length]; have := HLN.out; omega) (by omega) ?_)
    intro x6 u6 p6 g6
    have B6 := Lib.hid ((D6.out).grown g6 (by omega) (fun k hk => (z6.lt k hk).1))
    have T6 : W.heap.size ≤ u6.heap.size := B6.out.size
    have C6 := Lib.hid (five_kept g6 (fun hk => by have := (z6.lt _ hk).1; have := hlt; omega) K6.out)
    clear g6 z6 s6
    go_wp2
    go_ret
    exact ⟨_, rfl, p6.mono (Nat.le_of_lt hlt), (HBW.out).trans ((B6.out).mono (Nat.le_of_lt hlt))⟩
  · obtain rfl : 1 = gi := hgi
    obtain ⟨c0, -⟩ := hcells
    go_enter Tryz.func7, Tryz.ntmps7
    go_wp2_with fail
    rw [HW.out]
    go_wp2_with fail
    refine ((Nm _ _).out).mono ?_
    rintro e w1 ⟨a1, q1, rfl, o1, b1⟩
    have T1 : W.heap.size ≤ w1.heap.size := b1.size
    have B1 := Lib.hid b1
    have C1 := Lib.hid (five_below b1 hlt (by exact HC.out))
    clear b1
    obtain ⟨-, c1, -, -, -⟩ := C1.out
    go_wp2_with fail
    refine ((Nm _ _).out).mono ?_
    rintro e w2 ⟨a2, q2, rfl, o2, b2⟩
    have z2 := (o1).below (B := w1.heap.size) b2 (Nat.le_refl _)
    have s2 := o2.bs
    have y2 := b2.size
    have L2 := Lib.hid (Nat.lt_of_lt_of_le hlt T1)
    have K2 := Lib.hid (five_below b2 L2.out C1.out)
    have D2 := Lib.hid ((B1.out).trans (b2.mono T1))
    clear b2
    go_wp2_with (at_builtin; refine wpList_append_bs _ rfl _ _ rfl W.heap.size _ _ rfl z2 _ _ rfl s2 (by simp [num8_length]) (by omega) ?_)
    intro x2 u2 p2 g2
    have B2 := Lib.hid ((D2.out).grown g2 (by omega) (fun k hk => (z2.lt k hk).1))
    have T2 : W.heap.size ≤ u2.heap.size := B2.out.size
    have C2 := Lib.hid (five_kept g2 (fun hk => by have := (z2.lt _ hk).1; have := hlt; omega) K2.out)
    clear g2 z2 s2
    obtain ⟨-, -, c2, -, -⟩ := C2.out
    go_wp2_with fail
    refine ((Nm _ _).out).mono ?_
    rintro e w3 ⟨a3, q3, rfl, o3, b3⟩
    have z3 := (p2).below (B := u2.heap.size) b3 (Nat.le_refl _)
    have s3 := o3.bs
    have y3 := b3.size
    have L3 := Lib.hid (Nat.lt_of_lt_of_le hlt T2)
    have K3 := Lib.hid (five_below b3 L3.out C2.out)
    have D3 := Lib.hid ((B2.out).trans (b3.mono T2))
    clear b3
    go_wp2_with (at_builtin; refine wpList_append_bs _ rfl _ _ rfl W.heap.size _ _ rfl z3 _ _ rfl s3 (by simp [num8_length]) (by omega) ?_)
    intro x3 u3 p3 g3
    have B3 := Lib.hid ((D3.out).grown g3 (by omega) (fun k hk => (z3.lt k hk).1))
    have T3 : W.heap.size ≤ u3.heap.size := B3.out.size
    have C3 := Lib.hid (five_kept g3 (fun hk => by have := (z3.lt _ hk).1; have := hlt; omega) K3.out)
    clear g3 z3 s3
    obtain ⟨-, -, -, c3, -⟩ := C3.out
    go_wp2_with fail
    refine ((Nm _ _).out).mono ?_
    rintro e w4 ⟨a4, q4, rfl, o4, b4⟩
    have z4 := (p3).below (B := u3.heap.size) b4 (Nat.le_refl _)
    have s4 := o4.bs
    have y4 := b4.size
    have L4 := Lib.hid (Nat.lt_of_lt_of_le hlt T3)
    have K4 := Lib.hid (five_below b4 L4.out C3.out)
    have D4 := Lib.hid ((B3.out).trans (b4.mono T3))
    clear b4
    go_wp2_with (at_builtin; refine wpList_append_bs _ rfl _ _ rfl W.heap.size _ _ rfl z4 _ _ rfl s4 (by simp [num8_length]) (by omega) ?_)
    intro x4 u4 p4 g4
    have B4 := Lib.hid ((D4.out).grown g4 (by omega) (fun k hk => (z4.lt k hk).1))
    have T4 : W.heap.size ≤ u4.heap.size := B4.out.size
    have C4 := Lib.hid (five_kept g4 (fun hk => by have := (z4.lt _ hk).1; have := hlt; omega) K4.out)
    clear g4 z4 s4
    go_wp2_with fail
    refine ((Nm _ _).out).mono ?_
    rintro e w5 ⟨a5, q5, rfl, o5, b5⟩
    have z5 := (p4).below (B := u4.heap.size) b5 (Nat.le_refl _)
    have s5 := o5.bs
    have y5 := b5.size
    have L5 := Lib.hid (Nat.lt_of_lt_of_le hlt T4)
    have K5 := Lib.hid (five_below b5 L5.out C4.out)
    have D5 := Lib.hid ((B4.out).trans (b5.mono T4))
    clear b5
    go_wp2_with (at_builtin; refine wpList_append_bs _ rfl _ _ rfl W.heap.size _ _ rfl z5 _ _ rfl s5 (by simp [num8_length]) (by omega) ?_)
    intro x5 u5 p5 g5
    have B5 := Lib.hid ((D5.out).grown g5 (by omega) (fun k hk => (z5.lt k hk).1))
    have T5 : W.heap.size ≤ u5.heap.size := B5.out.size
    have C5 := Lib.hid (five_kept g5 (fun hk => by have := (z5.lt _ hk).1; have := hlt; omega) K5.out)
    clear g5 z5 s5
    obtain ⟨-, -, -, -, c5⟩ := C5.out
    go_wp2_with fail
    have S0 := (HS.out).past (B5.out)
    refine ((By _ _ S0).out).mono ?_
    clear S0
    rintro e w6 ⟨a6, q6, rfl, o6, b6⟩
    have z6 := (p5).below (B := u5.heap.size) b6 (Nat.le_refl _)
    have s6 := o6.bs
    have y6 := b6.size
    have L6 := Lib.hid (Nat.lt_of_lt_of_le hlt T5)
    have K6 := Lib.hid (five_below b6 L6.out C5.out)
    have D6 := Lib.hid ((B5.out).trans (b6.mono T5))
    clear b6
    go_wp2_with (at_builtin; refine wpList_append_bs _ rfl _ _ rfl W.heap.size _ _ rfl z6 _ _ rfl s6 (by simp [num8_length, len8_length]; have := HLN.out; omega) (by omega) ?_)
    intro x6 u6 p6 g6
    have B6 := Lib.hid ((D6.out).grown g6 (by omega) (fun k hk => (z6.lt k hk).1))
    have T6 : W.heap.size ≤ u6.heap.size := B6.out.size
    have C6 := Lib.hid (five_kept g6 (fun hk => by have := (z6.lt _ hk).1; have := hlt; omega) K6.out)
    clear g6 z6 s6
    go_wp2
    go_ret
    exact ⟨_, rfl, p6.mono (Nat.le_of_lt hlt), (HBW.out).trans ((B6.out).mono (Nat.le_of_lt hlt))⟩
end Go.Proofs.YtggbpdkejkmakaaGreat
