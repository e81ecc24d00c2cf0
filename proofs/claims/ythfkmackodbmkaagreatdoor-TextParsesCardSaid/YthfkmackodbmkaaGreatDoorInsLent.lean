/- Contracts of instructions that are lent and kept, and whether two rows are one. -/
import Derived.Test.YthfkmackodbmkaaGreatDoorInsRow
import Derived.Test.YthfkmackodbmkaaGreatDoorLent
import Derived.Test.YthfkmackodbmkaaGreatDoorInsRight
import Derived.Tactics2
import Derived.BigQuiet
import Derived.Deep.RegionHeld3
namespace Go.Proofs.YthfkmackodbmkaaGreatDoor
open Go.RowKit
set_option linter.unusedVariables false
set_option linter.unusedSimpArgs false
set_option maxRecDepth 100000

def imark (k i : Int) : Ins := ⟨0, false, 0, 0, false, 1000003 * (k + 7) + i, 0, 0⟩
def imarks (k : Int) (n : Nat) : List Ins := (List.range n).map fun i : Nat => imark k (i : Int)
theorem imarks_length (k : Int) (n : Nat) : (imarks k n).length = n := by simp [imarks]
theorem imarks_succ (k : Int) (n : Nat) : imarks k (n + 1) = imarks k n ++ [imark k n] := by simp [imarks, List.range_succ]
theorem ith_imarks {k : Int} {n j : Nat} (h : j < n) : ith (imarks k n) j = imark k j := by
  rw [ith_of (by rw [imarks_length]; exact h)]; simp [imarks]
theorem ith_left {a b : List Ins} {j : Nat} (h : j < a.length) : ith (a ++ b) j = ith a j := by simp [ith, List.getD, List.getElem?_append_left h]
theorem ith_right {a b : List Ins} {j : Nat} (h : a.length ≤ j) : ith (a ++ b) j = ith b (j - a.length) := by simp [ith, List.getD, List.getElem?_append_right h]

set_option maxHeartbeats 1000000 in
theorem markIns (k i : Int) (h0 : 0 ≤ k) (h1 : k ≤ 1000000) (h2 : 0 ≤ i) (h3 : i ≤ 1000000000000000) (w : World) :
    Calls Tryz.prog 33 #[.int .i64 k, .int .i64 i] w fun e w' => e = .returned (.agg #[.int .u8 0, .bool false, .int .i64 0, .int .i64 0, .bool false, .int .i64 (1000003 * (k + 7) + i), .int .i64 0, .int .i64 0]) ∧ Below w.heap.size w w' := by
  have M := fun W => Lib.hid (mark k i h0 h1 h2 h3 W)
  clear h0 h1 h2 h3
  generalize 1000003 * (k + 7) + i = z at M ⊢
  go_enter Tryz.func33, Tryz.ntmps33
  go_wp2_with fail
  refine ((M _).out).mono ?_; rintro e w' ⟨rfl, rfl⟩
  go_wp2_with fail
  refine bodyPost_ret (v := _) (by simp [results, Tryz.results33, go_sem] <;> rfl) rfl ⟨rfl, ?_⟩
  repeat (first | exact Below.refl _ _ | refine Below.drew ?_ | refine Below.alloc ?_ (by simp <;> omega) _)

/-- v is the instructions l, lent: in a block of their own from base on, with twelve marks behind them. -/
def LentI (w : World) (base : Nat) (v : Value) (l : List Ins) : Prop :=
  ∃ g, v = .slice (some ⟨g, 0, none⟩) l.length (l.length + 12) ∧ base ≤ g ∧ l.length + 12 ≤ maxLen ∧ w.heap[g]? = some (.cells (icl (l ++ imarks 1 12)).toArray 47 (0, 0))
theorem row_at8 {w : World} {g : Nat} {l : List Ins} {e : Nat} {fr : Nat × Nat} (h : w.heap[g]? = some (.cells (icl l).toArray e fr)) {j : Nat} (hj : j < l.length) : At8 w g (j * 8) (ith l j) := by
  have c := fun k (hk : k < 8) u (hu : (icells (ith l j))[k]? = some u) => show w.cell? ⟨g, j * 8 + k, none⟩ = some u by
    rw [cell_of_row w g (j * 8 + k) _ _ _ h]
    have := icl_get hj hk
    rw [hu] at this
    simpa using this
  exact ⟨c 0 (by decide) _ rfl, c 1 (by decide) _ rfl, c 2 (by decide) _ rfl, c 3 (by decide) _ rfl, c 4 (by decide) _ rfl, c 5 (by decide) _ rfl, c 6 (by decide) _ rfl, c 7 (by decide) _ rfl⟩
theorem LentI.inss {w : World} {base : Nat} {v : Value} {l : List Ins} (h : LentI w base v l) : Inss w v l := by
  obtain ⟨g, rfl, _, hm, hg⟩ := h
  refine ⟨_, _, rfl, by omega, hm, fun h => (by cases h), fun a ha j u hu => ?_⟩
  cases ha
  rw [add_none, cell_of_row w g (0 + j) _ _ _ hg, icl_append]
  have : j < (icl l).length := (List.getElem?_eq_some_iff.1 hu).1
  simp only [List.getElem?_toArray, Nat.zero_add]
  rw [List.getElem?_append_left this]; exact hu
theorem LentI.past {w w' : World} {base : Nat} {v : Value} {l : List Ins} (h : LentI w base v l) (hb : Below w.heap.size w w') : LentI w' base v l := by
  obtain ⟨g, hv, h1, h2, hg⟩ := h
  have := (Array.getElem?_eq_some_iff.1 hg).1
  exact ⟨g, hv, h1, h2, (hb.block g (by omega)).trans hg⟩
theorem LentI.mono {w : World} {base base' : Nat} {v : Value} {l : List Ins} (h : LentI w base v l) (hb : base' ≤ base) : LentI w base' v l := by
  obtain ⟨g, hv, h1, h2, hr⟩ := h
  exact ⟨g, hv, Nat.le_trans hb h1, h2, hr⟩
theorem owni_full {w : World} {base g n : Nat} {l : List Ins} (h : OwnI w base (.slice (some ⟨g, 0, none⟩) n l.length) l) : base ≤ g ∧ w.heap[g]? = some (.cells (icl l).toArray 47 (0, 0)) := by
  rcases h.2 with ⟨h1, _⟩ | ⟨g', cap, cur, h1, hb, hg, hn, hc, hs, ht⟩
  · cases h1
  · cases h1
    refine ⟨hb, ?_⟩
    have : cur = (icl l).toArray := by
      rw [← ht, List.take_of_length_le (by simp; omega)]
    rw [← this]; exact hg
/-- e returns them lent; what was there is as it was. -/
def LendsI (l : List Ins) (w : World) (e : Ending) (w' : World) : Prop := ∃ v, e = .returned v ∧ LentI w' w.heap.size v l ∧ Below w.heap.size w w'

set_option maxHeartbeats 2000000 in
theorem lentIns (v : Value) (l : List Ins) (w : World) (h : Inss w v l) (hlen : l.length ≤ 1000000) :
    Calls Tryz.prog 12 #[v] w fun e w' => LendsI l w e w' := by
  obtain ⟨i0, hi, hz, hs1, hb1⟩ := insInfo
  obtain ⟨ao, cap, hsh⟩ := h.shape
  have H := Lib.hid h
  subst hsh
  clear h
  generalize hn : l.length = n at *
  have hN := Lib.hid hn
  clear hn
  have HI := Lib.hid hi
  have HZ := Lib.hid hz
  have HS1 := Lib.hid hs1
  have HB1 := Lib.hid hb1
  clear hi hz hs1 hb1
  go_enter Tryz.func12, Tryz.ntmps12
  go_wp2_with (at_make; refine wpList_make_own _ rfl _ _ 23 rfl w.heap.size 47 i0 (agg noIns) 8 Tryz.underlying23 HI.out HZ.out HS1.out _ _ _ (n + 12) rfl rfl (by omega) (by have := HB1.out; rw [this]; omega) (by unfold maxLen; omega) (Nat.le_refl _) ?_)
  intro w0 hown0 hgrow0
  have HO0 := Lib.hid (made_i hown0)
  have B0 := Lib.hid ((Below.refl w.heap.size w).grown hgrow0 (Nat.le_refl _) (fun k h => by cases h))
  have HB0 := Lib.hid ((H.out).past B0.out)
  clear hown0 hgrow0
  go_wp2_with (at_builtin; refine wpList_append_i_fits _ rfl _ _ rfl w.heap.size w.heap.size (n + 12) 0 n [] rfl rfl HO0.out _ _ hN.out rfl HB0.out (by omega) ?_)
  intro w1 ho1 hg1
  have B1 := Lib.hid ((B0.out).grown hg1 (B0.out).size (fun k h => by cases h; exact Nat.le_refl _))
  have HO1 := Lib.hid ho1
  clear ho1 hg1
  go_wp2_with fail
  go_loopw [3, 4] (fun s i wr => ∃ (k : Nat) (xs : List Ins), k ≤ 12 ∧ Hid (xs = l ++ imarks 1 k) ∧ i = .int .i64 k ∧ s = .slice (some ⟨w.heap.size, 0, none⟩) (n + k) (n + 12) ∧ OwnI wr w.heap.size (.slice (some ⟨w.heap.size, 0, none⟩) (n + k) (n + 12)) xs ∧ Below w.heap.size w wr) (fun _ i _ => 12 - (intOf i).toNat)
  case atStart => exact ⟨0, l, Nat.zero_le _, Lib.hid (by simp [imarks]), rfl, by go_num, by simpa using HO1.out, B1.out⟩
  case round =>
    obtain ⟨k, xs, hk, HX, rfl, rfl, ho, hb⟩ := hrel
    have HO := Lib.hid ho
    have HB := Lib.hid hb
    have hxl := Lib.hid (show xs.length = n + k by rw [HX.out, List.length_append, imarks_length]; have := hN.out; omega)
    clear ho hb
    by_cases hlt : k < 12
    · have hd : decide ((k : Int) < 12) = true := by simp; omega
      have M := fun W => Lib.hid (markIns 1 k (by decide) (by decide) (by omega) (by omega) W)
      go_wp2_with fail
      refine ((M _).out).mono ?_; rintro e w' ⟨rfl, bm⟩
      have HO2 := Lib.hid (((HO.out).past bm).alloc (Obj.cells #[.int .u8 0, .bool false, .int .i64 0, .int .i64 0, .bool false, .int .i64 (1000003 * (1 + 7) + k), .int .i64 0, .int .i64 0] 47))
      have HB2 := Lib.hid (((HB.out).trans (bm.mono (HB.out).size)).alloc (Nat.le_trans (HB.out).size bm.size) (Obj.cells #[.int .u8 0, .bool false, .int .i64 0, .int .i64 0, .bool false, .int .i64 (1000003 * (1 + 7) + k), .int .i64 0, .int .i64 0] 47))
      have HM := Lib.hid (inss_one w' (imark 1 k))
      clear bm
      go_wp2_with (at_builtin; refine wpList_append_i_fits _ rfl _ _ rfl w.heap.size w.heap.size (n + 12) (n + k) 1 xs hxl.out rfl HO2.out _ [imark 1 k] rfl rfl HM.out (by omega) ?_)
      intro w2 ho2 hg2
      have hb2 := (HB2.out).grown hg2 (HB2.out).size (fun k h => by cases h; exact Nat.le_refl _)
      clear hg2
      go_wp2_with fail
      go_roundw
      case rel => exact ⟨k + 1, _, by omega, Lib.hid (by rw [HX.out, imarks_succ, List.append_assoc]), by go_num, by go_num, ho2, hb2⟩
      case measure => simp [intOf]; omega
    · have hk12 : k = 12 := by omega
      subst hk12
      go_wp2_with fail
      go_ret
      have e1 : xs.length = n + 12 := hxl.out
      have hof := owni_full (l := xs) (n := n + 12) (by rw [e1]; exact HO.out)
      rw [HX.out] at hof
      refine ⟨_, rfl, ⟨w.heap.size, ?_, hof.1, ?_, hof.2⟩, HB.out⟩
      · rw [hN.out]; rfl
      · have := hN.out; unfold maxLen; omega
attribute [local go_sem high] eql_cells neq_cells
attribute [local go_sem] same8_self
set_option maxHeartbeats 4000000 in
theorem sameIns (u v : Value) (l : List Ins) (w : World) (hu : Inss w u l) (hv : Inss w v l) :
    Calls Tryz.prog 22 #[u, v] w fun e w' => Tells (.bool true) w e w' := by
  have lx := hu.len
  obtain ⟨au, cu, e1⟩ := hu.shape
  obtain ⟨av, cv, e2⟩ := hv.shape
  have HU := Lib.hid hu
  have HV := Lib.hid hv
  subst e1 e2
  clear hu hv
  generalize hn : l.length = n at *
  have hN := Lib.hid hn
  clear hn
  go_enter Tryz.func22, Tryz.ntmps22
  go_wp2_with fail
  go_loopw [4, 5] (fun r i wr => ∃ k : Nat, k ≤ n ∧ r = .bool false ∧ i = .int .i64 k ∧ Still w wr) (fun _ i _ => n - (intOf i).toNat)
  case atStart => exact ⟨0, Nat.zero_le _, rfl, rfl, Still.refl _⟩
  case round =>
    obtain ⟨k, hk, rfl, rfl, hst⟩ := hrel
    by_cases hlt : k < n
    · have hd : decide (k < n) = true := by simpa using hlt
      obtain ⟨b, off, c, hsh, -, -, -, cells⟩ := (HU.out).at (by have := hN.out; omega)
      obtain ⟨b', off', c', hsh', -, -, -, cells'⟩ := (HV.out).at (by have := hN.out; omega)
      have hao : au = some ⟨b, off, none⟩ := by cases hsh; rfl
      have hao' : av = some ⟨b', off', none⟩ := by cases hsh'; rfl
      subst hao hao'
      obtain ⟨x0, x1, x2, x3, x4, x5, x6, x7⟩ := (cells k (by have := hN.out; omega)).past (hst.below _)
      obtain ⟨y0, y1, y2, y3, y4, y5, y6, y7⟩ := (cells' k (by have := hN.out; omega)).past (hst.below _)
      clear cells cells' hsh hsh'
      have hge : decide (n ≤ k) = false := by simpa using hlt
      go_wp2_with fail
      go_quiet (fail)
      go_wp2_with fail
      go_roundw
      case rel => exact ⟨k + 1, by omega, rfl, by go_num, hst.drewN _⟩
      case measure => simp [intOf]; omega
    · have hd : decide (k < n) = false := by simpa using hlt
      go_wp2_with fail
      go_ret
      exact ⟨rfl, hst⟩
/-- Eight cells stay, wherever they lie. -/
theorem eight_past_at {w w' : World} {b o : Nat} {c0 c1 c2 c3 c4 c5 c6 c7 : Value} (h : w.cell? ⟨b, o, none⟩ = some (c0) ∧ w.cell? ⟨b, o + 1, none⟩ = some (c1) ∧ w.cell? ⟨b, o + 2, none⟩ = some (c2) ∧ w.cell? ⟨b, o + 3, none⟩ = some (c3) ∧ w.cell? ⟨b, o + 4, none⟩ = some (c4) ∧ w.cell? ⟨b, o + 5, none⟩ = some (c5) ∧ w.cell? ⟨b, o + 6, none⟩ = some (c6) ∧ w.cell? ⟨b, o + 7, none⟩ = some (c7)) (hb : Below w.heap.size w w') : w'.cell? ⟨b, o, none⟩ = some (c0) ∧ w'.cell? ⟨b, o + 1, none⟩ = some (c1) ∧ w'.cell? ⟨b, o + 2, none⟩ = some (c2) ∧ w'.cell? ⟨b, o + 3, none⟩ = some (c3) ∧ w'.cell? ⟨b, o + 4, none⟩ = some (c4) ∧ w'.cell? ⟨b, o + 5, none⟩ = some (c5) ∧ w'.cell? ⟨b, o + 6, none⟩ = some (c6) ∧ w'.cell? ⟨b, o + 7, none⟩ = some (c7) :=
  ⟨cellP h.1 hb, cellP h.2.1 hb, cellP h.2.2.1 hb, cellP h.2.2.2.1 hb, cellP h.2.2.2.2.1 hb, cellP h.2.2.2.2.2.1 hb, cellP h.2.2.2.2.2.2.1 hb, cellP h.2.2.2.2.2.2.2 hb⟩
/-- Eight cells, as a region keeps them. -/
theorem At8.limbs {w : World} {b o : Nat} {i : Ins} (h : At8 w b o i) : w.cell? ⟨b, o, none⟩ = some (.int .u8 i.op) ∧ w.cell? ⟨b, o + 1, none⟩ = some (.bool i.nw) ∧ w.cell? ⟨b, o + 2, none⟩ = some (.int .i64 i.dst) ∧ w.cell? ⟨b, o + 3, none⟩ = some (.int .i64 i.src) ∧ w.cell? ⟨b, o + 4, none⟩ = some (.bool i.ui) ∧ w.cell? ⟨b, o + 5, none⟩ = some (.int .i64 i.off) ∧ w.cell? ⟨b, o + 6, none⟩ = some (.int .i64 i.im) ∧ w.cell? ⟨b, o + 7, none⟩ = some (.int .i64 i.sz) :=
  ⟨h.c0, h.c1, h.c2, h.c3, h.c4, h.c5, h.c6, h.c7⟩
set_option maxHeartbeats 4000000 in
theorem keptIns (u v : Value) (base : Nat) (l : List Ins) (w : World) (hu : LentI w base u l) (hv : Inss w v l) (hlen : l.length ≤ 1000000) :
    Calls Tryz.prog 15 #[u, v] w fun e w' => e = .returned (.bool true) ∧ Below w.heap.size w w' := by
  obtain ⟨g, rfl, -, -, hg⟩ := hu
  obtain ⟨ao, cap, hsh⟩ := hv.shape
  have CG := Lib.hid (fun j (hj : j < (l ++ imarks 1 12).length) => row_at8 hg hj)
  have HV := Lib.hid hv
  subst hsh
  clear hv hg
  generalize hn : l.length = n at *
  have hN := Lib.hid hn
  clear hn
  go_enter Tryz.func15, Tryz.ntmps15
  go_wp2_with fail
  go_loopw [6] (fun i wr => ∃ k : Nat, k ≤ n + 12 ∧ i = .int .i64 k ∧ Below w.heap.size w wr) (fun i _ => n + 12 - (intOf i).toNat)
  case atStart => exact ⟨0, Nat.zero_le _, rfl, Below.refl _ _⟩
  case round =>
    obtain ⟨k, hk, rfl, hst⟩ := hrel
    have HB := Lib.hid hst
    by_cases hlt : k < n + 12
    · have hd : decide (k < n + 12) = true := by simpa using hlt
      have k0 : 0 ≤ (k : Int) := by omega
      have k1 : (k : Int) < ((n + 12 : Nat) : Int) := by omega
      have cg0 := ((CG.out k (by rw [List.length_append, imarks_length]; have := hN.out; omega)).past hst)
      by_cases hkn : k < n
      · have hd2 : decide (k < n) = true := by simpa using hkn
        rw [ith_left (by rw [hN.out]; exact hkn)] at cg0
        obtain ⟨b, off, c, hsh, -, -, -, cells⟩ := (HV.out).at (by have := hN.out; omega)
        have hao : ao = some ⟨b, off, none⟩ := by cases hsh; rfl
        subst hao
        have cv0 := ((cells k (by have := hN.out; omega)).past hst)
        have hge : decide (n ≤ k) = false := by simpa using hkn
        have k2 : (k : Int) < (n : Int) := by omega
        clear cells hsh hst
        generalize ith l k = x at cg0 cv0
        obtain ⟨xo, xn, xd, xs, xu, xf, xm, xz⟩ := x
        have S0 := And.intro (cg0.past (Below.refl wr.heap.size wr).drew).limbs (cv0.past (Below.refl wr.heap.size wr).drew).limbs
        obtain ⟨x0, x1, x2, x3, x4, x5, x6, x7⟩ := cg0
        obtain ⟨y0, y1, y2, y3, y4, y5, y6, y7⟩ := cv0
        simp only at S0 x0 x1 x2 x3 x4 x5 x6 x7 y0 y1 y2 y3 y4 y5 y6 y7
        go_wp2_with fail
        refine wp_region_held_drew (S := (fun w' => (w'.cell? ⟨g, k * 8, none⟩ = some (.int .u8 xo) ∧ w'.cell? ⟨g, k * 8 + 1, none⟩ = some (.bool xn) ∧ w'.cell? ⟨g, k * 8 + 2, none⟩ = some (.int .i64 xd) ∧ w'.cell? ⟨g, k * 8 + 3, none⟩ = some (.int .i64 xs) ∧ w'.cell? ⟨g, k * 8 + 4, none⟩ = some (.bool xu) ∧ w'.cell? ⟨g, k * 8 + 5, none⟩ = some (.int .i64 xf) ∧ w'.cell? ⟨g, k * 8 + 6, none⟩ = some (.int .i64 xm) ∧ w'.cell? ⟨g, k * 8 + 7, none⟩ = some (.int .i64 xz)) ∧ (w'.cell? ⟨b, off + k * 8, none⟩ = some (.int .u8 xo) ∧ w'.cell? ⟨b, off + k * 8 + 1, none⟩ = some (.bool xn) ∧ w'.cell? ⟨b, off + k * 8 + 2, none⟩ = some (.int .i64 xd) ∧ w'.cell? ⟨b, off + k * 8 + 3, none⟩ = some (.int .i64 xs) ∧ w'.cell? ⟨b, off + k * 8 + 4, none⟩ = some (.bool xu) ∧ w'.cell? ⟨b, off + k * 8 + 5, none⟩ = some (.int .i64 xf) ∧ w'.cell? ⟨b, off + k * 8 + 6, none⟩ = some (.int .i64 xm) ∧ w'.cell? ⟨b, off + k * 8 + 7, none⟩ = some (.int .i64 xz)))) (by kernel_rfl) S0 (fun S0 => ?_)
        refine wpAnyH_take (i := 0) (v := ?v0t1) rfl (by kernel_rfl) (by kernel_rfl) (by kernel_rfl) (fun _ _ _ h => h) (Or.inl ⟨by rfl, ?y0t1⟩) S0 ?z0t1
        case y0t1 => intro w_ hSw; go_simp; with_reducible rfl
        try simp only [List.getElem_toArray, List.getElem_cons_zero, List.getElem_cons_succ, Act.put, List.setIfInBounds_toArray, List.set_cons_zero, List.set_cons_succ]
        refine wpAnyH_take (i := 1) (v := ?v1t2) rfl (by kernel_rfl) (by kernel_rfl) (by kernel_rfl) (fun _ _ _ h => h) (Or.inl ⟨by rfl, ?y1t2⟩) S0 ?z1t2
        case y1t2 => intro w_ hSw; go_simp; with_reducible rfl
        try simp only [List.getElem_toArray, List.getElem_cons_zero, List.getElem_cons_succ, Act.put, List.setIfInBounds_toArray, List.set_cons_zero, List.set_cons_succ]
        refine wpAnyH_take (i := 2) (v := ?v2t3) rfl (by kernel_rfl) (by kernel_rfl) (by kernel_rfl) (fun _ _ _ h => h) (Or.inl ⟨by rfl, ?y2t3⟩) S0 ?z2t3
        case y2t3 => intro w_ hSw; go_simp; with_reducible rfl
        try simp only [List.getElem_toArray, List.getElem_cons_zero, List.getElem_cons_succ, Act.put, List.setIfInBounds_toArray, List.set_cons_zero, List.set_cons_succ]
        refine wpAnyH_take (i := 3) (v := ?v3t4) rfl (by kernel_rfl) (by kernel_rfl) (by kernel_rfl) (fun _ _ _ h => h) (Or.inl ⟨by rfl, ?y3t4⟩) S0 ?z3t4
        case y3t4 => intro w_ hSw; go_simp; with_reducible rfl
        try simp only [List.getElem_toArray, List.getElem_cons_zero, List.getElem_cons_succ, Act.put, List.setIfInBounds_toArray, List.set_cons_zero, List.set_cons_succ]
        refine wpAnyH_take (i := 4) (v := ?v4t5) rfl (by kernel_rfl) (by kernel_rfl) (by kernel_rfl) (fun _ _ _ h => h) (Or.inl ⟨by rfl, ?y4t5⟩) S0 ?z4t5
        case y4t5 => intro w_ hSw; go_simp; with_reducible rfl
        try simp only [List.getElem_toArray, List.getElem_cons_zero, List.getElem_cons_succ, Act.put, List.setIfInBounds_toArray, List.set_cons_zero, List.set_cons_succ]
        refine wpAnyH_take (i := 5) (v := ?v5t6) rfl (by kernel_rfl) (by kernel_rfl) (by kernel_rfl) (fun _ _ _ h => h) (Or.inl ⟨by rfl, ?y5t6⟩) S0 ?z5t6
        case y5t6 => intro w_ hSw; go_simp; with_reducible rfl
        try simp only [List.getElem_toArray, List.getElem_cons_zero, List.getElem_cons_succ, Act.put, List.setIfInBounds_toArray, List.set_cons_zero, List.set_cons_succ]
        refine wpAnyH_take (i := 6) (v := ?v6t7) rfl (by kernel_rfl) (by kernel_rfl) (by kernel_rfl) (fun _ _ _ h => h) (Or.inl ⟨by rfl, ?y6t7⟩) S0 ?z6t7
        case y6t7 => intro w_ hSw; go_simp; with_reducible rfl
        try simp only [List.getElem_toArray, List.getElem_cons_zero, List.getElem_cons_succ, Act.put, List.setIfInBounds_toArray, List.set_cons_zero, List.set_cons_succ]
        refine wpAnyH_take (i := 7) (v := ?v7t8) rfl (by kernel_rfl) (by kernel_rfl) (by kernel_rfl) (fun _ _ _ h => h) (Or.inl ⟨by rfl, ?y7t8⟩) S0 ?z7t8
        case y7t8 => intro w_ hSw; (try dsimp only at hSw); go_simp; with_reducible rfl
        try simp only [List.getElem_toArray, List.getElem_cons_zero, List.getElem_cons_succ, Act.put, List.setIfInBounds_toArray, List.set_cons_zero, List.set_cons_succ]
        refine wpAnyH_take (i := 8) (v := ?v8t9) rfl (by kernel_rfl) (by kernel_rfl) (by kernel_rfl) (fun _ _ _ h => h) (Or.inl ⟨by rfl, ?y8t9⟩) S0 ?z8t9
        case y8t9 => intro w_ hSw; (try dsimp only at hSw); go_simp; with_reducible rfl
        try simp only [List.getElem_toArray, List.getElem_cons_zero, List.getElem_cons_succ, Act.put, List.setIfInBounds_toArray, List.set_cons_zero, List.set_cons_succ]
        refine wpAnyH_take (i := 9) (v := ?v9t10) rfl (by kernel_rfl) (by kernel_rfl) (by kernel_rfl) (fun _ _ _ h => h) (Or.inl ⟨by rfl, ?y9t10⟩) S0 ?z9t10
        case y9t10 => intro w_ hSw; go_simp; with_reducible rfl
        try simp only [List.getElem_toArray, List.getElem_cons_zero, List.getElem_cons_succ, Act.put, List.setIfInBounds_toArray, List.set_cons_zero, List.set_cons_succ]
        refine wpAnyH_take (i := 10) (v := ?v10t11) rfl (by kernel_rfl) (by kernel_rfl) (by kernel_rfl) (fun _ _ _ h => h) (Or.inl ⟨by rfl, ?y10t11⟩) S0 ?z10t11
        case y10t11 => intro w_ hSw; go_simp; with_reducible rfl
        try simp only [List.getElem_toArray, List.getElem_cons_zero, List.getElem_cons_succ, Act.put, List.setIfInBounds_toArray, List.set_cons_zero, List.set_cons_succ]
        refine wpAnyH_take (i := 11) (v := ?v11t12) rfl (by kernel_rfl) (by kernel_rfl) (by kernel_rfl) (fun _ _ _ h => h) (Or.inl ⟨by rfl, ?y11t12⟩) S0 ?z11t12
        case y11t12 => intro w_ hSw; (try dsimp only at hSw); go_simp; with_reducible rfl
        try simp only [List.getElem_toArray, List.getElem_cons_zero, List.getElem_cons_succ, Act.put, List.setIfInBounds_toArray, List.set_cons_zero, List.set_cons_succ]
        refine wpAnyH_take (i := 12) (v := ?v12t13) rfl (by kernel_rfl) (by kernel_rfl) (by kernel_rfl) (fun _ _ _ h => h) (Or.inl ⟨by rfl, ?y12t13⟩) S0 ?z12t13
        case y12t13 => intro w_ hSw; (try dsimp only at hSw); go_simp; with_reducible rfl
        try simp only [List.getElem_toArray, List.getElem_cons_zero, List.getElem_cons_succ, Act.put, List.setIfInBounds_toArray, List.set_cons_zero, List.set_cons_succ]
        refine wpAnyH_take (i := 13) (v := ?v13t14) rfl (by kernel_rfl) (by kernel_rfl) (by kernel_rfl) (fun _ _ _ h => h) (Or.inl ⟨by rfl, ?y13t14⟩) S0 ?z13t14
        case y13t14 => intro w_ hSw; go_simp; with_reducible rfl
        try simp only [List.getElem_toArray, List.getElem_cons_zero, List.getElem_cons_succ, Act.put, List.setIfInBounds_toArray, List.set_cons_zero, List.set_cons_succ]
        refine wpAnyH_take (i := 14) (v := ?v14t15) rfl (by kernel_rfl) (by kernel_rfl) (by kernel_rfl) (fun _ _ _ h => h) (Or.inl ⟨by rfl, ?y14t15⟩) S0 ?z14t15
        case y14t15 => intro w_ hSw; go_simp; with_reducible rfl
        try simp only [List.getElem_toArray, List.getElem_cons_zero, List.getElem_cons_succ, Act.put, List.setIfInBounds_toArray, List.set_cons_zero, List.set_cons_succ]
        refine wpAnyH_take (i := 15) (v := ?v15t16) rfl (by kernel_rfl) (by kernel_rfl) (by kernel_rfl) (fun _ _ _ h => h) (Or.inl ⟨by rfl, ?y15t16⟩) S0 ?z15t16
        case y15t16 => intro w_ hSw; go_simp; with_reducible rfl
        try simp only [List.getElem_toArray, List.getElem_cons_zero, List.getElem_cons_succ, Act.put, List.setIfInBounds_toArray, List.set_cons_zero, List.set_cons_succ]
        refine wpAnyH_take (i := 16) (v := ?v16t17) rfl (by kernel_rfl) (by kernel_rfl) (by kernel_rfl) (fun _ _ _ h => h) (Or.inl ⟨by rfl, ?y16t17⟩) S0 ?z16t17
        case y16t17 => intro w_ hSw; go_simp; with_reducible rfl
        try simp only [List.getElem_toArray, List.getElem_cons_zero, List.getElem_cons_succ, Act.put, List.setIfInBounds_toArray, List.set_cons_zero, List.set_cons_succ]
        refine wpAnyH_take (i := 17) (v := ?v17t18) rfl (by kernel_rfl) (by kernel_rfl) (by kernel_rfl) (fun _ _ _ h => h) (Or.inl ⟨by rfl, ?y17t18⟩) S0 ?z17t18
        case y17t18 => intro w_ hSw; go_simp; with_reducible rfl
        try simp only [List.getElem_toArray, List.getElem_cons_zero, List.getElem_cons_succ, Act.put, List.setIfInBounds_toArray, List.set_cons_zero, List.set_cons_succ]
        refine wpAnyH_take (i := 18) (v := ?v18t19) rfl (by kernel_rfl) (by kernel_rfl) (by kernel_rfl) (fun _ _ _ h => h) (Or.inl ⟨by rfl, ?y18t19⟩) S0 ?z18t19
        case y18t19 => intro w_ hSw; go_simp; with_reducible rfl
        try simp only [List.getElem_toArray, List.getElem_cons_zero, List.getElem_cons_succ, Act.put, List.setIfInBounds_toArray, List.set_cons_zero, List.set_cons_succ]
        refine wpAnyH_take (i := 19) (v := ?v19t20) rfl (by kernel_rfl) (by kernel_rfl) (by kernel_rfl) (fun _ _ _ h => h) (Or.inl ⟨by rfl, ?y19t20⟩) S0 ?z19t20
        case y19t20 => intro w_ hSw; go_simp; with_reducible rfl
        try simp only [List.getElem_toArray, List.getElem_cons_zero, List.getElem_cons_succ, Act.put, List.setIfInBounds_toArray, List.set_cons_zero, List.set_cons_succ]
        refine wpAnyH_take (i := 20) (v := ?v20t21) rfl (by kernel_rfl) (by kernel_rfl) (by kernel_rfl) (fun _ _ _ h => h) (Or.inl ⟨by rfl, ?y20t21⟩) S0 ?z20t21
        case y20t21 => intro w_ hSw; go_simp; with_reducible rfl
        try simp only [List.getElem_toArray, List.getElem_cons_zero, List.getElem_cons_succ, Act.put, List.setIfInBounds_toArray, List.set_cons_zero, List.set_cons_succ]
        refine wpAnyH_take (i := 21) (v := ?v21t22) rfl (by kernel_rfl) (by kernel_rfl) (by kernel_rfl) (fun _ _ _ h => h) (Or.inl ⟨by rfl, ?y21t22⟩) S0 ?z21t22
        case y21t22 => intro w_ hSw; go_simp; with_reducible rfl
        try simp only [List.getElem_toArray, List.getElem_cons_zero, List.getElem_cons_succ, Act.put, List.setIfInBounds_toArray, List.set_cons_zero, List.set_cons_succ]
        refine wpAnyH_take (i := 22) (v := undef) rfl (by kernel_rfl) (by kernel_rfl) (by kernel_rfl) (fun _ _ _ h => h) (Or.inr ⟨by rfl, rfl⟩) S0 ?_
        try simp only [List.getElem_toArray, List.getElem_cons_zero, List.getElem_cons_succ, Act.put, List.setIfInBounds_toArray, List.set_cons_zero, List.set_cons_succ]
        refine wpAnyH_take (i := 23) (v := undef) rfl (by kernel_rfl) (by kernel_rfl) (by kernel_rfl) (fun _ _ _ h => h) (Or.inr ⟨by rfl, rfl⟩) S0 ?_
        try simp only [List.getElem_toArray, List.getElem_cons_zero, List.getElem_cons_succ, Act.put, List.setIfInBounds_toArray, List.set_cons_zero, List.set_cons_succ]
        refine wpAnyH_take (i := 24) (v := undef) rfl (by kernel_rfl) (by kernel_rfl) (by kernel_rfl) (fun _ _ _ h => h) (Or.inr ⟨by rfl, rfl⟩) S0 ?_
        try simp only [List.getElem_toArray, List.getElem_cons_zero, List.getElem_cons_succ, Act.put, List.setIfInBounds_toArray, List.set_cons_zero, List.set_cons_succ]
        refine wpAnyH_take (i := 25) (v := undef) rfl (by kernel_rfl) (by kernel_rfl) (by kernel_rfl) (fun _ _ _ h => h) (Or.inr ⟨by rfl, rfl⟩) S0 ?_
        try simp only [List.getElem_toArray, List.getElem_cons_zero, List.getElem_cons_succ, Act.put, List.setIfInBounds_toArray, List.set_cons_zero, List.set_cons_succ]
        refine wpAnyH_take (i := 26) (v := undef) rfl (by kernel_rfl) (by kernel_rfl) (by kernel_rfl) (fun _ _ _ h => h) (Or.inr ⟨by rfl, rfl⟩) S0 ?_
        try simp only [List.getElem_toArray, List.getElem_cons_zero, List.getElem_cons_succ, Act.put, List.setIfInBounds_toArray, List.set_cons_zero, List.set_cons_succ]
        refine wpAnyH_take (i := 27) (v := undef) rfl (by kernel_rfl) (by kernel_rfl) (by kernel_rfl) (fun _ _ _ h => h) (Or.inr ⟨by rfl, rfl⟩) S0 ?_
        try simp only [List.getElem_toArray, List.getElem_cons_zero, List.getElem_cons_succ, Act.put, List.setIfInBounds_toArray, List.set_cons_zero, List.set_cons_succ]
        refine wpAnyH_take (i := 28) (v := undef) rfl (by kernel_rfl) (by kernel_rfl) (by kernel_rfl) (fun _ _ _ h => h) (Or.inr ⟨by rfl, rfl⟩) S0 ?_
        try simp only [List.getElem_toArray, List.getElem_cons_zero, List.getElem_cons_succ, Act.put, List.setIfInBounds_toArray, List.set_cons_zero, List.set_cons_succ]
        refine wpAnyH_take (i := 29) (v := undef) rfl (by kernel_rfl) (by kernel_rfl) (by kernel_rfl) (fun _ _ _ h => h) (Or.inr ⟨by rfl, rfl⟩) S0 ?_
        try simp only [List.getElem_toArray, List.getElem_cons_zero, List.getElem_cons_succ, Act.put, List.setIfInBounds_toArray, List.set_cons_zero, List.set_cons_succ]
        refine wpAnyH_take (i := 30) (v := undef) rfl (by kernel_rfl) (by kernel_rfl) (by kernel_rfl) (fun _ _ _ h => h) (Or.inr ⟨by rfl, rfl⟩) S0 ?_
        try simp only [List.getElem_toArray, List.getElem_cons_zero, List.getElem_cons_succ, Act.put, List.setIfInBounds_toArray, List.set_cons_zero, List.set_cons_succ]
        refine wpAnyH_take (i := 31) (v := undef) rfl (by kernel_rfl) (by kernel_rfl) (by kernel_rfl) (fun _ _ _ h => h) (Or.inr ⟨by rfl, rfl⟩) S0 ?_
        try simp only [List.getElem_toArray, List.getElem_cons_zero, List.getElem_cons_succ, Act.put, List.setIfInBounds_toArray, List.set_cons_zero, List.set_cons_succ]
        refine wpAnyH_take (i := 32) (v := undef) rfl (by kernel_rfl) (by kernel_rfl) (by kernel_rfl) (fun _ _ _ h => h) (Or.inr ⟨by rfl, rfl⟩) S0 ?_
        try simp only [List.getElem_toArray, List.getElem_cons_zero, List.getElem_cons_succ, Act.put, List.setIfInBounds_toArray, List.set_cons_zero, List.set_cons_succ]
        refine wpAnyH_take (i := 33) (v := ?v33t23) rfl (by kernel_rfl) (by kernel_rfl) (by kernel_rfl) (fun _ _ _ h => h) (Or.inl ⟨by rfl, ?y33t23⟩) S0 ?z33t23
        case y33t23 => intro w_ hSw; go_simp; with_reducible rfl
        try simp only [List.getElem_toArray, List.getElem_cons_zero, List.getElem_cons_succ, Act.put, List.setIfInBounds_toArray, List.set_cons_zero, List.set_cons_succ]
        refine wpAnyH_take (i := 34) (v := ?v34t24) rfl (by kernel_rfl) (by kernel_rfl) (by kernel_rfl) (fun _ _ _ h => h) (Or.inl ⟨by rfl, ?y34t24⟩) S0 ?z34t24
        case y34t24 => intro w_ hSw; go_simp; with_reducible rfl
        try simp only [List.getElem_toArray, List.getElem_cons_zero, List.getElem_cons_succ, Act.put, List.setIfInBounds_toArray, List.set_cons_zero, List.set_cons_succ]
        refine wpAnyH_done (by kernel_rfl) ?_ _
        go_wp2_with fail
        go_roundw
        case rel => exact ⟨k + 1, by omega, by go_num, (HB.out).drew⟩
        case measure => simp [intOf]; omega
      · have hd2 : decide (k < n) = false := by simpa using hkn
        have hge : decide (n ≤ k) = true := by simp; omega
        rw [ith_right (by rw [hN.out]; omega), hN.out, ith_imarks (by omega)] at cg0
        rw [show ((k - n : Nat) : Int) = (k : Int) - n from by omega] at cg0
        unfold imark at cg0
        have hw : IntKind.i64.wrap ((k : Int) - (n : Int)) = (k : Int) - n := by rw [IntKind.wrap_i64]; omega
        have M := fun W => Lib.hid (markIns 1 ((k : Int) - n) (by decide) (by decide) (by omega) (by omega) W)
        generalize 1000003 * ((1 : Int) + 7) + ((k : Int) - (n : Int)) = z at cg0 M
        clear hst
        have S0 := (cg0.past (Below.refl wr.heap.size wr).drew).limbs
        obtain ⟨x0, x1, x2, x3, x4, x5, x6, x7⟩ := cg0
        simp only at S0 x0 x1 x2 x3 x4 x5 x6 x7
        go_wp2_with fail
        refine wp_region_held_drew (S := (fun w' => w'.cell? ⟨g, k * 8, none⟩ = some (.int .u8 0) ∧ w'.cell? ⟨g, k * 8 + 1, none⟩ = some (.bool false) ∧ w'.cell? ⟨g, k * 8 + 2, none⟩ = some (.int .i64 0) ∧ w'.cell? ⟨g, k * 8 + 3, none⟩ = some (.int .i64 0) ∧ w'.cell? ⟨g, k * 8 + 4, none⟩ = some (.bool false) ∧ w'.cell? ⟨g, k * 8 + 5, none⟩ = some (.int .i64 z) ∧ w'.cell? ⟨g, k * 8 + 6, none⟩ = some (.int .i64 0) ∧ w'.cell? ⟨g, k * 8 + 7, none⟩ = some (.int .i64 0))) (by kernel_rfl) S0 (fun S0 => ?_)
        refine wpAnyH_take (i := 0) (v := ?v0t25) rfl (by kernel_rfl) (by kernel_rfl) (by kernel_rfl) (fun _ _ _ h => h) (Or.inl ⟨by rfl, ?y0t25⟩) S0 ?z0t25
        case y0t25 => intro w_ hSw; go_simp; with_reducible rfl
        try simp only [List.getElem_toArray, List.getElem_cons_zero, List.getElem_cons_succ, Act.put, List.setIfInBounds_toArray, List.set_cons_zero, List.set_cons_succ]
        refine wpAnyH_take (i := 1) (v := ?v1t26) rfl (by kernel_rfl) (by kernel_rfl) (by kernel_rfl) (fun _ _ _ h => h) (Or.inl ⟨by rfl, ?y1t26⟩) S0 ?z1t26
        case y1t26 => intro w_ hSw; go_simp; with_reducible rfl
        try simp only [List.getElem_toArray, List.getElem_cons_zero, List.getElem_cons_succ, Act.put, List.setIfInBounds_toArray, List.set_cons_zero, List.set_cons_succ]
        refine wpAnyH_take (i := 2) (v := ?v2t27) rfl (by kernel_rfl) (by kernel_rfl) (by kernel_rfl) (fun _ _ _ h => h) (Or.inl ⟨by rfl, ?y2t27⟩) S0 ?z2t27
        case y2t27 => intro w_ hSw; go_simp; with_reducible rfl
        try simp only [List.getElem_toArray, List.getElem_cons_zero, List.getElem_cons_succ, Act.put, List.setIfInBounds_toArray, List.set_cons_zero, List.set_cons_succ]
        refine wpAnyH_take (i := 3) (v := ?v3t28) rfl (by kernel_rfl) (by kernel_rfl) (by kernel_rfl) (fun _ _ _ h => h) (Or.inl ⟨by rfl, ?y3t28⟩) S0 ?z3t28
        case y3t28 => intro w_ hSw; go_simp; with_reducible rfl
        try simp only [List.getElem_toArray, List.getElem_cons_zero, List.getElem_cons_succ, Act.put, List.setIfInBounds_toArray, List.set_cons_zero, List.set_cons_succ]
        refine wpAnyH_take (i := 4) (v := ?v4t29) rfl (by kernel_rfl) (by kernel_rfl) (by kernel_rfl) (fun _ _ _ h => h) (Or.inl ⟨by rfl, ?y4t29⟩) S0 ?z4t29
        case y4t29 => intro w_ hSw; go_simp; with_reducible rfl
        try simp only [List.getElem_toArray, List.getElem_cons_zero, List.getElem_cons_succ, Act.put, List.setIfInBounds_toArray, List.set_cons_zero, List.set_cons_succ]
        refine wpAnyH_take (i := 5) (v := undef) rfl (by kernel_rfl) (by kernel_rfl) (by kernel_rfl) (fun _ _ _ h => h) (Or.inr ⟨by rfl, rfl⟩) S0 ?_
        try simp only [List.getElem_toArray, List.getElem_cons_zero, List.getElem_cons_succ, Act.put, List.setIfInBounds_toArray, List.set_cons_zero, List.set_cons_succ]
        refine wpAnyH_take (i := 6) (v := undef) rfl (by kernel_rfl) (by kernel_rfl) (by kernel_rfl) (fun _ _ _ h => h) (Or.inr ⟨by rfl, rfl⟩) S0 ?_
        try simp only [List.getElem_toArray, List.getElem_cons_zero, List.getElem_cons_succ, Act.put, List.setIfInBounds_toArray, List.set_cons_zero, List.set_cons_succ]
        refine wpAnyH_take (i := 7) (v := undef) rfl (by kernel_rfl) (by kernel_rfl) (by kernel_rfl) (fun _ _ _ h => h) (Or.inr ⟨by rfl, rfl⟩) S0 ?_
        try simp only [List.getElem_toArray, List.getElem_cons_zero, List.getElem_cons_succ, Act.put, List.setIfInBounds_toArray, List.set_cons_zero, List.set_cons_succ]
        refine wpAnyH_take (i := 8) (v := undef) rfl (by kernel_rfl) (by kernel_rfl) (by kernel_rfl) (fun _ _ _ h => h) (Or.inr ⟨by rfl, rfl⟩) S0 ?_
        try simp only [List.getElem_toArray, List.getElem_cons_zero, List.getElem_cons_succ, Act.put, List.setIfInBounds_toArray, List.set_cons_zero, List.set_cons_succ]
        refine wpAnyH_take (i := 9) (v := undef) rfl (by kernel_rfl) (by kernel_rfl) (by kernel_rfl) (fun _ _ _ h => h) (Or.inr ⟨by rfl, rfl⟩) S0 ?_
        try simp only [List.getElem_toArray, List.getElem_cons_zero, List.getElem_cons_succ, Act.put, List.setIfInBounds_toArray, List.set_cons_zero, List.set_cons_succ]
        refine wpAnyH_take (i := 10) (v := undef) rfl (by kernel_rfl) (by kernel_rfl) (by kernel_rfl) (fun _ _ _ h => h) (Or.inr ⟨by rfl, rfl⟩) S0 ?_
        try simp only [List.getElem_toArray, List.getElem_cons_zero, List.getElem_cons_succ, Act.put, List.setIfInBounds_toArray, List.set_cons_zero, List.set_cons_succ]
        refine wpAnyH_take (i := 11) (v := undef) rfl (by kernel_rfl) (by kernel_rfl) (by kernel_rfl) (fun _ _ _ h => h) (Or.inr ⟨by rfl, rfl⟩) S0 ?_
        try simp only [List.getElem_toArray, List.getElem_cons_zero, List.getElem_cons_succ, Act.put, List.setIfInBounds_toArray, List.set_cons_zero, List.set_cons_succ]
        refine wpAnyH_take (i := 12) (v := undef) rfl (by kernel_rfl) (by kernel_rfl) (by kernel_rfl) (fun _ _ _ h => h) (Or.inr ⟨by rfl, rfl⟩) S0 ?_
        try simp only [List.getElem_toArray, List.getElem_cons_zero, List.getElem_cons_succ, Act.put, List.setIfInBounds_toArray, List.set_cons_zero, List.set_cons_succ]
        refine wpAnyH_take (i := 13) (v := undef) rfl (by kernel_rfl) (by kernel_rfl) (by kernel_rfl) (fun _ _ _ h => h) (Or.inr ⟨by rfl, rfl⟩) S0 ?_
        try simp only [List.getElem_toArray, List.getElem_cons_zero, List.getElem_cons_succ, Act.put, List.setIfInBounds_toArray, List.set_cons_zero, List.set_cons_succ]
        refine wpAnyH_take (i := 14) (v := undef) rfl (by kernel_rfl) (by kernel_rfl) (by kernel_rfl) (fun _ _ _ h => h) (Or.inr ⟨by rfl, rfl⟩) S0 ?_
        try simp only [List.getElem_toArray, List.getElem_cons_zero, List.getElem_cons_succ, Act.put, List.setIfInBounds_toArray, List.set_cons_zero, List.set_cons_succ]
        refine wpAnyH_take (i := 15) (v := ?v15t30) rfl (by kernel_rfl) (by kernel_rfl) (by kernel_rfl) (fun _ _ _ h => h) (Or.inl ⟨by rfl, ?y15t30⟩) S0 ?z15t30
        case y15t30 => intro w_ hSw; go_simp; with_reducible rfl
        try simp only [List.getElem_toArray, List.getElem_cons_zero, List.getElem_cons_succ, Act.put, List.setIfInBounds_toArray, List.set_cons_zero, List.set_cons_succ]
        refine wpAnyH_take (i := 16) (v := ?v16t31) rfl (by kernel_rfl) (by kernel_rfl) (by kernel_rfl) (fun _ _ _ h => h) (Or.inl ⟨by rfl, ?y16t31⟩) S0 ?z16t31
        case y16t31 => intro w_ hSw; go_simp; with_reducible rfl
        try simp only [List.getElem_toArray, List.getElem_cons_zero, List.getElem_cons_succ, Act.put, List.setIfInBounds_toArray, List.set_cons_zero, List.set_cons_succ]
        refine wpAnyH_take (i := 17) (v := ?v17t32) rfl (by kernel_rfl) (by kernel_rfl) (by kernel_rfl) (fun _ _ _ h => h) (Or.inl ⟨by rfl, ?y17t32⟩) S0 ?z17t32
        case y17t32 => intro w_ hSw; go_simp; with_reducible rfl
        try simp only [List.getElem_toArray, List.getElem_cons_zero, List.getElem_cons_succ, Act.put, List.setIfInBounds_toArray, List.set_cons_zero, List.set_cons_succ]
        refine wpAnyH_take (i := 18) (v := ?v18t33) rfl (by kernel_rfl) (by kernel_rfl) (by kernel_rfl) (fun _ _ _ h => h) (Or.inl ⟨by rfl, ?y18t33⟩) S0 ?z18t33
        case y18t33 => intro w_ hSw; go_simp; with_reducible rfl
        try simp only [List.getElem_toArray, List.getElem_cons_zero, List.getElem_cons_succ, Act.put, List.setIfInBounds_toArray, List.set_cons_zero, List.set_cons_succ]
        refine wpAnyH_take (i := 19) (v := ?v19t34) rfl (by kernel_rfl) (by kernel_rfl) (by kernel_rfl) (fun _ _ _ h => h) (Or.inl ⟨by rfl, ?y19t34⟩) S0 ?z19t34
        case y19t34 => intro w_ hSw; go_simp; with_reducible rfl
        try simp only [List.getElem_toArray, List.getElem_cons_zero, List.getElem_cons_succ, Act.put, List.setIfInBounds_toArray, List.set_cons_zero, List.set_cons_succ]
        refine wpAnyH_take (i := 20) (v := ?v20t35) rfl (by kernel_rfl) (by kernel_rfl) (by kernel_rfl) (fun _ _ _ h => h) (Or.inl ⟨by rfl, ?y20t35⟩) S0 ?z20t35
        case y20t35 => intro w_ hSw; go_simp; with_reducible rfl
        try simp only [List.getElem_toArray, List.getElem_cons_zero, List.getElem_cons_succ, Act.put, List.setIfInBounds_toArray, List.set_cons_zero, List.set_cons_succ]
        refine wpAnyH_take (i := 21) (v := ?v21t36) rfl (by kernel_rfl) (by kernel_rfl) (by kernel_rfl) (fun _ _ _ h => h) (Or.inl ⟨by rfl, ?y21t36⟩) S0 ?z21t36
        case y21t36 => intro w_ hSw; go_simp; with_reducible rfl
        try simp only [List.getElem_toArray, List.getElem_cons_zero, List.getElem_cons_succ, Act.put, List.setIfInBounds_toArray, List.set_cons_zero, List.set_cons_succ]
        refine wpAnyH_take (i := 22) (v := ?v22t37) rfl (by kernel_rfl) (by kernel_rfl) (by kernel_rfl) (fun _ _ _ h => h) (Or.inl ⟨by rfl, ?y22t37⟩) S0 ?z22t37
        case y22t37 => intro w_ hSw; go_simp; with_reducible rfl
        try simp only [List.getElem_toArray, List.getElem_cons_zero, List.getElem_cons_succ, Act.put, List.setIfInBounds_toArray, List.set_cons_zero, List.set_cons_succ]
        refine wpAnyH_take (i := 23) (v := ?v23t38) rfl (by kernel_rfl) (by kernel_rfl) (by kernel_rfl) (fun _ _ _ h => h) (Or.inl ⟨by rfl, ?y23t38⟩) S0 ?z23t38
        case y23t38 => intro w_ hSw; go_simp; with_reducible rfl
        try simp only [List.getElem_toArray, List.getElem_cons_zero, List.getElem_cons_succ, Act.put, List.setIfInBounds_toArray, List.set_cons_zero, List.set_cons_succ]
        refine wpAnyH_take (i := 24) (v := ?v24t39) rfl (by kernel_rfl) (by kernel_rfl) (by kernel_rfl) (fun _ _ _ h => h) (Or.inl ⟨by rfl, ?y24t39⟩) S0 ?z24t39
        case y24t39 => intro w_ hSw; (try dsimp only at hSw); go_simp; with_reducible rfl
        try simp only [List.getElem_toArray, List.getElem_cons_zero, List.getElem_cons_succ, Act.put, List.setIfInBounds_toArray, List.set_cons_zero, List.set_cons_succ]
        refine wpAnyH_take (i := 25) (v := ?v25t40) rfl (by kernel_rfl) (by kernel_rfl) (by kernel_rfl) (fun _ _ _ h => h) (Or.inl ⟨by rfl, ?y25t40⟩) S0 ?z25t40
        case y25t40 => intro w_ hSw; (try dsimp only at hSw); go_simp; with_reducible rfl
        try simp only [List.getElem_toArray, List.getElem_cons_zero, List.getElem_cons_succ, Act.put, List.setIfInBounds_toArray, List.set_cons_zero, List.set_cons_succ]
        refine wpAnyH_take (i := 26) (v := ?v26t41) rfl (by kernel_rfl) (by kernel_rfl) (by kernel_rfl) (fun _ _ _ h => h) (Or.inl ⟨by rfl, ?y26t41⟩) S0 ?z26t41
        case y26t41 => intro w_ hSw; go_simp; with_reducible rfl
        try simp only [List.getElem_toArray, List.getElem_cons_zero, List.getElem_cons_succ, Act.put, List.setIfInBounds_toArray, List.set_cons_zero, List.set_cons_succ]
        refine wpAnyH_take (i := 27) (v := ?v27t42) rfl (by kernel_rfl) (by kernel_rfl) (by kernel_rfl) (fun _ _ _ h => h) (Or.inl ⟨by rfl, ?y27t42⟩) S0 ?z27t42
        case y27t42 => intro w_ hSw; go_simp; with_reducible rfl
        try simp only [List.getElem_toArray, List.getElem_cons_zero, List.getElem_cons_succ, Act.put, List.setIfInBounds_toArray, List.set_cons_zero, List.set_cons_succ]
        refine wpAnyH_take (i := 28) (v := ?v28t43) rfl (by kernel_rfl) (by kernel_rfl) (by kernel_rfl) (fun _ _ _ h => h) (Or.inl ⟨by rfl, ?y28t43⟩) S0 ?z28t43
        case y28t43 => intro w_ hSw; go_simp; with_reducible rfl
        try simp only [List.getElem_toArray, List.getElem_cons_zero, List.getElem_cons_succ, Act.put, List.setIfInBounds_toArray, List.set_cons_zero, List.set_cons_succ]
        refine wpAnyH_take (i := 29) (v := ?v29t44) rfl (by kernel_rfl) (by kernel_rfl) (by kernel_rfl) (fun _ _ _ h => h) (Or.inl ⟨by rfl, ?y29t44⟩) S0 ?z29t44
        case y29t44 => intro w_ hSw; go_simp; with_reducible rfl
        try simp only [List.getElem_toArray, List.getElem_cons_zero, List.getElem_cons_succ, Act.put, List.setIfInBounds_toArray, List.set_cons_zero, List.set_cons_succ]
        refine wpAnyH_ready (rs := [30]) (by kernel_rfl) (by simp) ?_
        refine AllReadyH.cons rfl (fun K hK => ?_) AllReadyH.nil
        go_simp
        try simp only [hw]
        refine ((M _).out).mono ?_; rintro e w2 ⟨rfl, b2⟩; have S1 := eight_past_at S0 b2
        try go_wp2_with fail
        refine hK.out _ _ S1 (fun _ => ?_)
        clear hK K
        try simp only [List.getElem_toArray, List.getElem_cons_zero, List.getElem_cons_succ, Act.put, List.setIfInBounds_toArray, List.set_cons_zero, List.set_cons_succ]
        refine wpAnyH_take (i := 31) (v := ?v31t45) rfl (by kernel_rfl) (by kernel_rfl) (by kernel_rfl) (fun _ _ _ h => h) (Or.inl ⟨by rfl, ?y31t45⟩) S1 ?z31t45
        case y31t45 => intro w_ hSw; go_simp; with_reducible rfl
        try simp only [List.getElem_toArray, List.getElem_cons_zero, List.getElem_cons_succ, Act.put, List.setIfInBounds_toArray, List.set_cons_zero, List.set_cons_succ]
        refine wpAnyH_take (i := 32) (v := ?v32t46) rfl (by kernel_rfl) (by kernel_rfl) (by kernel_rfl) (fun _ _ _ h => h) (Or.inl ⟨by rfl, ?y32t46⟩) S1 ?z32t46
        case y32t46 => intro w_ hSw; go_simp; with_reducible rfl
        try simp only [List.getElem_toArray, List.getElem_cons_zero, List.getElem_cons_succ, Act.put, List.setIfInBounds_toArray, List.set_cons_zero, List.set_cons_succ]
        refine wpAnyH_take (i := 33) (v := ?v33t47) rfl (by kernel_rfl) (by kernel_rfl) (by kernel_rfl) (fun _ _ _ h => h) (Or.inl ⟨by rfl, ?y33t47⟩) S1 ?z33t47
        case y33t47 => intro w_ hSw; go_simp; with_reducible rfl
        try simp only [List.getElem_toArray, List.getElem_cons_zero, List.getElem_cons_succ, Act.put, List.setIfInBounds_toArray, List.set_cons_zero, List.set_cons_succ]
        refine wpAnyH_take (i := 34) (v := ?v34t48) rfl (by kernel_rfl) (by kernel_rfl) (by kernel_rfl) (fun _ _ _ h => h) (Or.inl ⟨by rfl, ?y34t48⟩) S1 ?z34t48
        case y34t48 => intro w_ hSw; go_simp; with_reducible rfl
        try simp only [List.getElem_toArray, List.getElem_cons_zero, List.getElem_cons_succ, Act.put, List.setIfInBounds_toArray, List.set_cons_zero, List.set_cons_succ]
        refine wpAnyH_done (by kernel_rfl) ?_ _
        go_wp2_with fail
        go_roundw
        case rel => exact ⟨k + 1, by omega, by go_num, ((HB.out).drew).trans (b2.mono (HB.out).size)⟩
        case measure => simp [intOf]; omega
    · have hd : decide (k < n + 12) = false := by simpa using hlt
      go_wp2_with fail
      go_ret
      exact ⟨rfl, HB.out⟩
end Go.Proofs.YthfkmackodbmkaaGreatDoor
