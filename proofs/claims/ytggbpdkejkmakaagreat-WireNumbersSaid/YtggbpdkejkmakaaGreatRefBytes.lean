/- Contracts of the document's own reader: Bytes, Entry. -/
import Derived.Test.YtggbpdkejkmakaaGreatRefRdr
import Derived.Test.YtggbpdkejkmakaaGreatApartB
import Derived.Test.YtggbpdkejkmakaaGreatPuts
namespace Go.Proofs.YtggbpdkejkmakaaGreat
open Go.RowKit
set_option linter.unusedVariables false
set_option linter.unusedSimpArgs false

/-- The part from p to p + m of a slice, as the walk takes it. -/
theorem slice_part (ao : Option Addr) (n cap p m : Nat) (h2 : p + m ≤ cap) (W : World) :
    (Instr.slice 23 (.slice ao n cap) (some (.int .i64 (p : Nat))) (some (.int .i64 ((p + m : Nat) : Int))) none).run Tryz.prog W = .ok (.slice (if cap - p = 0 then ao else ao.map (·.add p)) m (cap - p)) W := by
  have he : Tryz.prog.underlying 23 = some (.slice (Tryz.prog.elem 23)) := by kernel_rfl
  obtain ⟨i, hi, _, hs1, _⟩ := u8info
  have hel : Tryz.prog.elem 23 = 5 := by kernel_rfl
  rw [run_slice_lh W 23 ao n cap he .i64 .i64 (p : Nat) ((p + m : Nat) : Int) (by omega) (by omega) (by omega)]
  rw [hel]
  have e3 : (if cap = p then ao else ao.map (·.add (p * 1))) = (if cap - p = 0 then ao else ao.map (·.add p)) := by
    by_cases h : cap = p
    · rw [if_pos h, if_pos (by omega)]
    · rw [if_neg h, if_neg (by omega), Nat.mul_one]
  have hsz : (sizeOf 5).run Tryz.prog W = .ok 1 W := by simp [sizeOf, typeInfo, hi, hs1]
  rw [hsz]
  simp only [Result.andThen, sliced, Int.toNat_natCast]
  rw [e3, Nat.add_sub_cancel_left]

/-- A slice taken, inside a region that draws its order. -/
theorem step_slice {w : World} {ops : Array Oper} {o : Oper} {a : Act} {K : Act → World → Prop} {Q : Exit → Act → World → Prop} {E : Prop} (hgd : o.guard = none) (s lo hi : Operand)
    (ho : o.op = .slice 23 s (some lo) (some hi) none) (v l h u : Value) (hs : a.eval s = v) (hl : a.eval lo = l) (hh : a.eval hi = h)
    (hrun : ∀ W, (Instr.slice 23 v (some l) (some h) none).run Tryz.prog W = .ok u W) (k : K (a.put o.dst u) w) :
    if Region.wanted o (yielded ops a.tmps) = true then Oper.wp Tryz.prog o a w K Q else E := by
  have hw : Region.wanted o (yielded ops a.tmps) = true := by simp [Region.wanted, hgd]
  rw [if_pos hw]
  have he : Tryz.prog.underlying 23 = some (.slice (Tryz.prog.elem 23)) := by kernel_rfl
  have h2 := run_sliceAt_slice (P := Tryz.prog) w 23 v (some l) (some h) none he
  rw [hrun] at h2
  unfold Oper.wp
  simp [execOp, ho, hs, hl, hh, h2, Result.andThen]
  exact k

theorem keep2 {w w' : World} {o : Obj} {D n c : Nat} {x y : Value} (hD : D < w.heap.size) (h : (w.alloc o).drew.grownBy w' (Value.slice (some ⟨w.heap.size, 0, none⟩) n c).ownBlock) (h0 : w.cell? ⟨D, 0, none⟩ = some x) (h1 : w.cell? ⟨D, 1, none⟩ = some y) :
    w'.cell? ⟨D, 0, none⟩ = some x ∧ w'.cell? ⟨D, 1, none⟩ = some y := by
  have e : some D ≠ (Value.slice (some ⟨w.heap.size, 0, none⟩) n c).ownBlock := fun e => by have e := Option.some.inj e; dsimp only at e; omega
  have a0 : (w.alloc o).drew.cell? ⟨D, 0, none⟩ = some x := by rw [← h0]; exact World.cell?_alloc_past _ _ _ hD
  have a1 : (w.alloc o).drew.cell? ⟨D, 1, none⟩ = some y := by rw [← h1]; exact World.cell?_alloc_past _ _ _ hD
  exact ⟨h.cell a0 e, h.cell a1 e⟩

theorem new_grown {w w' : World} {o : Obj} {n c : Nat} (h : (w.alloc o).drew.grownBy w' (Value.slice (some ⟨w.heap.size, 0, none⟩) n c).ownBlock) : w.grownBy w' none := by
  have hs : w.heap.size ≤ (w.alloc o).drew.heap.size := (alloc_grown w o none).size
  exact ⟨h.os, h.tape, h.output, Nat.le_trans hs h.size, fun k hk _ => (h.block k (Nat.lt_of_lt_of_le hk hs) (fun e => by have e := Option.some.inj e; dsimp only at e; omega)).trans (heap_alloc_old w o hk)⟩

set_option maxHeartbeats 2000000 in
set_option maxRecDepth 100000 in
theorem refBytes_ok (D m : Nat) (r : List Int) (w : World) (N : Hid (Calls Tryz.prog 25 #[.pointer (some ⟨D, 0, none⟩)] w (Says D (.int .i64 m) (some r) w))) (hn : m ≤ r.length) (hs : r.length ≤ 140737488351232) :
    Calls Tryz.prog 27 #[.pointer (some ⟨D, 0, none⟩)] w (SaysNew D (r.take m) (some (r.drop m)) w) := by
  have HN := Lib.hid hn
  have HSZ := Lib.hid hs
  clear hn hs
  go_enter Tryz.func27, Tryz.ntmps27
  go_wp2_with fail
  refine (N.out).mono ?_
  rintro e w1 ⟨rfl, ⟨L, p, h, hr⟩, hg⟩
  obtain ⟨ao, cap, c0, c1, c2, fr, hl, hm, hb⟩ := h.cells
  have f1 := fr 1
  have hp := h.2.1
  have H := Lib.hid h
  have HG := Lib.hid hg
  have hrl : r.length = L.length - p := by rw [hr]; simp
  have HR := Lib.hid hrl
  have HRR := Lib.hid hr
  have hm' : cap ≤ 9223372036854775807 := by unfold maxLen at hm; omega
  have e1 : wrap64 ((L.length : Int) - (p : Int)) = (L.length : Int) - p := IntWalk.wrap64_in _ ⟨by omega, by omega⟩
  have hd : decide ((m : Int) < 0) = false := by simp
  have hd2 : decide ((L.length : Int) - (p : Int) < m) = false := by have := HN.out; have := HR.out; simp; omega
  have hmL : p + m ≤ L.length := by have := HN.out; have := HR.out; omega
  clear h hb fr hg hr hrl hm
  go_wp2_with fail
  go_quiet (fail)
  go_upto_region 6 with fail
  rw [show ((p : Int) + (m : Int)) = ((p + m : Nat) : Int) from by omega]
  have H2 := Lib.hid (((H.out).drewN nq).set1 (p + m) hmL)
  have G2 := Lib.hid (grownBy_trans (HG.out) (grownBy_trans (grownBy_drewN w1 nq (some D)) (grownBy_setCell (w1.drewN nq) ⟨D, 1, none⟩ (.int .i64 ((p + m : Nat) : Int)))))
  generalize (w1.drewN nq).setCell ⟨D, 1, none⟩ (.int .i64 ((p + m : Nat) : Int)) = w2 at *
  clear c0 c1 c2 f1 hd hd2 e1 HG H hl hm' N
  generalize hq : p + m = q at *
  have HQ := Lib.hid hq
  obtain ⟨ao2, cap2, c0, c1, c2, fr, hl, hm, hb⟩ := (H2.out).cells
  have f1 := fr 1
  have hm' : cap2 ≤ 9223372036854775807 := by unfold maxLen at hm; omega
  have e1 : wrap64 ((q : Int) - (m : Int)) = (p : Int) := by rw [IntWalk.wrap64_in _ ⟨by omega, by omega⟩]; omega
  obtain ⟨u, hu, hsl⟩ : ∃ u, Bs w2 u ((L.drop p).take m) ∧ ∀ W, (Instr.slice 23 (.slice ao2 L.length cap2) (some (.int .i64 (p : Nat))) (some (.int .i64 (q : Int))) none).run Tryz.prog W = .ok u W :=
    ⟨_, (hb.drop hp).take (n := m) (by rw [List.length_drop]; omega), by subst hq; exact slice_part ao2 L.length cap2 p m (by omega)⟩
  have HU := Lib.hid hu
  have e2 : IntKind.i64.wrap ((q : Int) - (m : Int)) = (p : Int) := by rw [IntKind.wrap_i64]; omega
  have hlt2 := (H2.out).lt
  clear fr hm hb hu hl hm' hq hmL
  go_region_held3 (fun w' => w'.cell? ⟨D, 0, none⟩ = some (.slice ao2 L.length cap2) ∧ w'.cell? ⟨D, 1, none⟩ = some (.int .i64 (q : Int))) (first | (with_reducible assumption) | go_keep) (first | (refine step_slice (by rfl) (.tmp 44) (.tmp 50) (.tmp 54) (by rfl) _ _ _ u (by rfl) (by rfl) (by rfl) hsl ?_) | (refine step_append_any (by rfl) (.tmp 40) (.tmp 55) (by rfl) w2.heap.size (.slice (some ⟨w2.heap.size, 0, none⟩) 0 0) [] (by rfl) (made_drew w2) u ((L.drop p).take m) (by rfl) (((HU.out).alloc _).drewN 1) (by have := HSZ.out; have := HR.out; simp; omega) (by simp) ?_; intro v3 w3 o3 g3; have S3 := keep2 hlt2 g3 c0 c1) | fail)
  go_wp2_with fail
  go_ret
  have hg3 := new_grown g3
  refine ⟨v3, rfl, ?_, ⟨L, q, (H2.out).keep hg3 (fun _ hk => by cases hk), ?_⟩, ?_⟩
  · have := o3.mono (G2.out).size
    rw [HRR.out]
    simpa using this
  · rw [HRR.out, List.drop_drop, HQ.out]
  · have g2 := G2.out
    exact ⟨hg3.os.trans g2.os, hg3.tape.trans g2.tape, hg3.output.trans g2.output, Nat.le_trans g2.size hg3.size, fun k hk hne => (hg3.block k (Nat.lt_of_lt_of_le hk g2.size) (by simp)).trans (g2.block k hk hne)⟩
end Go.Proofs.YtggbpdkejkmakaaGreat
