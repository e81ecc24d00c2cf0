/- Contracts of what the laws of layer 3 use: great, own, theirs, same. -/
import Derived.Test.YtkiagnlpnphghaaDoorFrRefScan
namespace Go.Proofs.YtkiagnlpnphghaaDoor
open Go.RowKit
set_option linter.unusedVariables false
set_option linter.unusedSimpArgs false

/-- How many bytes of Data all frames have. -/
def total : List Fr → Nat
  | [] => 0
  | f :: fs => f.2.length + total fs
theorem total_append (a b : List Fr) : total (a ++ b) = total a + total b := by
  induction a with
  | nil => simp [total]
  | cons f a ih => simp only [List.cons_append, total, ih]; omega
theorem total_take {fs : List Fr} {k : Nat} (h : k < fs.length) : total (fs.take (k + 1)) = total (fs.take k) + (fth fs k).2.length := by
  rw [take_fth h, total_append]; simp [total]
theorem total_le (fs : List Fr) (k : Nat) : total (fs.take k) ≤ total fs := by
  have : total fs = total (fs.take k) + total (fs.drop k) := by rw [← total_append, List.take_append_drop]
  omega
theorem frms_total (fs : List Fr) : (frms fs).length = 9 * fs.length + total fs := by
  induction fs with
  | nil => rfl
  | cons f fs ih => simp only [frms, List.length_append, frm_length, ih, total, List.length_cons]; omega
theorem total_each {fs : List Fr} {k : Nat} (h : k < fs.length) : (fth fs k).2.length ≤ total fs := by
  have := total_take h
  have := total_le fs (k + 1)
  omega

/-- No frame's Data is longer than memory. -/
def Short (fs : List Fr) : Prop := ∀ f ∈ fs, f.2.length ≤ 140737488351232
/-- e tells whether the frames are great; the world stays. -/
def Greats (fs : List Fr) (w : World) (e : Ending) (w' : World) : Prop := ∃ g : Bool, e = .returned (.bool g) ∧ w = w' ∧ (g = false → fs.length + total fs ≤ 20000)
set_option maxHeartbeats 1000000 in
set_option maxRecDepth 100000 in
theorem great (v : Value) (vs : List Value) (fs : List Fr) (w : World) (h : Frs w v vs fs) (hsh : Short fs) :
    Calls Tryd.prog 8 #[v] w (Greats fs w) := by
  have HS := Lib.hid hsh
  clear hsh
  obtain ⟨ao, cap, hsh⟩ := h.shape
  have hln := h.len
  have H := Lib.hid h
  subst hsh
  clear h
  generalize hn : fs.length = n at *
  have hN := Lib.hid hn
  clear hn
  go_enter Tryd.func8, Tryd.ntmps8
  go_wp2
  go_loop [3, 4] (fun s i => ∃ (k m : Nat), k ≤ n ∧ i = .int .i64 k ∧ s = .int .i64 m ∧ Hid (m = n + total (fs.take k)) ∧ (0 < k → (m : Int) ≤ 9223372036854775807)) (fun _ i => n - (intOf i).toNat)
  case atStart => exact ⟨0, n, Nat.zero_le _, rfl, rfl, Lib.hid (by simp [total]), fun h => absurd h (Nat.lt_irrefl _)⟩
  case round =>
    obtain ⟨k, m, hk, rfl, rfl, HM, hm⟩ := hrel
    by_cases hlt : k < n
    · have hd : decide (k < n) = true := by simpa using hlt
      by_cases hq : m ≤ 20000
      · have hdq : decide ((m : Int) ≤ 20000) = true := by simp; omega
        obtain ⟨b, off, cap', hsh, hbl, hf⟩ := (H.out).at (j := k) (by have := hN.out; omega)
        have hao : ao = some ⟨b, off, none⟩ := by cases hsh; rfl
        subst hao
        have ht := Lib.hid (total_take (fs := fs) (k := k) (by have := hN.out; omega))
        obtain ⟨ak, ck, hsk⟩ := hf.bs.shape
        have f1 := hf.c1
        have hdl := hf.bs.len
        have hdm := HS.out (fth fs k) (fth_mem (by have := hN.out; omega))
        rw [hsk] at f1
        clear hf hsh hsk hdl
        generalize (fth fs k).2.length = d at *
        have hw : IntKind.i64.wrap ((m : Int) + (d : Int)) = ((m + d : Nat) : Int) := by rw [IntWalk.i64_in _ (by omega)]; omega
        go_wp2
        go_round
        case rel => exact ⟨k + 1, m + d, by omega, by go_num, by go_num, Lib.hid (by rw [ht.out, HM.out]; omega), fun _ => by omega⟩
        case measure => simp [intOf]; omega
      · have hdq : decide ((m : Int) ≤ 20000) = false := by simp; omega
        have hdg : decide ((20000 : Int) < m) = true := by simp; omega
        go_wp2
        go_ret
        exact ⟨true, rfl, rfl, fun h => by cases h⟩
    · have hd : decide (k < n) = false := by simpa using hlt
      have hk' : k = n := by omega
      subst hk'
      have HT := Lib.hid (show fs.take k = fs from List.take_of_length_le (by have := hN.out; omega))
      by_cases hq : m ≤ 20000
      · have hdg : decide ((20000 : Int) < m) = false := by simp; omega
        go_wp2
        go_ret
        exact ⟨false, rfl, rfl, fun _ => by have := HM.out; rw [HT.out] at this; have := hN.out; omega⟩
      · have hdg : decide ((20000 : Int) < m) = true := by simp; omega
        go_wp2
        go_ret
        exact ⟨true, rfl, rfl, fun h => by cases h⟩

/-- append, of one frame, inside a region that draws its order. -/
theorem step_append_f {w : World} {ops : Array Oper} {o : Oper} {a : Act} {K : Act → World → Prop} {Q : Exit → Act → World → Prop} {E : Prop} (t tl : TypeId) (htl : Tryd.prog.underlying tl = some (.slice t)) (ht : t = 36 ∨ t = 46) (hgd : o.guard = none) (s x : Operand)
    (ho : o.op = .call { callee := .builtin .append, args := #[s, x], argTypes := #[tl, tl] })
    (base : Nat) (v : Value) (vs : List Value) (fs : List Fr) (hs : a.eval s = v) (hown : OwnF t w base v vs fs) (b : Nat) (f : Fr) (u : Value) (hu : u.oneCell' = true) (hx : a.eval x = .slice (some ⟨b, 0, none⟩) 1 1) (h0 : w.cell? ⟨b, 0, none⟩ = some (.int .i64 f.1)) (h1 : w.cell? ⟨b, 1, none⟩ = some u)
    (hlen : fs.length ≤ 1000000) (hbase : base ≤ w.heap.size) (p : Nat) (hp : fs.length + 1 = p)
    (h : ∀ a3 c3 w', OwnF t w' base (.slice a3 p c3) (vs ++ [u]) (fs ++ [f]) → w.grownBy w' v.ownBlock → K (a.put o.dst (.slice a3 p c3)) w') :
    if Region.wanted o (yielded ops a.tmps) = true then Oper.wp Tryd.prog o a w K Q else E := by
  have hw : Region.wanted o (yielded ops a.tmps) = true := by simp [Region.wanted, hgd]
  rw [if_pos hw]
  obtain ⟨v', w', hrun, r1, r2⟩ := run_append_f w t tl o.type htl ht base v vs fs hown b f u hu h0 h1 hlen hbase
  obtain ⟨a3, c3, hs3⟩ := r1.shape
  rw [List.length_append, show ([f] : List Fr).length = 1 from rfl, hp] at hs3
  rw [hs3] at r1 hrun
  unfold Oper.wp
  simp [execOp, ho, resolve, invoke, builtin, hs, hx, hrun, Result.andThen]
  exact h _ _ _ r1 r2

/-- Rows of frames, of bytes that are lent. -/
structure Lents (w : World) (base : Nat) (v : Value) (vs : List Value) (fs : List Fr) : Prop where
  own : OwnF 36 w base v vs fs
  lent : ∀ j, j < fs.length → Lent w base (vth vs j) (fth fs j).2
theorem Lents.frs {w : World} {base : Nat} {v : Value} {vs : List Value} {fs : List Fr} (h : Lents w base v vs fs) : Frs w v vs fs := h.own.frs fun j hj => (h.lent j hj).bs
theorem Lents.past {w w' : World} {base : Nat} {v : Value} {vs : List Value} {fs : List Fr} (h : Lents w base v vs fs) (hb : Below w.heap.size w w') : Lents w' base v vs fs := ⟨h.own.past hb, fun j hj => (h.lent j hj).past hb⟩
/-- e returns them lent. -/
def LendsAll (fs : List Fr) (w : World) (e : Ending) (w' : World) : Prop := ∃ a c vs, e = .returned (.slice a fs.length c) ∧ Lents w' w.heap.size (.slice a fs.length c) vs fs ∧ Below w.heap.size w w'
theorem Lents.push {w wx w' : World} {base : Nat} {v v' u : Value} {vs : List Value} {fs : List Fr} {k : Int} {d : List Int} (h : Lents w base v vs fs) (hx : Below w.heap.size w wx) (hl : Lent wx base u d) (hg : wx.grownBy w' v.ownBlock) (hn : OwnF 36 w' base v' (vs ++ [u]) (fs ++ [(k, d)])) : Lents w' base v' (vs ++ [u]) (fs ++ [(k, d)]) := by
  have hl0 := h.own.1
  have keep : ∀ (u : Value) (d : List Int), Lent wx base u d → Lent w' base u d := fun u d hu => by
    obtain ⟨g, hv, h1, h2, hg2⟩ := hu
    refine ⟨g, hv, h1, h2, (hg.block g (Array.getElem?_eq_some_iff.1 hg2).1 (fun e => ?_)).trans hg2⟩
    obtain ⟨_, cur, hc⟩ := (h.own.past hx).tag e.symm
    rw [hg2] at hc
    simp at hc
  refine ⟨hn, fun j hj => ?_⟩
  rw [List.length_append] at hj
  by_cases hlt : j < fs.length
  · rw [vth_left (by omega), fth_left hlt]; exact keep _ _ ((h.lent j hlt).past hx)
  · have : j = fs.length := by simp at hj; omega
    subst this
    rw [fth_last, ← hl0, vth_last]
    exact keep _ _ hl

set_option maxHeartbeats 4000000 in
set_option maxRecDepth 100000 in
theorem ownOf (v : Value) (vs : List Value) (fs : List Fr) (w : World) (h : Frs w v vs fs) (ht : fs.length + total fs ≤ 20000) :
    Calls Tryd.prog 10 #[v] w (LendsAll fs w) := by
  obtain ⟨ao, cap, hsh⟩ := h.shape
  have H := Lib.hid h
  have HT := Lib.hid ht
  have hn2 : fs.length ≤ 20000 := by omega
  subst hsh
  clear h ht
  generalize hn : fs.length = n at *
  have hN := Lib.hid hn
  clear hn
  go_enter Tryd.func10, Tryd.ntmps10
  go_wp2
  go_loopw [3, 4] (fun s i wr => ∃ (k : Nat) (a : Option Addr) (c : Nat) (us : List Value), k ≤ n ∧ i = .int .i64 k ∧ s = .slice a k c ∧ Hid (Lents wr w.heap.size (.slice a k c) us (fs.take k)) ∧ Hid (Below w.heap.size w wr)) (fun _ i _ => n - (intOf i).toNat)
  case atStart => exact ⟨0, _, _, [], Nat.zero_le _, rfl, rfl, Lib.hid ⟨OwnF.nil _ _ _, fun j hj => by cases hj⟩, Lib.hid (Below.refl _ _)⟩
  case round =>
    obtain ⟨k, a, c, us, hk, rfl, rfl, HL, HB⟩ := hrel
    by_cases hlt : k < n
    · have hd : decide (k < n) = true := by simpa using hlt
      obtain ⟨b, off, cap', hsh, hbl, hf0⟩ := (H.out).at (j := k) (by have := hN.out; omega)
      have hao : ao = some ⟨b, off, none⟩ := by cases hsh; rfl
      subst hao
      have htk := Lib.hid (take_fth (fs := fs) (k := k) (by have := hN.out; omega))
      have hdl := total_each (fs := fs) (k := k) (by have := hN.out; omega)
      have hdl : (fth fs k).2.length ≤ 20000 := by have := HT.out; omega
      generalize fth fs k = f at *
      obtain ⟨fk, d⟩ := f
      obtain ⟨ak, ck, hsk⟩ := hf0.bs.shape
      have hf := hf0.past (HB.out)
      have HF0 := Lib.hid (show w.cell? ⟨b, off + k * 2, none⟩ = some (.int .i64 fk) from hf0.c0)
      have hf1 := hf0.c1
      rw [hsk] at hf1
      have f0 : wr.cell? ⟨b, off + k * 2, none⟩ = some (.int .i64 fk) := hf.c0
      have f1 := hf.c1
      have fb := hf.bs
      rw [hsk] at f1 fb
      have hdl : d.length ≤ 20000 := hdl
      generalize hm : d.length = m at *
      have HM := Lib.hid hm
      have i0 : (0 : Int) ≤ (k : Int) := by omega
      have i1 : (k : Int) < (n : Int) := by omega
      have S0 : wr.drew.cell? ⟨b, off + k * 2, none⟩ = some (.int .i64 fk) ∧ wr.drew.cell? ⟨b, off + k * 2 + 1, none⟩ = some (.slice ak m ck) := ⟨f0, f1⟩
      have LB := Lib.hid ((lentBytes _ d wr.drew (fb.past (drew_below wr)) (by omega)).mono fun e w' h => h.shaped (n := m) (by have := HM.out; omega))
      have HF1 := Lib.hid hf1
      clear hf hf0 hsh hsk fb f0 f1 hf1 hm
      have hlk := Lib.hid (show (fs.take k).length = k by rw [List.length_take]; have := hN.out; omega)
      have hk6 := Lib.hid (show (fs.take k).length ≤ 1000000 by rw [hlk.out]; omega)
      have hk1 := Lib.hid (show (fs.take k).length + 1 = k + 1 by rw [hlk.out])
      go_upto_region 5 with fail
      go_region_held3 (fun w' => w'.cell? ⟨b, off + k * 2, none⟩ = some (.int .i64 fk) ∧ w'.cell? ⟨b, off + k * 2 + 1, none⟩ = some (.slice ak m ck)) (first | (with_reducible assumption) | (with_reducible exact And.intro (cellA S1.1) (cellA S1.2))) (first | (go_at_call 24; refine (LB.out).mono ?_; rintro e w1 ⟨g1, rfl, hl1, b1⟩; have S1 := And.intro (cellP S0.1 b1) (cellP S0.2 b1); have D1 := bel_trans (drew_below wr) b1; have N1 := (FrBox.new 36 w1 fk (.slice (some ⟨g1, 0, none⟩) m (m + 12))).cells; have D2 := bel_trans D1 (alloc_below w1 (.cells #[.int .i64 fk, .slice (some ⟨g1, 0, none⟩) m (m + 12)] 36))) | (refine step_append_f 36 25 Tryd.underlying25 (Or.inl rfl) (by rfl) (.tmp 11) (.tmp 24) (by rfl) w.heap.size (.slice a k c) us (fs.take k) (by rfl) ((HL.out).own.past D2) w1.heap.size (fk, d) (.slice (some ⟨g1, 0, none⟩) m (m + 12)) rfl (by rfl) N1.1 N1.2 hk6.out (Nat.le_trans (HB.out).size D2.size) (k + 1) hk1.out ?_; intro a3 c3 w3 o3 g3; have T1 := (HL.out).push D2 ((hl1.past (alloc_below w1 (.cells #[.int .i64 fk, .slice (some ⟨g1, 0, none⟩) m (m + 12)] 36))).mono (Nat.le_trans (HB.out).size (drew_below wr).size)) g3 o3; have B3 := (bel_past HB.out D2).grown g3 (bel_past HB.out D2).size (fun j e => (((HL.out).own.past D2).lt j e).1); have S3 := And.intro ((B3.cell (p := ⟨b, off + k * 2, none⟩) hbl).trans HF0.out) ((B3.cell (p := ⟨b, off + k * 2 + 1, none⟩) hbl).trans HF1.out)))
      have HT3 := Lib.hid T1
      have HB3 := Lib.hid B3
      rw [← htk.out] at HT3
      clear T1 B3 o3 g3 S3 N1 D1 D2 hl1 b1 S0 S1
      go_wp2_with fail
      go_roundw
      case rel => exact ⟨k + 1, a3, c3, _, by omega, by go_num, rfl, HT3, HB3⟩
      case measure => simp [intOf]; omega
    · have hd : decide (k < n) = false := by simpa using hlt
      have hk' : k = n := by omega
      subst hk'
      have HTT := Lib.hid (show fs.take k = fs from List.take_of_length_le (by have := hN.out; omega))
      go_wp2
      go_ret
      refine ⟨a, c, us, by rw [hN.out]; rfl, ?_, HB.out⟩
      have := HL.out
      rw [HTT.out] at this
      rw [hN.out]
      exact this

/-- e returns them as the document has them: the bytes are the same ones. -/
def AsTheirs (vs : List Value) (fs : List Fr) (w : World) (e : Ending) (w' : World) : Prop := ∃ a c, e = .returned (.slice a fs.length c) ∧ OwnF 46 w' w.heap.size (.slice a fs.length c) vs fs ∧ Below w.heap.size w w'
set_option maxHeartbeats 4000000 in
set_option maxRecDepth 100000 in
theorem theirs (v : Value) (vs : List Value) (fs : List Fr) (w : World) (h : Frs w v vs fs) (ht : fs.length + total fs ≤ 20000) :
    Calls Tryd.prog 13 #[v] w (AsTheirs vs fs w) := by
  obtain ⟨ao, cap, hsh⟩ := h.shape
  have H := Lib.hid h
  have HV := Lib.hid h.1
  have hn2 : fs.length ≤ 20000 := by omega
  subst hsh
  clear h ht
  generalize hn : fs.length = n at *
  have hN := Lib.hid hn
  clear hn
  go_enter Tryd.func13, Tryd.ntmps13
  go_wp2
  go_loopw [3, 4] (fun s i wr => ∃ (k : Nat) (a : Option Addr) (c : Nat), k ≤ n ∧ i = .int .i64 k ∧ s = .slice a k c ∧ Hid (OwnF 46 wr w.heap.size (.slice a k c) (vs.take k) (fs.take k)) ∧ Hid (Below w.heap.size w wr)) (fun _ i _ => n - (intOf i).toNat)
  case atStart => exact ⟨0, _, _, Nat.zero_le _, rfl, rfl, Lib.hid (OwnF.nil _ _ _), Lib.hid (Below.refl _ _)⟩
  case round =>
    obtain ⟨k, a, c, hk, rfl, rfl, HL, HB⟩ := hrel
    by_cases hlt : k < n
    · have hd : decide (k < n) = true := by simpa using hlt
      obtain ⟨b, off, cap', hsh, hbl, hf0⟩ := (H.out).at (j := k) (by have := hN.out; omega)
      have hao : ao = some ⟨b, off, none⟩ := by cases hsh; rfl
      subst hao
      have htk := Lib.hid (take_fth (fs := fs) (k := k) (by have := hN.out; omega))
      have hvk := Lib.hid (vth_take (vs := vs) (k := k) (by have := hN.out; have := HV.out; omega))
      generalize fth fs k = f at *
      obtain ⟨fk, d⟩ := f
      obtain ⟨ak, ck, hsk⟩ := hf0.bs.shape
      have hf := hf0.past (HB.out)
      have f0 : wr.cell? ⟨b, off + k * 2, none⟩ = some (.int .i64 fk) := hf.c0
      have f1 := hf.c1
      have q0 : w.cell? ⟨b, off + k * 2, none⟩ = some (.int .i64 fk) := hf0.c0
      have q1 := hf0.c1
      have HQ0 := Lib.hid q0
      have HQ1 := Lib.hid q1
      rw [hsk] at f1 hvk HQ1
      generalize hm : d.length = m at *
      have i0 : (0 : Int) ≤ (k : Int) := by omega
      have i1 : (k : Int) < (n : Int) := by omega
      have S0 : wr.drew.cell? ⟨b, off + k * 2, none⟩ = some (.int .i64 fk) ∧ wr.drew.cell? ⟨b, off + k * 2 + 1, none⟩ = some (.slice ak m ck) := ⟨f0, f1⟩
      have D2 : Below wr.heap.size wr (wr.alloc (.cells #[.int .i64 fk, .slice ak m ck] 46)).drew := bel_trans (alloc_below wr _) (drew_below _)
      have S1 : (wr.alloc (.cells #[.int .i64 fk, .slice ak m ck] 46)).drew.cell? ⟨b, off + k * 2, none⟩ = some (.int .i64 fk) ∧ (wr.alloc (.cells #[.int .i64 fk, .slice ak m ck] 46)).drew.cell? ⟨b, off + k * 2 + 1, none⟩ = some (.slice ak m ck) := And.intro (cellP f0 D2) (cellP f1 D2)
      have N1 : (wr.alloc (.cells #[.int .i64 fk, .slice ak m ck] 46)).drew.cell? ⟨wr.heap.size, 0, none⟩ = some (.int .i64 fk) ∧ (wr.alloc (.cells #[.int .i64 fk, .slice ak m ck] 46)).drew.cell? ⟨wr.heap.size, 1, none⟩ = some (.slice ak m ck) := (FrBox.new 46 wr fk (.slice ak m ck)).cells
      have O2 := Lib.hid ((HL.out).past D2)
      have hlk := Lib.hid (show (fs.take k).length = k by rw [List.length_take]; have := hN.out; omega)
      have hk6 := Lib.hid (show (fs.take k).length ≤ 1000000 by rw [hlk.out]; omega)
      have hk1 := Lib.hid (show (fs.take k).length + 1 = k + 1 by rw [hlk.out])
      clear hf hf0 hsh hsk f0 f1 hm q0 q1
      go_upto_region 5 with fail
      go_region_held3 (fun w' => w'.cell? ⟨b, off + k * 2, none⟩ = some (.int .i64 fk) ∧ w'.cell? ⟨b, off + k * 2 + 1, none⟩ = some (.slice ak m ck)) (first | (with_reducible assumption)) (first | (refine step_append_f 46 32 Tryd.underlying32 (Or.inr rfl) (by rfl) (.tmp 11) (.tmp 23) (by rfl) w.heap.size (.slice a k c) (vs.take k) (fs.take k) (by rfl) O2.out wr.heap.size (fk, d) (.slice ak m ck) rfl (by rfl) N1.1 N1.2 hk6.out (Nat.le_trans (HB.out).size D2.size) (k + 1) hk1.out ?_; intro a3 c3 w3 o3 g3; have B3 := (bel_past HB.out D2).grown g3 (bel_past HB.out D2).size (fun j e => ((O2.out).lt j e).1); have S3 := And.intro ((B3.cell (p := ⟨b, off + k * 2, none⟩) hbl).trans HQ0.out) ((B3.cell (p := ⟨b, off + k * 2 + 1, none⟩) hbl).trans HQ1.out)))
      have HO3 := Lib.hid o3
      have HB3 := Lib.hid B3
      rw [← htk.out, hvk.out] at HO3
      clear B3 o3 g3 S3 N1 D2 S0 S1
      go_wp2_with fail
      go_roundw
      case rel => exact ⟨k + 1, a3, c3, by omega, by go_num, rfl, HO3, HB3⟩
      case measure => simp [intOf]; omega
    · have hd : decide (k < n) = false := by simpa using hlt
      have hk' : k = n := by omega
      subst hk'
      have HTT := Lib.hid (show fs.take k = fs from List.take_of_length_le (by have := hN.out; omega))
      have HVV := Lib.hid (show vs.take k = vs from List.take_of_length_le (by have := hN.out; have := HV.out; omega))
      go_wp2
      go_ret
      refine ⟨a, c, by rw [hN.out]; rfl, ?_, HB.out⟩
      have := HL.out
      rw [HTT.out, HVV.out] at this
      rw [hN.out]
      exact this

set_option maxHeartbeats 2000000 in
set_option maxRecDepth 100000 in
/-- Frames are themselves. -/
theorem sameOf (v1 v2 : Value) (vs1 vs2 : List Value) (fs : List Fr) (w : World) (h1 : Frs w v1 vs1 fs) (h2 : Frs w v2 vs2 fs) :
    Calls Tryd.prog 22 #[v1, v2] w fun e w' => Tells (.bool true) w e w' := by
  obtain ⟨a1, c1, hsh1⟩ := h1.shape
  obtain ⟨a2, c2, hsh2⟩ := h2.shape
  have hln := h1.len
  have H1 := Lib.hid h1
  have H2 := Lib.hid h2
  subst hsh1 hsh2
  clear h1 h2
  generalize hn : fs.length = n at *
  have hN := Lib.hid hn
  clear hn
  have hnn : (n != n) = false := by simp
  go_enter Tryd.func22, Tryd.ntmps22
  go_wp2
  go_loopw [5] (fun i wr => ∃ k : Nat, k ≤ n ∧ i = .int .i64 k ∧ Still w wr) (fun i _ => n - (intOf i).toNat)
  case atStart => exact ⟨0, Nat.zero_le _, rfl, Still.refl _⟩
  case round =>
    obtain ⟨k, hk, rfl, hst⟩ := hrel
    by_cases hlt : k < n
    · have hd : decide (k < n) = true := by simpa using hlt
      obtain ⟨b, off, cap1, hsh, hbl, hf⟩ := ((H1.out).past hst.past).at (j := k) (by have := hN.out; omega)
      obtain ⟨b2, off2, cap2, hsh2, hbl2, hf2⟩ := ((H2.out).past hst.past).at (j := k) (by have := hN.out; omega)
      have hao : a1 = some ⟨b, off, none⟩ := by cases hsh; rfl
      have hao2 : a2 = some ⟨b2, off2, none⟩ := by cases hsh2; rfl
      subst hao hao2
      have f0 := hf.c0
      have f1 := hf.c1
      have g0 := hf2.c0
      have g1 := hf2.c1
      have fb := hf.bs
      have gb := hf2.bs
      generalize fth fs k = f at *
      obtain ⟨fk, d⟩ := f
      have f0 : wr.cell? ⟨b, off + k * 2, none⟩ = some (.int .i64 fk) := f0
      have g0 : wr.cell? ⟨b2, off2 + k * 2, none⟩ = some (.int .i64 fk) := g0
      obtain ⟨ak, ck, hsk⟩ := fb.shape
      obtain ⟨al, cl, hsl⟩ := gb.shape
      rw [hsk] at f1 fb
      rw [hsl] at g1 gb
      have HS := fun m => Lib.hid (sameBytes _ _ d d (wr.drewN m) (fb.drewN m) (gb.drewN m))
      have hdd : decide (d = d) = true := by simp
      rw [hdd] at HS
      have HST := Lib.hid hst
      have hkk : (fk != fk) = false := by simp
      have i0 : (0 : Int) ≤ (k : Int) := by omega
      have i1 : (k : Int) < (n : Int) := by omega
      clear hf hf2 hsh hsh2 hsk hsl fb gb hdd hst
      generalize d.length = m at *
      go_wp2
      go_quiet ((go_at_call 14; exact Calls.quiet_tells (HS _).out))
      go_wp2
      go_roundw
      case rel => exact ⟨k + 1, by omega, by go_num, (HST.out).drewN _⟩
      case measure => simp [intOf]; omega
    · have hd : decide (k < n) = false := by simpa using hlt
      go_wp2
      go_ret
      exact ⟨rfl, hst⟩
end Go.Proofs.YtkiagnlpnphghaaDoor
