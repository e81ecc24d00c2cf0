/- Two texts without labels, one behind the other, say what both say (TextRows). -/
import Derived.Test.YthfkmackodbmkaaGreatDoorTextAwake
import Derived.Test.YthfkmackodbmkaaGreatDoorTextRowsMath
import Derived.Lib.IndexBytes
namespace Go.Proofs.YthfkmackodbmkaaGreatDoor
open Go.RowKit
set_option linter.unusedVariables false
set_option linter.unusedSimpArgs false
set_option maxRecDepth 100000
set_option maxHeartbeats 8000000

/-- Parse's answer, with the letters of its slice. -/
theorem parseC (s : Str) (w : World) (L : Lay w) (hs : s.length ≤ 1000000000) : Calls Tryz.prog 9 #[str s] w fun e w' =>
    ∃ ao cap, e = .returned (.tuple #[.slice ao (parseL s).1.length cap, .agg #[.int .i64 (parseL s).2.1, .int .i64 (parseL s).2.2]]) ∧ OwnI w' w.heap.size (.slice ao (parseL s).1.length cap) (parseL s).1 ∧ Below w.heap.size w w' := by
  refine (parseP s w L hs).mono ?_; rintro e w' ⟨v, rfl, ho, hb⟩
  obtain ⟨ao, cap, hv⟩ := ho.shape
  subst hv
  exact ⟨ao, cap, rfl, ho, hb⟩
/-- append, of instructions, to a row of the call's own; the operation may be guarded. -/
theorem wpList_append_iw (w : World) {ops : Array Oper} {rest : List Oper} {o : Oper} {a : Act} {Q : Exit → Act → World → Prop} (hgd : Region.wanted o (yielded ops a.tmps) = true) (s x : Operand)
    (ho : o.op = .call { callee := .builtin .append, args := #[s, x], argTypes := #[23, 23] })
    (base : Nat) (v : Value) (xs : List Ins) (hs : a.eval s = v) (hown : OwnI w base v xs) (u : Value) (ys : List Ins) (hx : a.eval x = u) (hu : Inss w u ys)
    (hlen : xs.length + ys.length ≤ 1000000000) (hbase : base ≤ w.heap.size)
    (h : ∀ v' w', OwnI w' base v' (xs ++ ys) → w.grownBy w' v.ownBlock → wpList Tryz.prog ops Q rest (a.put o.dst v') w') : wpList Tryz.prog ops Q (o :: rest) a w := by
  obtain ⟨i, hi, hz, hs1, hb1⟩ := insInfo
  obtain ⟨ao, cap, rfl, h1, h2, h3, h4⟩ := hu
  have key : ∃ v' w', (Builtin.append_ #[23, 23] o.type #[v, .slice ao ys.length cap]).run Tryz.prog w = .ok v' w' ∧ OwnI w' base v' (xs ++ ys) ∧ w.grownBy w' v.ownBlock := by
    cases ao with
    | none =>
      obtain rfl : cap = 0 := h3 rfl
      obtain rfl : ys = [] := List.eq_nil_of_length_eq_zero (by omega)
      obtain ⟨aq, cq, hv⟩ := hown.shape
      subst hv
      have hle : xs.length ≤ cq := by
        rcases hown.2 with ⟨h', h0⟩ | ⟨g', c', cur, h', _, _, q2, _⟩
        · omega
        · simp only [Value.slice.injEq] at h'
          obtain ⟨_, _, rfl⟩ := h'
          exact q2
      have hrun : (Builtin.append_ #[23, 23] o.type #[.slice aq xs.length cq, .slice none 0 0]).run Tryz.prog w = .ok (.slice aq xs.length cq) w := by
        exact run_append_nothing w 23 23 o.type 47 i Tryz.underlying23 hi aq xs.length cq hle _ (Src.ofNil w Tryz.underlying23 0)
      exact ⟨_, _, hrun, by rw [List.append_nil]; exact hown, ⟨rfl, rfl, rfl, Nat.le_refl _, fun _ _ _ => rfl⟩⟩
    | some ad =>
      obtain ⟨v', w', hrun, ho', hg, _⟩ := run_append_own (w := w) base 23 o.type 47 i (agg noIns) 8 56 Tryz.underlying23 hi hz hs1 hb1 rfl (by decide) v _ _ hown ad ys.length cap (icl ys) (icl_length ys)
        (fun j u hj => h4 ad rfl j u hj) (icl_oneCell _) (by unfold maxLen; omega) (by omega) hbase
      refine ⟨v', w', hrun, ?_, hg⟩
      unfold OwnI
      rw [List.length_append, icl_append]
      exact ho'
  obtain ⟨v', w', hrun, r1, r2⟩ := key
  refine BigFrame.wpList_want hgd fun K hK' => ?_
  unfold Oper.wp
  simp [execOp, ho, resolve, invoke, builtin, hs, hx, hrun, Result.andThen]
  exact hK' _ _ (h v' w' r1 r2)
theorem own_empty (W : World) : OwnI (W.alloc (.cells #[] 47)) W.heap.size (.slice (some ⟨W.heap.size, 0, none⟩) 0 0) [] :=
  ⟨rfl, .inr ⟨W.heap.size, 0, #[], rfl, Nat.le_refl _, heap_alloc_new W _, Nat.le_refl _, Nat.zero_le _, rfl, rfl⟩⟩
theorem textRowsOf (a b : Str) (w : World) (L : Lay w) (ha : a.length ≤ 140737488351232) (hb : b.length ≤ 140737488351232) : Calls Tryz.prog 7 #[str a, str b] w (Says true w) := by
  have AW := awake w L
  have HL := Lib.hid L
  have hca : (⟨a.toArray⟩ : ByteArray).size = a.length := by simp [ByteArray.size]
  have hcb : (⟨b.toArray⟩ : ByteArray).size = b.length := by simp [ByteArray.size]
  have hw : wrap64 ((a.length : Int) + b.length) = a.length + b.length := IntWalk.wrap64_in _ ⟨by omega, by omega⟩
  clear L
  go_enter Tryz.func7, Tryz.ntmps7
  go_wp2_with fail
  refine AW.mono ?_; rintro e w1 ⟨rfl, b1⟩
  have B1 := Lib.hid b1
  clear AW b1
  by_cases hbig : 20000 < a.length + b.length
  · have d0 : decide ((20000 : Int) < (a.length : Int) + b.length) = true := by simp; omega
    clear hbig
    go_wp2_with fail
    go_ret
    exact ⟨rfl, B1.out⟩
  have d0 : decide ((20000 : Int) < (a.length : Int) + b.length) = false := by simp; omega
  have HBG := Lib.hid hbig
  have CA := Tryz.strings_Contains_one ⟨a.toArray⟩ 58 w1
  have CB := Tryz.strings_Contains_one ⟨b.toArray⟩ 58 w1
  have ma := indexByte_mem a 58
  have mb := indexByte_mem b 58
  simp only at CA CB
  clear hbig
  generalize Lib.indexByte a 58 = ia at CA ma
  generalize Lib.indexByte b 58 = ib at CB mb
  by_cases hia : 0 ≤ ia
  · have da : decide (0 ≤ ia) = true := by simpa using hia
    rw [da] at CA
    clear ma mb hia
    go_wp2_with fail
    refine CA.mono ?_; rintro e w2 ⟨rfl, rfl⟩
    go_wp2_with fail
    go_ret
    exact ⟨rfl, B1.out⟩
  have da : decide (0 ≤ ia) = false := by simpa using hia
  have HA58 := Lib.hid (show (58 : UInt8) ∉ a from fun h => hia (ma.2 h))
  rw [da] at CA
  by_cases hib : 0 ≤ ib
  · have db : decide (0 ≤ ib) = true := by simpa using hib
    rw [db] at CB
    clear ma mb hia hib
    go_wp2_with fail
    refine CA.mono ?_; rintro e w2 ⟨rfl, rfl⟩
    go_wp2_with fail
    refine CB.mono ?_; rintro e w2 ⟨rfl, rfl⟩
    go_wp2_with fail
    go_ret
    exact ⟨rfl, B1.out⟩
  have db : decide (0 ≤ ib) = false := by simpa using hib
  have HB58 := Lib.hid (show (58 : UInt8) ∉ b from fun h => hib (mb.2 h))
  rw [db] at CB
  clear ma mb hia hib
  go_wp2_with fail
  refine CA.mono ?_; rintro e w2 ⟨rfl, rfl⟩
  go_wp2_with fail
  refine CB.mono ?_; rintro e w2 ⟨rfl, rfl⟩
  clear CA CB
  have lb : a.length + b.length ≤ 20000 := by have := HBG.out; omega
  have HLB := Lib.hid lb
  have PA := parseC a _ ((HL.out).past B1.out) (by omega)
  obtain ⟨ra, hra⟩ : ∃ r, r = parseL a := ⟨_, rfl⟩
  obtain ⟨rb, hrb⟩ : ∃ r, r = parseL b := ⟨_, rfl⟩
  rw [← hra] at PA
  have HRA := Lib.hid hra
  have HRB := Lib.hid hrb
  clear hra hrb d0 da db lb
  obtain ⟨xa, ea, na⟩ := ra
  obtain ⟨xb, eb, nb⟩ := rb
  simp only at PA
  go_wp2_with fail
  refine PA.mono ?_; rintro e w3 ⟨a1, c1, rfl, o1, b3⟩
  have A3 := alloc_below w3 (.cells #[.int .i64 ea, .int .i64 na] 26)
  have F3 := Lib.hid (show Fb (w3.alloc (.cells #[.int .i64 ea, .int .i64 na] 26)) w3.heap.size ea na from heap_alloc_new w3 _)
  have O3 := Lib.hid (o1.past A3)
  have b3' := (B1.out).trans (b3.mono (B1.out).size)
  have B3 := Lib.hid (b3'.trans (A3.mono b3'.size))
  have PB := parseC b (w3.alloc (.cells #[.int .i64 ea, .int .i64 na] 26)) ((HL.out).past B3.out) (by have := HLB.out; omega)
  rw [← HRB.out] at PB
  simp only at PB
  clear o1 b3 b3' A3 PA
  go_wp2_with fail
  refine PB.mono ?_; rintro e w4 ⟨a2, c2, rfl, o2, b4⟩
  have A4 := alloc_below w4 (.cells #[.int .i64 eb, .int .i64 nb] 26)
  have F4 := (show Fb (w4.alloc (.cells #[.int .i64 eb, .int .i64 nb] 26)) w4.heap.size eb nb from heap_alloc_new w4 _)
  have G3 := ((F3.out).past b4).past A4
  have O4 := Lib.hid (o2.past A4)
  have O3b := Lib.hid ((((O3.out).past b4)).past A4)
  have b4' := (B3.out).trans (b4.mono (B3.out).size)
  have B4 := Lib.hid (b4'.trans (A4.mono b4'.size))
  obtain ⟨f0, f1⟩ := F4.cells
  obtain ⟨g0, g1⟩ := G3.cells
  have HPA := Lib.hid (parse_told a)
  have HPB := Lib.hid (parse_told b)
  clear o2 b4 b4' A4 PB F4 G3 F3 O3
  by_cases hea : ea = 0
  · subst hea
    by_cases heb : eb = 0
    · subst heb
      have pa := (HPA.out).1 (by rw [← HRA.out])
      have pb := (HPB.out).1 (by rw [← HRB.out])
      rw [← HRA.out] at pa
      rw [← HRB.out] at pb
      simp only at pa pb
      obtain ⟨pa1, pa2, pa3⟩ := pa
      obtain ⟨pb1, pb2, pb3⟩ := pb
      have hw2 : wrap64 ((xa.length : Int) + xb.length) = xa.length + xb.length := IntWalk.wrap64_in _ ⟨by omega, by omega⟩
      have HLL := Lib.hid (And.intro pa3 pb3)
      clear pa1 pa2 pa3 pb1 pb2 pb3
      by_cases hmany : 4096 < xa.length + xb.length
      · have d2 : decide ((4096 : Int) < (xa.length : Int) + xb.length) = true := by simp; omega
        clear hmany
        go_wp2_with fail
        go_ret
        exact ⟨rfl, B4.out⟩
      · have d2 : decide ((4096 : Int) < (xa.length : Int) + xb.length) = false := by simp; omega
        have HRW := Lib.hid (rows HA58.out HB58.out HLB.out (by rw [← HRA.out]) (by rw [← HRB.out]) (by rw [← HRA.out, ← HRB.out]; simp only; omega))
        rw [← HRA.out, ← HRB.out] at HRW
        simp only at HRW
        have hcnt := Lib.countB_le ⟨#[10]⟩ (by decide) a.length ⟨a.toArray⟩ (by simp [ByteArray.size])
        obtain ⟨mx, hmx⟩ := ((HL.out).past B4.out).mx
        have RA := Tryz.strings_ReplaceAll ⟨a.toArray⟩ ⟨#[10]⟩ ⟨(remark ++ [10, 32, 10]).toArray⟩ mx _ (by simp [ByteArray.size]; have := HLB.out; omega) hmx (by decide) (by
          have h1 : (⟨a.toArray⟩ : ByteArray).size = a.length := by simp [ByteArray.size]
          rw [h1] at hcnt ⊢
          have h2 : (⟨(remark ++ [10, 32, 10]).toArray⟩ : ByteArray).size = 10 := rfl
          rw [h2]
          have := HLB.out
          omega)
        have hrl := repl_len a
        have e1 : Lib.replaceAll a [10] (remark ++ [10, 32, 10]) = repl a := rfl
        simp only at RA
        rw [e1] at RA
        have HBO : both a b = ((([35, 32, 102, 105, 114, 115, 116, 10, 9] ++ repl a) ++ [13, 10, 10]) ++ b) ++ [10, 35] := by simp [both, head1]
        have HBO2 := Lib.hid HBO
        clear hmany HBO e1 hmx hcnt
        generalize hrp : repl a = rp at RA HBO2 hrl
        clear hrp
        have C1 := run_cat (P := Tryz.prog) [35, 32, 102, 105, 114, 115, 116, 10, 9] rp (by simp; have := HLB.out; omega)
        obtain ⟨u1, hu1⟩ : ∃ u : Str, u = [35, 32, 102, 105, 114, 115, 116, 10, 9] ++ rp := ⟨_, rfl⟩
        have l1 : u1.length ≤ 300000 := by rw [hu1]; simp; have := HLB.out; omega
        rw [← hu1] at C1 HBO2
        have C2 := run_cat (P := Tryz.prog) u1 [13, 10, 10] (by simp; omega)
        obtain ⟨u2, hu2⟩ : ∃ u : Str, u = u1 ++ [13, 10, 10] := ⟨_, rfl⟩
        have l2 : u2.length ≤ 300003 := by rw [hu2]; simp; omega
        rw [← hu2] at C2 HBO2
        have C3 := run_cat (P := Tryz.prog) u2 b (by have := HLB.out; omega)
        obtain ⟨u3, hu3⟩ : ∃ u : Str, u = u2 ++ b := ⟨_, rfl⟩
        have l3 : u3.length ≤ 400003 := by rw [hu3]; simp; have := HLB.out; omega
        rw [← hu3] at C3 HBO2
        have C4 := run_cat (P := Tryz.prog) u3 [10, 35] (by simp; omega)
        obtain ⟨u4, hu4⟩ : ∃ u : Str, u = u3 ++ [10, 35] := ⟨_, rfl⟩
        have l4 : u4.length ≤ 500003 := by rw [hu4]; simp; omega
        rw [← hu4] at C4 HBO2
        clear hu1 hu2 hu3 hu4 l1 l2 l3 hrl
        go_wp2_with fail
        refine RA.mono ?_; rintro e w5 ⟨rfl, b5⟩
        have B5 := Lib.hid ((B4.out).trans (b5.mono (B4.out).size))
        have O5 := Lib.hid ((O3b.out).past b5)
        have Q5 := Lib.hid ((O4.out).past b5)
        have PZ := parseC u4 w5 ((HL.out).past B5.out) (by omega)
        rw [← HBO2.out, HRW.out] at PZ
        simp only at PZ
        rw [HBO2.out] at PZ
        clear b5 RA
        go_wp2_with fail
        refine PZ.mono ?_; rintro e w6 ⟨a6, c6, rfl, o6, b6⟩
        have A6 := alloc_below w6 (.cells #[.int .i64 0, .int .i64 0] 26)
        have F6 := (show Fb (w6.alloc (.cells #[.int .i64 0, .int .i64 0] 26)) w6.heap.size 0 0 from heap_alloc_new w6 _)
        obtain ⟨k0, k1⟩ := F6.cells
        have Z6 := Lib.hid ((o6.inss).past A6)
        have X6 := Lib.hid ((((O5.out).inss).past b6).past A6)
        have Y6 := Lib.hid ((((Q5.out).inss).past b6).past A6)
        have b6' := (B5.out).trans (b6.mono (B5.out).size)
        have B6 := Lib.hid (b6'.trans (A6.mono b6'.size))
        have A7 := alloc_below (w6.alloc (.cells #[.int .i64 0, .int .i64 0] 26)) (.cells #[] 47)
        have E7 := own_empty (w6.alloc (.cells #[.int .i64 0, .int .i64 0] 26))
        have hz : (w6.alloc (.cells #[.int .i64 0, .int .i64 0] 26)).heap.size = w6.heap.size + 1 := by simp
        rw [hz] at E7
        have HE7 := Lib.hid E7
        have Z7 := Lib.hid ((Z6.out).past A7)
        have X7 := Lib.hid ((X6.out).past A7)
        have Y7 := Lib.hid ((Y6.out).past A7)
        have B7 := Lib.hid ((B6.out).trans (A7.mono (B6.out).size))
        have hbase : w6.heap.size + 1 ≤ ((w6.alloc (.cells #[.int .i64 0, .int .i64 0] 26)).alloc (.cells #[] 47)).heap.size := by simp
        have HBS := Lib.hid hbase
        have hwb : w.heap.size ≤ w6.heap.size + 1 := by have := (B6.out).size; rw [hz] at this; exact this
        have HA7 := Lib.hid A7
        have HZ := Lib.hid hz
        clear o6 b6 A6 F6 b6' PZ A7 E7 hbase hz
        go_wp2_with (at_builtin; refine wpList_append_iw _ (by rfl) _ _ rfl (w6.heap.size + 1) _ [] rfl HE7.out _ xa rfl X7.out (by have := HLL.out; simp; omega) HBS.out ?_)
        intro v8 w8 ho8 hg8
        have P8 := Lib.hid ho8
        have B8 := Lib.hid ((B7.out).grown hg8 (by have := HBS.out; omega) (fun k hk => by have := (OwnI.lt HE7.out k hk).1; omega))
        have K8 := Lib.hid (show Below (w6.alloc (.cells #[.int .i64 0, .int .i64 0] 26)).heap.size (w6.alloc (.cells #[.int .i64 0, .int .i64 0] 26)) w8 from by
          refine (HA7.out).grown hg8 (HA7.out).size (fun k hk => ?_)
          rw [HZ.out]
          exact (OwnI.lt HE7.out k hk).1)
        have Y8 := Lib.hid ((Y6.out).past K8.out)
        have hl8 := (K8.out).size
        rw [HZ.out] at hl8
        have HL8 := Lib.hid hl8
        obtain ⟨a8, c8, hv8⟩ := OwnI.shape ho8
        subst hv8
        clear ho8 hg8 hl8
        go_wp2_with (at_builtin; refine wpList_append_iw _ (by rfl) _ _ rfl (w6.heap.size + 1) _ xa rfl P8.out _ xb rfl Y8.out (by have := HLL.out; simp; omega) HL8.out ?_)
        intro v9 w9 ho9 hg9
        have K9 := Lib.hid (show Below (w6.alloc (.cells #[.int .i64 0, .int .i64 0] 26)).heap.size (w6.alloc (.cells #[.int .i64 0, .int .i64 0] 26)) w9 from by
          refine (K8.out).grown hg9 (K8.out).size (fun k hk => ?_)
          rw [HZ.out]
          exact (OwnI.lt P8.out k hk).1)
        have z9 := (Z6.out).past K9.out
        rw [show (xa ++ xb).length = xa.length + xb.length from List.length_append] at z9
        have Z9 := Lib.hid z9
        clear z9
        have I9 := Lib.hid (show Inss w9 v9 (xa ++ xb) from ho9.inss)
        have B9 := Lib.hid ((B6.out).trans ((K9.out).mono (B6.out).size))
        clear ho9 hg9
        go_wp2_with fail
        with_reducible refine (sameIns _ _ (xa ++ xb) _ Z9.out I9.out).mono ?_
        rintro e w10 ⟨rfl, st⟩
        have B10 := Lib.hid ((B9.out).trans (st.below w.heap.size))
        clear st
        go_wp2_with fail
        go_ret
        exact ⟨rfl, B10.out⟩
    · have q : (eb != 0) = true := by simpa using heb
      clear heb
      go_wp2_with fail
      go_ret
      exact ⟨rfl, B4.out⟩
  · have q : (ea != 0) = true := by simpa using hea
    clear hea
    go_wp2_with fail
    go_ret
    exact ⟨rfl, B4.out⟩
end Go.Proofs.YthfkmackodbmkaaGreatDoor
