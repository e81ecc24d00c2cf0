/- Contracts of the library's Grow and Concat at slices of bytes. -/
import Derived.Test.YtknkmblacaaegaaDoorBase
import Derived.Lib.AppendZeros
import Derived.WalkSpells
namespace Go.Proofs.YtknkmblacaaegaaDoor
open Go.RowKit
set_option linter.unusedVariables false

/-- A row of the call's own without anything in it yet, of whatever capacity. -/
theorem zeros_own (w : World) (base cap : Nat) (cur : Array Value) (hb : base ≤ w.heap.size) (hm : cap ≤ maxLen) (hs : cur.size = cap) :
    Own (w.drew.alloc (.cells cur 5)) base (.slice (some ⟨w.heap.size, 0, none⟩) 0 cap) [] :=
  World.ownsRow_made w.drew cur cap hb hm (by omega)

set_option maxRecDepth 100000 in
theorem grow (n : Nat) (hn : n ≤ 140737488355328) (w : World) :
    Calls Tryd.prog 89 #[.slice none 0 0, .int .i64 n] w fun e w' => Fresh [] w e w' := by
  by_cases h0 : n = 0
  · subst h0
    go_enter Tryd.func89, Tryd.ntmps89
    go_wp2
    go_ret
    exact ⟨_, rfl, Own.nil _ _, Below.refl _ _⟩
  · obtain ⟨i, hi, hz, hs1, hb1⟩ := u8info
    have hrun := Lib.run_append_nil_zeros (P := Tryd.prog) w 22 3 22 5 i (.int .u8 0) .i64 .i64 Tryd.underlying22 Tryd.underlying3 hi hz n (by omega) (by omega) (by omega) (by rw [hb1]; omega)
    have hge := grownCap_ge w n 0 5
    have hcm : grownCap w n 0 5 ≤ maxLen := grownCap_le_maxLen w n 0 5 (by unfold maxLen; omega)
    have H1 := Lib.hid hcm
    have H2 := Lib.hid hge
    clear hcm hge
    generalize hC : grownCap w n 0 5 = C at *
    clear hC
    have HR := Lib.hid hrun
    clear hi hz hs1 hb1 hrun
    have hn0 : 0 < n := by omega
    have hlen : (Builtin.zeroCells (Value.int IntKind.u8 0).cells n ++ Builtin.zeroCells (Value.int IntKind.u8 0).cells (C - n)).size = C := by
      have := H2.out; simp [Builtin.zeroCells, Value.cells]; omega
    generalize (Builtin.zeroCells (Value.int IntKind.u8 0).cells n ++ Builtin.zeroCells (Value.int IntKind.u8 0).cells (C - n)) = cur at *
    have HL := Lib.hid hlen
    clear hlen
    go_enter Tryd.func89, Tryd.ntmps89
    go_wp2_with (at_builtin; refine Lib.wpList_append_run _ rfl _ _ 22 3 rfl _ _ rfl rfl _ _ HR.out ?_)
    go_ret
    exact ⟨_, rfl, zeros_own w _ C cur (Nat.le_refl _) H1.out HL.out, ((Below.refl _ _).drew).alloc (Nat.le_refl _) _⟩

/-- .. each of which reads as one of ls. -/
structure All (w : World) (vs : List Value) (ls : List (List Int)) : Prop where
  len : vs.length = ls.length
  each : ∀ j, j < vs.length → Bs w (vth vs j) (lth ls j)

theorem flat_snoc {ls : List (List Int)} {k : Nat} (h : k < ls.length) : (ls.take (k + 1)).flatten = (ls.take k).flatten ++ lth ls k := by
  rw [List.take_succ_eq_append_getElem h, List.flatten_append]
  simp [lth, List.getD, h]
def tot (ls : List (List Int)) (k : Nat) : Nat := (ls.take k).flatten.length
def cat (ls : List (List Int)) (k : Nat) : List Int := (ls.take k).flatten
theorem cat_length (ls : List (List Int)) (k : Nat) : (cat ls k).length = tot ls k := rfl
theorem cat_succ {ls : List (List Int)} {k : Nat} (h : k < ls.length) : cat ls (k + 1) = cat ls k ++ lth ls k := flat_snoc h
theorem tot_succ {ls : List (List Int)} {k : Nat} (h : k < ls.length) : tot ls (k + 1) = tot ls k + (lth ls k).length := by
  unfold tot; rw [flat_snoc h, List.length_append]
theorem cat_all {ls : List (List Int)} {k : Nat} (h : ls.length ≤ k) : cat ls k = ls.flatten := by unfold cat; rw [List.take_of_length_le h]
theorem tot_le (ls : List (List Int)) (k : Nat) : tot ls k ≤ ls.flatten.length := by
  unfold tot
  have : ls.flatten = (ls.take k).flatten ++ (ls.drop k).flatten := by rw [← List.flatten_append, List.take_append_drop]
  rw [this, List.length_append]; omega

theorem Below.of_size {w w' : World} {B : Nat} (h : Below B w w') (hB : w.heap.size ≤ B) : Below w.heap.size w w' := h.mono hB

set_option maxHeartbeats 1000000 in
set_option maxRecDepth 100000 in
theorem concat (v : Value) (vs : List Value) (ls : List (List Int)) (w : World) (hv : Vals w v vs) (ha : All w vs ls) (hlen : ls.flatten.length ≤ 140737488355328) :
    Calls Tryd.prog 60 #[v] w fun e w' => Fresh ls.flatten w e w' := by
  have G := fun n h => Lib.hid (grow n h)
  have lv := hv.len
  by_cases h0 : vs.length = 0
  · obtain ⟨ao, cap, rfl⟩ := hv.shape
    rw [h0]
    have e0 : ls = [] := List.eq_nil_of_length_eq_zero (by rw [← ha.len, h0])
    subst e0
    clear hv ha h0 lv hlen
    go_enter Tryd.func60, Tryd.ntmps60
    go_wp2_with fail
    refine wp_loop_rounds 1 ?_; rw [rounds_succ]
    go_wp2_with fail
    refine ((G 0 (by omega)).out _).mono ?_
    rintro e w1 ⟨v1, rfl, ho, hb⟩
    obtain ⟨ao1, c1, rfl⟩ := ho.bs.shape
    go_wp2_with fail
    refine wp_loop_rounds 1 ?_; rw [rounds_succ]
    go_wp2_with fail
    go_ret
    exact ⟨_, rfl, ho, hb⟩
  · obtain ⟨b, off, cap, rfl, -, -, hbs, cells⟩ := hv.at (by omega)
    have CU := Lib.hid cells
    have HA := Lib.hid ha
    have hNL := Lib.hid ha.len
    clear cells ha hv
    generalize hn : vs.length = n at *
    have hN := Lib.hid hn
    clear hn
    have HL := Lib.hid hlen
    go_enter Tryd.func60, Tryd.ntmps60
    go_wp2
    go_loop [3, 11] (fun s i => ∃ k : Nat, k ≤ n ∧ i = .int .i64 k ∧ s = .int .i64 (tot ls k)) (fun _ i => n - (intOf i).toNat)
    case atStart => exact ⟨0, Nat.zero_le _, rfl, rfl⟩
    case round =>
      obtain ⟨k, hk, rfl, rfl⟩ := hrel
      have b1 := tot_le ls k
      by_cases hlt : k < n
      · have cu := CU.out k hlt
        have hB := HA.out.each k (by have := hN.out; omega)
        have hll := tot_succ (ls := ls) (k := k) (by have := hNL.out; have := hN.out; omega)
        have b2 := tot_le ls (k + 1)
        obtain ⟨ao, c, hsh⟩ := hB.shape
        rw [hsh] at cu
        have HLL := Lib.hid hll
        have b3 : tot ls k + (lth ls k).length ≤ 140737488355328 := by omega
        clear hll hsh hB hlen b2
        have hd : decide (k < n) = true := by simpa using hlt
        go_wp2
        go_round
        case rel => exact ⟨k + 1, by omega, by go_num, by rw [HLL.out]; go_num⟩
        case measure => simp [intOf]; omega
      · have g := G (tot ls k) (by have := HL.out; omega)
        have hkn : k = n := by omega
        subst hkn
        clear b1 G hlt hk
        go_wp2_with fail
        refine (g.out _).mono ?_
        rintro e w1 ⟨v1, rfl, ho, hb⟩
        clear g
        go_wp2_with fail
        generalize hB : w.heap.size = B at *
        have HB := Lib.hid hB
        clear hB
        go_loopw [6, 27] (fun s i wr => ∃ j : Nat, j ≤ k ∧ i = .int .i64 j ∧ Own wr B s (cat ls j) ∧ Below B w wr) (fun _ i _ => k - (intOf i).toNat)
        case atStart => exact ⟨0, Nat.zero_le _, rfl, ho, hb⟩
        case round =>
          obtain ⟨j, hj, rfl, ho', hb'⟩ := hrel
          clear ho hb
          by_cases hlt : j < k
          · have cu := (hb'.cell (p := ⟨b, off + j, none⟩) (by have := HB.out; show b < B; omega)).trans (CU.out j hlt)
            have hS := HA.out.each j (by have := hN.out; omega)
            have hS' := hS.below (hS.under.mono (by have := HB.out; omega)) hb'
            have t1 := tot_le ls (j + 1)
            have t2 := tot_succ (ls := ls) (k := j) (by have := hNL.out; have := hN.out; omega)
            have t3 := cat_length ls j
            have ec := cat_succ (ls := ls) (k := j) (by have := hNL.out; have := hN.out; omega)
            have EC := Lib.hid ec
            have hfit : (cat ls j).length + (lth ls j).length ≤ 140737488355328 := by omega
            have hd : decide (j < k) = true := by simpa using hlt
            clear t1 t2 t3 ec hS
            go_wp2_with (at_builtin; refine wpList_append_bs _ rfl _ _ rfl B _ _ rfl ho' _ _ rfl hS' hfit (by have := hb'.size; have := HB.out; omega) ?_)
            intro v2 w2 ho2 hg2
            have hb2 := hb'.grown hg2 (by have := hb'.size; have := HB.out; omega) (fun k hk => (ho'.lt k hk).1)
            clear hg2 ho' hb' hS'
            go_wp2_with fail
            go_roundw
            case rel => exact ⟨j + 1, by omega, by go_num, by rw [EC.out]; exact ho2, hb2⟩
            case measure => simp [intOf]; omega
          · go_wp2_with fail
            go_ret
            have hjk : j = k := by omega
            subst hjk
            have := cat_all (ls := ls) (k := j) (by have := hNL.out; have := hN.out; omega)
            rw [this] at ho'
            exact ⟨_, rfl, by rw [HB.out]; exact ho', by rw [HB.out]; exact hb'⟩

theorem all_two {w : World} {u v : Value} {x y : List Int} (hu : Bs w u x) (hv : Bs w v y) : All w [u, v] [x, y] :=
  ⟨rfl, fun j hj => by
    match j, hj with
    | 0, _ => exact hu
    | 1, _ => exact hv⟩

end Go.Proofs.YtknkmblacaaegaaDoor
