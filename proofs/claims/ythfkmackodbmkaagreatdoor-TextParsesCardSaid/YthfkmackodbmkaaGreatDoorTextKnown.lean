/- The map that the words stand in. -/
import Derived.Test.YthfkmackodbmkaaGreatDoorTextWords
import Derived.Test.YthfkmackodbmkaaGreatDoorTextRdr
import Derived.Deep.DeepCutAuto
import Derived.Laws.EntriesVeiled
namespace Go.Proofs.YthfkmackodbmkaaGreatDoor
open Go.RowKit Go.MapKept
set_option linter.unusedVariables false
set_option linter.unusedSimpArgs false
set_option maxRecDepth 100000
set_option maxHeartbeats 1000000

def wordV (i : Ins) (f : Nat) : Value := .agg #[.int .u8 i.op, .bool i.nw, .int .i64 i.dst, .int .i64 i.src, .bool i.ui, .int .i64 i.off, .int .i64 i.im, .int .i64 i.sz, .func (.func f) #[] #[]]
theorem map_type : Tryz.prog.underlying 51 = some (.map 9 118) := by kernel_rfl
theorem string_type : Tryz.prog.underlying 9 = some .string := by kernel_rfl
theorem Lay.other {w w' : World} {k : Nat} {es : Array MapEntry} {c : Nat} (h : Lay w) (hk : w.heap[k]? = some (.map es c)) (hg : w.grownBy w' (some k)) : Lay w' := by
  obtain ⟨⟨m, h1⟩, h2, ⟨tp, p, h3⟩, cs, fr, h4, h5⟩ := h
  have var : ∀ {name : String} {cs : Array Value}, w.var? Tryz.prog name = some cs → w'.var? Tryz.prog name = some cs := by
    intro name cs h
    unfold World.var? at h ⊢
    cases hn : Tryz.prog.globalNamed name with
    | none => rw [hn] at h; cases h
    | some g =>
      rw [hn] at h
      simp only [Option.bind_some] at h ⊢
      have hlt : g < w.heap.size := by
        rcases Nat.lt_or_ge g w.heap.size with h' | h'
        · exact h'
        · rw [Array.getElem?_eq_none h'] at h; cases h
      have hne : some g ≠ some k := by
        intro e
        cases e
        rw [hk] at h
        cases h
      rw [hg.block g hlt hne]; exact h
  refine ⟨⟨m, hg.cell h1 (fun e => ?_)⟩, var h2, ⟨tp, p, var h3⟩, cs, fr, ?_, h5⟩
  · have e : _ = k := Option.some.inj e
    simp only at e
    subst e
    simp [World.cell?, hk] at h1
  · rw [hg.block _ (Array.getElem?_eq_some_iff.1 h4).1 (fun e => ?_)]
    · exact h4
    · have e : _ = k := Option.some.inj e
      subst e
      rw [hk] at h4
      cases h4
theorem putWord (i : Ins) (h0 : 0 ≤ i.op) (h1 : i.op ≤ 28) (h2 : -9223372036854775808 ≤ i.sz) (h3 : i.sz ≤ 9223372036854775807) (f : Nat) (b mb : Nat) (ps : List (Str × Value)) (w : World) (L : Lay w)
    (hb : w.cell? ⟨b, 0, none⟩ = some (.map (some mb))) (M : SMap w mb ps) (hn : sFind ps (nameOf i) = none) :
    Calls Tryz.prog 54 #[agg i, .func (.func f) #[] #[], .pointer (some ⟨b, 0, none⟩)] w fun e w' => e = .returned (.tuple #[]) ∧ SMap w' mb (ps ++ [(nameOf i, wordV i f)]) ∧ w.grownBy w' (some mb) := by
  obtain ⟨op, nw, dst, src, ui, off, im, sz⟩ := i
  have W := Lib.hid (fun V LV => wordOfP ⟨op, nw, dst, src, ui, off, im, sz⟩ h0 h1 h2 h3 V LV)
  generalize nameOf ⟨op, nw, dst, src, ui, off, im, sz⟩ = nm at W hn ⊢
  unfold agg at W ⊢
  unfold wordV
  simp only at W ⊢
  have O := oc_new w 47 (.int .u8 op) (.bool nw) (.int .i64 dst) (.int .i64 src) (.bool ui) (.int .i64 off) (.int .i64 im) (.int .i64 sz)
  have B := alloc_below w (Obj.cells #[.int .u8 op, .bool nw, .int .i64 dst, .int .i64 src, .bool ui, .int .i64 off, .int .i64 im, .int .i64 sz] 47)
  go_enter Tryz.func54, Tryz.ntmps54
  go_wp2_with fail
  have LW := Lib.hid (L.past B)
  have HM := Lib.hid (M.below B M.lt)
  have HB := Lib.hid B
  have hbW : (w.alloc (Obj.cells #[.int .u8 op, .bool nw, .int .i64 dst, .int .i64 src, .bool ui, .int .i64 off, .int .i64 im, .int .i64 sz] 47)).cell? ⟨b, 0, none⟩ = some (.map (some mb)) := (B.cell (World.block_lt_of_cell? w _ hb)).trans hb
  have hm : mb < w.heap.size := M.lt
  have HMB := Lib.hid hm
  clear L M hb B hm
  generalize hW : w.alloc (Obj.cells #[.int .u8 op, .bool nw, .int .i64 dst, .int .i64 src, .bool ui, .int .i64 off, .int .i64 im, .int .i64 sz] 47) = w1 at *
  clear hW
  generalize hK0 : w.heap.size = k0 at *
  have HK0 := Lib.hid hK0
  clear hK0
  have S0 : (w1.cell? ⟨k0, 0, none⟩ = some (.int .u8 op) ∧ w1.cell? ⟨k0, 1, none⟩ = some (.bool nw) ∧ w1.cell? ⟨k0, 2, none⟩ = some (.int .i64 dst) ∧ w1.cell? ⟨k0, 3, none⟩ = some (.int .i64 src) ∧ w1.cell? ⟨k0, 4, none⟩ = some (.bool ui) ∧ w1.cell? ⟨k0, 5, none⟩ = some (.int .i64 off) ∧ w1.cell? ⟨k0, 6, none⟩ = some (.int .i64 im) ∧ w1.cell? ⟨k0, 7, none⟩ = some (.int .i64 sz) ∧ w1.cell? ⟨b, 0, none⟩ = some (.map (some mb))) := by
    obtain ⟨z0, z1, z2, z3, z4, z5, z6, z7⟩ := O.cells
    exact ⟨z0, z1, z2, z3, z4, z5, z6, z7, hbW⟩
  have hlt := Lib.hid O.lt
  have hblt := Lib.hid (World.block_lt_of_cell? w1 _ hbW)
  clear O hbW
  refine wp_region_held_drew (S := fun w' => (w'.cell? ⟨k0, 0, none⟩ = some (.int .u8 op) ∧ w'.cell? ⟨k0, 1, none⟩ = some (.bool nw) ∧ w'.cell? ⟨k0, 2, none⟩ = some (.int .i64 dst) ∧ w'.cell? ⟨k0, 3, none⟩ = some (.int .i64 src) ∧ w'.cell? ⟨k0, 4, none⟩ = some (.bool ui) ∧ w'.cell? ⟨k0, 5, none⟩ = some (.int .i64 off) ∧ w'.cell? ⟨k0, 6, none⟩ = some (.int .i64 im) ∧ w'.cell? ⟨k0, 7, none⟩ = some (.int .i64 sz) ∧ w'.cell? ⟨b, 0, none⟩ = some (.map (some mb)))) (by kernel_rfl) S0 (fun S0 => ?_)
  refine wpAnyH_take (i := 0) (v := ?v0t1) rfl (by kernel_rfl) (by kernel_rfl) (by kernel_rfl) (fun _ _ _ h => h) (Or.inl ⟨by rfl, ?y0t1⟩) S0 ?z0t1
  case y0t1 => intro w_ hSw; (try dsimp only at hSw); go_simp; with_reducible rfl
  try simp only [List.getElem_toArray, List.getElem_cons_zero, List.getElem_cons_succ, Act.put, List.setIfInBounds_toArray, List.set_cons_zero, List.set_cons_succ]
  refine wpAnyH_take (i := 1) (v := ?v1t2) rfl (by kernel_rfl) (by kernel_rfl) (by kernel_rfl) (fun _ _ _ h => h) (Or.inl ⟨by rfl, ?y1t2⟩) S0 ?z1t2
  case y1t2 => intro w_ hSw; (try dsimp only at hSw); go_simp; with_reducible rfl
  try simp only [List.getElem_toArray, List.getElem_cons_zero, List.getElem_cons_succ, Act.put, List.setIfInBounds_toArray, List.set_cons_zero, List.set_cons_succ]
  refine wpAnyH_take (i := 3) (v := ?v3t3) rfl (by kernel_rfl) (by kernel_rfl) (by kernel_rfl) (fun _ _ _ h => h) (Or.inl ⟨by rfl, ?y3t3⟩) S0 ?z3t3
  case y3t3 => intro w_ hSw; (try dsimp only at hSw); go_simp; with_reducible rfl
  try simp only [List.getElem_toArray, List.getElem_cons_zero, List.getElem_cons_succ, Act.put, List.setIfInBounds_toArray, List.set_cons_zero, List.set_cons_succ]
  refine wpAnyH_take (i := 4) (v := ?v4t4) rfl (by kernel_rfl) (by kernel_rfl) (by kernel_rfl) (fun _ _ _ h => h) (Or.inl ⟨by rfl, ?y4t4⟩) S0 ?z4t4
  case y4t4 => intro w_ hSw; go_simp; with_reducible rfl
  try simp only [List.getElem_toArray, List.getElem_cons_zero, List.getElem_cons_succ, Act.put, List.setIfInBounds_toArray, List.set_cons_zero, List.set_cons_succ]
  refine wpAnyH_take (i := 5) (v := ?v5t5) rfl (by kernel_rfl) (by kernel_rfl) (by kernel_rfl) (fun _ _ _ h => h) (Or.inl ⟨by rfl, ?y5t5⟩) S0 ?z5t5
  case y5t5 => intro w_ hSw; go_simp; with_reducible rfl
  try simp only [List.getElem_toArray, List.getElem_cons_zero, List.getElem_cons_succ, Act.put, List.setIfInBounds_toArray, List.set_cons_zero, List.set_cons_succ]
  refine wpAnyH_ready (rs := [2]) (by kernel_rfl) (by simp) ?_
  refine AllReadyH.cons rfl (fun K hK => ?_) AllReadyH.nil
  go_simp
  refine ((W.out) w1.drew ((LW.out).past ((Below.refl _ w1).drew))).mono ?_; rintro e w2 ⟨rfl, b2⟩
  have B2 : Below w1.heap.size w1 w2 := ⟨b2.os, b2.tape, b2.output, b2.size, fun k hk => b2.block k hk⟩
  have S1 : (w2.cell? ⟨k0, 0, none⟩ = some (.int .u8 op) ∧ w2.cell? ⟨k0, 1, none⟩ = some (.bool nw) ∧ w2.cell? ⟨k0, 2, none⟩ = some (.int .i64 dst) ∧ w2.cell? ⟨k0, 3, none⟩ = some (.int .i64 src) ∧ w2.cell? ⟨k0, 4, none⟩ = some (.bool ui) ∧ w2.cell? ⟨k0, 5, none⟩ = some (.int .i64 off) ∧ w2.cell? ⟨k0, 6, none⟩ = some (.int .i64 im) ∧ w2.cell? ⟨k0, 7, none⟩ = some (.int .i64 sz) ∧ w2.cell? ⟨b, 0, none⟩ = some (.map (some mb))) := by
    obtain ⟨z0, z1, z2, z3, z4, z5, z6, z7, z8⟩ := S0
    have hk := hlt.out
    have hb := hblt.out
    refine ⟨?_, ?_, ?_, ?_, ?_, ?_, ?_, ?_, ?_⟩ <;> (rw [b2.cell (by first | exact hk | exact hb)]; assumption)
  have M2 := Lib.hid ((HM.out).below B2 (HM.out).lt)
  have HB2 := Lib.hid B2
  clear S0 b2 B2 HM
  try go_wp2_with fail
  refine hK.out _ _ S1 (fun _ => ?_)
  clear hK K
  try simp only [List.getElem_toArray, List.getElem_cons_zero, List.getElem_cons_succ, Act.put, List.setIfInBounds_toArray, List.set_cons_zero, List.set_cons_succ]
  refine wpAnyH_ready (rs := [6]) (by kernel_rfl) (by simp) ?_
  refine AllReadyH.cons rfl (fun K hK => ?_) AllReadyH.nil
  obtain ⟨w3, hrun, hm3, hg3⟩ := (M2.out).put (P := Tryz.prog) (t := 51) (k := 9) (e := 118) map_type string_type (key := nm) (val := .agg #[.int .u8 op, .bool nw, .int .i64 dst, .int .i64 src, .bool ui, .int .i64 off, .int .i64 im, .int .i64 sz, .func (.func f) #[] #[]]) hn
  go_simp
  have HM3 := Lib.hid hm3
  have HG3 := Lib.hid hg3
  clear hrun hm3 hg3
  refine hK.out _ _ (?hs) (fun _ => ?_)
  case hs =>
    obtain ⟨z0, z1, z2, z3, z4, z5, z6, z7, z8⟩ := S1
    have n1 : some k0 ≠ some mb := by intro e; have := Option.some.inj e; have := HMB.out; omega
    have n2 : some b ≠ some mb := by
      intro e
      have e := Option.some.inj e
      subst e
      obtain ⟨es, c, hb, _⟩ := (M2.out)
      simp [World.cell?, hb] at z8
    refine ⟨?_, ?_, ?_, ?_, ?_, ?_, ?_, ?_, ?_⟩ <;> first | exact (HG3.out).cell (by assumption) n1 | exact (HG3.out).cell (by assumption) n2
  clear hK K
  try simp only [List.getElem_toArray, List.getElem_cons_zero, List.getElem_cons_succ, Act.put, List.setIfInBounds_toArray, List.set_cons_zero, List.set_cons_succ]
  refine wpAnyH_done (by kernel_rfl) ?_ _
  go_wp2_with fail
  go_end0
  have hk0 := HK0.out
  subst hk0
  refine ⟨rfl, HM3.out, ?_⟩
  have g := HG3.out
  have B := (HB.out).trans ((HB2.out).mono (HB.out).size)
  exact ⟨g.os.trans B.os, g.tape.trans B.tape, g.output.trans B.output, Nat.le_trans B.size g.size, fun k hk hne => (g.block k (Nat.lt_of_lt_of_le hk B.size) hne).trans (B.block k hk)⟩
theorem sFind_none {ps : List (Str × Value)} {k : Str} (h : k ∉ ps.map (·.1)) : sFind ps k = none := by
  induction ps with
  | nil => rfl
  | cons p ps ih =>
    simp only [List.map_cons, List.mem_cons, not_or] at h
    have h1 : (p.1 == k) = false := by simpa using fun e => h.1 (Eq.symm e)
    have := ih h.2
    unfold sFind at this ⊢
    rw [List.find?_cons, h1]
    exact this
theorem putBoth (op : Int) (h0 : 0 ≤ op) (h1 : op ≤ 28) (f : Nat) (b c mb : Nat) (ps : List (Str × Value)) (w : World) (L : Lay w)
    (hc : w.cell? ⟨c, 0, none⟩ = some (.func (.func 54) #[] #[.pointer (some ⟨b, 0, none⟩)]))
    (hb : w.cell? ⟨b, 0, none⟩ = some (.map (some mb))) (M : SMap w mb ps) (hn : sFind ps (nameOf { noIns with op := op }) = none)
    (hn2 : sFind (ps ++ [(nameOf { noIns with op := op }, wordV { noIns with op := op } f)]) (nameOf { noIns with op := op, nw := true }) = none) :
    Calls Tryz.prog 56 #[.int .u8 op, .func (.func f) #[] #[], .pointer (some ⟨c, 0, none⟩)] w fun e w' => e = .returned (.tuple #[]) ∧
      SMap w' mb (ps ++ [(nameOf { noIns with op := op }, wordV { noIns with op := op } f), (nameOf { noIns with op := op, nw := true }, wordV { noIns with op := op, nw := true } f)]) ∧ w.grownBy w' (some mb) := by
  have P1 := putWord { noIns with op := op } h0 h1 (by simp [noIns]) (by simp [noIns]) f b mb ps w L hb M hn
  have HP := Lib.hid (fun V LV hbV MV => putWord { noIns with op := op, nw := true } h0 h1 (by simp [noIns]) (by simp [noIns]) f b mb _ V LV hbV MV hn2)
  have HL := Lib.hid (fun (V : World) (hg : w.grownBy V (some mb)) => show Lay V by obtain ⟨es, k, hk, _⟩ := M; exact L.other hk hg)
  have notmb : ∀ {k : Nat} {v : Value}, w.cell? ⟨k, 0, none⟩ = some v → some k ≠ some mb := by
    intro k v h e
    have e := Option.some.inj e
    subst e
    obtain ⟨es, k, hk, _⟩ := M
    simp [World.cell?, hk] at h
  have HC := Lib.hid (fun (V : World) (hg : w.grownBy V (some mb)) => And.intro (hg.cell hc (notmb hc)) (hg.cell hb (notmb hb)))
  have hb' := Lib.hid hb
  clear L M hn hn2 notmb hb
  unfold agg noIns at P1 HP
  simp only at P1 HP
  go_enter Tryz.func56, Tryz.ntmps56
  go_wp2_with fail
  refine P1.mono ?_; rintro e w1 ⟨rfl, M1, g1⟩
  have LV := HL.out _ g1
  obtain ⟨hc1, hb1⟩ := HC.out _ g1
  have P2 := HP.out _ LV hb1 M1
  clear LV hc M1
  go_wp2_with fail
  refine P2.mono ?_; rintro e w2 ⟨rfl, M2, g2⟩
  go_wp2_with fail
  go_end0
  refine ⟨rfl, ?_, grown_trans g1 g2⟩
  simpa [noIns] using M2
def kf : Kind → Nat
  | .reckon => 57
  | .target => 58
  | .ask => 59
  | .load => 60
  | .put => 61
  | .jump => 62
  | .exit => 63
def tabV : List (Str × Value) := table.map fun e => (e.1, wordV e.2.1 (kf e.2.2))
theorem table_apart : (table.map (·.1)).Nodup := by decide +kernel
theorem tab_next {k : Nat} {s : Str} {i : Ins} {kd : Kind} (h : table[k]? = some (s, i, kd)) : sFind (tabV.take k) s = none ∧ tabV.take k ++ [(s, wordV i (kf kd))] = tabV.take (k + 1) := by
  have hk : k < table.length := (List.getElem?_eq_some_iff.1 h).1
  constructor
  · refine sFind_none fun hm => ?_
    have hn := table_apart
    have e : ((tabV.take k).map (·.1)) = (table.map (·.1)).take k := by rw [tabV, List.map_take, List.map_map]; rfl
    rw [e] at hm
    obtain ⟨j, hj⟩ := List.getElem?_of_mem hm
    rw [List.getElem?_take] at hj
    split at hj
    · rename_i hjk
      have h2 : (table.map (·.1))[k]? = some s := by simp [h]
      have := (List.getElem?_inj (by simp; omega) hn).1 (hj.trans h2.symm)
      omega
    · cases hj
  · have h2 : tabV[k]? = some (s, wordV i (kf kd)) := by simp [tabV, h]
    rw [List.take_add_one, h2]
    rfl
theorem tab_both1 : ∀ n : Fin 12, table[2 * n.val]? = some (nameOf { noIns with op := (n.val : Int) + 1 }, { noIns with op := (n.val : Int) + 1 }, .reckon) ∧ table[2 * n.val + 1]? = some (nameOf { noIns with op := (n.val : Int) + 1, nw := true }, { noIns with op := (n.val : Int) + 1, nw := true }, .reckon) := by decide +kernel
theorem tab_both2 : table[24]? = some (nameOf { noIns with op := 13 }, { noIns with op := 13 }, .target) ∧ table[25]? = some (nameOf { noIns with op := 13, nw := true }, { noIns with op := 13, nw := true }, .target) := by decide +kernel
theorem tab_both3 : ∀ n : Fin 11, table[26 + 2 * n.val]? = some (nameOf { noIns with op := (n.val : Int) + 17 }, { noIns with op := (n.val : Int) + 17 }, .ask) ∧ table[26 + 2 * n.val + 1]? = some (nameOf { noIns with op := (n.val : Int) + 17, nw := true }, { noIns with op := (n.val : Int) + 17, nw := true }, .ask) := by decide +kernel
theorem tab_sizes : ∀ n : Fin 4, table[48 + 2 * n.val]? = some (nameOf { noIns with op := 14, sz := 2 ^ n.val }, { noIns with op := 14, sz := 2 ^ n.val }, .load) ∧ table[48 + 2 * n.val + 1]? = some (nameOf { noIns with op := 15, sz := 2 ^ n.val }, { noIns with op := 15, sz := 2 ^ n.val }, .put) := by decide +kernel
theorem tab_end : table[56]? = some (nameOf { noIns with op := 16 }, { noIns with op := 16 }, .jump) ∧ table[57]? = some (nameOf { noIns with op := 28 }, { noIns with op := 28 }, .exit) ∧ table.length = 58 := by decide +kernel

/-- The map that is made, with its first n words; and the closures that fill it. -/
structure Kn (w : World) (n : Nat) (v : World) : Prop where
  lay : Lay v
  known : v.cell? ⟨w.heap.size + 1, 0, none⟩ = some (.map (some w.heap.size))
  put : v.cell? ⟨w.heap.size + 2, 0, none⟩ = some (.func (.func 54) #[] #[.pointer (some ⟨w.heap.size + 1, 0, none⟩)])
  map : SMap v w.heap.size (tabV.take n)
  below : Below w.heap.size w v
theorem Kn.grown {w v v' : World} {n m : Nat} (h : Kn w n v) (hg : v.grownBy v' (some w.heap.size)) (hm : SMap v' w.heap.size (tabV.take m)) : Kn w m v' := by
  refine ⟨?_, hg.cell h.known (fun e => by have := Option.some.inj e; simp at this), hg.cell h.put (fun e => by have := Option.some.inj e; simp at this), hm, ?_⟩
  · obtain ⟨es, k, hk, _⟩ := h.map
    exact h.lay.other hk hg
  · have B := h.below
    exact ⟨hg.os.trans B.os, hg.tape.trans B.tape, hg.output.trans B.output, Nat.le_trans B.size hg.size, fun k hk => (hg.block k (Nat.lt_of_lt_of_le hk B.size) (fun e => by have := Option.some.inj e; omega)).trans (B.block k hk)⟩
theorem Kn.one {w v : World} {n : Nat} (h : Kn w n v) {i : Ins} {kd : Kind} (ht : table[n]? = some (nameOf i, i, kd)) (h0 : 0 ≤ i.op) (h1 : i.op ≤ 28) (h2 : -9223372036854775808 ≤ i.sz) (h3 : i.sz ≤ 9223372036854775807) :
    Calls Tryz.prog 54 #[agg i, .func (.func (kf kd)) #[] #[], .pointer (some ⟨w.heap.size + 1, 0, none⟩)] v fun e v' => e = .returned (.tuple #[]) ∧ Kn w (n + 1) v' := by
  obtain ⟨t1, t2⟩ := tab_next ht
  refine (putWord i h0 h1 h2 h3 (kf kd) _ _ _ v h.lay h.known h.map t1).mono ?_
  rintro e v' ⟨rfl, hm, hg⟩
  rw [t2] at hm
  exact ⟨rfl, h.grown hg hm⟩
theorem Kn.both {w v : World} {n : Nat} (h : Kn w n v) {op : Int} {kd : Kind} (ht : table[n]? = some (nameOf { noIns with op := op }, { noIns with op := op }, kd) ∧ table[n + 1]? = some (nameOf { noIns with op := op, nw := true }, { noIns with op := op, nw := true }, kd)) (h0 : 0 ≤ op) (h1 : op ≤ 28) :
    Calls Tryz.prog 56 #[.int .u8 op, .func (.func (kf kd)) #[] #[], .pointer (some ⟨w.heap.size + 2, 0, none⟩)] v fun e v' => e = .returned (.tuple #[]) ∧ Kn w (n + 2) v' := by
  obtain ⟨t1, t2⟩ := tab_next ht.1
  obtain ⟨t3, t4⟩ := tab_next ht.2
  refine (putBoth op h0 h1 (kf kd) _ _ _ _ v h.lay h.put h.known h.map t1 (by rw [t2]; exact t3)).mono ?_
  rintro e v' ⟨rfl, hm, hg⟩
  refine ⟨rfl, h.grown hg ?_⟩
  have e2 : ∀ (l : List (Str × Value)) a b, l ++ [a, b] = (l ++ [a]) ++ [b] := by intros; simp
  rw [e2, t2, t4] at hm
  exact hm
theorem wordsP (w : World) (L : Lay w) : Calls Tryz.prog 25 #[] w fun e v => e = .returned (.map (some w.heap.size)) ∧ SMap v w.heap.size tabV ∧ Below w.heap.size w v := by
  have hmf : ∀ (fn : Fn) (first cap : Array Value) (w : World), (Instr.makeFunc fn first cap).run Tryz.prog w = .ok (.func fn first cap) w := fun _ _ _ _ => rfl
  have hmk : ∀ W : World, (Instr.makeMap 51 none).run Tryz.prog W = .ok (.map (some W.heap.size)) (W.alloc (.map #[] 0)) := fun W => run_makeMap _ W
  have B2 : Below w.heap.size w ((w.alloc (.map #[] 0)).alloc (.cells #[.map (some w.heap.size)] 51)) := (alloc_below w _).trans ((alloc_below _ _).mono (alloc_below w _).size)
  have M2 : SMap ((w.alloc (.map #[] 0)).alloc (.cells #[.map (some w.heap.size)] 51)) w.heap.size [] := (SMap.made w).below (alloc_below _ _) (SMap.made w).lt
  have C2 : ((w.alloc (.map #[] 0)).alloc (.cells #[.map (some w.heap.size)] 51)).cell? ⟨w.heap.size + 1, 0, none⟩ = some (.map (some w.heap.size)) := by
    have h := heap_alloc_new (w.alloc (.map #[] 0)) (.cells #[.map (some w.heap.size)] 51)
    simp only [World.cell?]
    rw [show w.heap.size + 1 = (w.alloc (.map #[] 0)).heap.size from by simp, h]
    rfl
  have hs : ((w.alloc (.map #[] 0)).alloc (.cells #[.map (some w.heap.size)] 51)).heap.size = w.heap.size + 2 := by simp
  have HF := Lib.hid (And.intro B2 (And.intro M2 C2))
  clear B2 M2 C2
  go_enter Tryz.func25, Tryz.ntmps25
  go_upto_region 2 with fail
  generalize (w.alloc (.map #[] 0)).alloc (.cells #[.map (some w.heap.size)] 51) = W2 at *
  have K0 : Hid (Kn w 0 (W2.alloc (.cells #[.func (.func 54) #[] #[.pointer (some ⟨w.heap.size + 1, 0, none⟩)]] 119))) := by
    obtain ⟨B2, M2, C2⟩ := HF.out
    have B3 := alloc_below W2 (.cells #[.func (.func 54) #[] #[.pointer (some ⟨w.heap.size + 1, 0, none⟩)]] 119)
    refine Lib.hid ⟨(L.past B2).past B3, (B3.cell (World.block_lt_of_cell? W2 _ C2)).trans C2, ?_, M2.below B3 M2.lt, B2.trans (B3.mono B2.size)⟩
    simp only [World.cell?]
    rw [← hs, heap_alloc_new]
    rfl
  have HS := Lib.hid hs
  clear hs HF hmk
  go_upto_region 4 with fail
  rw [HS.out]
  generalize W2.alloc (.cells #[.func (.func 54) #[] #[.pointer (some ⟨w.heap.size + 1, 0, none⟩)]] 119) = V at K0 ⊢
  clear HS W2
  go_wp2_with fail
  go_loopw [4] (fun i wr => ∃ k : Nat, k ≤ 12 ∧ i = .int .u8 ((k : Int) + 1) ∧ Hid (Kn w (2 * k) wr)) (fun i _ => 13 - (intOf i).toNat)
  case atStart => exact ⟨0, Nat.zero_le _, rfl, K0⟩
  case round =>
    obtain ⟨k, hk, rfl, HK⟩ := hrel
    by_cases hlt : k < 12
    · have hd : decide ((k : Int) + 1 ≤ 12) = true := by simp; omega
      have TB := tab_both1 ⟨k, hlt⟩
      go_wp2_with fail
      refine ((HK.out).both (op := (k : Int) + 1) (kd := .reckon) TB (by omega) (by omega)).mono ?_; rintro e w1 ⟨rfl, K1⟩
      have HK1 := Lib.hid K1
      clear TB K1
      go_wp2_with fail
      refine ⟨⟨k + 1, by omega, by rfl, by rw [show 2 * (k + 1) = 2 * k + 2 from by omega]; exact HK1⟩, ?_⟩
      simp only [intOf]
      omega
    · have hd : decide ((k : Int) + 1 ≤ 12) = false := by simp; omega
      have hk12 : k = 12 := by omega
      subst hk12
      go_wp2_with fail
      refine ((HK.out).both (op := 13) (kd := .target) tab_both2 (by omega) (by omega)).mono ?_; rintro e w1 ⟨rfl, K1⟩
      have HK1 := Lib.hid K1
      clear K1 HK
      go_wp2_with fail
      go_loopw [5] (fun i wr => ∃ k : Nat, k ≤ 11 ∧ i = .int .u8 ((k : Int) + 17) ∧ Hid (Kn w (26 + 2 * k) wr)) (fun i _ => 30 - (intOf i).toNat)
      case atStart => exact ⟨0, Nat.zero_le _, rfl, HK1⟩
      case round =>
        obtain ⟨k, hk, rfl, HK⟩ := hrel
        by_cases hlt : k < 11
        · have hd : decide ((k : Int) + 17 ≤ 27) = true := by simp; omega
          have TB := tab_both3 ⟨k, hlt⟩
          go_wp2_with fail
          refine ((HK.out).both (op := (k : Int) + 17) (kd := .ask) TB (by omega) (by omega)).mono ?_; rintro e w2 ⟨rfl, K2⟩
          have HK2 := Lib.hid K2
          clear TB K2
          go_wp2_with fail
          refine ⟨⟨k + 1, by omega, by (apply congrArg; push_cast; omega), by rw [show 26 + 2 * (k + 1) = 26 + 2 * k + 2 from by omega]; exact HK2⟩, ?_⟩
          simp only [intOf]
          omega
        · have hd : decide ((k : Int) + 17 ≤ 27) = false := by simp; omega
          have hk11 : k = 11 := by omega
          subst hk11
          go_wp2_with fail
          go_loopw [6] (fun i wr => ∃ k : Nat, k ≤ 4 ∧ i = .int .i64 ((2 : Int) ^ k) ∧ Hid (Kn w (48 + 2 * k) wr)) (fun i _ => 17 - (intOf i).toNat)
          case atStart => exact ⟨0, Nat.zero_le _, rfl, HK⟩
          case round =>
            obtain ⟨k, hk, rfl, HK2⟩ := hrel
            have hpow : (2 : Int) ^ k = 1 ∧ k = 0 ∨ (2 : Int) ^ k = 2 ∧ k = 1 ∨ (2 : Int) ^ k = 4 ∧ k = 2 ∨ (2 : Int) ^ k = 8 ∧ k = 3 ∨ (2 : Int) ^ k = 16 ∧ k = 4 := by
              rcases (by omega : k = 0 ∨ k = 1 ∨ k = 2 ∨ k = 3 ∨ k = 4) with rfl | rfl | rfl | rfl | rfl <;> decide
            have hnext : (2 : Int) ^ (k + 1) = (2 : Int) ^ k * 2 := by rw [Int.pow_succ]
            by_cases hlt : k < 4
            · have TB := tab_sizes ⟨k, hlt⟩
              simp only at TB
              have A := (HK2.out).one TB.1 (by simp) (by simp) (by simp; omega) (by simp; omega)
              have HB := Lib.hid (fun v (h : Kn w (48 + 2 * k + 1) v) => h.one TB.2 (by simp) (by simp) (by simp; omega) (by simp; omega))
              have HP := Lib.hid hpow
              have HN := Lib.hid hnext
              have hd : decide ((2 : Int) ^ k ≤ 8) = true := by simp; omega
              obtain ⟨p, hp⟩ : ∃ p : Int, p = 2 ^ k := ⟨_, rfl⟩
              have HPE := Lib.hid hp
              have c1 := (HK2.out).put
              unfold agg noIns at A HB
              simp only at A HB
              rw [← hp] at A HB hd
              simp only [← hp]
              clear TB hpow hnext hp
              go_wp2_with fail
              refine A.mono ?_; rintro e w2 ⟨rfl, K2⟩
              have c2 := K2.put
              have B := HB.out w2 K2
              clear A c1 K2
              go_wp2_with fail
              refine B.mono ?_; rintro e w3 ⟨rfl, K3⟩
              have HK3 := Lib.hid K3
              clear B c2 K3
              have hq := HPE.out
              have hn2 := HN.out
              have hpw := HP.out
              rw [← hq] at hn2 hpw
              have hb1 : p * 2 ≤ 9223372036854775807 := by omega
              have hb2 : -9223372036854775808 ≤ p * 2 := by omega
              have HQ := Lib.hid hn2
              clear hq hn2 hpw
              go_wp2_with fail
              refine ⟨⟨_, _, _, _, _, _, _, _, _, _, _, _, _, ⟨k + 1, by omega, by rw [HQ.out], by rw [show 48 + 2 * (k + 1) = 48 + 2 * k + 1 + 1 from by omega]; exact HK3⟩, rfl⟩, ?_⟩
              have hpw := HP.out
              have hpe := HPE.out
              show 17 - (p * 2).toNat < 17 - (_ : Int).toNat
              generalize (2 : Int) ^ k = q at hpw hpe ⊢
              subst hpe
              simp [intOf]
              omega
            · have hk4 : k = 4 := by omega
              subst hk4
              have c1 := (HK2.out).put
              have A := (HK2.out).one tab_end.1 (by simp) (by simp) (by simp [noIns]) (by simp [noIns])
              have HB := Lib.hid (fun v (h : Kn w 57 v) => h.one tab_end.2.1 (by simp) (by simp) (by simp [noIns]) (by simp [noIns]))
              unfold agg noIns at A HB
              simp only at A HB
              clear hpow hnext
              go_wp2_with fail
              refine A.mono ?_; rintro e w2 ⟨rfl, K2⟩
              have c2 := K2.put
              have B := HB.out w2 K2
              clear A c1 K2
              go_wp2_with fail
              refine B.mono ?_; rintro e w3 ⟨rfl, K3⟩
              have HK3 := Lib.hid K3
              have c3 := K3.known
              clear B c2 K3
              go_wp2_with fail
              go_ret
              refine ⟨rfl, ?_, (HK3.out).below⟩
              have := (HK3.out).map
              rwa [List.take_of_length_le (by rw [tabV, List.length_map, tab_end.2.2]; omega)] at this
end Go.Proofs.YthfkmackodbmkaaGreatDoor
