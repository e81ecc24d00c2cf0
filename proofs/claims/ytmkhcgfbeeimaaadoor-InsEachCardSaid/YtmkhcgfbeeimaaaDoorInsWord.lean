/- The program: an instruction's eight bytes. -/
import Derived.Test.YtmkhcgfbeeimaaaDoorInsTz
import Derived.BigQuiet
namespace Go.Proofs.YtmkhcgfbeeimaaaDoor
open Go.RowKit
set_option linter.unusedVariables false
set_option linter.unusedSimpArgs false
set_option maxRecDepth 100000

theorem or_reg {a b : Int} (a0 : 0 ≤ a) (a1 : a ≤ 10) (b0 : 0 ≤ b) (b1 : b ≤ 10) : bits BinOp.or IntKind.i64 (wrap64 (a * 16)) b % 256 = 16 * a + b := by
  have : ∀ x y : Fin 11, bits BinOp.or IntKind.i64 (wrap64 ((x.val : Int) * 16)) (y.val : Int) % 256 = 16 * (x.val : Int) + y.val := by decide +kernel
  have h := this ⟨a.toNat, by omega⟩ ⟨b.toNat, by omega⟩
  simpa [Int.toNat_of_nonneg a0, Int.toNat_of_nonneg b0] using h
theorem or_op {a : Int} (a0 : 1 ≤ a) (a1 : a ≤ 28) : bits BinOp.or IntKind.u8 a 32 = a + 32 ∧ bits BinOp.or IntKind.u8 a 64 = a + 64 ∧ bits BinOp.or IntKind.u8 (bits BinOp.or IntKind.u8 a 32) 64 = a + 32 + 64 := by
  have : ∀ x : Fin 29, bits BinOp.or IntKind.u8 (x.val : Int) 32 = (x.val : Int) + 32 ∧ bits BinOp.or IntKind.u8 (x.val : Int) 64 = (x.val : Int) + 64 ∧ bits BinOp.or IntKind.u8 (bits BinOp.or IntKind.u8 (x.val : Int) 32) 64 = (x.val : Int) + 32 + 64 := by decide +kernel
  have h := this ⟨a.toNat, by omega⟩
  simpa [Int.toNat_of_nonneg (show 0 ≤ a by omega)] using h
theorem or_sz {a n : Int} (ha : a = 14 ∨ a = 15) (hn : n = 1 ∨ n = 2 ∨ n = 4 ∨ n = 8) : bits BinOp.or IntKind.u8 a (tz n * 64) = a + szb n ∧ bits BinOp.or IntKind.u8 (bits BinOp.or IntKind.u8 a 32) (tz n * 64) = a + 32 + szb n := by
  rcases ha with rfl | rfl <;> rcases hn with rfl | rfl | rfl | rfl <;> decide +kernel
theorem off_bytes {n : Int} (h0 : -32768 ≤ n) (h1 : n < 32768) : IntKind.u16.wrap n / 256 % 256 = wrap n 65536 / 256 ∧ IntKind.u16.wrap n % 256 = wrap n 65536 % 256 := by
  rw [IntKind.wrap_u16]; unfold wrap; split <;> omega
theorem im_bytes {n : Int} (h0 : -2147483648 ≤ n) (h1 : n < 2147483648) : n % 4294967296 / 16777216 = wrap n 4294967296 / 16777216 ∧ n % 4294967296 / 65536 % 256 = wrap n 4294967296 / 65536 % 256 ∧
    n % 4294967296 / 256 % 256 = wrap n 4294967296 / 256 % 256 ∧ n % 256 = wrap n 4294967296 % 256 := by
  unfold wrap; split <;> omega
theorem wagg_eq {i : Ins} (t : Tame i) {f : Int} (hf : first i = f) : wagg (enc i) = .agg #[.int .u8 f, .int .u8 (bits BinOp.or IntKind.i64 (wrap64 (i.dst * 16)) i.src % 256), .int .u8 (IntKind.u16.wrap i.off / 256 % 256), .int .u8 (IntKind.u16.wrap i.off % 256),
    .int .u8 (i.im % 4294967296 / 16777216), .int .u8 (i.im % 4294967296 / 65536 % 256), .int .u8 (i.im % 4294967296 / 256 % 256), .int .u8 (i.im % 256)] := by
  obtain ⟨e0, e1, e2, e3, e4, e5, e6, e7⟩ := enc_nth i
  obtain ⟨i0, i1, i2, i3⟩ := im_bytes t.im0 t.im1
  unfold wagg
  rw [e0, e1, e2, e3, e4, e5, e6, e7, hf, or_reg t.dst0 t.dst1 t.src0 t.src1, (off_bytes t.off0 t.off1).1, (off_bytes t.off0 t.off1).2, i0, i1, i2, i3]

set_option maxHeartbeats 8000000 in
theorem wordOf_00 (op dst src off im : Int) (t : Tame ⟨op, false, dst, src, false, off, im, 0⟩) (w : World) : Calls Tryd.prog 38 #[agg ⟨op, false, dst, src, false, off, im, 0⟩] w fun e w' => e = .returned (wagg (enc ⟨op, false, dst, src, false, off, im, 0⟩)) ∧ Below w.heap.size w w' := by
  have e := wagg_eq t (f := op) (by simp [first, szb])
  simp only at e
  rw [e]
  clear e t
  unfold agg
  go_enter Tryd.func38, Tryd.ntmps38
  go_wp2_with fail
  go_region
  go_wp2_with fail
  refine bodyPost_ret (v := _) (by simp [results, Tryd.results38, go_sem]) rfl ⟨rfl, ?_⟩
  repeat (first | exact Below.refl _ _ | refine Below.drew ?_ | refine Below.alloc ?_ (by simp <;> omega) _)

set_option maxHeartbeats 8000000 in
theorem wordOf_01 (op dst src off im : Int) (t : Tame ⟨op, true, dst, src, false, off, im, 0⟩) (w : World) : Calls Tryd.prog 38 #[agg ⟨op, true, dst, src, false, off, im, 0⟩] w fun e w' => e = .returned (wagg (enc ⟨op, true, dst, src, false, off, im, 0⟩)) ∧ Below w.heap.size w w' := by
  have e := wagg_eq t (f := bits BinOp.or IntKind.u8 op 64) (by rw [(or_op t.op0 t.op1).2.1]; simp [first, szb])
  simp only at e
  rw [e]
  clear e t
  unfold agg
  go_enter Tryd.func38, Tryd.ntmps38
  go_wp2_with fail
  go_region
  go_wp2_with fail
  refine bodyPost_ret (v := _) (by simp [results, Tryd.results38, go_sem]) rfl ⟨rfl, ?_⟩
  repeat (first | exact Below.refl _ _ | refine Below.drew ?_ | refine Below.alloc ?_ (by simp <;> omega) _)

set_option maxHeartbeats 8000000 in
theorem wordOf_10 (op dst src off im : Int) (t : Tame ⟨op, false, dst, src, true, off, im, 0⟩) (w : World) : Calls Tryd.prog 38 #[agg ⟨op, false, dst, src, true, off, im, 0⟩] w fun e w' => e = .returned (wagg (enc ⟨op, false, dst, src, true, off, im, 0⟩)) ∧ Below w.heap.size w w' := by
  have e := wagg_eq t (f := bits BinOp.or IntKind.u8 op 32) (by rw [(or_op t.op0 t.op1).1]; simp [first, szb])
  simp only at e
  rw [e]
  clear e t
  unfold agg
  go_enter Tryd.func38, Tryd.ntmps38
  go_wp2_with fail
  go_region
  go_wp2_with fail
  refine bodyPost_ret (v := _) (by simp [results, Tryd.results38, go_sem]) rfl ⟨rfl, ?_⟩
  repeat (first | exact Below.refl _ _ | refine Below.drew ?_ | refine Below.alloc ?_ (by simp <;> omega) _)

set_option maxHeartbeats 8000000 in
theorem wordOf_11 (op dst src off im : Int) (t : Tame ⟨op, true, dst, src, true, off, im, 0⟩) (w : World) : Calls Tryd.prog 38 #[agg ⟨op, true, dst, src, true, off, im, 0⟩] w fun e w' => e = .returned (wagg (enc ⟨op, true, dst, src, true, off, im, 0⟩)) ∧ Below w.heap.size w w' := by
  have e := wagg_eq t (f := bits BinOp.or IntKind.u8 (bits BinOp.or IntKind.u8 op 32) 64) (by rw [(or_op t.op0 t.op1).2.2]; simp [first, szb])
  simp only at e
  rw [e]
  clear e t
  unfold agg
  go_enter Tryd.func38, Tryd.ntmps38
  go_wp2_with fail
  go_region
  go_wp2_with fail
  refine bodyPost_ret (v := _) (by simp [results, Tryd.results38, go_sem]) rfl ⟨rfl, ?_⟩
  repeat (first | exact Below.refl _ _ | refine Below.drew ?_ | refine Below.alloc ?_ (by simp <;> omega) _)

set_option maxHeartbeats 8000000 in
theorem wordOf_0s (op dst src off im n : Int) (ho : op = 14 ∨ op = 15) (hn : n = 1 ∨ n = 2 ∨ n = 4 ∨ n = 8) (t : Tame ⟨op, false, dst, src, false, off, im, n⟩) (w : World) (T : Tab w) : Calls Tryd.prog 38 #[agg ⟨op, false, dst, src, false, off, im, n⟩] w fun e w' => e = .returned (wagg (enc ⟨op, false, dst, src, false, off, im, n⟩)) ∧ Below w.heap.size w w' := by
  have e := wagg_eq t (f := bits BinOp.or IntKind.u8 op (tz n * 64)) (by rw [(or_sz ho hn).1]; simp [first])
  simp only at e
  rw [e]
  have hn0 : (n != 0) = true := by rcases hn with rfl | rfl | rfl | rfl <;> rfl
  have hw : IntKind.u64.wrap n = n := by rcases hn with rfl | rfl | rfl | rfl <;> decide +kernel
  have hz0 : 0 ≤ tz n ∧ tz n ≤ 3 := by rcases hn with rfl | rfl | rfl | rfl <;> decide
  have TZ := Lib.hid (fun W (h : Tab W) => tzOf n hn W h)
  have T2 := Lib.hid ((T.alloc (Obj.cells #[.int .u8 op, .bool false, .int .i64 dst, .int .i64 src, .bool false, .int .i64 off, .int .i64 im, .int .i64 n] 27)).alloc (Obj.cells #[.int .u8 0, .int .u8 0, .int .u8 0, .int .u8 0, .int .u8 0, .int .u8 0, .int .u8 0, .int .u8 0] 55))
  clear e t ho hn T
  generalize tz n = z at TZ hz0 ⊢
  have hz1 : z % 256 = z := by omega
  have hz2 : z * 64 % 256 = z * 64 := by omega
  unfold agg
  go_enter Tryd.func38, Tryd.ntmps38
  go_wp2_with fail
  refine ((TZ.out) _ T2.out).mono ?_; rintro e w1 ⟨rfl, rfl⟩
  go_wp2_with fail
  go_region
  go_wp2_with fail
  refine bodyPost_ret (v := _) (by simp [results, Tryd.results38, go_sem, hz1, hz2]) rfl ⟨rfl, ?_⟩
  repeat (first | exact Below.refl _ _ | refine Below.drew ?_ | refine Below.alloc ?_ (by simp <;> omega) _)

set_option maxHeartbeats 8000000 in
theorem wordOf_1s (op dst src off im n : Int) (ho : op = 14 ∨ op = 15) (hn : n = 1 ∨ n = 2 ∨ n = 4 ∨ n = 8) (t : Tame ⟨op, false, dst, src, true, off, im, n⟩) (w : World) (T : Tab w) : Calls Tryd.prog 38 #[agg ⟨op, false, dst, src, true, off, im, n⟩] w fun e w' => e = .returned (wagg (enc ⟨op, false, dst, src, true, off, im, n⟩)) ∧ Below w.heap.size w w' := by
  have e := wagg_eq t (f := bits BinOp.or IntKind.u8 (bits BinOp.or IntKind.u8 op 32) (tz n * 64)) (by rw [(or_sz ho hn).2]; simp [first])
  simp only at e
  rw [e]
  have hn0 : (n != 0) = true := by rcases hn with rfl | rfl | rfl | rfl <;> rfl
  have hw : IntKind.u64.wrap n = n := by rcases hn with rfl | rfl | rfl | rfl <;> decide +kernel
  have hz0 : 0 ≤ tz n ∧ tz n ≤ 3 := by rcases hn with rfl | rfl | rfl | rfl <;> decide
  have TZ := Lib.hid (fun W (h : Tab W) => tzOf n hn W h)
  have T2 := Lib.hid ((T.alloc (Obj.cells #[.int .u8 op, .bool false, .int .i64 dst, .int .i64 src, .bool true, .int .i64 off, .int .i64 im, .int .i64 n] 27)).alloc (Obj.cells #[.int .u8 0, .int .u8 0, .int .u8 0, .int .u8 0, .int .u8 0, .int .u8 0, .int .u8 0, .int .u8 0] 55))
  clear e t ho hn T
  generalize tz n = z at TZ hz0 ⊢
  have hz1 : z % 256 = z := by omega
  have hz2 : z * 64 % 256 = z * 64 := by omega
  unfold agg
  go_enter Tryd.func38, Tryd.ntmps38
  go_wp2_with fail
  refine ((TZ.out) _ T2.out).mono ?_; rintro e w1 ⟨rfl, rfl⟩
  go_wp2_with fail
  go_region
  go_wp2_with fail
  refine bodyPost_ret (v := _) (by simp [results, Tryd.results38, go_sem, hz1, hz2]) rfl ⟨rfl, ?_⟩
  repeat (first | exact Below.refl _ _ | refine Below.drew ?_ | refine Below.alloc ?_ (by simp <;> omega) _)

theorem wordOf (i : Ins) (h : right i = true) (w : World) (T : Tab w) : Calls Tryd.prog 38 #[agg i] w fun e w' => e = .returned (wagg (enc i)) ∧ Below w.heap.size w w' := by
  have t := tame h
  obtain ⟨op, nw, dst, src, ui, off, im, sz⟩ := i
  have ts := t.sz
  simp only at ts
  rcases ts with ⟨h1, h2, rfl⟩ | ⟨_, _, rfl⟩
  · cases ui
    · exact wordOf_0s op dst src off im sz h1 h2 t w T
    · exact wordOf_1s op dst src off im sz h1 h2 t w T
  · cases ui <;> cases nw
    · exact wordOf_00 op dst src off im t w
    · exact wordOf_01 op dst src off im t w
    · exact wordOf_10 op dst src off im t w
    · exact wordOf_11 op dst src off im t w
end Go.Proofs.YtmkhcgfbeeimaaaDoor
