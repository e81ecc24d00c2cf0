/- The program: the instruction that eight bytes may be. -/
import Derived.Test.YtmkhcgfbeeimaaaDoorInsRight
import Derived.Laws.BitsAllLaws
namespace Go.Proofs.YtmkhcgfbeeimaaaDoor
open Go.RowKit
set_option linter.unusedVariables false
set_option linter.unusedSimpArgs false
set_option maxRecDepth 100000

theorem and_byte {b : Int} (b0 : 0 ≤ b) (b1 : b < 256) : bits BinOp.and IntKind.u8 b 31 = b % 32 ∧ bits BinOp.and IntKind.u8 b 15 = b % 16 ∧ (bits BinOp.and IntKind.u8 b 32 != 0) = decide (b / 32 % 2 = 1) := by
  have : ∀ x : Fin 256, bits BinOp.and IntKind.u8 (x.val : Int) 31 = (x.val : Int) % 32 ∧ bits BinOp.and IntKind.u8 (x.val : Int) 15 = (x.val : Int) % 16 ∧ (bits BinOp.and IntKind.u8 (x.val : Int) 32 != 0) = decide ((x.val : Int) / 32 % 2 = 1) := by decide +kernel
  have h := this ⟨b.toNat, by omega⟩
  simpa [Int.toNat_of_nonneg b0] using h
theorem nat_join (k : Nat) (a b : Nat) (hb : b < 2 ^ k) : a * 2 ^ k ||| b = a * 2 ^ k + b := by
  rw [Nat.mul_comm, Nat.two_pow_add_eq_or_of_lt hb]
theorem or_two {a b : Int} (ha : 0 ≤ a ∧ a < 256) (hb : 0 ≤ b ∧ b < 256) : bits .or .u16 (a * 256) b = 256 * a + b := by
  obtain ⟨a, rfl⟩ := Int.eq_ofNat_of_zero_le ha.1
  obtain ⟨b, rfl⟩ := Int.eq_ofNat_of_zero_le hb.1
  rw [show ((a : Nat) : Int) * 256 = ((a * 256 : Nat) : Int) from by omega, Go.u16_or_nat _ _ (by omega) (by omega), show a * 256 ||| b = a * 256 + b from nat_join 8 a b (by omega)]
  omega
theorem or_four {a b c d : Int} (ha : 0 ≤ a ∧ a < 256) (hb : 0 ≤ b ∧ b < 256) (hc : 0 ≤ c ∧ c < 256) (hd : 0 ≤ d ∧ d < 256) :
    bits .or .u32 (bits .or .u32 (bits .or .u32 (a * 16777216) (b * 65536)) (c * 256)) d = a * 16777216 + b * 65536 + c * 256 + d := by
  obtain ⟨a, rfl⟩ := Int.eq_ofNat_of_zero_le ha.1
  obtain ⟨b, rfl⟩ := Int.eq_ofNat_of_zero_le hb.1
  obtain ⟨c, rfl⟩ := Int.eq_ofNat_of_zero_le hc.1
  obtain ⟨d, rfl⟩ := Int.eq_ofNat_of_zero_le hd.1
  have e1 : a * 16777216 ||| b * 65536 = (a * 256 + b) * 65536 := by
    have := nat_join 24 a (b * 65536) (by omega)
    rw [show a * 16777216 = a * 2 ^ 24 from rfl, this]; omega
  have e2 : (a * 256 + b) * 65536 ||| c * 256 = (a * 65536 + b * 256 + c) * 256 := by
    have := nat_join 16 (a * 256 + b) (c * 256) (by omega)
    rw [show (a * 256 + b) * 65536 = (a * 256 + b) * 2 ^ 16 from rfl, this]; omega
  have e3 : (a * 65536 + b * 256 + c) * 256 ||| d = (a * 65536 + b * 256 + c) * 256 + d := nat_join 8 _ d (by omega)
  rw [show ((a : Nat) : Int) * 16777216 = ((a * 16777216 : Nat) : Int) from by omega, show ((b : Nat) : Int) * 65536 = ((b * 65536 : Nat) : Int) from by omega, show ((c : Nat) : Int) * 256 = ((c * 256 : Nat) : Int) from by omega,
    Go.u32_or_nat _ _ (by omega) (by omega), e1, Go.u32_or_nat _ _ (by omega) (by omega), e2, Go.u32_or_nat _ _ (by omega) (by omega), e3]
  omega
theorem off_of {a b : Int} (ha : 0 ≤ a ∧ a < 256) (hb : 0 ≤ b ∧ b < 256) : wrap64 (IntKind.i16.wrap (bits BinOp.or IntKind.u16 (IntKind.u16.wrap (IntKind.u16.wrap a * 256)) (IntKind.u16.wrap b))) = unwrap (256 * a + b) 65536 := by
  rw [show IntKind.u16.wrap a = a from by rw [IntKind.wrap_u16]; omega, show IntKind.u16.wrap b = b from by rw [IntKind.wrap_u16]; omega, show IntKind.u16.wrap (a * 256) = a * 256 from by rw [IntKind.wrap_u16]; omega, or_two ha hb]
  generalize hn : 256 * a + b = n
  have : 0 ≤ n ∧ n < 65536 := by omega
  unfold unwrap
  have e : IntKind.i16.wrap n = if (true && decide (n % 65536 ≥ 32768)) = true then n % 65536 - 65536 else n % 65536 := rfl
  rw [e]
  unfold wrap64
  by_cases hq : 32768 ≤ n
  · rw [if_pos (by simp; omega), if_pos (by omega)]; omega
  · rw [if_neg (by simp; omega), if_neg (by omega)]; omega
theorem im_of {a b c d : Int} (ha : 0 ≤ a ∧ a < 256) (hb : 0 ≤ b ∧ b < 256) (hc : 0 ≤ c ∧ c < 256) (hd : 0 ≤ d ∧ d < 256) :
    wrap64 (wrap32 (bits BinOp.or IntKind.u32 (bits BinOp.or IntKind.u32 (bits BinOp.or IntKind.u32 (a % 4294967296 * 16777216 % 4294967296) (b % 4294967296 * 65536 % 4294967296)) (c % 4294967296 * 256 % 4294967296)) (d % 4294967296)))
      = unwrap (16777216 * a + 65536 * b + 256 * c + d) 4294967296 := by
  rw [show a % 4294967296 * 16777216 % 4294967296 = a * 16777216 from by omega, show b % 4294967296 * 65536 % 4294967296 = b * 65536 from by omega, show c % 4294967296 * 256 % 4294967296 = c * 256 from by omega, show d % 4294967296 = d from by omega, or_four ha hb hc hd]
  rw [show a * 16777216 + b * 65536 + c * 256 + d = 16777216 * a + 65536 * b + 256 * c + d from by omega]
  generalize hn : 16777216 * a + 65536 * b + 256 * c + d = n
  have : 0 ≤ n ∧ n < 4294967296 := by omega
  unfold unwrap wrap64 wrap32
  split <;> omega

/-- What the walk leaves. -/
def left8 (op b0 b1 b2 b3 b4 b5 b6 b7 : Int) (nw : Bool) (sz : Int) : Value := .agg #[.int .u8 op, .bool nw, .int .i64 (wrap64 (b1 / 16)), .int .i64 (wrap64 (bits BinOp.and IntKind.u8 b1 15)), .bool (bits BinOp.and IntKind.u8 b0 32 != 0),
  .int .i64 (wrap64 (IntKind.i16.wrap (bits BinOp.or IntKind.u16 (IntKind.u16.wrap (IntKind.u16.wrap b2 * 256)) (IntKind.u16.wrap b3)))),
  .int .i64 (wrap64 (wrap32 (bits BinOp.or IntKind.u32 (bits BinOp.or IntKind.u32 (bits BinOp.or IntKind.u32 (b4 % 4294967296 * 16777216 % 4294967296) (b5 % 4294967296 * 65536 % 4294967296)) (b6 % 4294967296 * 256 % 4294967296)) (b7 % 4294967296)))), .int .i64 sz]
theorem left8_eq {b : List Int} (h8 : b.length = 8) (ho : Oct b) (nw : Bool) (sz : Int) : left8 (nth b 0 % 32) (nth b 0) (nth b 1) (nth b 2) (nth b 3) (nth b 4) (nth b 5) (nth b 6) (nth b 7) nw sz
    = agg { dec b with nw := nw, sz := sz } := by
  have h := fun j (hj : j < 8) => ho.nth (j := j) (by omega)
  unfold left8 agg dec
  simp only
  rw [off_of (h 2 (by decide)) (h 3 (by decide)), im_of (h 4 (by decide)) (h 5 (by decide)) (h 6 (by decide)) (h 7 (by decide)), (and_byte (h 0 (by decide)).1 (h 0 (by decide)).2).2.2, (and_byte (h 1 (by decide)).1 (h 1 (by decide)).2).2.1]
  have h1 := h 1 (by decide)
  rw [show wrap64 (nth b 1 / 16) = nth b 1 / 16 from by unfold wrap64; omega, show wrap64 (nth b 1 % 16) = nth b 1 % 16 from by unfold wrap64; omega]

set_option maxHeartbeats 8000000 in
theorem insOf_s0 (b0 b1 b2 b3 b4 b5 b6 b7 op : Int) (ho : bits BinOp.and IntKind.u8 b0 31 = op) (hu : b0 / 64 = 0) (hf : fl op = 107 ∨ fl op = 117) (h0 : 0 ≤ op) (h1 : op ≤ 255) (w : World) :
    Calls Tryd.prog 40 #[.agg #[.int .u8 b0, .int .u8 b1, .int .u8 b2, .int .u8 b3, .int .u8 b4, .int .u8 b5, .int .u8 b6, .int .u8 b7]] w fun e w' => e = .returned (left8 op b0 b1 b2 b3 b4 b5 b6 b7 false 1) ∧ Below w.heap.size w w' := by
  have HFO := Lib.hid (fieldsOf_w op · h0 h1)
  have hd1 : (bits BinOp.and IntKind.u64 (fl op) 64 != 0) = true := by rcases hf with h | h <;> rw [h] <;> decide
  clear h0 h1 hf
  generalize fl op = flo at HFO hd1
  unfold left8
  go_enter Tryd.func40, Tryd.ntmps40
  go_wp2_with fail
  refine (HFO.out _).mono ?_; rintro e w1 ⟨rfl, rfl⟩
  go_wp2_with fail
  refine bodyPost_ret (v := _) (by simp [results, Tryd.results40, go_sem]) rfl ⟨rfl, ?_⟩
  repeat (first | exact Below.refl _ _ | refine Below.drew ?_ | refine Below.alloc ?_ (by simp <;> omega) _)

set_option maxHeartbeats 8000000 in
theorem insOf_s1 (b0 b1 b2 b3 b4 b5 b6 b7 op : Int) (ho : bits BinOp.and IntKind.u8 b0 31 = op) (hu : b0 / 64 = 1) (hf : fl op = 107 ∨ fl op = 117) (h0 : 0 ≤ op) (h1 : op ≤ 255) (w : World) :
    Calls Tryd.prog 40 #[.agg #[.int .u8 b0, .int .u8 b1, .int .u8 b2, .int .u8 b3, .int .u8 b4, .int .u8 b5, .int .u8 b6, .int .u8 b7]] w fun e w' => e = .returned (left8 op b0 b1 b2 b3 b4 b5 b6 b7 false 2) ∧ Below w.heap.size w w' := by
  have HFO := Lib.hid (fieldsOf_w op · h0 h1)
  have hd1 : (bits BinOp.and IntKind.u64 (fl op) 64 != 0) = true := by rcases hf with h | h <;> rw [h] <;> decide
  clear h0 h1 hf
  generalize fl op = flo at HFO hd1
  unfold left8
  go_enter Tryd.func40, Tryd.ntmps40
  go_wp2_with fail
  refine (HFO.out _).mono ?_; rintro e w1 ⟨rfl, rfl⟩
  go_wp2_with fail
  refine bodyPost_ret (v := _) (by simp [results, Tryd.results40, go_sem]) rfl ⟨rfl, ?_⟩
  repeat (first | exact Below.refl _ _ | refine Below.drew ?_ | refine Below.alloc ?_ (by simp <;> omega) _)

set_option maxHeartbeats 8000000 in
theorem insOf_s2 (b0 b1 b2 b3 b4 b5 b6 b7 op : Int) (ho : bits BinOp.and IntKind.u8 b0 31 = op) (hu : b0 / 64 = 2) (hf : fl op = 107 ∨ fl op = 117) (h0 : 0 ≤ op) (h1 : op ≤ 255) (w : World) :
    Calls Tryd.prog 40 #[.agg #[.int .u8 b0, .int .u8 b1, .int .u8 b2, .int .u8 b3, .int .u8 b4, .int .u8 b5, .int .u8 b6, .int .u8 b7]] w fun e w' => e = .returned (left8 op b0 b1 b2 b3 b4 b5 b6 b7 false 4) ∧ Below w.heap.size w w' := by
  have HFO := Lib.hid (fieldsOf_w op · h0 h1)
  have hd1 : (bits BinOp.and IntKind.u64 (fl op) 64 != 0) = true := by rcases hf with h | h <;> rw [h] <;> decide
  clear h0 h1 hf
  generalize fl op = flo at HFO hd1
  unfold left8
  go_enter Tryd.func40, Tryd.ntmps40
  go_wp2_with fail
  refine (HFO.out _).mono ?_; rintro e w1 ⟨rfl, rfl⟩
  go_wp2_with fail
  refine bodyPost_ret (v := _) (by simp [results, Tryd.results40, go_sem]) rfl ⟨rfl, ?_⟩
  repeat (first | exact Below.refl _ _ | refine Below.drew ?_ | refine Below.alloc ?_ (by simp <;> omega) _)

set_option maxHeartbeats 8000000 in
theorem insOf_s3 (b0 b1 b2 b3 b4 b5 b6 b7 op : Int) (ho : bits BinOp.and IntKind.u8 b0 31 = op) (hu : b0 / 64 = 3) (hf : fl op = 107 ∨ fl op = 117) (h0 : 0 ≤ op) (h1 : op ≤ 255) (w : World) :
    Calls Tryd.prog 40 #[.agg #[.int .u8 b0, .int .u8 b1, .int .u8 b2, .int .u8 b3, .int .u8 b4, .int .u8 b5, .int .u8 b6, .int .u8 b7]] w fun e w' => e = .returned (left8 op b0 b1 b2 b3 b4 b5 b6 b7 false 8) ∧ Below w.heap.size w w' := by
  have HFO := Lib.hid (fieldsOf_w op · h0 h1)
  have hd1 : (bits BinOp.and IntKind.u64 (fl op) 64 != 0) = true := by rcases hf with h | h <;> rw [h] <;> decide
  clear h0 h1 hf
  generalize fl op = flo at HFO hd1
  unfold left8
  go_enter Tryd.func40, Tryd.ntmps40
  go_wp2_with fail
  refine (HFO.out _).mono ?_; rintro e w1 ⟨rfl, rfl⟩
  go_wp2_with fail
  refine bodyPost_ret (v := _) (by simp [results, Tryd.results40, go_sem]) rfl ⟨rfl, ?_⟩
  repeat (first | exact Below.refl _ _ | refine Below.drew ?_ | refine Below.alloc ?_ (by simp <;> omega) _)

set_option maxHeartbeats 8000000 in
theorem insOf_n (b0 b1 b2 b3 b4 b5 b6 b7 op : Int) (nw : Bool) (ho : bits BinOp.and IntKind.u8 b0 31 = op) (hu : decide (b0 / 64 = 1) = nw) (hf : (bits BinOp.and IntKind.u64 (fl op) 64 != 0) = false) (h0 : 0 ≤ op) (h1 : op ≤ 255) (w : World) :
    Calls Tryd.prog 40 #[.agg #[.int .u8 b0, .int .u8 b1, .int .u8 b2, .int .u8 b3, .int .u8 b4, .int .u8 b5, .int .u8 b6, .int .u8 b7]] w fun e w' => e = .returned (left8 op b0 b1 b2 b3 b4 b5 b6 b7 nw 0) ∧ Below w.heap.size w w' := by
  have HFO := Lib.hid (fieldsOf_w op · h0 h1)
  clear h0 h1
  generalize fl op = flo at HFO hf
  have hu2 : (b0 / 64 == 1) = nw := by rw [← hu]; rfl
  unfold left8
  go_enter Tryd.func40, Tryd.ntmps40
  go_wp2_with fail
  refine (HFO.out _).mono ?_; rintro e w1 ⟨rfl, rfl⟩
  go_wp2_with fail
  refine bodyPost_ret (v := _) (by simp [results, Tryd.results40, go_sem] <;> rfl) rfl ⟨by first | rfl | (rw [← hu2]; rfl) | simp [← hu2], ?_⟩
  repeat (first | exact Below.refl _ _ | refine Below.drew ?_ | refine Below.alloc ?_ (by simp <;> omega) _)
theorem insOf (b : List Int) (h8 : b.length = 8) (ho : Oct b) (w : World) : Calls Tryd.prog 40 #[wagg b] w fun e w' => e = .returned (agg (decP b)) ∧ Below w.heap.size w w' := by
  have h := ho.nth (j := 0) (by omega)
  have e1 := (and_byte h.1 h.2).1
  have hop : 0 ≤ nth b 0 % 32 ∧ nth b 0 % 32 ≤ 255 := by omega
  unfold wagg
  by_cases hc : nth b 0 % 32 = 14 ∨ nth b 0 % 32 = 15
  · have hf : fl (nth b 0 % 32) = 107 ∨ fl (nth b 0 % 32) = 117 := by rcases hc with e | e <;> rw [e] <;> decide
    have hup : nth b 0 / 64 = 0 ∨ nth b 0 / 64 = 1 ∨ nth b 0 / 64 = 2 ∨ nth b 0 / 64 = 3 := by omega
    rcases hup with hu | hu | hu | hu
    · have e : left8 (nth b 0 % 32) (nth b 0) (nth b 1) (nth b 2) (nth b 3) (nth b 4) (nth b 5) (nth b 6) (nth b 7) false 1 = agg (decP b) := by
        rw [left8_eq h8 ho]; unfold decP dec; simp [hc, hu]
      rw [← e]; exact insOf_s0 _ _ _ _ _ _ _ _ _ e1 hu hf hop.1 hop.2 w
    · have e : left8 (nth b 0 % 32) (nth b 0) (nth b 1) (nth b 2) (nth b 3) (nth b 4) (nth b 5) (nth b 6) (nth b 7) false 2 = agg (decP b) := by
        rw [left8_eq h8 ho]; unfold decP dec; simp [hc, hu]
      rw [← e]; exact insOf_s1 _ _ _ _ _ _ _ _ _ e1 hu hf hop.1 hop.2 w
    · have e : left8 (nth b 0 % 32) (nth b 0) (nth b 1) (nth b 2) (nth b 3) (nth b 4) (nth b 5) (nth b 6) (nth b 7) false 4 = agg (decP b) := by
        rw [left8_eq h8 ho]; unfold decP dec; simp [hc, hu]
      rw [← e]; exact insOf_s2 _ _ _ _ _ _ _ _ _ e1 hu hf hop.1 hop.2 w
    · have e : left8 (nth b 0 % 32) (nth b 0) (nth b 1) (nth b 2) (nth b 3) (nth b 4) (nth b 5) (nth b 6) (nth b 7) false 8 = agg (decP b) := by
        rw [left8_eq h8 ho]; unfold decP dec; simp [hc, hu]
      rw [← e]; exact insOf_s3 _ _ _ _ _ _ _ _ _ e1 hu hf hop.1 hop.2 w
  · have hf : (bits BinOp.and IntKind.u64 (fl (nth b 0 % 32)) 64 != 0) = false := by
      have : fl (nth b 0 % 32) ≠ 107 ∧ fl (nth b 0 % 32) ≠ 117 := by
        simp only [not_or] at hc
        constructor
        · intro e; unfold fl at e; repeat' split at e
          all_goals first | (exact absurd e (by decide)) | omega
        · intro e; unfold fl at e; repeat' split at e
          all_goals first | (exact absurd e (by decide)) | omega
      rcases fl_cases (nth b 0 % 32) with e | e | e | e | e | e | e | e
      · rw [e]; decide
      · rw [e]; decide
      · rw [e]; decide
      · exact absurd e this.1
      · exact absurd e this.2
      · rw [e]; decide
      · rw [e]; decide
      · rw [e]; decide
    have e : left8 (nth b 0 % 32) (nth b 0) (nth b 1) (nth b 2) (nth b 3) (nth b 4) (nth b 5) (nth b 6) (nth b 7) (decide (nth b 0 / 64 = 1)) 0 = agg (decP b) := by
      rw [left8_eq h8 ho]; unfold decP dec; simp [hc]
    rw [← e]; exact insOf_n _ _ _ _ _ _ _ _ _ _ e1 rfl hf hop.1 hop.2 w
end Go.Proofs.YtmkhcgfbeeimaaaDoor
