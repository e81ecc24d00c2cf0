/- Bytes as a string, and whether two are one. -/
import Derived.Test.YtmkhcgfbeeimaaaDoorMem
import Derived.Laws.BytesString
import Derived.Laws.Cells
import Derived.Laws.Strings
namespace Go.Proofs.YtmkhcgfbeeimaaaDoor
open Go.RowKit
set_option linter.unusedVariables false
set_option linter.unusedSimpArgs false

def strOf (l : List Int) : ByteArray := l.foldl (fun r n => r.push (UInt8.ofNat n.toNat)) ByteArray.empty
theorem push_data (r : ByteArray) (x : UInt8) : (r.push x).data.toList = r.data.toList ++ [x] := by
  obtain ⟨⟨l⟩⟩ := r
  simp [ByteArray.push]
theorem strOf_data (l : List Int) (r : ByteArray) : (l.foldl (fun r n => r.push (UInt8.ofNat n.toNat)) r).data.toList = r.data.toList ++ l.map fun n => UInt8.ofNat n.toNat := by
  induction l generalizing r with
  | nil => simp
  | cons n l ih => rw [List.foldl_cons, ih, push_data]; simp
theorem strOf_list (l : List Int) : (strOf l).toList = l.map fun n => UInt8.ofNat n.toNat := by
  rw [ByteArray.toList_eq]
  have := strOf_data l ByteArray.empty
  unfold strOf
  rw [this]; rfl
theorem octs_inj {a b : List Int} (ha : Oct a) (hb : Oct b) (h : (a.map fun n => UInt8.ofNat n.toNat) = b.map fun n => UInt8.ofNat n.toNat) : a = b := by
  induction a generalizing b with
  | nil => cases b with
    | nil => rfl
    | cons _ _ => cases h
  | cons x a ih =>
    cases b with
    | nil => cases h
    | cons y b =>
      simp only [List.map_cons, List.cons.injEq] at h
      have hx := ha x (List.mem_cons_self ..)
      have hy := hb y (List.mem_cons_self ..)
      have e : x = y := by
        have := congrArg UInt8.toNat h.1
        simp at this
        omega
      rw [e, ih (fun n hn => ha n (List.mem_cons_of_mem _ hn)) (fun n hn => hb n (List.mem_cons_of_mem _ hn)) h.2]
theorem strs_eq {a b : List Int} (ha : Oct a) (hb : Oct b) : ((strOf a).toList == (strOf b).toList) = decide (a = b) := by
  rw [strOf_list, strOf_list, Bool.eq_iff_iff]
  simp only [beq_iff_eq, decide_eq_true_eq]
  exact ⟨octs_inj ha hb, fun h => by rw [h]⟩
theorem run_string {w : World} {b o n cap : Nat} {l : List Int} (h : Bs w (.slice (some ⟨b, o, none⟩) n cap) l) : (convert 34 9 (.slice (some ⟨b, o, none⟩) n cap)).run Tryd.prog w = .ok (.string (strOf l)) w := by
  obtain ⟨ao, c, hv, h1, h2, h3, h4⟩ := h
  cases hv
  rw [run_convert_bytes_string w 34 9 5 _ _ _ Tryd.underlying34 (by kernel_rfl) (by kernel_rfl)]
  refine run_bytesToString w _ _ _ l ?_
  have := run_loadCells_list (P := Tryd.prog) (w := w) ⟨b, o, none⟩ (l.map (Value.int .u8)) fun j v hj => by
    have hjl : j < l.length := by simpa using (List.getElem?_eq_some_iff.1 hj).1
    rw [show l.map (Value.int .u8) = bv l from rfl, bv_get hjl] at hj
    cases hj
    exact h4 _ rfl j hjl
  simpa using this
theorem run_eql_strs {a b : List Int} (ha : Oct a) (hb : Oct b) (w : World) : (binOp .eql 9 (.string (strOf a)) (.string (strOf b))).run Tryd.prog w = .ok (.bool (decide (a = b))) w := by
  rw [binOp_string_eql, strs_eq ha hb]; rfl
theorem step_string {w : World} {ops : Array Oper} {o : Oper} {a : Act} {K : Act → World → Prop} {Q : Exit → Act → World → Prop} {E : Prop} (hgd : Region.wanted o (yielded ops a.tmps) = true) (x : Operand) (ho : o.op = .convert 34 9 x)
    (b p n cap : Nat) (l : List Int) (hx : a.eval x = .slice (some ⟨b, p, none⟩) n cap) (hb : Bs w (.slice (some ⟨b, p, none⟩) n cap) l) (h : K (a.put o.dst (.string (strOf l))) w) :
    if Region.wanted o (yielded ops a.tmps) = true then Oper.wp Tryd.prog o a w K Q else E := by
  rw [if_pos hgd]
  have e := run_string hb
  unfold Oper.wp
  simp only [execOp, ho, hx, Sem.run_bind, e, Result.andThen_ok, Sem.run_pure, Oper.upon_value]
  exact h
end Go.Proofs.YtmkhcgfbeeimaaaDoor
