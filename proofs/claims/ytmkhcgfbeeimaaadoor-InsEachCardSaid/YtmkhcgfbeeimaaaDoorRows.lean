/-
  NARROWER THAN 'FOR EVERY INPUT', by the rows' own cells (each row's printed sentence says how): InsRight: laid · InsBytes: laid · InsLong: laid · InsBack: laid · InsEach: laid.
  DERIVED. THE GIVEN ROWS OF THIS SEAT. 5 by the template 'for every input the law returns true; each argument reads behind the call as it read before'; 0 by the template 'total and deterministic' (their statements: YtmkhcgfbeeimaaaDoorTotals.lean).
  GIVEN WITH THE SEED: the statements are not yours to turn. If you find one false, say at which input.
  Laid BY PROGRAM, IN A SANDBOX (cutbox-rows.mjs): the forced cells as the released guide's own fill.sh prints them over the translation 81d12cc0ad0b3b2c… (all of the seat's roots in one cut). By AI agents, Wed Nov 11 2026. No macro, syntax, notation, axiom, sorry.
-/
import Derived.Test.YtmkhcgfbeeimaaaDoorChecked
import GoSem.Claim
import GoSem.ClaimJoined
import GoSem.ClaimMapViews
import Derived.JoinedTies
import Derived.KernelRfl
namespace Go.Proofs.YtmkhcgfbeeimaaaDoor
/- THE CELL 'sum', in the pinned program and in every row, IS THE sha256 OF THE DUMP (.gsa) THAT YtmkhcgfbeeimaaaDoorProg.lean LOADS. Nothing in Lean hashes anything: it is a label: what it is worth is what the hold of that sum in a sandbox is worth. -/
noncomputable def Tryd.pinned : Pinned := { name := "ytmkhcgfbeeimaaadoor", sum := "81d12cc0ad0b3b2c0e8c21a9e97e41dbce46179ef9ed833b5a9fcbb555575a5a", checked := Tryd.checked }
namespace Rows
def none {H : Type} : Left H := { results := [], args := [] }

/- WHAT THE LISTED PACKAGE-LEVEL VARIABLES READ AS WHEN THE CALL BEGINS. Each datum BY PROGRAM (the guide's laid-datum.mjs) off the statement by which the dump's own 'gosem.cut.vars' lays the variable. In a bare row this is a premise. The card (YtmkhcgfbeeimaaaDoorCards.lean) ties it to the program's text. -/
def laid_math_bits_deBruijn32tab {H : Type} : DataW H := .agg [.lit (.int .u8 0), .lit (.int .u8 1), .lit (.int .u8 28), .lit (.int .u8 2), .lit (.int .u8 29), .lit (.int .u8 14), .lit (.int .u8 24), .lit (.int .u8 3), .lit (.int .u8 30), .lit (.int .u8 22), .lit (.int .u8 20), .lit (.int .u8 15), .lit (.int .u8 25), .lit (.int .u8 17), .lit (.int .u8 4), .lit (.int .u8 8), .lit (.int .u8 31), .lit (.int .u8 27), .lit (.int .u8 13), .lit (.int .u8 23), .lit (.int .u8 21), .lit (.int .u8 19), .lit (.int .u8 16), .lit (.int .u8 7), .lit (.int .u8 26), .lit (.int .u8 12), .lit (.int .u8 18), .lit (.int .u8 6), .lit (.int .u8 11), .lit (.int .u8 5), .lit (.int .u8 10), .lit (.int .u8 9)]
def laid_math_bits_deBruijn64tab {H : Type} : DataW H := .agg [.lit (.int .u8 0), .lit (.int .u8 1), .lit (.int .u8 56), .lit (.int .u8 2), .lit (.int .u8 57), .lit (.int .u8 49), .lit (.int .u8 28), .lit (.int .u8 3), .lit (.int .u8 61), .lit (.int .u8 58), .lit (.int .u8 42), .lit (.int .u8 50), .lit (.int .u8 38), .lit (.int .u8 29), .lit (.int .u8 17), .lit (.int .u8 4), .lit (.int .u8 62), .lit (.int .u8 47), .lit (.int .u8 59), .lit (.int .u8 36), .lit (.int .u8 45), .lit (.int .u8 43), .lit (.int .u8 51), .lit (.int .u8 22), .lit (.int .u8 53), .lit (.int .u8 39), .lit (.int .u8 33), .lit (.int .u8 30), .lit (.int .u8 24), .lit (.int .u8 18), .lit (.int .u8 12), .lit (.int .u8 5), .lit (.int .u8 63), .lit (.int .u8 55), .lit (.int .u8 48), .lit (.int .u8 27), .lit (.int .u8 60), .lit (.int .u8 41), .lit (.int .u8 37), .lit (.int .u8 16), .lit (.int .u8 46), .lit (.int .u8 35), .lit (.int .u8 44), .lit (.int .u8 21), .lit (.int .u8 52), .lit (.int .u8 32), .lit (.int .u8 23), .lit (.int .u8 11), .lit (.int .u8 54), .lit (.int .u8 26), .lit (.int .u8 40), .lit (.int .u8 15), .lit (.int .u8 34), .lit (.int .u8 20), .lit (.int .u8 31), .lit (.int .u8 10), .lit (.int .u8 25), .lit (.int .u8 14), .lit (.int .u8 19), .lit (.int .u8 9), .lit (.int .u8 13), .lit (.int .u8 8), .lit (.int .u8 7), .lit (.int .u8 6)]

/-- 'barbicanlaw06.InsRight': WHATEVER THE INPUT: true; the input reads as it did. -/
def insRightSpec : ChangeSpec := { name := "insRight", fn := fun _ => fun
  | [d1, d2] => { results := [.lit (.bool true)], args := [d1, d2] }
  | _ => none }
def insRightRow : OpenClaim := { program := "ytmkhcgfbeeimaaadoor", sum := "81d12cc0ad0b3b2c0e8c21a9e97e41dbce46179ef9ed833b5a9fcbb555575a5a", func := "barbican/barbicanlaw06.InsRight", spec := "insRight", named := ["math/bits.deBruijn32tab", "math/bits.deBruijn64tab"], apart := false, laid := [("math/bits.deBruijn32tab", laid_math_bits_deBruijn32tab), ("math/bits.deBruijn64tab", laid_math_bits_deBruijn64tab)] }
def InsRightSaid : Prop := insRightRow.holds Tryd.pinned (OpenSpec.ofChange insRightSpec)

/-- ITS FALSE NEIGHBOUR: 'it returns false'. Refute it at one input. -/
def insRightWrong : ChangeSpec := { name := "insRight", fn := fun _ => fun
  | [d1, d2] => { results := [.lit (.bool false)], args := [d1, d2] }
  | _ => none }
def InsRightWrongFalsely : Prop := insRightRow.holds Tryd.pinned (OpenSpec.ofChange insRightWrong)

/-- 'barbicanlaw06.InsBytes': WHATEVER THE INPUT: true; the input reads as it did. -/
def insBytesSpec : ChangeSpec := { name := "insBytes", fn := fun _ => fun
  | [d1, d2] => { results := [.lit (.bool true)], args := [d1, d2] }
  | _ => none }
def insBytesRow : OpenClaim := { program := "ytmkhcgfbeeimaaadoor", sum := "81d12cc0ad0b3b2c0e8c21a9e97e41dbce46179ef9ed833b5a9fcbb555575a5a", func := "barbican/barbicanlaw06.InsBytes", spec := "insBytes", named := ["math/bits.deBruijn32tab", "math/bits.deBruijn64tab"], apart := false, laid := [("math/bits.deBruijn32tab", laid_math_bits_deBruijn32tab), ("math/bits.deBruijn64tab", laid_math_bits_deBruijn64tab)] }
def InsBytesSaid : Prop := insBytesRow.holds Tryd.pinned (OpenSpec.ofChange insBytesSpec)

/-- ITS FALSE NEIGHBOUR: 'it returns false'. Refute it at one input. -/
def insBytesWrong : ChangeSpec := { name := "insBytes", fn := fun _ => fun
  | [d1, d2] => { results := [.lit (.bool false)], args := [d1, d2] }
  | _ => none }
def InsBytesWrongFalsely : Prop := insBytesRow.holds Tryd.pinned (OpenSpec.ofChange insBytesWrong)

/-- 'barbicanlaw06.InsLong': WHATEVER THE INPUT: true; the input reads as it did. -/
def insLongSpec : ChangeSpec := { name := "insLong", fn := fun _ => fun
  | [d1, d2] => { results := [.lit (.bool true)], args := [d1, d2] }
  | _ => none }
def insLongRow : OpenClaim := { program := "ytmkhcgfbeeimaaadoor", sum := "81d12cc0ad0b3b2c0e8c21a9e97e41dbce46179ef9ed833b5a9fcbb555575a5a", func := "barbican/barbicanlaw06.InsLong", spec := "insLong", named := ["math/bits.deBruijn32tab", "math/bits.deBruijn64tab"], apart := false, laid := [("math/bits.deBruijn32tab", laid_math_bits_deBruijn32tab), ("math/bits.deBruijn64tab", laid_math_bits_deBruijn64tab)] }
def InsLongSaid : Prop := insLongRow.holds Tryd.pinned (OpenSpec.ofChange insLongSpec)

/-- ITS FALSE NEIGHBOUR: 'it returns false'. Refute it at one input. -/
def insLongWrong : ChangeSpec := { name := "insLong", fn := fun _ => fun
  | [d1, d2] => { results := [.lit (.bool false)], args := [d1, d2] }
  | _ => none }
def InsLongWrongFalsely : Prop := insLongRow.holds Tryd.pinned (OpenSpec.ofChange insLongWrong)

/-- 'barbicanlaw06.InsBack': WHATEVER THE INPUT: true; the input reads as it did. -/
def insBackSpec : ChangeSpec := { name := "insBack", fn := fun _ => fun
  | [d1, d2, d3] => { results := [.lit (.bool true)], args := [d1, d2, d3] }
  | _ => none }
def insBackRow : OpenClaim := { program := "ytmkhcgfbeeimaaadoor", sum := "81d12cc0ad0b3b2c0e8c21a9e97e41dbce46179ef9ed833b5a9fcbb555575a5a", func := "barbican/barbicanlaw06.InsBack", spec := "insBack", named := ["math/bits.deBruijn32tab", "math/bits.deBruijn64tab"], apart := false, laid := [("math/bits.deBruijn32tab", laid_math_bits_deBruijn32tab), ("math/bits.deBruijn64tab", laid_math_bits_deBruijn64tab)] }
def InsBackSaid : Prop := insBackRow.holds Tryd.pinned (OpenSpec.ofChange insBackSpec)

/-- ITS FALSE NEIGHBOUR: 'it returns false'. Refute it at one input. -/
def insBackWrong : ChangeSpec := { name := "insBack", fn := fun _ => fun
  | [d1, d2, d3] => { results := [.lit (.bool false)], args := [d1, d2, d3] }
  | _ => none }
def InsBackWrongFalsely : Prop := insBackRow.holds Tryd.pinned (OpenSpec.ofChange insBackWrong)

/-- 'barbicanlaw06.InsEach': WHATEVER THE INPUT: true; the input reads as it did. -/
def insEachSpec : ChangeSpec := { name := "insEach", fn := fun _ => fun
  | [] => { results := [.lit (.bool true)], args := [] }
  | _ => none }
def insEachRow : OpenClaim := { program := "ytmkhcgfbeeimaaadoor", sum := "81d12cc0ad0b3b2c0e8c21a9e97e41dbce46179ef9ed833b5a9fcbb555575a5a", func := "barbican/barbicanlaw06.InsEach", spec := "insEach", named := ["math/bits.deBruijn32tab", "math/bits.deBruijn64tab"], apart := false, laid := [("math/bits.deBruijn32tab", laid_math_bits_deBruijn32tab), ("math/bits.deBruijn64tab", laid_math_bits_deBruijn64tab)] }
def InsEachSaid : Prop := insEachRow.holds Tryd.pinned (OpenSpec.ofChange insEachSpec)

/-- ITS FALSE NEIGHBOUR: 'it returns false'. Refute it at one input. -/
def insEachWrong : ChangeSpec := { name := "insEach", fn := fun _ => fun
  | [] => { results := [.lit (.bool false)], args := [] }
  | _ => none }
def InsEachWrongFalsely : Prop := insEachRow.holds Tryd.pinned (OpenSpec.ofChange insEachWrong)

/- THE SECOND FORM. 'bulk': how many values and letters a reading holds, each counted each time it is reached (what is shared counts as often as it is met; a slice's spare places count too). A statement '..UptoSaid' is the law's where the arguments, and the package variables that the reading takes, are together of bulk at most 1048576: NARROWER than '..Said'. Prove '..Said' where nothing that the law and all that it calls make is longer than what came in: it says more and counts as full. Else prove '..UptoSaid'. A law counts once. -/
mutual
def uptoBulk {H : Type} : DataW H → Nat
  | .lit (.string bytes) => bytes.length + 1
  | .lit _ => 1
  | .nil => 1
  | .ptr d => uptoBulk d + 1
  | .slice elems spare => uptoBulkAll elems + uptoBulkAll spare + 1
  | .agg parts => uptoBulkAll parts + 1
  | .iface _ d => uptoBulk d + 1
  | .map entries => uptoBulkEntries entries + 1
  | .held _ => 1
def uptoBulkAll {H : Type} : List (DataW H) → Nat
  | [] => 0
  | d :: r => uptoBulk d + uptoBulkAll r
def uptoBulkEntries {H : Type} : List (Lit × DataW H) → Nat
  | [] => 0
  | x :: r => uptoBulkEntry x + uptoBulkEntries r
def uptoBulkEntry {H : Type} : Lit × DataW H → Nat
  | (.string bytes, d) => bytes.length + uptoBulk d + 1
  | (_, d) => uptoBulk d + 1
 end
def uptoSmall : (H : Type) → List (DataW H) → Bool := fun _ ds => decide (uptoBulkAll ds ≤ 1048576)
def OpenSpec.upto (s : _root_.Go.ChangeSpec) : _root_.Go.OpenSpec := { _root_.Go.OpenSpec.ofChange s with cond := some uptoSmall }

/-- 'barbicanlaw06.InsRight', WHERE WHAT IT READS IS OF BULK AT MOST 1048576: true; the input reads as it did. -/
def insRightUptoRow : OpenClaim := { program := "ytmkhcgfbeeimaaadoor", sum := "81d12cc0ad0b3b2c0e8c21a9e97e41dbce46179ef9ed833b5a9fcbb555575a5a", func := "barbican/barbicanlaw06.InsRight", spec := "insRight", named := ["math/bits.deBruijn32tab", "math/bits.deBruijn64tab"], apart := false, laid := [("math/bits.deBruijn32tab", laid_math_bits_deBruijn32tab), ("math/bits.deBruijn64tab", laid_math_bits_deBruijn64tab)], narrowed := true }
def InsRightUptoSaid : Prop := insRightUptoRow.holds Tryd.pinned (OpenSpec.upto insRightSpec)

/-- 'barbicanlaw06.InsBytes', WHERE WHAT IT READS IS OF BULK AT MOST 1048576: true; the input reads as it did. -/
def insBytesUptoRow : OpenClaim := { program := "ytmkhcgfbeeimaaadoor", sum := "81d12cc0ad0b3b2c0e8c21a9e97e41dbce46179ef9ed833b5a9fcbb555575a5a", func := "barbican/barbicanlaw06.InsBytes", spec := "insBytes", named := ["math/bits.deBruijn32tab", "math/bits.deBruijn64tab"], apart := false, laid := [("math/bits.deBruijn32tab", laid_math_bits_deBruijn32tab), ("math/bits.deBruijn64tab", laid_math_bits_deBruijn64tab)], narrowed := true }
def InsBytesUptoSaid : Prop := insBytesUptoRow.holds Tryd.pinned (OpenSpec.upto insBytesSpec)

/-- 'barbicanlaw06.InsLong', WHERE WHAT IT READS IS OF BULK AT MOST 1048576: true; the input reads as it did. -/
def insLongUptoRow : OpenClaim := { program := "ytmkhcgfbeeimaaadoor", sum := "81d12cc0ad0b3b2c0e8c21a9e97e41dbce46179ef9ed833b5a9fcbb555575a5a", func := "barbican/barbicanlaw06.InsLong", spec := "insLong", named := ["math/bits.deBruijn32tab", "math/bits.deBruijn64tab"], apart := false, laid := [("math/bits.deBruijn32tab", laid_math_bits_deBruijn32tab), ("math/bits.deBruijn64tab", laid_math_bits_deBruijn64tab)], narrowed := true }
def InsLongUptoSaid : Prop := insLongUptoRow.holds Tryd.pinned (OpenSpec.upto insLongSpec)

/-- 'barbicanlaw06.InsBack', WHERE WHAT IT READS IS OF BULK AT MOST 1048576: true; the input reads as it did. -/
def insBackUptoRow : OpenClaim := { program := "ytmkhcgfbeeimaaadoor", sum := "81d12cc0ad0b3b2c0e8c21a9e97e41dbce46179ef9ed833b5a9fcbb555575a5a", func := "barbican/barbicanlaw06.InsBack", spec := "insBack", named := ["math/bits.deBruijn32tab", "math/bits.deBruijn64tab"], apart := false, laid := [("math/bits.deBruijn32tab", laid_math_bits_deBruijn32tab), ("math/bits.deBruijn64tab", laid_math_bits_deBruijn64tab)], narrowed := true }
def InsBackUptoSaid : Prop := insBackUptoRow.holds Tryd.pinned (OpenSpec.upto insBackSpec)

/-- 'barbicanlaw06.InsEach', WHERE WHAT IT READS IS OF BULK AT MOST 1048576: true; the input reads as it did. -/
def insEachUptoRow : OpenClaim := { program := "ytmkhcgfbeeimaaadoor", sum := "81d12cc0ad0b3b2c0e8c21a9e97e41dbce46179ef9ed833b5a9fcbb555575a5a", func := "barbican/barbicanlaw06.InsEach", spec := "insEach", named := ["math/bits.deBruijn32tab", "math/bits.deBruijn64tab"], apart := false, laid := [("math/bits.deBruijn32tab", laid_math_bits_deBruijn32tab), ("math/bits.deBruijn64tab", laid_math_bits_deBruijn64tab)], narrowed := true }
def InsEachUptoSaid : Prop := insEachUptoRow.holds Tryd.pinned (OpenSpec.upto insEachSpec)

end Rows
end Go.Proofs.YtmkhcgfbeeimaaaDoor
