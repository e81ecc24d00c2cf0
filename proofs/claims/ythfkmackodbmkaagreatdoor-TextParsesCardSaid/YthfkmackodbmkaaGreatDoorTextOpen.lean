/- What the layer's rows have of their conditions: the variables that are laid, the instructions and the texts that came in. -/
import Derived.Test.YthfkmackodbmkaaGreatDoorTextStd
import Derived.Test.YthfkmackodbmkaaGreatDoorInsOpen0
import Derived.Test.YthfkmackodbmkaaGreatDoorRows
import Derived.Lib.LaidTab
import Derived.Stop.LaidErr
import Derived.MakeChecks
import Derived.LaidMore
import Derived.ProofKit
import Derived.Deep.Slices
import Derived.Lay
import Derived.Shelf.Vars
import Derived.HandedShaped
import Derived.Handed
namespace Go.Proofs.YthfkmackodbmkaaGreatDoor
open Go.ChangeShapes Go.WideShapes Go.ChangeAt Go.RowKit
set_option linter.unusedVariables false
set_option linter.unusedSimpArgs false
set_option maxRecDepth 100000

/-- The variables that the rows list. -/
def first7 : List (String × DataW Unit) := [("math/bits.deBruijn32tab", Rows.laid_math_bits_deBruijn32tab), ("math/bits.deBruijn64tab", Rows.laid_math_bits_deBruijn64tab), ("internal/strconv.uint64pow10", Rows.laid_internal_strconv_uint64pow10), ("unicode/utf8.acceptRanges", Rows.laid_unicode_utf8_acceptRanges), ("strconv.ErrRange", Rows.laid_strconv_ErrRange), ("strconv.ErrSyntax", Rows.laid_strconv_ErrSyntax), ("barbican/text.names", Rows.laid_barbican_text_names)]
def listed : List (String × DataW Unit) := [("math/bits.deBruijn32tab", Rows.laid_math_bits_deBruijn32tab), ("math/bits.deBruijn64tab", Rows.laid_math_bits_deBruijn64tab), ("internal/strconv.uint64pow10", Rows.laid_internal_strconv_uint64pow10), ("unicode/utf8.acceptRanges", Rows.laid_unicode_utf8_acceptRanges), ("strconv.ErrRange", Rows.laid_strconv_ErrRange), ("strconv.ErrSyntax", Rows.laid_strconv_ErrSyntax), ("barbican/text.names", Rows.laid_barbican_text_names), ("unicode/utf8.first", Rows.laid_unicode_utf8_first)]
def listed9 : List (String × DataW Unit) := [("math/bits.deBruijn32tab", Rows.laid_math_bits_deBruijn32tab), ("math/bits.deBruijn64tab", Rows.laid_math_bits_deBruijn64tab), ("internal/strconv.uint64pow10", Rows.laid_internal_strconv_uint64pow10), ("unicode/utf8.acceptRanges", Rows.laid_unicode_utf8_acceptRanges), ("strconv.ErrRange", Rows.laid_strconv_ErrRange), ("strconv.ErrSyntax", Rows.laid_strconv_ErrSyntax), ("barbican/text.names", Rows.laid_barbican_text_names), ("unicode.CaseRanges", Rows.laid_unicode_CaseRanges), ("unicode/utf8.first", Rows.laid_unicode_utf8_first)]
theorem gPow : Tryz.prog.globalNamed "internal/strconv.uint64pow10" = some 5 := by kernel_rfl
theorem gPowType : (Tryz.prog.globals[5]?).map (·.type) = some 329 := by kernel_rfl
theorem gSyn : Tryz.prog.globalNamed "strconv.ErrSyntax" = some 6 := by kernel_rfl
theorem gSynType : (Tryz.prog.globals[6]?).map (·.type) = some 95 := by kernel_rfl
theorem gNam : Tryz.prog.globalNamed "barbican/text.names" = some 1 := by kernel_rfl
theorem gNamType : (Tryz.prog.globals[1]?).map (·.type) = some 187 := by kernel_rfl
theorem pow_data : Rows.laid_internal_strconv_uint64pow10 (H := Unit) = Lib.tabData .u64 Lib.pow10Tab := by kernel_rfl
theorem names_data : Rows.laid_barbican_text_names (H := Unit) = .agg (opNames.map fun s => .lit (.string s)) := by kernel_rfl
theorem star : "*" ++ "errors.errorString" = "*errors.errorString" := by decide
theorem err_row (u : TypeId) (h : Tryz.prog.typeName? 3 u = some "*errors.errorString") : u = 340 :=
  typeName_ptr_named (nm := "errors.errorString") (by rw [star]; kernel_rfl) (by kernel_rfl) (by decide) u (by rw [star]; exact h)
theorem max_of_shape {W : World} (h : W.ShapedOpen Tryz.prog) : ∃ m, W.cell? ⟨0, 0, none⟩ = some (.int .i64 m) :=
  cell_of_shapedOpen_int (zero := #[.int .i64 0]) (t := 3) h (of_decide_eq_true (by kernel_rfl)) (by kernel_rfl) rfl (by kernel_rfl) (by kernel_rfl) Tryz.underlying3
theorem names_of_shape {W : World} (h : W.ShapedOpen Tryz.prog) : ∃ cs, W.heap[1]? = some (.cells cs 187) := by
  obtain ⟨cs, hh, _, _⟩ := h.1 1 (List.replicate 29 (str [])).toArray 187 (of_decide_eq_true (by kernel_rfl)) (by kernel_rfl)
  exact ⟨cs, hh⟩
theorem strs_of_trod {W : World} {fuel : Nat} {cs : List Value} {l : List Str} {p : List MemPlace} (hl : l.length = 29)
    (h : DataW.trod (fun _ => ()) Tryz.prog W 0 (fun _ => true) false fuel 187 cs = some (.agg (l.map fun s => .lit (.string s)), p)) : cs = l.map str := by
  obtain ⟨xs, m, _, ex, hlen, hx, hel⟩ := DataW.trod_array Tryz.underlying187 h
  have c1 : Tryz.prog.cellsOf 9 = 1 := by kernel_rfl
  have c29 : Tryz.prog.cellsOf 187 = 29 := by kernel_rfl
  rw [c29] at hlen
  have e1 : xs.map (·.1) = l.map fun s => (DataW.lit (.string s) : DataW Unit) := (DataW.agg.inj (Prod.mk.inj ex).1).symm
  apply List.ext_getElem?
  intro i
  by_cases hi : i < 29
  · have hE := hel i hi
    rw [c1, Nat.mul_one] at hE
    have hxi : i < xs.length := by omega
    rw [List.getElem?_eq_getElem hxi] at hE
    obtain ⟨s, h1, h2, _⟩ := DataW.trod_string Tryz.underlying9 hE
    have h3 : cs[i]? = some (.string s) := by
      have := congrArg (·[0]?) h1
      simpa [List.getElem?_take, List.getElem?_drop] using this
    have h4 : (xs.map (·.1))[i]? = some (DataW.lit (.string s.data.toList) : DataW Unit) := by
      rw [List.getElem?_map, List.getElem?_eq_getElem hxi, h2]; rfl
    rw [e1, List.getElem?_map] at h4
    cases hli : l[i]? with
    | none => rw [hli] at h4; cases h4
    | some t =>
      rw [hli] at h4
      simp only [Option.map_some, Option.some.injEq, DataW.lit.injEq, Lit.string.injEq] at h4
      rw [h3, List.getElem?_map, hli, Option.map_some, h4]
  · rw [List.getElem?_eq_none (by omega), List.getElem?_eq_none (by simp; omega)]
theorem lay_plain {W : World} {r : List (String × DataW Unit)} (h : laidMet Tryz.prog (first7 ++ r) W) (hs : W.ShapedOpen Tryz.prog) : Lay W := by
  have h3 := h.tail.tail
  have h6 := h3.tail.tail.tail
  have h7 := h6.tail
  refine ⟨max_of_shape hs, ?_, ?_, ?_⟩
  · have e : first7.tail.tail ++ r = ("internal/strconv.uint64pow10", Lib.tabData .u64 Lib.pow10Tab) :: (first7.tail.tail.tail ++ r) := by rw [← pow_data]; rfl
    exact Lib.tabIs_of_head gPow gPowType Tryz.underlying329 Tryz.underlying184 (by kernel_rfl) (by kernel_rfl) (show laidMet Tryz.prog (("internal/strconv.uint64pow10", Lib.tabData .u64 Lib.pow10Tab) :: (first7.tail.tail.tail ++ r)) W from e ▸ h3)
  · obtain ⟨a, s, hv, _⟩ := laid_sentinel (tp := 340) (te := 342) (ts := 9) h6 gSyn gSynType Tryz.underlying95 err_row Tryz.underlying340 Tryz.underlying342 rfl rfl Tryz.underlying9 (by kernel_rfl) (by kernel_rfl)
    exact ⟨_, _, hv⟩
  · obtain ⟨cs, hc⟩ := names_of_shape hs
    obtain ⟨ps, ⟨g, t, cs', fuel, p, q, hg, ht, hv, hd, _, _⟩, _, _⟩ := h7
    obtain rfl := Option.some.inj (gNam.symm.trans hg)
    obtain rfl := Option.some.inj (gNamType.symm.trans ht)
    have ev : cs' = cs := by
      unfold World.var? at hv
      rw [gNam, Option.bind_some, hc] at hv
      exact (Option.some.inj hv).symm
    subst ev
    rw [names_data] at hd
    have := strs_of_trod rfl hd
    exact ⟨_, _, hc, by rw [← this]⟩
theorem lay_of_laid {W : World} (h : laidMetH Tryz.prog listed W) (hs : W.ShapedOpen Tryz.prog) : Lay W := by
  rw [MakeChecks.laidMetH_plain _ _ _ (by kernel_rfl)] at h
  exact lay_plain (r := [("unicode/utf8.first", Rows.laid_unicode_utf8_first)]) h hs
theorem lay_of_laid9 {W : World} (h : laidMetH Tryz.prog listed9 W) (hs : W.ShapedOpen Tryz.prog) : Lay W := by
  rw [MakeChecks.laidMetH_plain _ _ _ (by kernel_rfl)] at h
  exact lay_plain (r := [("unicode.CaseRanges", Rows.laid_unicode_CaseRanges), ("unicode/utf8.first", Rows.laid_unicode_utf8_first)]) h hs
end Go.Proofs.YthfkmackodbmkaaGreatDoor
