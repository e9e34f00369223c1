/- The listed variables of the statement SealErrors: what the row's condition gives a walk; a world that meets it. -/
import Derived.Test.YthcolfmjjfjmiaaDoorDorH
import Derived.Test.YthcolfmjjfjmiaaDoorErrC
import Derived.ProofKit
import Derived.LaidMore
import Derived.OpenShut
import Derived.Lib.LaidTab
namespace Go.Bv
open Go
theorem laidMet_tail {P : Program} {x : String × DataW Unit} {rest : List (String × DataW Unit)} {W : World} (h : laidMet P (x :: rest) W) : laidMet P rest W := by
  obtain ⟨ps, ⟨g, t, cs, fuel, p, q, h1, h2, h3, h4, h5, rfl⟩, hnd, hm⟩ := h
  exact ⟨q, h5, (List.nodup_append.1 hnd).2.1, fun b off hb => hm b off (List.mem_append_right _ hb)⟩
end Go.Bv
namespace Go.Proofs.YthcolfmjjfjmiaaDoor
open Go.ChangeShapes Go.WideShapes Go.ChangeAt Go.WideMaps Go.WideElems Go.RowKit Go.Bv
set_option maxRecDepth 100000
theorem gNm : Tryd.prog.globalNamed "astragal/seal.names" = some 1 := by kernel_rfl
theorem tNm : (Tryd.prog.globals[1]?).map (·.type) = some 80 := by kernel_rfl
theorem gPw : Tryd.prog.globalNamed "internal/strconv.uint64pow10" = some 2 := by kernel_rfl
theorem tPw : (Tryd.prog.globals[2]?).map (·.type) = some 107 := by kernel_rfl
abbrev errLD : List (String × DataW Unit) := [("math/bits.deBruijn32tab", Rows.laid_math_bits_deBruijn32tab), ("math/bits.deBruijn64tab", Rows.laid_math_bits_deBruijn64tab), ("internal/strconv.uint64pow10", Rows.laid_internal_strconv_uint64pow10), ("errors.errorType", Rows.laid_errors_errorType), ("astragal/seal.names", Rows.laid_astragal_seal_names)]
theorem split_of_laid {W : World} (h : laidMetH Tryd.prog errLD W) : laidMet Tryd.prog [("math/bits.deBruijn32tab", Rows.laid_math_bits_deBruijn32tab), ("math/bits.deBruijn64tab", Rows.laid_math_bits_deBruijn64tab), ("internal/strconv.uint64pow10", Rows.laid_internal_strconv_uint64pow10), ("astragal/seal.names", Rows.laid_astragal_seal_names)] W ∧ laidMetH Tryd.prog [("errors.errorType", Rows.laid_errors_errorType)] W := by
  have h' : laidMet Tryd.prog [("math/bits.deBruijn32tab", Rows.laid_math_bits_deBruijn32tab), ("math/bits.deBruijn64tab", Rows.laid_math_bits_deBruijn64tab), ("internal/strconv.uint64pow10", Rows.laid_internal_strconv_uint64pow10), ("astragal/seal.names", Rows.laid_astragal_seal_names)] W ∧ handlesMet Tryd.prog [("errors.errorType", Rows.laid_errors_errorType)] W := h
  exact ⟨h'.1, ⟨laidMet_nil _ _, h'.2⟩⟩
theorem pow_of_laid {W : World} (h : laidMetH Tryd.prog errLD W) : Lib.TabIs Tryd.prog W "internal/strconv.uint64pow10" .u64 Lib.pow10Tab :=
  Lib.tabIs_of_head gPw tPw Tryd.underlying107 Tryd.underlying46 (by kernel_rfl) (by kernel_rfl) (laidMet_tail (laidMet_tail (split_of_laid h).1))
theorem nm_datum {H : Type} : (Rows.laid_astragal_seal_names : DataW H) = .agg (nmL16.map fun s => .lit (.string s.data.toList)) := rfl
theorem nm_of_laid {W : World} (h : laidMetH Tryd.prog errLD W) : NmD 1 W := by
  obtain ⟨ps, ⟨g0, t0, cs0, f0, p0, q0, hg0, ht0, hv0, hd0, _, _⟩, _, _⟩ := laidMet_tail (laidMet_tail (laidMet_tail (split_of_laid h).1))
  obtain rfl := Option.some.inj (gNm.symm.trans hg0)
  obtain rfl := Option.some.inj (tNm.symm.trans ht0)
  obtain ⟨xs, m1, rfl, hx1, hlen, hn, hel⟩ := DataW.trod_array Tryd.underlying80 hd0
  have c1 : Tryd.prog.cellsOf 9 = 1 := by kernel_rfl
  rw [nm_datum] at hx1
  simp only [Prod.mk.injEq, DataW.agg.injEq] at hx1
  have hcell : ∀ i, i < 15 → W.cell? ⟨1, i, none⟩ = some (.string (nmL16.getD i default)) := by
    intro i hi
    have h1 := hel i hi
    rw [c1, Nat.mul_one, List.getElem?_eq_getElem (by omega)] at h1
    obtain ⟨k, e1, e2, _⟩ := DataW.trod_string Tryd.underlying9 h1
    have h2 := congrArg (fun l => l[i]?) hx1.1
    simp only [List.getElem?_map] at h2
    rw [List.getElem?_eq_getElem (show i < xs.length by omega), e2] at h2
    have hl : i < nmL16.length := hi
    rw [List.getElem?_eq_getElem hl] at h2
    simp only [Option.map_some, Option.some.injEq, DataW.lit.injEq, Lit.string.injEq] at h2
    have h3 := World.var?_cell hg0 hv0 i
    rw [h3, List.getD_eq_getElem?_getD, List.getElem?_eq_getElem hl]
    have h4 := congrArg (fun l => l[0]?) e1
    simp [List.getElem?_drop] at h4
    rw [h4]
    have h5 : nmL16[i].data = k.data := Array.toList_inj.1 h2
    exact congrArg (fun z => some (Value.string z)) (ByteArray.ext h5).symm
  refine ⟨?_, hcell⟩
  have h0 := hcell 0 (by omega)
  rcases Nat.lt_or_ge 1 W.heap.size with h | h
  · exact h
  · exfalso
    unfold World.cell? at h0
    simp only [show W.heap[1]? = none from Array.getElem?_eq_none h] at h0
    cases h0
/-- a world that meets the condition -/
noncomputable def laidWorldX (os : Os) : World :=
  let w0 := World.doorLaid Tryd.prog 36 os
  { w0 with heap := w0.heap.modify 0 fun
      | .cells _ t frozen => .cells #[.iface 83 (.agg #[.pointer (some ⟨5, 36, none⟩)])] t frozen
      | o => o }
theorem laidWorldX_met (os : Os) (args : Array Value) : laidMetH Tryd.prog errLD ((laidWorldX os).forCall (fun _ _ => 0) ⟨#[], args, []⟩).memory :=
  laidMetH_of_parts (laidMet_of_run' 8 (by kernel_rfl) (by kernel_rfl)) (by kernel_rfl)
end Go.Proofs.YthcolfmjjfjmiaaDoor
