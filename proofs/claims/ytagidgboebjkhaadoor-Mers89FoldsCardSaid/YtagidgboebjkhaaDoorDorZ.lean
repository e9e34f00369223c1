/- The listed variables of the statement Mers89Folds: three tables of numbers. -/
import Derived.Test.YtagidgboebjkhaaDoorTxtI
import Derived.Test.YtagidgboebjkhaaDoorRows
import Derived.ProofKit
import Derived.LaidMore
import Derived.OpenShut
import Derived.Lib.LaidTab
namespace Go.Bv
open Go
theorem laidMet_tail {P : Program} {x : String × DataW Unit} {rest : List (String × DataW Unit)} {W : World} (h : laidMet P (x :: rest) W) : laidMet P rest W := by
  obtain ⟨ps, ⟨g, t, cs, fuel, p, q, h1, h2, h3, h4, h5, rfl⟩, hnd, hm⟩ := h
  exact ⟨q, h5, (List.nodup_append.1 hnd).2.1, fun b off hb => hm b off (List.mem_append_right _ hb)⟩
end Go.Bv
namespace Go.Proofs.YtagidgboebjkhaaDoor
open Go.ChangeShapes Go.WideShapes Go.ChangeAt Go.WideMaps Go.WideElems Go.RowKit Go.Bv
set_option maxRecDepth 100000
abbrev powLD : List (String × DataW Unit) := [("math/bits.deBruijn32tab", Rows.laid_math_bits_deBruijn32tab), ("math/bits.deBruijn64tab", Rows.laid_math_bits_deBruijn64tab), ("internal/strconv.uint64pow10", Rows.laid_internal_strconv_uint64pow10)]
theorem gPw : Tryd.prog.globalNamed "internal/strconv.uint64pow10" = some 2 := by kernel_rfl
theorem tPw : (Tryd.prog.globals[2]?).map (·.type) = some 96 := by kernel_rfl
theorem pow_of_laid {W : World} (h : laidMetH Tryd.prog powLD W) : Lib.TabIs Tryd.prog W "internal/strconv.uint64pow10" .u64 Lib.pow10Tab :=
  Lib.tabIs_of_head gPw tPw Tryd.underlying96 Tryd.underlying22 (by kernel_rfl) (by kernel_rfl) (laidMet_tail (laidMet_tail (show laidMet Tryd.prog powLD W from h)))
/-- a world that meets the condition -/
noncomputable def laidWorldX (os : Os) : World := World.doorLaid Tryd.prog 24 os
theorem laidWorldX_met (os : Os) (args : Array Value) : laidMetH Tryd.prog powLD ((laidWorldX os).forCall (fun _ _ => 0) ⟨#[], args, []⟩).memory :=
  laidMetH_of_parts (laidMet_of_run' 8 (by kernel_rfl) (by kernel_rfl)) (by kernel_rfl)
end Go.Proofs.YtagidgboebjkhaaDoor
