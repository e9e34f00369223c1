/- The contract of the document's own Pow modulo the prime of 89 bits; the example of mers89 (awake). -/
import Derived.Test.YtagidgboebjkhaaDoorMeiH
namespace Go.Bv
open Go Go.RowKit
theorem nat_u64 (k : Nat) (h : k < 18446744073709551616) : W64 (BitVec.ofNat 64 k) = (k : Int) := W64_lit k h
theorem next_u64 (k : Nat) : BitVec.ofNat 64 k + 1#64 = BitVec.ofNat 64 (k + 1) := by rw [BitVec.ofNat_add]
end Go.Bv
namespace Go.Proofs.YtagidgboebjkhaaDoor
open Go.RowKit Go.Bv
set_option linter.unusedVariables false
theorem two_inv89 : m89 ((2#128).toNat ^ 618970019642690137449562109) = 309485009821345068724781056#128 := by
  have h := Fer.powm_eq 618970019642690137449562111 89 2 618970019642690137449562109 (by decide +kernel)
  apply BitVec.eq_of_toNat_eq
  rw [m89_nat, show (2#128).toNat = 2 from rfl, ← h]; decide +kernel
set_option maxHeartbeats 1000000 in
theorem awake05 (w : World) : Calls Tryd.prog 4 #[] w fun e w' => e = .returned (.bool true) ∧ New w w' := by
  have h1 : ∀ w, Calls Tryd.prog 16 #[.agg #[.int .u64 0, .int .u64 2]] w fun e w' => e = .returned (.tuple #[.agg #[.int .u64 16777216, .int .u64 0], .bool true]) ∧ New w w' := by
    intro w
    have h := inv_89 2#128 w
    rw [thi, tlo, two_inv89, show m89 (2#128).toNat = 2#128 by decide +kernel, if_neg (by decide), show W64 (hi128 309485009821345068724781056#128) = 16777216 from by unfold W64; decide +kernel, show W64 (lo128 309485009821345068724781056#128) = 0 from by unfold W64; decide +kernel] at h
    exact h
  have h2 : ∀ w, Calls Tryd.prog 8 #[.agg #[.int .u64 0, .int .u64 33554432, .int .u64 0, .int .u64 0]] w fun e w' => e = .returned (.agg #[.int .u64 0, .int .u64 1]) ∧ New w w' := by
    intro w
    have h := fold_89 618970019642690137449562112#256 w
    rw [show W64 ((618970019642690137449562112#256).extractLsb' 0 64) = 0 from by unfold W64; decide +kernel, show W64 ((618970019642690137449562112#256).extractLsb' 64 64) = 33554432 from by unfold W64; decide +kernel,
      show W64 ((618970019642690137449562112#256).extractLsb' 128 64) = 0 from by unfold W64; decide +kernel, show W64 ((618970019642690137449562112#256).extractLsb' 192 64) = 0 from by unfold W64; decide +kernel,
      show m89 (618970019642690137449562112#256).toNat = 1#128 by decide +kernel, ohi, olo] at h
    exact h
  have e1 := fun w => equ_x w 1#128 1#128
  rw [ohi, olo, BEq.rfl] at e1
  have e2 := fun w => equ_x w 309485009821345068724781056#128 309485009821345068724781056#128
  rw [show W64 (hi128 309485009821345068724781056#128) = 16777216 from by unfold W64; decide +kernel, show W64 (lo128 309485009821345068724781056#128) = 0 from by unfold W64; decide +kernel, BEq.rfl] at e2
  have HC1 := Lib.hid h1
  have HC2 := Lib.hid h2
  clear h1 h2
  go_enter Tryd.func4, Tryd.ntmps4
  go_wp2_with fail
  refine (HC1.out _).mono ?_
  rintro e w1 ⟨rfl, hn1⟩
  have hB := heap_alloc_new w1 (.cells #[.int .u64 16777216, .int .u64 0] 26)
  have hn2 := hn1.alloc (.cells #[.int .u64 16777216, .int .u64 0] 26)
  go_wp2_with fail
  generalize w1.heap.size = g at *
  generalize w1.alloc (.cells #[.int .u64 16777216, .int .u64 0] 26) = w2 at *
  refine (HC2.out _).mono ?_
  rintro e w3 ⟨rfl, hn3⟩
  have hb3 := (hn3.block _ (lt_of_block hB)).trans hB
  have c0 := cell_of_row _ _ 0 _ _ _ hb3
  have c1 := cell_of_row _ _ 1 _ _ _ hb3
  have HN := Lib.hid (hn2.trans hn3)
  clear hB hn1 hn2 hn3 hb3
  go_wp2
  go_ret
  exact ⟨rfl, HN.out⟩
end Go.Proofs.YtagidgboebjkhaaDoor
