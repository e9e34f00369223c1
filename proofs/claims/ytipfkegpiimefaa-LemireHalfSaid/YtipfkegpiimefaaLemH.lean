/- The law LemireHalf, walked. -/
import Derived.Test.YtipfkegpiimefaaLemD
namespace Go.Proofs.Ytipfkegpiimefaa
open Go.RowKit Go.Bv
set_option linter.unusedVariables false
set_option maxHeartbeats 1000000 in
theorem LemireHalf_walk (W : World) (a0 : Int) (w0 : (Lit.int .u64 a0).wf = true) :
    Calls Try.prog 8 #[.int .u64 a0] W fun e w' => e = .returned (.bool true) ∧ Below W.heap.size W w' := by
  obtain ⟨n, rfl⟩ := ex64 a0 (by simp [Lit.wf, IntKind.min, IntKind.max, IntKind.signed, IntKind.bits] at w0; omega)
  clear w0
  have HL := Lib.hid (loss_l n)
  by_cases h : n = 0#64
  · have hb : (n == 0#64) = true := by rw [h]; rfl
    have hb2 : (W64 n == 0) = true := by rw [h]; rfl
    clear h
    go_enter Try.func8, Try.ntmps8
    go_wp2_with fail
    refine (awake_38 W).mono ?_
    rintro e w1 ⟨rfl, hn1⟩
    have HN1 := Lib.hid hn1
    clear hn1
    go_wp2
    go_ret
    exact ⟨rfl, HN1.out⟩
  · have hb : (n == 0#64) = false := beq_false_of_ne h
    have hb2 : (W64 n == 0) = false := by
      have := pos_of_ne h
      rw [beq_eq_false_iff_ne]; unfold W64; omega
    have h1 : decide (W64 (lossN n) < W64 n) = true := by rw [decide_eq_true_eq]; exact loss_lt n h
    have h2 : decide (W64 (lossN n) < 9223372036854775808) = true := by rw [decide_eq_true_eq]; exact loss_half n h
    generalize lossN n = y at *
    clear h
    go_enter Try.func8, Try.ntmps8
    go_wp2_with fail
    refine (awake_38 W).mono ?_
    rintro e w1 ⟨rfl, hn1⟩
    have HN1 := Lib.hid hn1
    clear hn1
    go_wp2_with fail
    refine (HL.out _).mono ?_
    rintro e w2 ⟨rfl, hn2⟩
    have HN2 := Lib.hid (HN1.out.trans hn2)
    clear hn2
    go_wp2_with fail
    refine (HL.out _).mono ?_
    rintro e w3 ⟨rfl, hn3⟩
    have HN3 := Lib.hid (HN2.out.trans hn3)
    clear hn3
    go_wp2
    go_ret
    exact ⟨rfl, HN3.out⟩
end Go.Proofs.Ytipfkegpiimefaa
