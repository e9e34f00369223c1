import Derived.Test.YthkmcnlciefnfaaGreatZ5CfgK
/- Layer 47: the law ConfigTells, all its cases. -/
namespace Go.Proofs.YthkmcnlciefnfaaGreat
open Go Go.RowKit Go.Bv Go.Ali
set_option linter.unusedVariables false
set_option maxRecDepth 100000
/-- what may be lies within these bounds -/
theorem cfE_0 {t k b : Int} {h l : BitVec 64} {x : List (BitVec 64)} (he : cfE t k b h l x = 0) : (1 ≤ t ∧ t ≤ 5) ∧ (0 ≤ k ∧ k ≤ 8) ∧ (0 ≤ b ∧ b ≤ 64) ∧ x.length ≤ 4096 := by
  unfold cfE at he
  by_cases ht : t < 1 ∨ 5 < t
  · rw [if_pos ht] at he; exact absurd he (by decide)
  rw [if_neg ht] at he
  cases hf : cfF t k b h l x.length with
  | true => rw [hf, if_pos rfl] at he; exact absurd he (by decide)
  | false =>
    rw [hf, if_neg (by decide)] at he
    unfold cfF at hf
    simp only [Bool.or_eq_false_iff, Bool.and_eq_false_iff, decide_eq_false_iff_not, bne_eq_false_iff_eq] at hf
    obtain ⟨f1, f2, f3, f4⟩ := hf
    clear f3
    have h5 : t = 1 ∨ t = 2 ∨ t = 3 ∨ t = 4 ∨ t = 5 := by omega
    unfold thE at he
    rcases h5 with rfl | rfl | rfl | rfl | rfl
    · rw [if_pos rfl] at he
      unfold stE at he
      cases ho : okS k with
      | false => rw [ho, if_pos rfl] at he; exact absurd he (by decide)
      | true =>
        have ho' : 1 ≤ k ∧ k ≤ 8 := of_decide_eq_true ho
        clear he ho
        refine ⟨by omega, by omega, by omega, by omega⟩
    · rw [if_neg (by decide), if_pos rfl] at he
      unfold chF at he
      cases ho : okF k with
      | false => rw [ho, if_pos rfl] at he; exact absurd he (by decide)
      | true =>
        have ho' : 1 ≤ k ∧ k ≤ 8 := of_decide_eq_true ho
        rw [ho, if_neg (by decide)] at he
        by_cases h1 : (x.length : Int) < lsF k ∨ msF k < (x.length : Int)
        · rw [if_pos h1] at he; exact absurd he (by decide)
        rw [if_neg h1] at he
        by_cases h2 : b < lbF k ∨ mbF k < b
        · rw [if_pos h2] at he; exact absurd he (by decide)
        clear he ho
        have m1 : 0 ≤ lbF k := by unfold lbF; repeat' split <;> omega
        have m2 : mbF k ≤ 64 := by unfold mbF; repeat' split <;> omega
        have m3 : msF k ≤ 4096 := by unfold msF lsF; repeat' split <;> omega
        refine ⟨by omega, by omega, by omega, by omega⟩
    · rw [if_neg (by decide), if_neg (by decide), if_pos rfl] at he
      unfold soE at he
      by_cases h1 : szK k = 0
      · rw [if_pos h1] at he; exact absurd he (by decide)
      rw [if_neg h1] at he
      by_cases h2 : (x.length : Int) ≠ szK k
      · rw [if_pos h2] at he; exact absurd he (by decide)
      have hok : okK k = true := by
        cases hk : okK k with
        | true => rfl
        | false => exact absurd ((szK_ok k).2 hk) h1
      have ho' : 1 ≤ k ∧ k ≤ 8 := of_decide_eq_true hok
      have := sz_124 h1
      clear he hok
      refine ⟨by omega, by omega, by omega, by omega⟩
    · rw [if_neg (by decide), if_neg (by decide), if_neg (by decide), if_pos rfl] at he
      by_cases h1 : 4096 < x.length
      · rw [if_pos h1] at he; exact absurd he (by decide)
      clear he
      refine ⟨by omega, by omega, by omega, by omega⟩
    · rw [if_neg (by decide), if_neg (by decide), if_neg (by decide), if_neg (by decide)] at he
      unfold wE at he
      by_cases h1 : x.length < 1 ∨ 256 < x.length
      · rw [if_pos h1] at he; exact absurd he (by decide)
      clear he
      refine ⟨by omega, by omega, by omega, by omega⟩
theorem ConfigTells_walk (W : World) (ct0 ck0 cb0 : Int) (qt0 : -9223372036854775808 ≤ ct0 ∧ ct0 ≤ 9223372036854775807) (qk0 : -9223372036854775808 ≤ ck0 ∧ ck0 ≤ 9223372036854775807) (qb0 : -9223372036854775808 ≤ cb0 ∧ cb0 ≤ 9223372036854775807) (ch0 cl0 : BitVec 64) (a0 : Option Addr) (n0 m0 : Nat) (cx0 : List (BitVec 64)) (w0 : QRow W a0 n0 m0 cx0) :
    Calls Tryz.prog 3 #[.agg #[.int .i64 ct0, .int .i64 ck0, .int .i64 cb0, .int .u64 (W64 ch0), .int .u64 (W64 cl0), .slice a0 n0 m0]] W fun e w' => e = .returned (.bool true) ∧ Below W.heap.size W w' := by
  have hnl := w0.len_eq
  show Calls Tryz.prog 3 #[.agg (cfc ct0 ck0 cb0 ch0 cl0 a0 n0 m0)] W fun e w' => e = .returned (.bool true) ∧ Below W.heap.size W w'
  by_cases he : cfE ct0 ck0 cb0 ch0 cl0 cx0 = 0
  · obtain ⟨b1, b2, b3, b4⟩ := cfE_0 he
    by_cases h6 : 600 < n0
    · exact ct_early W ct0 ck0 cb0 ch0 cl0 a0 n0 m0 cx0 w0 h6 (by omega)
    · by_cases ht : ct0 = 3
      · exact ct_source W ct0 ck0 cb0 ch0 cl0 a0 n0 m0 cx0 w0 he ht (by omega) (by omega) (by omega) (by omega)
      · exact ct_other W ct0 ck0 cb0 ch0 cl0 a0 n0 m0 cx0 w0 he ht (by omega) (by omega) (by omega) (by omega)
  · by_cases h6 : 600 < n0 ∧ n0 ≤ 4096
    · exact ct_early W ct0 ck0 cb0 ch0 cl0 a0 n0 m0 cx0 w0 h6.1 h6.2
    · exact ct_bad W ct0 ck0 cb0 ch0 cl0 a0 n0 m0 cx0 w0 he (by omega)
end Go.Proofs.YthkmcnlciefnfaaGreat
