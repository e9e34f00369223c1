import Derived.Test.YtfaobdmoifnglaaGreatZJmU
import Derived.Test.YtfaobdmoifnglaaGreatZJmX
import Derived.Test.YtfaobdmoifnglaaGreatZJmY
/- The statement GensJumps: for every state and all numbers. -/
namespace Go.Proofs.YtfaobdmoifnglaaGreat
open Go.RowKit Go.Bv Go.G2
set_option linter.unusedVariables false
set_option maxRecDepth 100000
theorem GensJumps_walk (W : World) (x0_0 : Int) (b0_0 : -9223372036854775808 ≤ x0_0 ∧ x0_0 ≤ 9223372036854775807) (x0_1 : BitVec 64) (x0_2 : BitVec 64) (x0_3 : BitVec 64) (x0_4 : BitVec 64) (x1_0 : BitVec 64) (x1_1 : BitVec 64) (x1_2 : BitVec 64) (x1_3 : BitVec 64) (x2_0 : BitVec 64) (x2_1 : BitVec 64) (x2_2 : BitVec 64) (x2_3 : BitVec 64) (a3 : Int) (w3 : (Lit.int .i64 a3).wf = true) :
    Calls Tryz.prog 6 #[.agg #[.int .i64 x0_0, .int .u64 (W64 x0_1), .int .u64 (W64 x0_2), .int .u64 (W64 x0_3), .int .u64 (W64 x0_4)], .agg #[.int .u64 (W64 x1_0), .int .u64 (W64 x1_1), .int .u64 (W64 x1_2), .int .u64 (W64 x1_3)], .agg #[.int .u64 (W64 x2_0), .int .u64 (W64 x2_1), .int .u64 (W64 x2_2), .int .u64 (W64 x2_3)], .int .i64 a3] W fun e w' => e = .returned (.bool true) ∧ Below W.heap.size W w' := by
  obtain ⟨q, hq⟩ : ∃ q : W4, q = ⟨x0_1, x0_2, x0_3, x0_4⟩ := ⟨_, rfl⟩
  have main : Calls Tryz.prog 6 #[.agg (stc x0_0 q), .agg (uc x1_0 x1_1 x1_2 x1_3), .agg (uc x2_0 x2_1 x2_2 x2_3), .int .i64 a3] W fun e w' => e = .returned (.bool true) ∧ New W w' := by
    by_cases hk : chkK x0_0 q = 0
    · have ho := (fits hk).1
      have hka := chk_it (four x1_0 x1_1 x1_2 x1_3) hk
      have HJ1 := Lib.hid (fun w => jump_go hk x1_0 x1_1 x1_2 x1_3 w)
      have HJ2 := Lib.hid (fun w => jump_go hka x2_0 x2_1 x2_2 x2_3 w)
      obtain ⟨N, hN⟩ : ∃ N, four x1_0 x1_1 x1_2 x1_3 + four x2_0 x2_1 x2_2 x2_3 = N := ⟨_, rfl⟩
      have HAD := Lib.hid (fun w => add_of x1_0 x1_1 x1_2 x1_3 x2_0 x2_1 x2_2 x2_3 N hN w)
      have HJ3 := Lib.hid (fun w => jump_go hk (BitVec.ofNat 64 N) (BitVec.ofNat 64 (N / 2 ^ 64)) (BitVec.ofNat 64 (N / 2 ^ 128)) (BitVec.ofNat 64 (N / 2 ^ 192)) w)
      have HRC := Lib.hid (fun w => rcheck_any x0_0 q w)
      rw [hk] at HRC
      rw [← itK_add, hN] at HJ2
      by_cases hout : a3 < 0 ∨ 60 < a3
      · by_cases hov : 2 ^ 256 ≤ N
        · rw [decide_eq_true hov] at HAD
          exact jumps_out_t W x0_0 q _ _ _ _ _ _ _ _ _ _ _ _ _ _ _ HJ1 HJ2 HAD HJ3 HRC a3 hout
        · rw [decide_eq_false hov] at HAD
          rw [four_parts N (by omega)] at HJ3
          exact jumps_out_f W x0_0 q _ _ _ _ _ _ _ _ _ _ _ _ _ _ HJ1 HJ2 HAD HJ3 HRC a3 hout
      · obtain ⟨m, rfl⟩ : ∃ m : Nat, a3 = (m : Int) := ⟨a3.toNat, by omega⟩
        have hm : m ≤ 60 := by omega
        have hcs : csK x0_0 = 1 ∨ csK x0_0 = 2 := by
          have h8 : 1 ≤ x0_0 ∧ x0_0 ≤ 8 := by unfold okK at ho; simpa using ho
          unfold csK
          by_cases h7 : x0_0 = 7
          · rw [if_pos h7]; exact Or.inr rfl
          · rw [if_neg h7, if_pos h8]; exact Or.inl rfl
        have HWD : Hid (∀ w, Calls Tryz.prog 20 #[.agg (stc x0_0 q), .int .i64 (m : Int)] w fun e w' => ∃ v, e = .returned (.tuple #[v, .agg (stc x0_0 (itK x0_0 (m * (csK x0_0).toNat) q)), .int .i64 0]) ∧ New w w') := Lib.hid (fun w => by
          refine (words_of x0_0 q hk (m : Int) m (Or.inr rfl) (by omega) w).mono ?_
          rintro e w' ⟨ob, rfl, -, hn⟩
          rw [← ws_it x0_0 q ho m]
          exact ⟨_, rfl, hn⟩)
        have hm2 : m * (csK x0_0).toNat ≤ 120 := by rcases hcs with e | e <;> rw [e] <;> simp <;> omega
        have HJ4 := Lib.hid (fun w => jump_go hk (BitVec.ofNat 64 m) 0#64 0#64 0#64 w)
        have HJ5 := Lib.hid (fun w => jump_go hk (BitVec.ofNat 64 (m * (csK x0_0).toNat)) 0#64 0#64 0#64 w)
        rw [four_small _ (by omega)] at HJ4 HJ5
        have HOF := Lib.hid (fun t ht w => of_small m (by omega) t ht w)
        have HOG : Hid (∀ t : Int, t = (m : Int) * csK x0_0 → ∀ w, Calls Tryz.prog 27 #[.int .u64 t] w fun e w' => e = .returned (.agg (uc (BitVec.ofNat 64 (m * (csK x0_0).toNat)) 0#64 0#64 0#64)) ∧ New w w') := Lib.hid (fun t ht w => of_small (m * (csK x0_0).toNat) (by omega) t (by rw [ht, Int.natCast_mul]; congr 1; rcases hcs with e | e <;> rw [e] <;> rfl) w)
        have HCO := Lib.hid (fun w => rcost_any x0_0 w)
        have HSS := Lib.hid (fun w => rsteps_of x0_0 q hk m (by omega) w)
        by_cases hov : 2 ^ 256 ≤ N
        · rw [decide_eq_true hov] at HAD
          exact jumps_in_t W x0_0 q _ _ _ _ _ _ _ _ _ _ _ _ _ _ _ HJ1 HJ2 HAD HJ3 HRC m hm _ hcs _ _ _ _ HOF HOG HJ4 HJ5 HCO HWD HSS
        · rw [decide_eq_false hov] at HAD
          rw [four_parts N (by omega)] at HJ3
          exact jumps_in_f W x0_0 q _ _ _ _ _ _ _ _ _ _ _ _ _ _ HJ1 HJ2 HAD HJ3 HRC m hm _ hcs _ _ _ _ HOF HOG HJ4 HJ5 HCO HWD HSS
    · exact jumps_bad W x0_0 q _ _ _ _ _ _ _ _ a3 hk
  subst hq
  refine main.mono ?_
  rintro e w' ⟨rfl, hn⟩
  exact ⟨rfl, hn⟩
end Go.Proofs.YtfaobdmoifnglaaGreat
