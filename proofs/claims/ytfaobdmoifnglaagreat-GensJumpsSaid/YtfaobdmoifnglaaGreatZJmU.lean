import Derived.Test.YtfaobdmoifnglaaGreatZJmS
/- The statement GensJumps: numbers out of range. -/
namespace Go.Proofs.YtfaobdmoifnglaaGreat
open Go.RowKit Go.Bv Go.G2
set_option linter.unusedVariables false
set_option maxRecDepth 100000
set_option maxHeartbeats 8000000 in
theorem jumps_out_t (W : World) (k : Int) (q qa qab qv : W4) (a0 a1 a2 a3 b0 b1 b2 b3 s0 s1 s2 s3 : BitVec 64)
    (HJ1 : Hid (∀ w, Calls Tryz.prog 25 #[.agg (stc k q), .agg (uc a0 a1 a2 a3)] w fun e w' => e = .returned (.tuple #[.agg (stc k qa), .int .i64 0]) ∧ New w w'))
    (HJ2 : Hid (∀ w, Calls Tryz.prog 25 #[.agg (stc k qa), .agg (uc b0 b1 b2 b3)] w fun e w' => e = .returned (.tuple #[.agg (stc k qab), .int .i64 0]) ∧ New w w'))
    (HAD : Hid (∀ w, Calls Tryz.prog 26 #[.agg (uc a0 a1 a2 a3), .agg (uc b0 b1 b2 b3)] w fun e w' => e = .returned (.tuple #[.agg (uc s0 s1 s2 s3), .bool true]) ∧ New w w'))
    (HJ3 : Hid (∀ w, Calls Tryz.prog 25 #[.agg (stc k q), .agg (uc s0 s1 s2 s3)] w fun e w' => e = .returned (.tuple #[.agg (stc k qv), .int .i64 0]) ∧ New w w'))
    (HRC : Hid (∀ w, Calls Tryz.prog 9 #[.agg (stc k q)] w fun e w' => e = .returned (.int .i64 0) ∧ New w w'))
    (n : Int) (hout : n < 0 ∨ 60 < n) :
    Calls Tryz.prog 6 #[.agg (stc k q), .agg (uc a0 a1 a2 a3), .agg (uc b0 b1 b2 b3), .int .i64 n] W fun e w' => e = .returned (.bool true) ∧ New W w' := by
  obtain ⟨W3, hW3, hb1, hb2, hb3, hn3⟩ := j3 W (.cells (stc k q) 25) (.cells (uc a0 a1 a2 a3) 49) (.cells (uc b0 b1 b2 b3) 49)
  have HW3 := Lib.hid hW3
  have HBS := Lib.hid hb1
  have HBA := Lib.hid hb2
  have HBB := Lib.hid hb3
  have HN := Lib.hid hn3
  clear hW3 hb1 hb2 hb3 hn3
  go_enter Tryz.func6, Tryz.ntmps6
  go_wp2_with fail
  rw [HW3.out]
  clear HW3
  refine (awake15 _).mono ?_
  rintro e w1 ⟨rfl, n1⟩
  replace HBS := Lib.hid (zs_stay HBS.out n1)
  replace HBA := Lib.hid (zs_stay HBA.out n1)
  replace HBB := Lib.hid (zs_stay HBB.out n1)
  replace HN := Lib.hid (HN.out.trans n1)
  clear n1
  have fS0 := cell_of_row _ _ 0 _ _ _ HBS.out
  have fS1 := cell_of_row _ _ 1 _ _ _ HBS.out
  have fS2 := cell_of_row _ _ 2 _ _ _ HBS.out
  have fS3 := cell_of_row _ _ 3 _ _ _ HBS.out
  have fS4 := cell_of_row _ _ 4 _ _ _ HBS.out
  have fA0 := cell_of_row _ _ 0 _ _ _ HBA.out
  have fA1 := cell_of_row _ _ 1 _ _ _ HBA.out
  have fA2 := cell_of_row _ _ 2 _ _ _ HBA.out
  have fA3 := cell_of_row _ _ 3 _ _ _ HBA.out
  go_wp2_with fail
  refine (HJ1.out _).mono ?_
  rintro e w2 ⟨rfl, n2⟩
  clear fS0 fS1 fS2 fS3 fS4 fA0 fA1 fA2 fA3
  have m2 := n2.alloc (.cells (stc k qa) 25)
  replace HBS := Lib.hid (zs_stay HBS.out m2)
  replace HBA := Lib.hid (zs_stay HBA.out m2)
  replace HBB := Lib.hid (zs_stay HBB.out m2)
  replace HN := Lib.hid (HN.out.trans m2)
  have HBO := Lib.hid (heap_alloc_new w2 (.cells (stc k qa) 25))
  clear n2 m2
  have fS0 := cell_of_row _ _ 0 _ _ _ HBS.out
  have fS1 := cell_of_row _ _ 1 _ _ _ HBS.out
  have fS2 := cell_of_row _ _ 2 _ _ _ HBS.out
  have fS3 := cell_of_row _ _ 3 _ _ _ HBS.out
  have fS4 := cell_of_row _ _ 4 _ _ _ HBS.out
  go_wp2_with fail
  refine (HRC.out _).mono ?_
  rintro e w5 ⟨rfl, n5⟩
  clear fS0 fS1 fS2 fS3 fS4
  replace HBS := Lib.hid (zs_stay HBS.out n5)
  replace HBA := Lib.hid (zs_stay HBA.out n5)
  replace HBB := Lib.hid (zs_stay HBB.out n5)
  replace HBO := Lib.hid (zs_stay HBO.out n5)
  replace HN := Lib.hid (HN.out.trans n5)
  clear n5
  have fO0 := cell_of_row _ _ 0 _ _ _ HBO.out
  have fO1 := cell_of_row _ _ 1 _ _ _ HBO.out
  have fO2 := cell_of_row _ _ 2 _ _ _ HBO.out
  have fO3 := cell_of_row _ _ 3 _ _ _ HBO.out
  have fO4 := cell_of_row _ _ 4 _ _ _ HBO.out
  have fB0 := cell_of_row _ _ 0 _ _ _ HBB.out
  have fB1 := cell_of_row _ _ 1 _ _ _ HBB.out
  have fB2 := cell_of_row _ _ 2 _ _ _ HBB.out
  have fB3 := cell_of_row _ _ 3 _ _ _ HBB.out
  go_wp2_with fail
  refine (HJ2.out _).mono ?_
  rintro e w6 ⟨rfl, n6⟩
  clear fO0 fO1 fO2 fO3 fO4 fB0 fB1 fB2 fB3
  have m6 := n6.alloc (.cells (stc k qab) 25)
  replace HBS := Lib.hid (zs_stay HBS.out m6)
  replace HBA := Lib.hid (zs_stay HBA.out m6)
  replace HBB := Lib.hid (zs_stay HBB.out m6)
  replace HBO := Lib.hid (zs_stay HBO.out m6)
  replace HN := Lib.hid (HN.out.trans m6)
  have HBT := Lib.hid (heap_alloc_new w6 (.cells (stc k qab) 25))
  clear n6 m6
  have fA0 := cell_of_row _ _ 0 _ _ _ HBA.out
  have fA1 := cell_of_row _ _ 1 _ _ _ HBA.out
  have fA2 := cell_of_row _ _ 2 _ _ _ HBA.out
  have fA3 := cell_of_row _ _ 3 _ _ _ HBA.out
  have fB0 := cell_of_row _ _ 0 _ _ _ HBB.out
  have fB1 := cell_of_row _ _ 1 _ _ _ HBB.out
  have fB2 := cell_of_row _ _ 2 _ _ _ HBB.out
  have fB3 := cell_of_row _ _ 3 _ _ _ HBB.out
  go_wp2_with fail
  refine (HAD.out _).mono ?_
  rintro e w7 ⟨rfl, n7⟩
  clear fA0 fA1 fA2 fA3 fB0 fB1 fB2 fB3
  have m7 := n7.alloc (.cells (uc s0 s1 s2 s3) 49)
  replace HBS := Lib.hid (zs_stay HBS.out m7)
  replace HBA := Lib.hid (zs_stay HBA.out m7)
  replace HBB := Lib.hid (zs_stay HBB.out m7)
  replace HBO := Lib.hid (zs_stay HBO.out m7)
  replace HBT := Lib.hid (zs_stay HBT.out m7)
  replace HN := Lib.hid (HN.out.trans m7)
  have HBU := Lib.hid (heap_alloc_new w7 (.cells (uc s0 s1 s2 s3) 49))
  clear n7 m7
  have fS0 := cell_of_row _ _ 0 _ _ _ HBS.out
  have fS1 := cell_of_row _ _ 1 _ _ _ HBS.out
  have fS2 := cell_of_row _ _ 2 _ _ _ HBS.out
  have fS3 := cell_of_row _ _ 3 _ _ _ HBS.out
  have fS4 := cell_of_row _ _ 4 _ _ _ HBS.out
  have fU0 := cell_of_row _ _ 0 _ _ _ HBU.out
  have fU1 := cell_of_row _ _ 1 _ _ _ HBU.out
  have fU2 := cell_of_row _ _ 2 _ _ _ HBU.out
  have fU3 := cell_of_row _ _ 3 _ _ _ HBU.out
  go_wp2_with fail
  refine (HJ3.out _).mono ?_
  rintro e w8 ⟨rfl, n8⟩
  clear fS0 fS1 fS2 fS3 fS4 fU0 fU1 fU2 fU3
  have m8 := n8.alloc (.cells (stc k qv) 25)
  replace HBS := Lib.hid (zs_stay HBS.out m8)
  replace HBA := Lib.hid (zs_stay HBA.out m8)
  replace HBB := Lib.hid (zs_stay HBB.out m8)
  replace HBO := Lib.hid (zs_stay HBO.out m8)
  replace HBT := Lib.hid (zs_stay HBT.out m8)
  replace HBU := Lib.hid (zs_stay HBU.out m8)
  replace HN := Lib.hid (HN.out.trans m8)
  have HBV := Lib.hid (heap_alloc_new w8 (.cells (stc k qv) 25))
  clear n8 m8
  clear HBA HBB HBU HBO
  have fT0 := cell_of_row _ _ 0 _ _ _ HBT.out
  have fT1 := cell_of_row _ _ 1 _ _ _ HBT.out
  have fT2 := cell_of_row _ _ 2 _ _ _ HBT.out
  have fT3 := cell_of_row _ _ 3 _ _ _ HBT.out
  have fT4 := cell_of_row _ _ 4 _ _ _ HBT.out
  have fV0 := cell_of_row _ _ 0 _ _ _ HBV.out
  have fV1 := cell_of_row _ _ 1 _ _ _ HBV.out
  have fV2 := cell_of_row _ _ 2 _ _ _ HBV.out
  have fV3 := cell_of_row _ _ 3 _ _ _ HBV.out
  have fV4 := cell_of_row _ _ 4 _ _ _ HBV.out
  rcases hout with h0 | h60
  · go_wp2
    go_ret
    exact ⟨rfl, HN.out⟩
  · have h0 : ¬ (n < 0) := by omega
    go_wp2
    go_ret
    exact ⟨rfl, HN.out⟩
set_option maxHeartbeats 8000000 in
theorem jumps_out_f (W : World) (k : Int) (q qa qv : W4) (a0 a1 a2 a3 b0 b1 b2 b3 s0 s1 s2 s3 : BitVec 64)
    (HJ1 : Hid (∀ w, Calls Tryz.prog 25 #[.agg (stc k q), .agg (uc a0 a1 a2 a3)] w fun e w' => e = .returned (.tuple #[.agg (stc k qa), .int .i64 0]) ∧ New w w'))
    (HJ2 : Hid (∀ w, Calls Tryz.prog 25 #[.agg (stc k qa), .agg (uc b0 b1 b2 b3)] w fun e w' => e = .returned (.tuple #[.agg (stc k qv), .int .i64 0]) ∧ New w w'))
    (HAD : Hid (∀ w, Calls Tryz.prog 26 #[.agg (uc a0 a1 a2 a3), .agg (uc b0 b1 b2 b3)] w fun e w' => e = .returned (.tuple #[.agg (uc s0 s1 s2 s3), .bool false]) ∧ New w w'))
    (HJ3 : Hid (∀ w, Calls Tryz.prog 25 #[.agg (stc k q), .agg (uc s0 s1 s2 s3)] w fun e w' => e = .returned (.tuple #[.agg (stc k qv), .int .i64 0]) ∧ New w w'))
    (HRC : Hid (∀ w, Calls Tryz.prog 9 #[.agg (stc k q)] w fun e w' => e = .returned (.int .i64 0) ∧ New w w'))
    (n : Int) (hout : n < 0 ∨ 60 < n) :
    Calls Tryz.prog 6 #[.agg (stc k q), .agg (uc a0 a1 a2 a3), .agg (uc b0 b1 b2 b3), .int .i64 n] W fun e w' => e = .returned (.bool true) ∧ New W w' := by
  have heq := fun w => eqSt_self w k qv
  obtain ⟨W3, hW3, hb1, hb2, hb3, hn3⟩ := j3 W (.cells (stc k q) 25) (.cells (uc a0 a1 a2 a3) 49) (.cells (uc b0 b1 b2 b3) 49)
  have HW3 := Lib.hid hW3
  have HBS := Lib.hid hb1
  have HBA := Lib.hid hb2
  have HBB := Lib.hid hb3
  have HN := Lib.hid hn3
  clear hW3 hb1 hb2 hb3 hn3
  go_enter Tryz.func6, Tryz.ntmps6
  go_wp2_with fail
  rw [HW3.out]
  clear HW3
  refine (awake15 _).mono ?_
  rintro e w1 ⟨rfl, n1⟩
  replace HBS := Lib.hid (zs_stay HBS.out n1)
  replace HBA := Lib.hid (zs_stay HBA.out n1)
  replace HBB := Lib.hid (zs_stay HBB.out n1)
  replace HN := Lib.hid (HN.out.trans n1)
  clear n1
  have fS0 := cell_of_row _ _ 0 _ _ _ HBS.out
  have fS1 := cell_of_row _ _ 1 _ _ _ HBS.out
  have fS2 := cell_of_row _ _ 2 _ _ _ HBS.out
  have fS3 := cell_of_row _ _ 3 _ _ _ HBS.out
  have fS4 := cell_of_row _ _ 4 _ _ _ HBS.out
  have fA0 := cell_of_row _ _ 0 _ _ _ HBA.out
  have fA1 := cell_of_row _ _ 1 _ _ _ HBA.out
  have fA2 := cell_of_row _ _ 2 _ _ _ HBA.out
  have fA3 := cell_of_row _ _ 3 _ _ _ HBA.out
  go_wp2_with fail
  refine (HJ1.out _).mono ?_
  rintro e w2 ⟨rfl, n2⟩
  clear fS0 fS1 fS2 fS3 fS4 fA0 fA1 fA2 fA3
  have m2 := n2.alloc (.cells (stc k qa) 25)
  replace HBS := Lib.hid (zs_stay HBS.out m2)
  replace HBA := Lib.hid (zs_stay HBA.out m2)
  replace HBB := Lib.hid (zs_stay HBB.out m2)
  replace HN := Lib.hid (HN.out.trans m2)
  have HBO := Lib.hid (heap_alloc_new w2 (.cells (stc k qa) 25))
  clear n2 m2
  have fS0 := cell_of_row _ _ 0 _ _ _ HBS.out
  have fS1 := cell_of_row _ _ 1 _ _ _ HBS.out
  have fS2 := cell_of_row _ _ 2 _ _ _ HBS.out
  have fS3 := cell_of_row _ _ 3 _ _ _ HBS.out
  have fS4 := cell_of_row _ _ 4 _ _ _ HBS.out
  go_wp2_with fail
  refine (HRC.out _).mono ?_
  rintro e w5 ⟨rfl, n5⟩
  clear fS0 fS1 fS2 fS3 fS4
  replace HBS := Lib.hid (zs_stay HBS.out n5)
  replace HBA := Lib.hid (zs_stay HBA.out n5)
  replace HBB := Lib.hid (zs_stay HBB.out n5)
  replace HBO := Lib.hid (zs_stay HBO.out n5)
  replace HN := Lib.hid (HN.out.trans n5)
  clear n5
  have fO0 := cell_of_row _ _ 0 _ _ _ HBO.out
  have fO1 := cell_of_row _ _ 1 _ _ _ HBO.out
  have fO2 := cell_of_row _ _ 2 _ _ _ HBO.out
  have fO3 := cell_of_row _ _ 3 _ _ _ HBO.out
  have fO4 := cell_of_row _ _ 4 _ _ _ HBO.out
  have fB0 := cell_of_row _ _ 0 _ _ _ HBB.out
  have fB1 := cell_of_row _ _ 1 _ _ _ HBB.out
  have fB2 := cell_of_row _ _ 2 _ _ _ HBB.out
  have fB3 := cell_of_row _ _ 3 _ _ _ HBB.out
  go_wp2_with fail
  refine (HJ2.out _).mono ?_
  rintro e w6 ⟨rfl, n6⟩
  clear fO0 fO1 fO2 fO3 fO4 fB0 fB1 fB2 fB3
  have m6 := n6.alloc (.cells (stc k qv) 25)
  replace HBS := Lib.hid (zs_stay HBS.out m6)
  replace HBA := Lib.hid (zs_stay HBA.out m6)
  replace HBB := Lib.hid (zs_stay HBB.out m6)
  replace HBO := Lib.hid (zs_stay HBO.out m6)
  replace HN := Lib.hid (HN.out.trans m6)
  have HBT := Lib.hid (heap_alloc_new w6 (.cells (stc k qv) 25))
  clear n6 m6
  have fA0 := cell_of_row _ _ 0 _ _ _ HBA.out
  have fA1 := cell_of_row _ _ 1 _ _ _ HBA.out
  have fA2 := cell_of_row _ _ 2 _ _ _ HBA.out
  have fA3 := cell_of_row _ _ 3 _ _ _ HBA.out
  have fB0 := cell_of_row _ _ 0 _ _ _ HBB.out
  have fB1 := cell_of_row _ _ 1 _ _ _ HBB.out
  have fB2 := cell_of_row _ _ 2 _ _ _ HBB.out
  have fB3 := cell_of_row _ _ 3 _ _ _ HBB.out
  go_wp2_with fail
  refine (HAD.out _).mono ?_
  rintro e w7 ⟨rfl, n7⟩
  clear fA0 fA1 fA2 fA3 fB0 fB1 fB2 fB3
  have m7 := n7.alloc (.cells (uc s0 s1 s2 s3) 49)
  replace HBS := Lib.hid (zs_stay HBS.out m7)
  replace HBA := Lib.hid (zs_stay HBA.out m7)
  replace HBB := Lib.hid (zs_stay HBB.out m7)
  replace HBO := Lib.hid (zs_stay HBO.out m7)
  replace HBT := Lib.hid (zs_stay HBT.out m7)
  replace HN := Lib.hid (HN.out.trans m7)
  have HBU := Lib.hid (heap_alloc_new w7 (.cells (uc s0 s1 s2 s3) 49))
  clear n7 m7
  have fS0 := cell_of_row _ _ 0 _ _ _ HBS.out
  have fS1 := cell_of_row _ _ 1 _ _ _ HBS.out
  have fS2 := cell_of_row _ _ 2 _ _ _ HBS.out
  have fS3 := cell_of_row _ _ 3 _ _ _ HBS.out
  have fS4 := cell_of_row _ _ 4 _ _ _ HBS.out
  have fU0 := cell_of_row _ _ 0 _ _ _ HBU.out
  have fU1 := cell_of_row _ _ 1 _ _ _ HBU.out
  have fU2 := cell_of_row _ _ 2 _ _ _ HBU.out
  have fU3 := cell_of_row _ _ 3 _ _ _ HBU.out
  go_wp2_with fail
  refine (HJ3.out _).mono ?_
  rintro e w8 ⟨rfl, n8⟩
  clear fS0 fS1 fS2 fS3 fS4 fU0 fU1 fU2 fU3
  have m8 := n8.alloc (.cells (stc k qv) 25)
  replace HBS := Lib.hid (zs_stay HBS.out m8)
  replace HBA := Lib.hid (zs_stay HBA.out m8)
  replace HBB := Lib.hid (zs_stay HBB.out m8)
  replace HBO := Lib.hid (zs_stay HBO.out m8)
  replace HBT := Lib.hid (zs_stay HBT.out m8)
  replace HBU := Lib.hid (zs_stay HBU.out m8)
  replace HN := Lib.hid (HN.out.trans m8)
  have HBV := Lib.hid (heap_alloc_new w8 (.cells (stc k qv) 25))
  clear n8 m8
  clear HBA HBB HBU HBO
  have fT0 := cell_of_row _ _ 0 _ _ _ HBT.out
  have fT1 := cell_of_row _ _ 1 _ _ _ HBT.out
  have fT2 := cell_of_row _ _ 2 _ _ _ HBT.out
  have fT3 := cell_of_row _ _ 3 _ _ _ HBT.out
  have fT4 := cell_of_row _ _ 4 _ _ _ HBT.out
  have fV0 := cell_of_row _ _ 0 _ _ _ HBV.out
  have fV1 := cell_of_row _ _ 1 _ _ _ HBV.out
  have fV2 := cell_of_row _ _ 2 _ _ _ HBV.out
  have fV3 := cell_of_row _ _ 3 _ _ _ HBV.out
  have fV4 := cell_of_row _ _ 4 _ _ _ HBV.out
  rcases hout with h0 | h60
  · go_wp2
    go_ret
    exact ⟨rfl, HN.out⟩
  · have h0 : ¬ (n < 0) := by omega
    go_wp2
    go_ret
    exact ⟨rfl, HN.out⟩
end Go.Proofs.YtfaobdmoifnglaaGreat
