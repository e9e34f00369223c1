import Derived.Test.YtfaobdmoifnglaaGreatZJmS
/- The statement GensJumps: in range, where the sum runs over. -/
namespace Go.Proofs.YtfaobdmoifnglaaGreat
open Go.RowKit Go.Bv Go.G2
set_option linter.unusedVariables false
set_option maxRecDepth 100000
set_option maxHeartbeats 8000000 in
theorem jumps_in_t (W : World) (k : Int) (q qa qab qv : W4) (a0 a1 a2 a3 b0 b1 b2 b3 s0 s1 s2 s3 : BitVec 64)
    (HJ1 : Hid (∀ w, Calls Tryz.prog 25 #[.agg (stc k q), .agg (uc a0 a1 a2 a3)] w fun e w' => e = .returned (.tuple #[.agg (stc k qa), .int .i64 0]) ∧ New w w'))
    (HJ2 : Hid (∀ w, Calls Tryz.prog 25 #[.agg (stc k qa), .agg (uc b0 b1 b2 b3)] w fun e w' => e = .returned (.tuple #[.agg (stc k qab), .int .i64 0]) ∧ New w w'))
    (HAD : Hid (∀ w, Calls Tryz.prog 26 #[.agg (uc a0 a1 a2 a3), .agg (uc b0 b1 b2 b3)] w fun e w' => e = .returned (.tuple #[.agg (uc s0 s1 s2 s3), .bool true]) ∧ New w w'))
    (HJ3 : Hid (∀ w, Calls Tryz.prog 25 #[.agg (stc k q), .agg (uc s0 s1 s2 s3)] w fun e w' => e = .returned (.tuple #[.agg (stc k qv), .int .i64 0]) ∧ New w w'))
    (HRC : Hid (∀ w, Calls Tryz.prog 9 #[.agg (stc k q)] w fun e w' => e = .returned (.int .i64 0) ∧ New w w'))
    (m : Nat) (hm : m ≤ 60) (cs : Int) (hcs : cs = 1 ∨ cs = 2) (uv uv2 : Array Value) (qp qw : W4)
    (HOF : Hid (∀ t : Int, t = (m : Int) → ∀ w, Calls Tryz.prog 27 #[.int .u64 t] w fun e w' => e = .returned (.agg uv) ∧ New w w'))
    (HOG : Hid (∀ t : Int, t = (m : Int) * cs → ∀ w, Calls Tryz.prog 27 #[.int .u64 t] w fun e w' => e = .returned (.agg uv2) ∧ New w w'))
    (HJ4 : Hid (∀ w, Calls Tryz.prog 25 #[.agg (stc k q), .agg uv] w fun e w' => e = .returned (.tuple #[.agg (stc k qp), .int .i64 0]) ∧ New w w'))
    (HJ5 : Hid (∀ w, Calls Tryz.prog 25 #[.agg (stc k q), .agg uv2] w fun e w' => e = .returned (.tuple #[.agg (stc k qw), .int .i64 0]) ∧ New w w'))
    (HCO : Hid (∀ w, Calls Tryz.prog 15 #[.int .i64 k] w fun e w' => e = .returned (.int .i64 cs) ∧ New w w'))
    (HWD : Hid (∀ w, Calls Tryz.prog 20 #[.agg (stc k q), .int .i64 (m : Int)] w fun e w' => ∃ v, e = .returned (.tuple #[v, .agg (stc k qw), .int .i64 0]) ∧ New w w'))
    (HSS : Hid (∀ w, Calls Tryz.prog 28 #[.agg (stc k q), .int .i64 (m : Int)] w fun e w' => e = .returned (.agg (stc k qp)) ∧ New w w')) :
    Calls Tryz.prog 6 #[.agg (stc k q), .agg (uc a0 a1 a2 a3), .agg (uc b0 b1 b2 b3), .int .i64 (m : Int)] W fun e w' => e = .returned (.bool true) ∧ New W w' := by
  have h0 : ¬ ((m : Int) < 0) := by omega
  have h60 : ¬ (60 < (m : Int)) := by omega
  have HM := Lib.hid hm
  have HCS := Lib.hid hcs
  clear hcs
  obtain ⟨W3, hW3, hb1, hb2, hb3, hn3⟩ := j3 W (.cells (stc k q) 25) (.cells (uc a0 a1 a2 a3) 49) (.cells (uc b0 b1 b2 b3) 49)
  have HW3 := Lib.hid hW3
  have HBS := Lib.hid hb1
  have HBA := Lib.hid hb2
  have HBB := Lib.hid hb3
  have HN := Lib.hid hn3
  clear hW3 hb1 hb2 hb3 hn3
  go_enter Tryz.func6, Tryz.ntmps6
  go_wp2_with fail
  rw [HW3.out]
  clear HW3
  refine (awake15 _).mono ?_
  rintro e w1 ⟨rfl, n1⟩
  replace HBS := Lib.hid (zs_stay HBS.out n1)
  replace HBA := Lib.hid (zs_stay HBA.out n1)
  replace HBB := Lib.hid (zs_stay HBB.out n1)
  replace HN := Lib.hid (HN.out.trans n1)
  clear n1
  have fS0 := cell_of_row _ _ 0 _ _ _ HBS.out
  have fS1 := cell_of_row _ _ 1 _ _ _ HBS.out
  have fS2 := cell_of_row _ _ 2 _ _ _ HBS.out
  have fS3 := cell_of_row _ _ 3 _ _ _ HBS.out
  have fS4 := cell_of_row _ _ 4 _ _ _ HBS.out
  have fA0 := cell_of_row _ _ 0 _ _ _ HBA.out
  have fA1 := cell_of_row _ _ 1 _ _ _ HBA.out
  have fA2 := cell_of_row _ _ 2 _ _ _ HBA.out
  have fA3 := cell_of_row _ _ 3 _ _ _ HBA.out
  go_wp2_with fail
  refine (HJ1.out _).mono ?_
  rintro e w2 ⟨rfl, n2⟩
  clear fS0 fS1 fS2 fS3 fS4 fA0 fA1 fA2 fA3
  have m2 := n2.alloc (.cells (stc k qa) 25)
  replace HBS := Lib.hid (zs_stay HBS.out m2)
  replace HBA := Lib.hid (zs_stay HBA.out m2)
  replace HBB := Lib.hid (zs_stay HBB.out m2)
  replace HN := Lib.hid (HN.out.trans m2)
  have HBO := Lib.hid (heap_alloc_new w2 (.cells (stc k qa) 25))
  clear n2 m2
  have fS0 := cell_of_row _ _ 0 _ _ _ HBS.out
  have fS1 := cell_of_row _ _ 1 _ _ _ HBS.out
  have fS2 := cell_of_row _ _ 2 _ _ _ HBS.out
  have fS3 := cell_of_row _ _ 3 _ _ _ HBS.out
  have fS4 := cell_of_row _ _ 4 _ _ _ HBS.out
  go_wp2_with fail
  refine (HRC.out _).mono ?_
  rintro e w5 ⟨rfl, n5⟩
  clear fS0 fS1 fS2 fS3 fS4
  replace HBS := Lib.hid (zs_stay HBS.out n5)
  replace HBA := Lib.hid (zs_stay HBA.out n5)
  replace HBB := Lib.hid (zs_stay HBB.out n5)
  replace HBO := Lib.hid (zs_stay HBO.out n5)
  replace HN := Lib.hid (HN.out.trans n5)
  clear n5
  have fO0 := cell_of_row _ _ 0 _ _ _ HBO.out
  have fO1 := cell_of_row _ _ 1 _ _ _ HBO.out
  have fO2 := cell_of_row _ _ 2 _ _ _ HBO.out
  have fO3 := cell_of_row _ _ 3 _ _ _ HBO.out
  have fO4 := cell_of_row _ _ 4 _ _ _ HBO.out
  have fB0 := cell_of_row _ _ 0 _ _ _ HBB.out
  have fB1 := cell_of_row _ _ 1 _ _ _ HBB.out
  have fB2 := cell_of_row _ _ 2 _ _ _ HBB.out
  have fB3 := cell_of_row _ _ 3 _ _ _ HBB.out
  go_wp2_with fail
  refine (HJ2.out _).mono ?_
  rintro e w6 ⟨rfl, n6⟩
  clear fO0 fO1 fO2 fO3 fO4 fB0 fB1 fB2 fB3
  have m6 := n6.alloc (.cells (stc k qab) 25)
  replace HBS := Lib.hid (zs_stay HBS.out m6)
  replace HBA := Lib.hid (zs_stay HBA.out m6)
  replace HBB := Lib.hid (zs_stay HBB.out m6)
  replace HBO := Lib.hid (zs_stay HBO.out m6)
  replace HN := Lib.hid (HN.out.trans m6)
  have HBT := Lib.hid (heap_alloc_new w6 (.cells (stc k qab) 25))
  clear n6 m6
  have fA0 := cell_of_row _ _ 0 _ _ _ HBA.out
  have fA1 := cell_of_row _ _ 1 _ _ _ HBA.out
  have fA2 := cell_of_row _ _ 2 _ _ _ HBA.out
  have fA3 := cell_of_row _ _ 3 _ _ _ HBA.out
  have fB0 := cell_of_row _ _ 0 _ _ _ HBB.out
  have fB1 := cell_of_row _ _ 1 _ _ _ HBB.out
  have fB2 := cell_of_row _ _ 2 _ _ _ HBB.out
  have fB3 := cell_of_row _ _ 3 _ _ _ HBB.out
  go_wp2_with fail
  refine (HAD.out _).mono ?_
  rintro e w7 ⟨rfl, n7⟩
  clear fA0 fA1 fA2 fA3 fB0 fB1 fB2 fB3
  have m7 := n7.alloc (.cells (uc s0 s1 s2 s3) 49)
  replace HBS := Lib.hid (zs_stay HBS.out m7)
  replace HBA := Lib.hid (zs_stay HBA.out m7)
  replace HBB := Lib.hid (zs_stay HBB.out m7)
  replace HBO := Lib.hid (zs_stay HBO.out m7)
  replace HBT := Lib.hid (zs_stay HBT.out m7)
  replace HN := Lib.hid (HN.out.trans m7)
  have HBU := Lib.hid (heap_alloc_new w7 (.cells (uc s0 s1 s2 s3) 49))
  clear n7 m7
  have fS0 := cell_of_row _ _ 0 _ _ _ HBS.out
  have fS1 := cell_of_row _ _ 1 _ _ _ HBS.out
  have fS2 := cell_of_row _ _ 2 _ _ _ HBS.out
  have fS3 := cell_of_row _ _ 3 _ _ _ HBS.out
  have fS4 := cell_of_row _ _ 4 _ _ _ HBS.out
  have fU0 := cell_of_row _ _ 0 _ _ _ HBU.out
  have fU1 := cell_of_row _ _ 1 _ _ _ HBU.out
  have fU2 := cell_of_row _ _ 2 _ _ _ HBU.out
  have fU3 := cell_of_row _ _ 3 _ _ _ HBU.out
  go_wp2_with fail
  refine (HJ3.out _).mono ?_
  rintro e w8 ⟨rfl, n8⟩
  clear fS0 fS1 fS2 fS3 fS4 fU0 fU1 fU2 fU3
  have m8 := n8.alloc (.cells (stc k qv) 25)
  replace HBS := Lib.hid (zs_stay HBS.out m8)
  replace HBA := Lib.hid (zs_stay HBA.out m8)
  replace HBB := Lib.hid (zs_stay HBB.out m8)
  replace HBO := Lib.hid (zs_stay HBO.out m8)
  replace HBT := Lib.hid (zs_stay HBT.out m8)
  replace HBU := Lib.hid (zs_stay HBU.out m8)
  replace HN := Lib.hid (HN.out.trans m8)
  have HBV := Lib.hid (heap_alloc_new w8 (.cells (stc k qv) 25))
  clear n8 m8
  clear HBA HBB HBU HBO
  have fT0 := cell_of_row _ _ 0 _ _ _ HBT.out
  have fT1 := cell_of_row _ _ 1 _ _ _ HBT.out
  have fT2 := cell_of_row _ _ 2 _ _ _ HBT.out
  have fT3 := cell_of_row _ _ 3 _ _ _ HBT.out
  have fT4 := cell_of_row _ _ 4 _ _ _ HBT.out
  have fV0 := cell_of_row _ _ 0 _ _ _ HBV.out
  have fV1 := cell_of_row _ _ 1 _ _ _ HBV.out
  have fV2 := cell_of_row _ _ 2 _ _ _ HBV.out
  have fV3 := cell_of_row _ _ 3 _ _ _ HBV.out
  have fV4 := cell_of_row _ _ 4 _ _ _ HBV.out
  go_wp2_with fail
  clear fT0 fT1 fT2 fT3 fT4 fV0 fV1 fV2 fV3 fV4
  clear HBT HBV HJ1 HJ2 HJ3 HAD HRC
  generalize hwb : World.alloc w8 _ = wb at *
  clear hwb
  have SK : Hid (∀ w', New wb w' → New wb w' ∧ w'.cell? ⟨W.heap.size, 0, none⟩ = some (.int .i64 k) ∧ w'.cell? ⟨W.heap.size, 1, none⟩ = some (.int .u64 (W64 q.a)) ∧ w'.cell? ⟨W.heap.size, 2, none⟩ = some (.int .u64 (W64 q.b)) ∧ w'.cell? ⟨W.heap.size, 3, none⟩ = some (.int .u64 (W64 q.c)) ∧ w'.cell? ⟨W.heap.size, 4, none⟩ = some (.int .u64 (W64 q.d))) := Lib.hid (fun w' hn => ⟨hn, cell_of_row _ _ 0 _ _ _ (zs_stay HBS.out hn), cell_of_row _ _ 1 _ _ _ (zs_stay HBS.out hn), cell_of_row _ _ 2 _ _ _ (zs_stay HBS.out hn), cell_of_row _ _ 3 _ _ _ (zs_stay HBS.out hn), cell_of_row _ _ 4 _ _ _ (zs_stay HBS.out hn)⟩)
  obtain ⟨cez, ce0, ce1, ce2, ce3, ce4⟩ := SK.out wb (New.refl _)
  go_cut [18] (fun p wx => ∃ b, p = .pointer (some ⟨b, 0, none⟩) ∧ wx.heap[b]? = some (.cells (stc k qp) 25 (0, 0)) ∧ wb.heap.size ≤ b ∧ New wb wx)
  case first =>
    go_region_held3 (fun w' => New wb w' ∧ w'.cell? ⟨W.heap.size, 0, none⟩ = some (.int .i64 k) ∧ w'.cell? ⟨W.heap.size, 1, none⟩ = some (.int .u64 (W64 q.a)) ∧ w'.cell? ⟨W.heap.size, 2, none⟩ = some (.int .u64 (W64 q.b)) ∧ w'.cell? ⟨W.heap.size, 3, none⟩ = some (.int .u64 (W64 q.c)) ∧ w'.cell? ⟨W.heap.size, 4, none⟩ = some (.int .u64 (W64 q.d)))
      ((refine SK.out _ ?_; first | with_reducible assumption | with_reducible exact (New.refl _).drew | with_reducible exact New.drew (by assumption) | with_reducible exact New.alloc (by assumption) _ | with_reducible exact (New.refl _).drew.alloc _ | with_reducible exact ((New.refl _).alloc _).drew | with_reducible exact zs_put_new (by assumption) (by assumption) | with_reducible exact (zs_put_new (by assumption) (by assumption)).drew))
      (first
      | (go_at_call 27
         refine (HOF.out _ (by have := HM.out; first | exact w64_small (by omega) | go_num) _).mono ?_
         rintro e q0 ⟨rfl, hc0⟩
         first
         | (have hg0 : New wb q0 := by first | with_reducible exact (New.refl wb).drew.trans hc0 | with_reducible exact hc0)
         | (have hz0 : q0.heap[wb.heap.size]? = some (.cells zst 25 (0, 0)) := by first | with_reducible exact zs_stay (zs_d wb) hc0 | with_reducible exact zs_stay (zs_dd wb) hc0
            have hg0 : New wb q0 := by first | with_reducible exact ((New.refl wb).alloc _).drew.trans hc0 | with_reducible exact ((New.refl wb).drew.alloc _).trans hc0
            have hzg : wb.heap.size ≤ wb.heap.size := Nat.le_refl _
            have HZ := Lib.hid hz0
            clear hz0)
         clear hc0)
      | (go_at_call 25
         refine (HJ4.out _).mono ?_
         rintro e q1 ⟨rfl, hc1⟩
         first
         | (have hg1 : New wb q1 := by first | with_reducible exact hg0.trans hc1 | with_reducible exact hg0.drew.trans hc1
            first
            | (have hz1 := by first | with_reducible exact zs_stay HZ.out hc1 | with_reducible exact zs_stay (zs_stay HZ.out (New.refl _).drew) hc1
               have z0 := cell_of_row _ _ 0 _ _ _ hz1
               have z1 := cell_of_row _ _ 1 _ _ _ hz1
               have z2 := cell_of_row _ _ 2 _ _ _ hz1
               have z3 := cell_of_row _ _ 3 _ _ _ hz1
               have z4 := cell_of_row _ _ 4 _ _ _ hz1
               have zf := fun i => frozen_of_row _ _ i _ _ hz1
               have HZ := Lib.hid hz1
               clear hz1)
            | skip)
         | (have hg1 : New wb q1 := by with_reducible exact (hg0.alloc _).trans hc1
            have hz1 : q1.heap[q0.heap.size]? = some (.cells zst 25 (0, 0)) := by with_reducible exact zs_stay (zs_new q0) hc1
            have hzg : wb.heap.size ≤ q0.heap.size := hg0.le
            have z0 := cell_of_row _ _ 0 _ _ _ hz1
            have z1 := cell_of_row _ _ 1 _ _ _ hz1
            have z2 := cell_of_row _ _ 2 _ _ _ hz1
            have z3 := cell_of_row _ _ 3 _ _ _ hz1
            have z4 := cell_of_row _ _ 4 _ _ _ hz1
            have zf := fun i => frozen_of_row _ _ i _ _ hz1
            have HZ := Lib.hid hz1
            clear hz1)
         clear hc1))
    all_goals (
      go_wp2_with fail
      go_meet
      case rel => first
        | with_reducible exact ⟨_, rfl, zs_alloc q1 _, hg1.le, hg1.alloc _⟩
        | with_reducible exact ⟨_, rfl, zs_put _ _ _ _ _ HZ.out, hzg, zs_put_new hg1 hzg⟩
        | with_reducible exact ⟨_, rfl, zs_stay (zs_put _ _ _ _ _ HZ.out) (New.refl _).drew, hzg, (zs_put_new hg1 hzg).drew⟩)
  case rest =>
    obtain ⟨bp, rfl, hbp, -, hnp⟩ := hcut
    clear SK cez ce0 ce1 ce2 ce3 ce4
    replace HBS := Lib.hid (zs_stay HBS.out hnp)
    replace HN := Lib.hid (HN.out.trans hnp)
    have HBP := Lib.hid hbp
    clear hbp hnp
    have fS0 := cell_of_row _ _ 0 _ _ _ HBS.out
    have fS1 := cell_of_row _ _ 1 _ _ _ HBS.out
    have fS2 := cell_of_row _ _ 2 _ _ _ HBS.out
    have fS3 := cell_of_row _ _ 3 _ _ _ HBS.out
    have fS4 := cell_of_row _ _ 4 _ _ _ HBS.out
    go_wp2_with fail
    refine (HWD.out _).mono ?_
    rintro e w9 ⟨v, rfl, n9⟩
    clear fS0 fS1 fS2 fS3 fS4
    have m9 := n9.alloc (.cells (stc k qw) 25)
    replace HBS := Lib.hid (zs_stay HBS.out m9)
    replace HBP := Lib.hid (zs_stay HBP.out m9)
    replace HN := Lib.hid (HN.out.trans m9)
    have HBQ := Lib.hid (heap_alloc_new w9 (.cells (stc k qw) 25))
    clear n9 m9
    go_wp2_with fail
    generalize hwd : World.alloc w9 _ = wd at *
    generalize hgq : w9.heap.size = gq at *
    clear hwd hgq
    have SK : Hid (∀ w', New wd w' → New wd w' ∧ w'.cell? ⟨W.heap.size, 0, none⟩ = some (.int .i64 k) ∧ w'.cell? ⟨W.heap.size, 1, none⟩ = some (.int .u64 (W64 q.a)) ∧ w'.cell? ⟨W.heap.size, 2, none⟩ = some (.int .u64 (W64 q.b)) ∧ w'.cell? ⟨W.heap.size, 3, none⟩ = some (.int .u64 (W64 q.c)) ∧ w'.cell? ⟨W.heap.size, 4, none⟩ = some (.int .u64 (W64 q.d))) := Lib.hid (fun w' hn => ⟨hn, cell_of_row _ _ 0 _ _ _ (zs_stay HBS.out hn), cell_of_row _ _ 1 _ _ _ (zs_stay HBS.out hn), cell_of_row _ _ 2 _ _ _ (zs_stay HBS.out hn), cell_of_row _ _ 3 _ _ _ (zs_stay HBS.out hn), cell_of_row _ _ 4 _ _ _ (zs_stay HBS.out hn)⟩)
    obtain ⟨cez, ce0, ce1, ce2, ce3, ce4⟩ := SK.out wd (New.refl _)
    go_cut [23] (fun p wx => ∃ b, p = .pointer (some ⟨b, 0, none⟩) ∧ wx.heap[b]? = some (.cells (stc k qw) 25 (0, 0)) ∧ wd.heap.size ≤ b ∧ New wd wx)
    case first =>
      go_region_held3 (fun w' => New wd w' ∧ w'.cell? ⟨W.heap.size, 0, none⟩ = some (.int .i64 k) ∧ w'.cell? ⟨W.heap.size, 1, none⟩ = some (.int .u64 (W64 q.a)) ∧ w'.cell? ⟨W.heap.size, 2, none⟩ = some (.int .u64 (W64 q.b)) ∧ w'.cell? ⟨W.heap.size, 3, none⟩ = some (.int .u64 (W64 q.c)) ∧ w'.cell? ⟨W.heap.size, 4, none⟩ = some (.int .u64 (W64 q.d)))
        ((refine SK.out _ ?_; first | with_reducible assumption | with_reducible exact (New.refl _).drew | with_reducible exact New.drew (by assumption) | with_reducible exact New.alloc (by assumption) _ | with_reducible exact (New.refl _).drew.alloc _ | with_reducible exact ((New.refl _).alloc _).drew | with_reducible exact zs_put_new (by assumption) (by assumption) | with_reducible exact (zs_put_new (by assumption) (by assumption)).drew))
        (first
        | (go_at_call 15
           refine (HCO.out _).mono ?_
           rintro e q0 ⟨rfl, hc0⟩
           first
           | (have hg0 : New wd q0 := by first | with_reducible exact (New.refl wd).drew.trans hc0 | with_reducible exact hc0)
           | (have hz0 : q0.heap[wd.heap.size]? = some (.cells zst 25 (0, 0)) := by first | with_reducible exact zs_stay (zs_d wd) hc0 | with_reducible exact zs_stay (zs_dd wd) hc0
              have hg0 : New wd q0 := by first | with_reducible exact ((New.refl wd).alloc _).drew.trans hc0 | with_reducible exact ((New.refl wd).drew.alloc _).trans hc0
              have hzg : wd.heap.size ≤ wd.heap.size := Nat.le_refl _
              have HZ := Lib.hid hz0
              clear hz0)
           clear hc0)
        | (go_at_call 27
           refine (HOG.out _ (by have := HM.out; rcases HCS.out with e1 | e1 <;> rw [e1] <;> exact w64_wrap (by omega) (by omega)) _).mono ?_
           rintro e q1 ⟨rfl, hc1⟩
           first
           | (have hg1 : New wd q1 := by first | with_reducible exact hg0.trans hc1 | with_reducible exact hg0.drew.trans hc1
              first
              | (have hz1 := by first | with_reducible exact zs_stay HZ.out hc1 | with_reducible exact zs_stay (zs_stay HZ.out (New.refl _).drew) hc1
                 have HZ := Lib.hid hz1
                 clear hz1)
              | skip)
           | (have hg1 : New wd q1 := by with_reducible exact (hg0.alloc _).trans hc1
              have hz1 : q1.heap[q0.heap.size]? = some (.cells zst 25 (0, 0)) := by with_reducible exact zs_stay (zs_new q0) hc1
              have hzg : wd.heap.size ≤ q0.heap.size := hg0.le
              have HZ := Lib.hid hz1
              clear hz1)
           clear hc1)
        | (go_at_call 25
           refine (HJ5.out _).mono ?_
           rintro e q2 ⟨rfl, hc2⟩
           first
           | (have hg2 : New wd q2 := by first | with_reducible exact hg1.trans hc2 | with_reducible exact hg1.drew.trans hc2
              first
              | (have hz2 := by first | with_reducible exact zs_stay HZ.out hc2 | with_reducible exact zs_stay (zs_stay HZ.out (New.refl _).drew) hc2
                 have z0 := cell_of_row _ _ 0 _ _ _ hz2
                 have z1 := cell_of_row _ _ 1 _ _ _ hz2
                 have z2 := cell_of_row _ _ 2 _ _ _ hz2
                 have z3 := cell_of_row _ _ 3 _ _ _ hz2
                 have z4 := cell_of_row _ _ 4 _ _ _ hz2
                 have zf := fun i => frozen_of_row _ _ i _ _ hz2
                 have HZ := Lib.hid hz2
                 clear hz2)
              | skip)
           | (have hg2 : New wd q2 := by with_reducible exact (hg1.alloc _).trans hc2
              have hz2 : q2.heap[q1.heap.size]? = some (.cells zst 25 (0, 0)) := by with_reducible exact zs_stay (zs_new q1) hc2
              have hzg : wd.heap.size ≤ q1.heap.size := hg1.le
              have z0 := cell_of_row _ _ 0 _ _ _ hz2
              have z1 := cell_of_row _ _ 1 _ _ _ hz2
              have z2 := cell_of_row _ _ 2 _ _ _ hz2
              have z3 := cell_of_row _ _ 3 _ _ _ hz2
              have z4 := cell_of_row _ _ 4 _ _ _ hz2
              have zf := fun i => frozen_of_row _ _ i _ _ hz2
              have HZ := Lib.hid hz2
              clear hz2)
           clear hc2))
      all_goals (
        go_wp2_with fail
        go_meet
        case rel => first
          | with_reducible exact ⟨_, rfl, zs_alloc q2 _, hg2.le, hg2.alloc _⟩
          | with_reducible exact ⟨_, rfl, zs_put _ _ _ _ _ HZ.out, hzg, zs_put_new hg2 hzg⟩
          | with_reducible exact ⟨_, rfl, zs_stay (zs_put _ _ _ _ _ HZ.out) (New.refl _).drew, hzg, (zs_put_new hg2 hzg).drew⟩)
    case rest =>
      obtain ⟨br, rfl, hbr, -, hnr⟩ := hcut
      clear SK cez ce0 ce1 ce2 ce3 ce4
      replace HBS := Lib.hid (zs_stay HBS.out hnr)
      replace HBP := Lib.hid (zs_stay HBP.out hnr)
      replace HBQ := Lib.hid (zs_stay HBQ.out hnr)
      replace HN := Lib.hid (HN.out.trans hnr)
      have HBR := Lib.hid hbr
      clear hbr hnr
      have hep := fun w => eqSt_self w k qp
      have heq := fun w => eqSt_self w k qw
      obtain ⟨wz, hwz⟩ : ∃ z, z = wc := ⟨_, rfl⟩
      subst hwz
      go_wp2_with fail
      refine wp_region_class (fun w' => w'.heap[W.heap.size]? = some (.cells (stc k q) 25 (0, 0)) ∧ w'.heap[bp]? = some (.cells (stc k qp) 25 (0, 0)) ∧ w'.heap[gq]? = some (.cells (stc k qw) 25 (0, 0)) ∧ w'.heap[br]? = some (.cells (stc k qw) 25 (0, 0)) ∧ New wz w') (by kernel_rfl) (by kernel_rfl) ⟨zs_stay HBS.out (New.refl _).drew, zs_stay HBP.out (New.refl _).drew, zs_stay HBQ.out (New.refl _).drew, zs_stay HBR.out (New.refl _).drew, (New.refl _).drew⟩ ?_
      intro I _ f hall hback
      have HSTEP : Hid (∀ n w', New (f n) w' → ∃ m, w' = f m) := Lib.hid fun n w' hn => hback w' ⟨zs_stay (hall n).1 hn, zs_stay (hall n).2.1 hn, zs_stay (hall n).2.2.1 hn, zs_stay (hall n).2.2.2.1 hn, (hall n).2.2.2.2.trans hn⟩
      have HALL := Lib.hid fun n => (hall n).2.2.2.2
      have sS0 := fun n => cell_of_row _ _ 0 _ _ _ (hall n).1
      have sS1 := fun n => cell_of_row _ _ 1 _ _ _ (hall n).1
      have sS2 := fun n => cell_of_row _ _ 2 _ _ _ (hall n).1
      have sS3 := fun n => cell_of_row _ _ 3 _ _ _ (hall n).1
      have sS4 := fun n => cell_of_row _ _ 4 _ _ _ (hall n).1
      have sP0 := fun n => cell_of_row _ _ 0 _ _ _ (hall n).2.1
      have sP1 := fun n => cell_of_row _ _ 1 _ _ _ (hall n).2.1
      have sP2 := fun n => cell_of_row _ _ 2 _ _ _ (hall n).2.1
      have sP3 := fun n => cell_of_row _ _ 3 _ _ _ (hall n).2.1
      have sP4 := fun n => cell_of_row _ _ 4 _ _ _ (hall n).2.1
      have sQ0 := fun n => cell_of_row _ _ 0 _ _ _ (hall n).2.2.1
      have sQ1 := fun n => cell_of_row _ _ 1 _ _ _ (hall n).2.2.1
      have sQ2 := fun n => cell_of_row _ _ 2 _ _ _ (hall n).2.2.1
      have sQ3 := fun n => cell_of_row _ _ 3 _ _ _ (hall n).2.2.1
      have sQ4 := fun n => cell_of_row _ _ 4 _ _ _ (hall n).2.2.1
      have sR0 := fun n => cell_of_row _ _ 0 _ _ _ (hall n).2.2.2.1
      have sR1 := fun n => cell_of_row _ _ 1 _ _ _ (hall n).2.2.2.1
      have sR2 := fun n => cell_of_row _ _ 2 _ _ _ (hall n).2.2.2.1
      have sR3 := fun n => cell_of_row _ _ 3 _ _ _ (hall n).2.2.2.1
      have sR4 := fun n => cell_of_row _ _ 4 _ _ _ (hall n).2.2.2.1
      clear hall hback
      repeat (go_big_quiet_step (first | (go_at_call 28; refine class_new HSTEP.out (HSS.out _))))
      refine wpQuiet_nil ?_
      rintro wy ⟨n1, hw1⟩
      have hS := HALL.out n1
      rw [← hw1] at hS
      replace HN := Lib.hid (HN.out.trans hS)
      clear HALL HSTEP hw1 hS
      go_wp2
      go_ret
      exact ⟨rfl, HN.out⟩
end Go.Proofs.YtfaobdmoifnglaaGreat
