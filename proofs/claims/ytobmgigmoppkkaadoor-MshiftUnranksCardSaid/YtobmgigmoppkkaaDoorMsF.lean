/- The document's own layer 20: Rank. -/
import Derived.Test.YtobmgigmoppkkaaDoorMsE
namespace Go.Proofs.YtobmgigmoppkkaaDoor
open Go.RowKit Go.Bv
set_option linter.unusedVariables false
set_option maxHeartbeats 1000000 in
theorem rrank_fewp (x y a d m q q' R tp P P2 : BitVec 64) (j t s : Nat) (hjt : j + t = 64) (hs : 0 < s) (hs2 : s < 64) (hts : t ≤ s) (hxy : (x == y) = false) (hc : chkM a (j : Int) = 0)
    (e1 : (x - y) / P = d) (e2 : a * d = m) (e3 : a * (x - y) / P = q) (e4 : -(a * (x - y)) / P = q') (e5 : m / P2 = tp) (e6 : (q - 1#64) * P + tp = (q - 1#64) <<< s + tp) (e7 : q' * P + tp = q' <<< s + tp)
    (p1 : ¬ P = 0#64) (p2 : ¬ P2 = 0#64) (w : World)
    (HTW : Hid (Calls Tryd.prog 19 #[.int .u64 (W64 (x - y))] w fun e w' => e = .returned (.int .i64 (s : Int)) ∧ w' = w))
    (HPS : Hid (Calls Tryd.prog 18 #[.int .i64 (s : Int)] w fun e w' => e = .returned (.int .u64 (W64 P)) ∧ w' = w))
    (HPR : Hid (t - s + s = t → Calls Tryd.prog 18 #[.int .i64 ((t - s : Nat) : Int)] w fun e w' => e = .returned (.int .u64 (W64 R)) ∧ w' = w))
    (HP2 : Hid (Calls Tryd.prog 18 #[.int .i64 (64 - (s : Int))] w fun e w' => e = .returned (.int .u64 (W64 P2)) ∧ w' = w)) :
    Calls Tryd.prog 16 #[.int .u64 (W64 a), .int .i64 (j : Int), .int .u64 (W64 x), .int .u64 (W64 y)] w fun e w' => e = .returned (.tuple #[.int .u64 0, .bool false]) ∧ w' = w := by
  have HC := Lib.hid (rcheck_m a (j : Int) w)
  rw [hc] at HC
  have hb := bits_less hjt
  skip
  have hp1 : (P == 0#64) = false := beq_false_of_ne p1
  have hp2 : (P2 == 0#64) = false := beq_false_of_ne p2
  have hq1 : ¬ W64 P = 0 := fun e => p1 (BitVec.eq_of_toNat_eq (by unfold W64 at e; show P.toNat = 0; omega))
  have hq2 : ¬ W64 P2 = 0 := fun e => p2 (BitVec.eq_of_toNat_eq (by unfold W64 at e; show P2.toNat = 0; omega))
  have hw1 : ¬ t ≤ s → wrap64 ((t : Int) - (s : Int)) = ((t - s : Nat) : Int) := fun h => by unfold wrap64; omega
  have hw2 : wrap64 (64 - (s : Int)) = ((64 - s : Nat) : Int) := by unfold wrap64; omega
  clear HPR
  clear hw1
  skip
  clear hjt hc p1 p2
  go_enter Tryd.func16, Tryd.ntmps16
  go_wp2_with fail
  refine (HC.out).mono ?_
  rintro e w9 ⟨rfl, rfl⟩
  go_wp2_with fail
  refine (HTW.out).mono ?_
  rintro e w9 ⟨rfl, rfl⟩
  go_wp2_with fail
  refine (HPS.out).mono ?_
  rintro e w9 ⟨rfl, rfl⟩
  go_wp2
  go_returns
  exact ⟨rfl, rfl⟩
set_option maxHeartbeats 1000000 in
theorem rrank_few0 (x y a d m q q' R tp P : BitVec 64) (j t s : Nat) (hjt : j + t = 64) (hs : ¬ 0 < s) (hs2 : s < 64) (hts : t ≤ s) (hxy : (x == y) = false) (hc : chkM a (j : Int) = 0)
    (e1 : (x - y) / P = d) (e2 : a * d = m) (e3 : a * (x - y) / P = q) (e4 : -(a * (x - y)) / P = q') (e5 : 0#64 = tp) (e6 : (q - 1#64) * P = (q - 1#64) <<< s + tp) (e7 : q' * P = q' <<< s + tp)
    (p1 : ¬ P = 0#64) (w : World)
    (HTW : Hid (Calls Tryd.prog 19 #[.int .u64 (W64 (x - y))] w fun e w' => e = .returned (.int .i64 (s : Int)) ∧ w' = w))
    (HPS : Hid (Calls Tryd.prog 18 #[.int .i64 (s : Int)] w fun e w' => e = .returned (.int .u64 (W64 P)) ∧ w' = w))
    (HPR : Hid (t - s + s = t → Calls Tryd.prog 18 #[.int .i64 ((t - s : Nat) : Int)] w fun e w' => e = .returned (.int .u64 (W64 R)) ∧ w' = w)) :
    Calls Tryd.prog 16 #[.int .u64 (W64 a), .int .i64 (j : Int), .int .u64 (W64 x), .int .u64 (W64 y)] w fun e w' => e = .returned (.tuple #[.int .u64 0, .bool false]) ∧ w' = w := by
  have HC := Lib.hid (rcheck_m a (j : Int) w)
  rw [hc] at HC
  have hb := bits_less hjt
  skip
  have hp1 : (P == 0#64) = false := beq_false_of_ne p1
  skip
  have hq1 : ¬ W64 P = 0 := fun e => p1 (BitVec.eq_of_toNat_eq (by unfold W64 at e; show P.toNat = 0; omega))
  skip
  have hw1 : ¬ t ≤ s → wrap64 ((t : Int) - (s : Int)) = ((t - s : Nat) : Int) := fun h => by unfold wrap64; omega
  have hw2 : wrap64 (64 - (s : Int)) = ((64 - s : Nat) : Int) := by unfold wrap64; omega
  clear HPR
  clear hw1
  clear e5
  clear hjt hc p1
  go_enter Tryd.func16, Tryd.ntmps16
  go_wp2_with fail
  refine (HC.out).mono ?_
  rintro e w9 ⟨rfl, rfl⟩
  go_wp2_with fail
  refine (HTW.out).mono ?_
  rintro e w9 ⟨rfl, rfl⟩
  go_wp2_with fail
  refine (HPS.out).mono ?_
  rintro e w9 ⟨rfl, rfl⟩
  go_wp2
  go_returns
  exact ⟨rfl, rfl⟩
set_option maxHeartbeats 1000000 in
theorem rrank_nop (x y a d m q q' R tp P P2 : BitVec 64) (j t s : Nat) (hjt : j + t = 64) (hs : 0 < s) (hs2 : s < 64) (hts : ¬ t ≤ s) (hlt : decide (W64 q < W64 R) = false) (hlt2 : decide (W64 q' < W64 R) = false) (hxy : (x == y) = false) (hc : chkM a (j : Int) = 0)
    (e1 : (x - y) / P = d) (e2 : a * d = m) (e3 : a * (x - y) / P = q) (e4 : -(a * (x - y)) / P = q') (e5 : m / P2 = tp) (e6 : (q - 1#64) * P + tp = (q - 1#64) <<< s + tp) (e7 : q' * P + tp = q' <<< s + tp)
    (p1 : ¬ P = 0#64) (p2 : ¬ P2 = 0#64) (w : World)
    (HTW : Hid (Calls Tryd.prog 19 #[.int .u64 (W64 (x - y))] w fun e w' => e = .returned (.int .i64 (s : Int)) ∧ w' = w))
    (HPS : Hid (Calls Tryd.prog 18 #[.int .i64 (s : Int)] w fun e w' => e = .returned (.int .u64 (W64 P)) ∧ w' = w))
    (HPR : Hid (t - s + s = t → Calls Tryd.prog 18 #[.int .i64 ((t - s : Nat) : Int)] w fun e w' => e = .returned (.int .u64 (W64 R)) ∧ w' = w))
    (HP2 : Hid (Calls Tryd.prog 18 #[.int .i64 (64 - (s : Int))] w fun e w' => e = .returned (.int .u64 (W64 P2)) ∧ w' = w)) :
    Calls Tryd.prog 16 #[.int .u64 (W64 a), .int .i64 (j : Int), .int .u64 (W64 x), .int .u64 (W64 y)] w fun e w' => e = .returned (.tuple #[.int .u64 0, .bool false]) ∧ w' = w := by
  have HC := Lib.hid (rcheck_m a (j : Int) w)
  rw [hc] at HC
  have hb := bits_less hjt
  skip
  have hp1 : (P == 0#64) = false := beq_false_of_ne p1
  have hp2 : (P2 == 0#64) = false := beq_false_of_ne p2
  have hq1 : ¬ W64 P = 0 := fun e => p1 (BitVec.eq_of_toNat_eq (by unfold W64 at e; show P.toNat = 0; omega))
  have hq2 : ¬ W64 P2 = 0 := fun e => p2 (BitVec.eq_of_toNat_eq (by unfold W64 at e; show P2.toNat = 0; omega))
  have hw1 : ¬ t ≤ s → wrap64 ((t : Int) - (s : Int)) = ((t - s : Nat) : Int) := fun h => by unfold wrap64; omega
  have hw2 : wrap64 (64 - (s : Int)) = ((64 - s : Nat) : Int) := by unfold wrap64; omega
  replace HPR := Lib.hid (HPR.out (by omega))
  replace hw1 := hw1 hts
  skip
  clear hjt hc p1 p2
  go_enter Tryd.func16, Tryd.ntmps16
  go_wp2_with fail
  refine (HC.out).mono ?_
  rintro e w9 ⟨rfl, rfl⟩
  go_wp2_with fail
  refine (HTW.out).mono ?_
  rintro e w9 ⟨rfl, rfl⟩
  go_wp2_with fail
  refine (HPS.out).mono ?_
  rintro e w9 ⟨rfl, rfl⟩
  go_wp2_with fail
  refine (HPR.out).mono ?_
  rintro e w9 ⟨rfl, rfl⟩
  go_wp2_with fail
  refine (HPS.out).mono ?_
  rintro e w9 ⟨rfl, rfl⟩
  go_wp2_with fail
  refine (HP2.out).mono ?_
  rintro e w9 ⟨rfl, rfl⟩
  go_wp2_with fail
  refine (HPS.out).mono ?_
  rintro e w9 ⟨rfl, rfl⟩
  go_wp2
  go_returns
  exact ⟨rfl, rfl⟩
set_option maxHeartbeats 1000000 in
theorem rrank_no0 (x y a d m q q' R tp P : BitVec 64) (j t s : Nat) (hjt : j + t = 64) (hs : ¬ 0 < s) (hs2 : s < 64) (hts : ¬ t ≤ s) (hlt : decide (W64 q < W64 R) = false) (hlt2 : decide (W64 q' < W64 R) = false) (hxy : (x == y) = false) (hc : chkM a (j : Int) = 0)
    (e1 : (x - y) / P = d) (e2 : a * d = m) (e3 : a * (x - y) / P = q) (e4 : -(a * (x - y)) / P = q') (e5 : 0#64 = tp) (e6 : (q - 1#64) * P = (q - 1#64) <<< s + tp) (e7 : q' * P = q' <<< s + tp)
    (p1 : ¬ P = 0#64) (w : World)
    (HTW : Hid (Calls Tryd.prog 19 #[.int .u64 (W64 (x - y))] w fun e w' => e = .returned (.int .i64 (s : Int)) ∧ w' = w))
    (HPS : Hid (Calls Tryd.prog 18 #[.int .i64 (s : Int)] w fun e w' => e = .returned (.int .u64 (W64 P)) ∧ w' = w))
    (HPR : Hid (t - s + s = t → Calls Tryd.prog 18 #[.int .i64 ((t - s : Nat) : Int)] w fun e w' => e = .returned (.int .u64 (W64 R)) ∧ w' = w)) :
    Calls Tryd.prog 16 #[.int .u64 (W64 a), .int .i64 (j : Int), .int .u64 (W64 x), .int .u64 (W64 y)] w fun e w' => e = .returned (.tuple #[.int .u64 0, .bool false]) ∧ w' = w := by
  have HC := Lib.hid (rcheck_m a (j : Int) w)
  rw [hc] at HC
  have hb := bits_less hjt
  skip
  have hp1 : (P == 0#64) = false := beq_false_of_ne p1
  skip
  have hq1 : ¬ W64 P = 0 := fun e => p1 (BitVec.eq_of_toNat_eq (by unfold W64 at e; show P.toNat = 0; omega))
  skip
  have hw1 : ¬ t ≤ s → wrap64 ((t : Int) - (s : Int)) = ((t - s : Nat) : Int) := fun h => by unfold wrap64; omega
  have hw2 : wrap64 (64 - (s : Int)) = ((64 - s : Nat) : Int) := by unfold wrap64; omega
  replace HPR := Lib.hid (HPR.out (by omega))
  replace hw1 := hw1 hts
  clear e5
  clear hjt hc p1
  go_enter Tryd.func16, Tryd.ntmps16
  go_wp2_with fail
  refine (HC.out).mono ?_
  rintro e w9 ⟨rfl, rfl⟩
  go_wp2_with fail
  refine (HTW.out).mono ?_
  rintro e w9 ⟨rfl, rfl⟩
  go_wp2_with fail
  refine (HPS.out).mono ?_
  rintro e w9 ⟨rfl, rfl⟩
  go_wp2_with fail
  refine (HPR.out).mono ?_
  rintro e w9 ⟨rfl, rfl⟩
  go_wp2_with fail
  refine (HPS.out).mono ?_
  rintro e w9 ⟨rfl, rfl⟩
  go_wp2_with fail
  refine (HPS.out).mono ?_
  rintro e w9 ⟨rfl, rfl⟩
  go_wp2
  go_returns
  exact ⟨rfl, rfl⟩
set_option maxHeartbeats 1000000 in
theorem rrank_onep (x y a d m q q' R tp P P2 : BitVec 64) (j t s : Nat) (hjt : j + t = 64) (hs : 0 < s) (hs2 : s < 64) (hts : ¬ t ≤ s) (hlt : decide (W64 q < W64 R) = true) (hxy : (x == y) = false) (hc : chkM a (j : Int) = 0)
    (e1 : (x - y) / P = d) (e2 : a * d = m) (e3 : a * (x - y) / P = q) (e4 : -(a * (x - y)) / P = q') (e5 : m / P2 = tp) (e6 : (q - 1#64) * P + tp = (q - 1#64) <<< s + tp) (e7 : q' * P + tp = q' <<< s + tp)
    (p1 : ¬ P = 0#64) (p2 : ¬ P2 = 0#64) (w : World)
    (HTW : Hid (Calls Tryd.prog 19 #[.int .u64 (W64 (x - y))] w fun e w' => e = .returned (.int .i64 (s : Int)) ∧ w' = w))
    (HPS : Hid (Calls Tryd.prog 18 #[.int .i64 (s : Int)] w fun e w' => e = .returned (.int .u64 (W64 P)) ∧ w' = w))
    (HPR : Hid (t - s + s = t → Calls Tryd.prog 18 #[.int .i64 ((t - s : Nat) : Int)] w fun e w' => e = .returned (.int .u64 (W64 R)) ∧ w' = w))
    (HP2 : Hid (Calls Tryd.prog 18 #[.int .i64 (64 - (s : Int))] w fun e w' => e = .returned (.int .u64 (W64 P2)) ∧ w' = w)) :
    Calls Tryd.prog 16 #[.int .u64 (W64 a), .int .i64 (j : Int), .int .u64 (W64 x), .int .u64 (W64 y)] w fun e w' => e = .returned (.tuple #[.int .u64 (W64 ((q - 1#64) <<< s + tp)), .bool true]) ∧ w' = w := by
  have HC := Lib.hid (rcheck_m a (j : Int) w)
  rw [hc] at HC
  have hb := bits_less hjt
  skip
  have hp1 : (P == 0#64) = false := beq_false_of_ne p1
  have hp2 : (P2 == 0#64) = false := beq_false_of_ne p2
  have hq1 : ¬ W64 P = 0 := fun e => p1 (BitVec.eq_of_toNat_eq (by unfold W64 at e; show P.toNat = 0; omega))
  have hq2 : ¬ W64 P2 = 0 := fun e => p2 (BitVec.eq_of_toNat_eq (by unfold W64 at e; show P2.toNat = 0; omega))
  have hw1 : ¬ t ≤ s → wrap64 ((t : Int) - (s : Int)) = ((t - s : Nat) : Int) := fun h => by unfold wrap64; omega
  have hw2 : wrap64 (64 - (s : Int)) = ((64 - s : Nat) : Int) := by unfold wrap64; omega
  replace HPR := Lib.hid (HPR.out (by omega))
  replace hw1 := hw1 hts
  skip
  clear hjt hc p1 p2
  go_enter Tryd.func16, Tryd.ntmps16
  go_wp2_with fail
  refine (HC.out).mono ?_
  rintro e w9 ⟨rfl, rfl⟩
  go_wp2_with fail
  refine (HTW.out).mono ?_
  rintro e w9 ⟨rfl, rfl⟩
  go_wp2_with fail
  refine (HPS.out).mono ?_
  rintro e w9 ⟨rfl, rfl⟩
  go_wp2_with fail
  refine (HPR.out).mono ?_
  rintro e w9 ⟨rfl, rfl⟩
  go_wp2_with fail
  refine (HPS.out).mono ?_
  rintro e w9 ⟨rfl, rfl⟩
  go_wp2_with fail
  refine (HP2.out).mono ?_
  rintro e w9 ⟨rfl, rfl⟩
  go_wp2_with fail
  refine (HPS.out).mono ?_
  rintro e w9 ⟨rfl, rfl⟩
  go_wp2
  go_returns
  exact ⟨rfl, rfl⟩
set_option maxHeartbeats 1000000 in
theorem rrank_one0 (x y a d m q q' R tp P : BitVec 64) (j t s : Nat) (hjt : j + t = 64) (hs : ¬ 0 < s) (hs2 : s < 64) (hts : ¬ t ≤ s) (hlt : decide (W64 q < W64 R) = true) (hxy : (x == y) = false) (hc : chkM a (j : Int) = 0)
    (e1 : (x - y) / P = d) (e2 : a * d = m) (e3 : a * (x - y) / P = q) (e4 : -(a * (x - y)) / P = q') (e5 : 0#64 = tp) (e6 : (q - 1#64) * P = (q - 1#64) <<< s + tp) (e7 : q' * P = q' <<< s + tp)
    (p1 : ¬ P = 0#64) (w : World)
    (HTW : Hid (Calls Tryd.prog 19 #[.int .u64 (W64 (x - y))] w fun e w' => e = .returned (.int .i64 (s : Int)) ∧ w' = w))
    (HPS : Hid (Calls Tryd.prog 18 #[.int .i64 (s : Int)] w fun e w' => e = .returned (.int .u64 (W64 P)) ∧ w' = w))
    (HPR : Hid (t - s + s = t → Calls Tryd.prog 18 #[.int .i64 ((t - s : Nat) : Int)] w fun e w' => e = .returned (.int .u64 (W64 R)) ∧ w' = w)) :
    Calls Tryd.prog 16 #[.int .u64 (W64 a), .int .i64 (j : Int), .int .u64 (W64 x), .int .u64 (W64 y)] w fun e w' => e = .returned (.tuple #[.int .u64 (W64 ((q - 1#64) <<< s + tp)), .bool true]) ∧ w' = w := by
  have HC := Lib.hid (rcheck_m a (j : Int) w)
  rw [hc] at HC
  have hb := bits_less hjt
  skip
  have hp1 : (P == 0#64) = false := beq_false_of_ne p1
  skip
  have hq1 : ¬ W64 P = 0 := fun e => p1 (BitVec.eq_of_toNat_eq (by unfold W64 at e; show P.toNat = 0; omega))
  skip
  have hw1 : ¬ t ≤ s → wrap64 ((t : Int) - (s : Int)) = ((t - s : Nat) : Int) := fun h => by unfold wrap64; omega
  have hw2 : wrap64 (64 - (s : Int)) = ((64 - s : Nat) : Int) := by unfold wrap64; omega
  replace HPR := Lib.hid (HPR.out (by omega))
  replace hw1 := hw1 hts
  clear e5
  clear hjt hc p1
  go_enter Tryd.func16, Tryd.ntmps16
  go_wp2_with fail
  refine (HC.out).mono ?_
  rintro e w9 ⟨rfl, rfl⟩
  go_wp2_with fail
  refine (HTW.out).mono ?_
  rintro e w9 ⟨rfl, rfl⟩
  go_wp2_with fail
  refine (HPS.out).mono ?_
  rintro e w9 ⟨rfl, rfl⟩
  go_wp2_with fail
  refine (HPR.out).mono ?_
  rintro e w9 ⟨rfl, rfl⟩
  go_wp2_with fail
  refine (HPS.out).mono ?_
  rintro e w9 ⟨rfl, rfl⟩
  go_wp2_with fail
  refine (HPS.out).mono ?_
  rintro e w9 ⟨rfl, rfl⟩
  go_wp2
  go_returns
  exact ⟨rfl, rfl⟩
set_option maxHeartbeats 1000000 in
theorem rrank_twop (x y a d m q q' R tp P P2 : BitVec 64) (j t s : Nat) (hjt : j + t = 64) (hs : 0 < s) (hs2 : s < 64) (hts : ¬ t ≤ s) (hlt : decide (W64 q < W64 R) = false) (hlt2 : decide (W64 q' < W64 R) = true) (hxy : (x == y) = false) (hc : chkM a (j : Int) = 0)
    (e1 : (x - y) / P = d) (e2 : a * d = m) (e3 : a * (x - y) / P = q) (e4 : -(a * (x - y)) / P = q') (e5 : m / P2 = tp) (e6 : (q - 1#64) * P + tp = (q - 1#64) <<< s + tp) (e7 : q' * P + tp = q' <<< s + tp)
    (p1 : ¬ P = 0#64) (p2 : ¬ P2 = 0#64) (w : World)
    (HTW : Hid (Calls Tryd.prog 19 #[.int .u64 (W64 (x - y))] w fun e w' => e = .returned (.int .i64 (s : Int)) ∧ w' = w))
    (HPS : Hid (Calls Tryd.prog 18 #[.int .i64 (s : Int)] w fun e w' => e = .returned (.int .u64 (W64 P)) ∧ w' = w))
    (HPR : Hid (t - s + s = t → Calls Tryd.prog 18 #[.int .i64 ((t - s : Nat) : Int)] w fun e w' => e = .returned (.int .u64 (W64 R)) ∧ w' = w))
    (HP2 : Hid (Calls Tryd.prog 18 #[.int .i64 (64 - (s : Int))] w fun e w' => e = .returned (.int .u64 (W64 P2)) ∧ w' = w)) :
    Calls Tryd.prog 16 #[.int .u64 (W64 a), .int .i64 (j : Int), .int .u64 (W64 x), .int .u64 (W64 y)] w fun e w' => e = .returned (.tuple #[.int .u64 (W64 (q' <<< s + tp)), .bool true]) ∧ w' = w := by
  have HC := Lib.hid (rcheck_m a (j : Int) w)
  rw [hc] at HC
  have hb := bits_less hjt
  skip
  have hp1 : (P == 0#64) = false := beq_false_of_ne p1
  have hp2 : (P2 == 0#64) = false := beq_false_of_ne p2
  have hq1 : ¬ W64 P = 0 := fun e => p1 (BitVec.eq_of_toNat_eq (by unfold W64 at e; show P.toNat = 0; omega))
  have hq2 : ¬ W64 P2 = 0 := fun e => p2 (BitVec.eq_of_toNat_eq (by unfold W64 at e; show P2.toNat = 0; omega))
  have hw1 : ¬ t ≤ s → wrap64 ((t : Int) - (s : Int)) = ((t - s : Nat) : Int) := fun h => by unfold wrap64; omega
  have hw2 : wrap64 (64 - (s : Int)) = ((64 - s : Nat) : Int) := by unfold wrap64; omega
  replace HPR := Lib.hid (HPR.out (by omega))
  replace hw1 := hw1 hts
  skip
  clear hjt hc p1 p2
  go_enter Tryd.func16, Tryd.ntmps16
  go_wp2_with fail
  refine (HC.out).mono ?_
  rintro e w9 ⟨rfl, rfl⟩
  go_wp2_with fail
  refine (HTW.out).mono ?_
  rintro e w9 ⟨rfl, rfl⟩
  go_wp2_with fail
  refine (HPS.out).mono ?_
  rintro e w9 ⟨rfl, rfl⟩
  go_wp2_with fail
  refine (HPR.out).mono ?_
  rintro e w9 ⟨rfl, rfl⟩
  go_wp2_with fail
  refine (HPS.out).mono ?_
  rintro e w9 ⟨rfl, rfl⟩
  go_wp2_with fail
  refine (HP2.out).mono ?_
  rintro e w9 ⟨rfl, rfl⟩
  go_wp2_with fail
  refine (HPS.out).mono ?_
  rintro e w9 ⟨rfl, rfl⟩
  go_wp2_with fail
  refine (HPS.out).mono ?_
  rintro e w9 ⟨rfl, rfl⟩
  go_wp2
  go_returns
  exact ⟨rfl, rfl⟩
set_option maxHeartbeats 1000000 in
theorem rrank_two0 (x y a d m q q' R tp P : BitVec 64) (j t s : Nat) (hjt : j + t = 64) (hs : ¬ 0 < s) (hs2 : s < 64) (hts : ¬ t ≤ s) (hlt : decide (W64 q < W64 R) = false) (hlt2 : decide (W64 q' < W64 R) = true) (hxy : (x == y) = false) (hc : chkM a (j : Int) = 0)
    (e1 : (x - y) / P = d) (e2 : a * d = m) (e3 : a * (x - y) / P = q) (e4 : -(a * (x - y)) / P = q') (e5 : 0#64 = tp) (e6 : (q - 1#64) * P = (q - 1#64) <<< s + tp) (e7 : q' * P = q' <<< s + tp)
    (p1 : ¬ P = 0#64) (w : World)
    (HTW : Hid (Calls Tryd.prog 19 #[.int .u64 (W64 (x - y))] w fun e w' => e = .returned (.int .i64 (s : Int)) ∧ w' = w))
    (HPS : Hid (Calls Tryd.prog 18 #[.int .i64 (s : Int)] w fun e w' => e = .returned (.int .u64 (W64 P)) ∧ w' = w))
    (HPR : Hid (t - s + s = t → Calls Tryd.prog 18 #[.int .i64 ((t - s : Nat) : Int)] w fun e w' => e = .returned (.int .u64 (W64 R)) ∧ w' = w)) :
    Calls Tryd.prog 16 #[.int .u64 (W64 a), .int .i64 (j : Int), .int .u64 (W64 x), .int .u64 (W64 y)] w fun e w' => e = .returned (.tuple #[.int .u64 (W64 (q' <<< s + tp)), .bool true]) ∧ w' = w := by
  have HC := Lib.hid (rcheck_m a (j : Int) w)
  rw [hc] at HC
  have hb := bits_less hjt
  skip
  have hp1 : (P == 0#64) = false := beq_false_of_ne p1
  skip
  have hq1 : ¬ W64 P = 0 := fun e => p1 (BitVec.eq_of_toNat_eq (by unfold W64 at e; show P.toNat = 0; omega))
  skip
  have hw1 : ¬ t ≤ s → wrap64 ((t : Int) - (s : Int)) = ((t - s : Nat) : Int) := fun h => by unfold wrap64; omega
  have hw2 : wrap64 (64 - (s : Int)) = ((64 - s : Nat) : Int) := by unfold wrap64; omega
  replace HPR := Lib.hid (HPR.out (by omega))
  replace hw1 := hw1 hts
  clear e5
  clear hjt hc p1
  go_enter Tryd.func16, Tryd.ntmps16
  go_wp2_with fail
  refine (HC.out).mono ?_
  rintro e w9 ⟨rfl, rfl⟩
  go_wp2_with fail
  refine (HTW.out).mono ?_
  rintro e w9 ⟨rfl, rfl⟩
  go_wp2_with fail
  refine (HPS.out).mono ?_
  rintro e w9 ⟨rfl, rfl⟩
  go_wp2_with fail
  refine (HPR.out).mono ?_
  rintro e w9 ⟨rfl, rfl⟩
  go_wp2_with fail
  refine (HPS.out).mono ?_
  rintro e w9 ⟨rfl, rfl⟩
  go_wp2_with fail
  refine (HPS.out).mono ?_
  rintro e w9 ⟨rfl, rfl⟩
  go_wp2_with fail
  refine (HPS.out).mono ?_
  rintro e w9 ⟨rfl, rfl⟩
  go_wp2
  go_returns
  exact ⟨rfl, rfl⟩
end Go.Proofs.YtobmgigmoppkkaaDoor
