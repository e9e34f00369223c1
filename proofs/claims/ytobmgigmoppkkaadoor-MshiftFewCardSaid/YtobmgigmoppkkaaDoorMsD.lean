/- Contracts of layer 20: Rank. -/
import Derived.Test.YtobmgigmoppkkaaDoorMsC
namespace Go.Bv
theorem shl_nat (x : BitVec 64) (s : Nat) : (x <<< s).toNat = x.toNat * 2 ^ s % 2 ^ 64 := by rw [BitVec.toNat_shiftLeft, Nat.shiftLeft_eq]
theorem shl_sum (x y : BitVec 64) (s : Nat) : x <<< s + y <<< s = (x + y) <<< s := by
  apply BitVec.eq_of_toNat_eq
  rw [BitVec.toNat_add, shl_nat, shl_nat, shl_nat, BitVec.toNat_add, ← Nat.add_mod, Nat.mod_mul_mod, Nat.add_mul]
theorem shl_back (q : BitVec 64) (s : Nat) : (q - 1#64) <<< s + 1#64 <<< s = q <<< s := by rw [shl_sum, BitVec.sub_add_cancel]
end Go.Bv
namespace Go.Proofs.YtobmgigmoppkkaaDoor
open Go.RowKit Go.Bv
set_option linter.unusedVariables false
theorem rank_same (x a : BitVec 64) (k : Int) (w : World) : Calls Tryd.prog 15 #[.int .u64 (W64 a), .int .i64 k, .int .u64 (W64 x), .int .u64 (W64 x)] w fun e w' => e = .returned (.tuple #[.int .u64 0, .bool false]) ∧ New w w' := by
  have hsm := same_m x x
  rw [show (x == x) = true by simp] at hsm
  have HSM := Lib.hid hsm
  clear hsm
  have hx := heap_alloc_new w (.cells #[.int .u64 (W64 x), .int .u64 (W64 x)] 41)
  have HN := Lib.hid ((New.refl w).alloc (.cells #[.int .u64 (W64 x), .int .u64 (W64 x)] 41))
  obtain ⟨w0, hw0⟩ : ∃ w0, w.alloc (.cells #[.int .u64 (W64 x), .int .u64 (W64 x)] 41) = w0 := ⟨_, rfl⟩
  rw [hw0] at HN hx
  have HW0 := Lib.hid hw0
  have HX := Lib.hid hx
  have x0 := cell_of_row _ _ 0 _ _ _ hx
  have x1 := cell_of_row _ _ 1 _ _ _ hx
  clear hw0 hx
  go_enter Tryd.func15, Tryd.ntmps15
  go_wp2_with (rw [HW0.out])
  refine (HSM.out _).mono ?_
  rintro e w9 ⟨rfl, hn⟩
  replace HN := Lib.hid (HN.out.trans hn)
  replace HX := Lib.hid ((hn.block _ (lt_of_block HX.out)).trans HX.out)
  clear hn x0 x1
  have x0 := cell_of_row _ _ 0 _ _ _ HX.out
  have x1 := cell_of_row _ _ 1 _ _ _ HX.out
  go_wp2
  go_returns
  exact ⟨rfl, HN.out⟩
theorem rank_bad (x y a : BitVec 64) (k : Int) (hxy : ¬ x = y) (h : (chkM a k == 0) = false) (w : World) : Calls Tryd.prog 15 #[.int .u64 (W64 a), .int .i64 k, .int .u64 (W64 x), .int .u64 (W64 y)] w fun e w' => e = .returned (.tuple #[.int .u64 0, .bool false]) ∧ New w w' := by
  have hsm := same_m x y
  rw [beq_false_of_ne hxy] at hsm
  have HSM := Lib.hid hsm
  have HCK := Lib.hid (check_m a k)
  generalize chkM a k = c at *
  clear hsm hxy
  have hx := heap_alloc_new w (.cells #[.int .u64 (W64 x), .int .u64 (W64 y)] 41)
  have HN := Lib.hid ((New.refl w).alloc (.cells #[.int .u64 (W64 x), .int .u64 (W64 y)] 41))
  obtain ⟨w0, hw0⟩ : ∃ w0, w.alloc (.cells #[.int .u64 (W64 x), .int .u64 (W64 y)] 41) = w0 := ⟨_, rfl⟩
  rw [hw0] at HN hx
  have HW0 := Lib.hid hw0
  have HX := Lib.hid hx
  have x0 := cell_of_row _ _ 0 _ _ _ hx
  have x1 := cell_of_row _ _ 1 _ _ _ hx
  clear hw0 hx
  go_enter Tryd.func15, Tryd.ntmps15
  go_wp2_with (rw [HW0.out])
  refine (HSM.out _).mono ?_
  rintro e w9 ⟨rfl, hn⟩
  replace HN := Lib.hid (HN.out.trans hn)
  replace HX := Lib.hid ((hn.block _ (lt_of_block HX.out)).trans HX.out)
  clear hn x0 x1
  have x0 := cell_of_row _ _ 0 _ _ _ HX.out
  have x1 := cell_of_row _ _ 1 _ _ _ HX.out
  go_wp2_with fail
  refine (HCK.out _).mono ?_
  rintro e w9 ⟨rfl, rfl⟩
  go_wp2
  go_returns
  exact ⟨rfl, HN.out⟩
set_option maxHeartbeats 1000000 in
theorem rank_no (x y a d m L q q' : BitVec 64) (j s : Nat) (hs : s < 64) (hm : a * d = m) (hq : lowM m s = q) (hq' : lowM (-m) s = q') (hlt : decide (W64 L ≤ W64 q) = true) (hlt2 : decide (W64 L ≤ W64 q') = true) (hxy : ¬ x = y) (hc : chkM a (j : Int) = 0) (w : World)
    (HG : Hid (∀ w' : World, New w w' → Calls Tryd.prog 23 #[.agg #[.int .u64 (W64 x), .int .u64 (W64 y)]] w' fun e w'' => e = .returned (.tuple #[.int .u64 (W64 d), .int .i64 (s : Int)]) ∧ New w' w''))
    (HL : Hid (∀ w' : World, New w w' → Calls Tryd.prog 25 #[.agg #[.int .u64 (W64 x), .int .u64 (W64 y)], .int .i64 (j : Int)] w' fun e w'' => e = .returned (.int .u64 (W64 L)) ∧ New w' w'')) :
    Calls Tryd.prog 15 #[.int .u64 (W64 a), .int .i64 (j : Int), .int .u64 (W64 x), .int .u64 (W64 y)] w fun e w' => e = .returned (.tuple #[.int .u64 0, .bool false]) ∧ New w w' := by
  have hmf : ∀ (fn : Fn) (first cap : Array Value) (w : World), (Instr.makeFunc fn first cap).run Tryd.prog w = .ok (.func fn first cap) w := fun _ _ _ _ => rfl
  have hsm := same_m x y
  rw [beq_false_of_ne hxy] at hsm
  have HSM := Lib.hid hsm
  have HCK := Lib.hid (check_m a (j : Int))
  rw [hc] at HCK
  have HNR := Lib.hid (fun (w1 : World) (h1 : New w w1) => near_no x y a d m L q q' j s hs hm hq hq' hlt hlt2 w1 (Lib.hid fun w' h => HG.out w' (h1.trans h)) (Lib.hid fun w' h => HL.out w' (h1.trans h)))
  obtain ⟨tp, htp⟩ : ∃ tp, m >>> (64 - s) = tp := ⟨_, rfl⟩
  skip
  clear hsm hxy hc hm hq hq' htp hlt hlt2
  have hx := heap_alloc_new w (.cells #[.int .u64 (W64 x), .int .u64 (W64 y)] 41)
  have HN := Lib.hid ((New.refl w).alloc (.cells #[.int .u64 (W64 x), .int .u64 (W64 y)] 41))
  obtain ⟨w0, hw0⟩ : ∃ w0, w.alloc (.cells #[.int .u64 (W64 x), .int .u64 (W64 y)] 41) = w0 := ⟨_, rfl⟩
  rw [hw0] at HN hx
  have HW0 := Lib.hid hw0
  have HX := Lib.hid hx
  have x0 := cell_of_row _ _ 0 _ _ _ hx
  have x1 := cell_of_row _ _ 1 _ _ _ hx
  clear hw0 hx
  go_enter Tryd.func15, Tryd.ntmps15
  go_wp2_with (rw [HW0.out])
  refine (HSM.out _).mono ?_
  rintro e w9 ⟨rfl, hn⟩
  replace HN := Lib.hid (HN.out.trans hn)
  replace HX := Lib.hid ((hn.block _ (lt_of_block HX.out)).trans HX.out)
  clear hn x0 x1
  have x0 := cell_of_row _ _ 0 _ _ _ HX.out
  have x1 := cell_of_row _ _ 1 _ _ _ HX.out
  go_wp2_with fail
  refine (HCK.out _).mono ?_
  rintro e w9 ⟨rfl, rfl⟩
  go_wp2_with fail
  refine (HNR.out _ HN.out).mono ?_
  rintro e w9 ⟨rfl, hn⟩
  replace HN := Lib.hid (HN.out.trans hn)
  replace HX := Lib.hid ((hn.block _ (lt_of_block HX.out)).trans HX.out)
  clear hn x0 x1
  have x0 := cell_of_row _ _ 0 _ _ _ HX.out
  have x1 := cell_of_row _ _ 1 _ _ _ HX.out
  go_wp2
  go_returns
  exact ⟨rfl, HN.out.alloc _⟩
set_option maxHeartbeats 1000000 in
theorem rank_one (x y a d m L q q' : BitVec 64) (j s : Nat) (hs : s < 64) (hm : a * d = m) (hq : lowM m s = q) (hq' : lowM (-m) s = q') (hlt : decide (W64 L ≤ W64 q) = false) (hxy : ¬ x = y) (hc : chkM a (j : Int) = 0) (w : World)
    (HG : Hid (∀ w' : World, New w w' → Calls Tryd.prog 23 #[.agg #[.int .u64 (W64 x), .int .u64 (W64 y)]] w' fun e w'' => e = .returned (.tuple #[.int .u64 (W64 d), .int .i64 (s : Int)]) ∧ New w' w''))
    (HL : Hid (∀ w' : World, New w w' → Calls Tryd.prog 25 #[.agg #[.int .u64 (W64 x), .int .u64 (W64 y)], .int .i64 (j : Int)] w' fun e w'' => e = .returned (.int .u64 (W64 L)) ∧ New w' w'')) :
    Calls Tryd.prog 15 #[.int .u64 (W64 a), .int .i64 (j : Int), .int .u64 (W64 x), .int .u64 (W64 y)] w fun e w' => e = .returned (.tuple #[.int .u64 (W64 ((q - 1#64) <<< s + m >>> (64 - s))), .bool true]) ∧ New w w' := by
  have hmf : ∀ (fn : Fn) (first cap : Array Value) (w : World), (Instr.makeFunc fn first cap).run Tryd.prog w = .ok (.func fn first cap) w := fun _ _ _ _ => rfl
  have hsm := same_m x y
  rw [beq_false_of_ne hxy] at hsm
  have HSM := Lib.hid hsm
  have HCK := Lib.hid (check_m a (j : Int))
  rw [hc] at HCK
  have HNR := Lib.hid (fun (w1 : World) (h1 : New w w1) => near_one x y a d m L q q' j s hs hm hq hq' hlt w1 (Lib.hid fun w' h => HG.out w' (h1.trans h)) (Lib.hid fun w' h => HL.out w' (h1.trans h)))
  obtain ⟨tp, htp⟩ : ∃ tp, m >>> (64 - s) = tp := ⟨_, rfl⟩
  rw [htp] at HNR ⊢
  clear hsm hxy hc hm hq hq' htp hlt
  have hx := heap_alloc_new w (.cells #[.int .u64 (W64 x), .int .u64 (W64 y)] 41)
  have HN := Lib.hid ((New.refl w).alloc (.cells #[.int .u64 (W64 x), .int .u64 (W64 y)] 41))
  obtain ⟨w0, hw0⟩ : ∃ w0, w.alloc (.cells #[.int .u64 (W64 x), .int .u64 (W64 y)] 41) = w0 := ⟨_, rfl⟩
  rw [hw0] at HN hx
  have HW0 := Lib.hid hw0
  have HX := Lib.hid hx
  have x0 := cell_of_row _ _ 0 _ _ _ hx
  have x1 := cell_of_row _ _ 1 _ _ _ hx
  clear hw0 hx
  go_enter Tryd.func15, Tryd.ntmps15
  go_wp2_with (rw [HW0.out])
  refine (HSM.out _).mono ?_
  rintro e w9 ⟨rfl, hn⟩
  replace HN := Lib.hid (HN.out.trans hn)
  replace HX := Lib.hid ((hn.block _ (lt_of_block HX.out)).trans HX.out)
  clear hn x0 x1
  have x0 := cell_of_row _ _ 0 _ _ _ HX.out
  have x1 := cell_of_row _ _ 1 _ _ _ HX.out
  go_wp2_with fail
  refine (HCK.out _).mono ?_
  rintro e w9 ⟨rfl, rfl⟩
  go_wp2_with fail
  refine (HNR.out _ HN.out).mono ?_
  rintro e w9 ⟨rfl, hn⟩
  replace HN := Lib.hid (HN.out.trans hn)
  replace HX := Lib.hid ((hn.block _ (lt_of_block HX.out)).trans HX.out)
  clear hn x0 x1
  have x0 := cell_of_row _ _ 0 _ _ _ HX.out
  have x1 := cell_of_row _ _ 1 _ _ _ HX.out
  have hp := heap_alloc_new w9 (.cells #[.int .u64 (W64 q), .int .u64 0, .int .u64 (W64 tp)] 45)
  have hn2 := (New.refl w9).alloc (.cells #[.int .u64 (W64 q), .int .u64 0, .int .u64 (W64 tp)] 45)
  obtain ⟨wb, hwb⟩ : ∃ wb, w9.alloc (.cells #[.int .u64 (W64 q), .int .u64 0, .int .u64 (W64 tp)] 45) = wb := ⟨_, rfl⟩
  obtain ⟨p, hpe⟩ : ∃ p, w9.heap.size = p := ⟨_, rfl⟩
  rw [hwb] at hp hn2
  rw [hpe] at hp
  have HE := Lib.hid (show w9.alloc (.cells #[.int .u64 (W64 q), .int .u64 0, .int .u64 (W64 tp)] 45) = wb ∧ w9.heap.size = p from ⟨hwb, hpe⟩)
  replace HN := Lib.hid (HN.out.trans hn2)
  replace HX := Lib.hid ((hn2.block _ (lt_of_block HX.out)).trans HX.out)
  have HP := Lib.hid hp
  clear hp hn2 hwb hpe x0 x1
  have x0 := cell_of_row _ _ 0 _ _ _ HX.out
  have x1 := cell_of_row _ _ 1 _ _ _ HX.out
  go_wp2_with (rw [HE.out.1, HE.out.2])
  refine (HG.out _ HN.out).mono ?_
  rintro e w9 ⟨rfl, hn⟩
  replace HN := Lib.hid (HN.out.trans hn)
  have hp := (hn.block _ (lt_of_block HP.out)).trans HP.out
  have p0 := cell_of_row _ _ 0 _ _ _ hp
  have p1 := cell_of_row _ _ 1 _ _ _ hp
  have p2 := cell_of_row _ _ 2 _ _ _ hp
  clear hn hp x0 x1
  go_wp2_with fail
  go_quiet (fail)
  go_wp2
  go_returns
  exact ⟨rfl, HN.out.drewN nq⟩
set_option maxHeartbeats 1000000 in
theorem rank_two (x y a d m L q q' : BitVec 64) (j s : Nat) (hs : s < 64) (hm : a * d = m) (hq : lowM m s = q) (hq' : lowM (-m) s = q') (hlt : decide (W64 L ≤ W64 q) = true) (hlt2 : decide (W64 L ≤ W64 q') = false) (hxy : ¬ x = y) (hc : chkM a (j : Int) = 0) (w : World)
    (HG : Hid (∀ w' : World, New w w' → Calls Tryd.prog 23 #[.agg #[.int .u64 (W64 x), .int .u64 (W64 y)]] w' fun e w'' => e = .returned (.tuple #[.int .u64 (W64 d), .int .i64 (s : Int)]) ∧ New w' w''))
    (HL : Hid (∀ w' : World, New w w' → Calls Tryd.prog 25 #[.agg #[.int .u64 (W64 x), .int .u64 (W64 y)], .int .i64 (j : Int)] w' fun e w'' => e = .returned (.int .u64 (W64 L)) ∧ New w' w'')) :
    Calls Tryd.prog 15 #[.int .u64 (W64 a), .int .i64 (j : Int), .int .u64 (W64 x), .int .u64 (W64 y)] w fun e w' => e = .returned (.tuple #[.int .u64 (W64 (q' <<< s + m >>> (64 - s))), .bool true]) ∧ New w w' := by
  have hmf : ∀ (fn : Fn) (first cap : Array Value) (w : World), (Instr.makeFunc fn first cap).run Tryd.prog w = .ok (.func fn first cap) w := fun _ _ _ _ => rfl
  have hsm := same_m x y
  rw [beq_false_of_ne hxy] at hsm
  have HSM := Lib.hid hsm
  have HCK := Lib.hid (check_m a (j : Int))
  rw [hc] at HCK
  have HNR := Lib.hid (fun (w1 : World) (h1 : New w w1) => near_two x y a d m L q q' j s hs hm hq hq' hlt hlt2 w1 (Lib.hid fun w' h => HG.out w' (h1.trans h)) (Lib.hid fun w' h => HL.out w' (h1.trans h)))
  obtain ⟨tp, htp⟩ : ∃ tp, m >>> (64 - s) = tp := ⟨_, rfl⟩
  rw [htp] at HNR ⊢
  clear hsm hxy hc hm hq hq' htp hlt hlt2
  have hx := heap_alloc_new w (.cells #[.int .u64 (W64 x), .int .u64 (W64 y)] 41)
  have HN := Lib.hid ((New.refl w).alloc (.cells #[.int .u64 (W64 x), .int .u64 (W64 y)] 41))
  obtain ⟨w0, hw0⟩ : ∃ w0, w.alloc (.cells #[.int .u64 (W64 x), .int .u64 (W64 y)] 41) = w0 := ⟨_, rfl⟩
  rw [hw0] at HN hx
  have HW0 := Lib.hid hw0
  have HX := Lib.hid hx
  have x0 := cell_of_row _ _ 0 _ _ _ hx
  have x1 := cell_of_row _ _ 1 _ _ _ hx
  clear hw0 hx
  go_enter Tryd.func15, Tryd.ntmps15
  go_wp2_with (rw [HW0.out])
  refine (HSM.out _).mono ?_
  rintro e w9 ⟨rfl, hn⟩
  replace HN := Lib.hid (HN.out.trans hn)
  replace HX := Lib.hid ((hn.block _ (lt_of_block HX.out)).trans HX.out)
  clear hn x0 x1
  have x0 := cell_of_row _ _ 0 _ _ _ HX.out
  have x1 := cell_of_row _ _ 1 _ _ _ HX.out
  go_wp2_with fail
  refine (HCK.out _).mono ?_
  rintro e w9 ⟨rfl, rfl⟩
  go_wp2_with fail
  refine (HNR.out _ HN.out).mono ?_
  rintro e w9 ⟨rfl, hn⟩
  replace HN := Lib.hid (HN.out.trans hn)
  replace HX := Lib.hid ((hn.block _ (lt_of_block HX.out)).trans HX.out)
  clear hn x0 x1
  have x0 := cell_of_row _ _ 0 _ _ _ HX.out
  have x1 := cell_of_row _ _ 1 _ _ _ HX.out
  have hp := heap_alloc_new w9 (.cells #[.int .u64 (W64 q'), .int .u64 1, .int .u64 (W64 tp)] 45)
  have hn2 := (New.refl w9).alloc (.cells #[.int .u64 (W64 q'), .int .u64 1, .int .u64 (W64 tp)] 45)
  obtain ⟨wb, hwb⟩ : ∃ wb, w9.alloc (.cells #[.int .u64 (W64 q'), .int .u64 1, .int .u64 (W64 tp)] 45) = wb := ⟨_, rfl⟩
  obtain ⟨p, hpe⟩ : ∃ p, w9.heap.size = p := ⟨_, rfl⟩
  rw [hwb] at hp hn2
  rw [hpe] at hp
  have HE := Lib.hid (show w9.alloc (.cells #[.int .u64 (W64 q'), .int .u64 1, .int .u64 (W64 tp)] 45) = wb ∧ w9.heap.size = p from ⟨hwb, hpe⟩)
  replace HN := Lib.hid (HN.out.trans hn2)
  replace HX := Lib.hid ((hn2.block _ (lt_of_block HX.out)).trans HX.out)
  have HP := Lib.hid hp
  clear hp hn2 hwb hpe x0 x1
  have x0 := cell_of_row _ _ 0 _ _ _ HX.out
  have x1 := cell_of_row _ _ 1 _ _ _ HX.out
  go_wp2_with (rw [HE.out.1, HE.out.2])
  refine (HG.out _ HN.out).mono ?_
  rintro e w9 ⟨rfl, hn⟩
  replace HN := Lib.hid (HN.out.trans hn)
  have hp := (hn.block _ (lt_of_block HP.out)).trans HP.out
  have p0 := cell_of_row _ _ 0 _ _ _ hp
  have p1 := cell_of_row _ _ 1 _ _ _ hp
  have p2 := cell_of_row _ _ 2 _ _ _ hp
  clear hn hp x0 x1
  go_wp2_with fail
  go_quiet (fail)
  go_wp2
  go_returns
  refine ⟨?_, HN.out.drewN nq⟩
  show Ending.returned (.tuple #[.int .u64 (W64 ((q' - 1#64) <<< s + 1#64 <<< s + tp)), .bool true]) = _
  rw [shl_back]
end Go.Proofs.YtobmgigmoppkkaaDoor
