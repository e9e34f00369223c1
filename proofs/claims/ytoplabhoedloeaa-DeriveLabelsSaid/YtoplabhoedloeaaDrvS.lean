/- Layer 45: DeriveLabels. -/
import Derived.Test.YtoplabhoedloeaaDrvR
import Derived.Test.YtoplabhoedloeaaDrvC
import Derived.Test.YtoplabhoedloeaaDrvE
import Derived.Test.YtoplabhoedloeaaClass
import Derived.BigQuiet
namespace Go.Proofs.Ytoplabhoedloeaa
open Go Go.RowKit Go.Bv Go.Drv
set_option linter.unusedVariables false
set_option maxRecDepth 100000
theorem child_any (k : BitVec 64 × BitVec 64) (l : List UInt8) (hs : l.length ≤ 140737488355327) (w : World) :
    Calls Try.prog 7 #[.agg #[.int .u64 (W64 k.1), .int .u64 (W64 k.2)], .string (bs l)] w fun e w' => e = .returned (.tuple #[.agg #[.int .u64 (W64 (kidE k l).1), .int .u64 (W64 (kidE k l).2)], .int .i64 (labE l)]) ∧ New w w' := by
  unfold kidE
  by_cases h : labE l = 0
  · rw [if_pos h, h]; exact child_yes k l hs h w
  · rw [if_neg h]; exact child_no k l hs h w
set_option maxHeartbeats 4000000 in
theorem labels_45 (k : BitVec 64 × BitVec 64) (l : List UInt8) (n : BitVec 64) (hs : l.length ≤ 140737488355327) (w : World) (hx : MaxL w) :
    Calls Try.prog 3 #[.agg #[.int .u64 (W64 k.1), .int .u64 (W64 k.2)], .string (bs l), .int .u64 (W64 n)] w fun e w' => e = .returned (.bool true) ∧ New w w' := by
  have HAW := Lib.hid (fun (w' : World) (hn : New w w') => awake_q w' (hx.stay hn))
  have HCH := Lib.hid (fun w => child_any k l hs w)
  have HCR := Lib.hid (fun w => childr_q k l hs w)
  have HLB := Lib.hid (fun w => label_q l w)
  have HLR := Lib.hid (fun w => labelr_q l w)
  have HNB := Lib.hid (fun w => number_q k n w)
  have HNR := Lib.hid (fun w => numberr_q k n w)
  have HE1 : Hid (labE l = 0 → kidE k l = kid k l) := Lib.hid (fun h => by unfold kidE; rw [if_pos h])
  have HE0 : Hid (labE l ≠ 0 → kidE k l = (0#64, 0#64)) := Lib.hid (fun h => by unfold kidE; rw [if_neg h])
  clear hx hs
  obtain ⟨y, hy⟩ : ∃ z, labE l = z := ⟨_, rfl⟩
  obtain ⟨c, hc⟩ : ∃ z, kidE k l = z := ⟨_, rfl⟩
  obtain ⟨d, hd⟩ : ∃ z, kid k l = z := ⟨_, rfl⟩
  obtain ⟨f, hf⟩ : ∃ z, kidN k n = z := ⟨_, rfl⟩
  rw [hy] at HCH HLB HLR HE1 HE0
  rw [hc] at HCH HE1 HE0
  rw [hd] at HCR HE1
  rw [hf] at HNB HNR
  clear hy hc hd hf
  go_enter Try.func3, Try.ntmps3
  go_wp2_with fail
  have hb1 := heap_alloc_new w (.cells #[.int .u64 (W64 k.1), .int .u64 (W64 k.2)] 24)
  have hn1 := (New.refl w).alloc (.cells #[.int .u64 (W64 k.1), .int .u64 (W64 k.2)] 24)
  obtain ⟨b1, hb1e⟩ : ∃ b, w.heap.size = b := ⟨_, rfl⟩
  rw [hb1e] at hb1
  rw [hb1e]
  generalize w.alloc (.cells #[.int .u64 (W64 k.1), .int .u64 (W64 k.2)] 24) = w1 at *
  refine (HAW.out _ hn1).mono ?_
  rintro e w2 ⟨rfl, hn2⟩
  have hb2 := (hn2.block _ (lt_of_block hb1)).trans hb1
  have hn3 := hn1.trans hn2
  have k0 := cell_of_row _ _ 0 _ _ _ hb2
  have k1 := cell_of_row _ _ 1 _ _ _ hb2
  clear hb1 hn1 hn2 hb1e HAW
  go_wp2_with fail
  refine (HCH.out _).mono ?_
  rintro e w3 ⟨rfl, hn4⟩
  have hb3 := (hn4.block _ (lt_of_block hb2)).trans hb2
  have hn5 := hn3.trans hn4
  clear hb2 hn3 hn4 k0 k1
  have hc1 := heap_alloc_new w3 (.cells #[.int .u64 (W64 c.1), .int .u64 (W64 c.2)] 24)
  have hm1 := (New.refl w3).alloc (.cells #[.int .u64 (W64 c.1), .int .u64 (W64 c.2)] 24)
  have hb4 := (hm1.block _ (lt_of_block hb3)).trans hb3
  have hn6 := hn5.trans hm1
  clear hb3 hm1 hn5
  go_wp2_with fail
  obtain ⟨b2, hb2e⟩ : ∃ b, w3.heap.size = b := ⟨_, rfl⟩
  rw [hb2e] at hc1
  rw [hb2e]
  generalize w3.alloc (.cells #[.int .u64 (W64 c.1), .int .u64 (W64 c.2)] 24) = w4 at *
  refine (HLR.out _).mono ?_
  rintro e w5 ⟨rfl, hw⟩
  replace hw := hw.symm
  subst hw
  clear hb2e HLR HCH
  go_wp2_with fail
  refine wp_region_class (fun w' => w'.heap[b1]? = some (.cells #[.int .u64 (W64 k.1), .int .u64 (W64 k.2)] 24 (0, 0)) ∧ w'.heap[b2]? = some (.cells #[.int .u64 (W64 c.1), .int .u64 (W64 c.2)] 24 (0, 0)) ∧ New w w') (by kernel_rfl) (by kernel_rfl) ⟨hb4, hc1, hn6.drew⟩ ?_
  intro I _ g hall hback
  have HSTEP : Hid (∀ n w', New (g n) w' → ∃ m, w' = g m) := Lib.hid fun n w' hn => hback w' ⟨(hn.block _ (lt_of_block (hall n).1)).trans (hall n).1, (hn.block _ (lt_of_block (hall n).2.1)).trans (hall n).2.1, (hall n).2.2.trans hn⟩
  have HSAME : Hid (∀ n w', w' = g n → ∃ m, w' = g m) := Lib.hid fun n w' hn => ⟨n, hn⟩
  have HALL := Lib.hid hall
  have k0 := fun n => cell_of_row _ _ 0 _ _ _ (hall n).1
  have k1 := fun n => cell_of_row _ _ 1 _ _ _ (hall n).1
  clear hall hback hb4 hc1 hn6
  repeat (go_big_quiet_step (first
      | (go_at_call_of 9 (Value.string (bs l)); refine class_same (HLB.out _))
      | (go_at_call_of 10 (Value.agg #[Value.int IntKind.u64 (W64 k.1), Value.int IntKind.u64 (W64 k.2)]); refine class_new HSTEP.out (HNB.out _))
      | (go_at_call_of 11 (Value.agg #[Value.int IntKind.u64 (W64 k.1), Value.int IntKind.u64 (W64 k.2)]); refine class_new HSTEP.out (HNR.out _))))
  refine wpQuiet_nil ?_
  rintro w6 ⟨n1, hw1⟩
  have hS := HALL.out n1
  rw [← hw1] at hS
  clear HALL HSTEP HSAME hw1 k0 k1 HNB HNR HLB
  obtain ⟨hb4, hc1, hn6⟩ := hS
  by_cases hy0 : y = 0
  · subst hy0
    obtain rfl := HE1.out rfl
    go_wp2_with fail
    refine wp_region_class (fun w' => w'.heap[b1]? = some (.cells #[.int .u64 (W64 k.1), .int .u64 (W64 k.2)] 24 (0, 0)) ∧ w'.heap[b2]? = some (.cells #[.int .u64 (W64 c.1), .int .u64 (W64 c.2)] 24 (0, 0)) ∧ New w w') (by kernel_rfl) (by kernel_rfl) ⟨hb4, hc1, hn6.drew⟩ ?_
    intro I2 _ g2 hall hback
    have HSTEP : Hid (∀ n w', New (g2 n) w' → ∃ m, w' = g2 m) := Lib.hid fun n w' hn => hback w' ⟨(hn.block _ (lt_of_block (hall n).1)).trans (hall n).1, (hn.block _ (lt_of_block (hall n).2.1)).trans (hall n).2.1, (hall n).2.2.trans hn⟩
    have HALL := Lib.hid hall
    have k0 := fun n => cell_of_row _ _ 0 _ _ _ (hall n).1
    have k1 := fun n => cell_of_row _ _ 1 _ _ _ (hall n).1
    have c0 := fun n => cell_of_row _ _ 0 _ _ _ (hall n).2.1
    have c1 := fun n => cell_of_row _ _ 1 _ _ _ (hall n).2.1
    clear hall hback hb4 hc1 hn6
    repeat (go_big_quiet_step (first
        | (go_at_call_of 12 (Value.agg #[Value.int IntKind.u64 (W64 k.1), Value.int IntKind.u64 (W64 k.2)]); refine class_new HSTEP.out (HCR.out _))))
    refine wpQuiet_nil ?_
    rintro w7 ⟨n2, hw2⟩
    have hS := HALL.out n2
    rw [← hw2] at hS
    clear HALL HSTEP hw2 k0 k1 c0 c1
    go_wp2
    go_ret
    exact ⟨rfl, hS.2.2⟩
  · obtain rfl := HE0.out hy0
    have hd : (y != 0) = true := by rw [bne_iff_ne]; exact hy0
    have c0 := cell_of_row _ _ 0 _ _ _ hc1
    have c1 := cell_of_row _ _ 1 _ _ _ hc1
    have hw0 : W64 0#64 = 0 := rfl
    clear hb4 hc1 HE1 HE0 HCR
    go_wp2
    go_ret
    exact ⟨rfl, hn6⟩
end Go.Proofs.Ytoplabhoedloeaa
