import Derived.Test.YtdjlbpgjbgepdaaGreatYSdsG
section
/- Layer 44: the document's Take, by Lemire's. -/
namespace Go.Proofs.YtdjlbpgjbgepdaaGreat
open Go Go.RowKit Go.Bv
set_option linter.unusedVariables false
set_option maxRecDepth 100000
set_option maxHeartbeats 8000000 in
theorem rtake_044 (k0 bi : Int) (n : Nat) (hn : 1 ≤ n ∧ n ≤ 320) (hwk : wkK k0 = 0) (hlm : W64 (lmW k0) = 2305843009213693951) (bl ol nl cl : Nat) (l : List (BitVec 64)) (hnl : nl ≤ 400) (w : World) (hl : QRow w (some ⟨bl, ol, none⟩) nl cl l) (hnl0 : 0 < nl) : Calls Tryz.prog 17 #[.slice (some ⟨bl, ol, none⟩) nl cl, .int .i64 k0, .int .i64 bi, .int .i64 (n : Int)] w fun e w' =>
    ((∃ ds k a1 c1 a2 c2, sdS 0 l n = some (ds, k) ∧ e = .returned (.tuple #[.agg (sdc k0 bi a1 n c1), .slice a2 n c2, .int .i64 (k : Int), .bool true]) ∧ QRow w' a1 n c1 (ds.map fun d => d.1) ∧ KRow w' a2 n c2 ds) ∨ (sdS 0 l n = none ∧ e = .returned (.tuple #[.agg zSd, .slice none 0 0, .int .i64 (nl : Int), .bool false]))) ∧ New w w' := by
  obtain ⟨iq, hiq, jq0, jq1, jq2⟩ := info_parts info_u64q
  obtain ⟨id, hid, hd0, hd1, hd2⟩ := info_parts info_drw
  have hlc := hl.le
  have hlr := hl.room
  have HLE := Lib.hid hl.len_eq
  have HL := Lib.hid hl
  have HLI := Lib.hid (fun w => rlimit_44 k0 w)
  rw [hlm] at HLI
  obtain ⟨h1, h2, h3⟩ := two_blocks44 w (.cells zSd 37) (.cells (sdc k0 bi none 0 0) 37)
  have HR0 := Lib.hid h1
  have HS0 := Lib.hid h2
  have HN0 := Lib.hid h3
  have hsz : (w.alloc (.cells zSd 37)).heap.size = w.heap.size + 1 := by simp
  have hsz2 : ((w.alloc (.cells zSd 37)).alloc (.cells (sdc k0 bi none 0 0) 37)).heap.size = w.heap.size + 2 := by simp
  clear h1 h2 h3 hl hwk hlm
  go_enter Tryz.func17, Tryz.ntmps17
  go_wp2_with fail
  generalize (w.alloc (.cells zSd 37)).alloc (.cells (sdc k0 bi none 0 0) 37) = w0 at HR0 HS0 HN0 hsz2 ⊢
  have HZ0 := Lib.hid hsz2
  clear hsz2
  try rw [hsz]
  clear hsz
  go_loopw [13, 14, 15] (fun ov uv iv wr => ∃ (q k : Nat) (ds : List Drw) (a1 : Option Addr) (c1 : Nat) (a2 : Option Addr) (c2 : Nat), q ≤ n ∧ iv = .int .i64 (q : Int) ∧ uv = .int .i64 (k : Int) ∧ ov = .slice a2 q c2 ∧ Hid (sdS 0 l q = some (ds, k) ∧ k ≤ nl) ∧ Hid (wr.heap[w.heap.size]? = some (.cells zSd 37 (0, 0))) ∧ Hid (wr.heap[w.heap.size + 1]? = some (.cells (sdc k0 bi a1 q c1) 37 (0, 0))) ∧ wr.ownsRow (w.heap.size + 2) 23 1 (.slice a1 q c1) q ((ds.map fun d => d.1).map fun x => .int .u64 (W64 x)) ∧ wr.ownsRow (w.heap.size + 2) 53 3 (.slice a2 q c2) q (drCs ds) ∧ Hid (New w wr)) (fun _ _ iv _ => n - (intOf iv).toNat)
  case atStart => exact ⟨0, 0, [], none, 0, none, 0, Nat.zero_le _, rfl, rfl, rfl, Lib.hid ⟨rfl, Nat.zero_le _⟩, HR0, HS0, World.ownsRow_nil _ _ _ 1, World.ownsRow_nil _ _ _ 3, HN0⟩
  case round =>
    obtain ⟨q, k, ds, a1, c1, a2, c2, hq, rfl, rfl, rfl, HS, HRB, HSB, ho1, ho2, HN⟩ := hrel
    clear HR0 HS0 HN0 HZ0
    have HO1 := Lib.hid ho1
    have HO2 := Lib.hid ho2
    obtain ⟨wq, hwq⟩ : ∃ z, z = wr := ⟨_, rfl⟩
    rw [← hwq] at HO1 HO2 HRB HSB HN ⊢
    clear ho1 ho2 hwq
    have hk0 : (0 : Int) ≤ (k : Int) := by omega
    have hkl : (k : Int) ≤ (nl : Int) := by have := HS.out.2; omega
    by_cases hlt : (q : Int) < (n : Int)
    · have hq0 : (0 : Int) ≤ (q : Int) := by omega
      have HLQ := Lib.hid (HL.out.stay HN.out)
      go_wp2_with fail
      refine (HLI.out _).mono ?_
      rintro e w9 ⟨rfl, rfl⟩
      go_upto_if 33 with fail
      go_cut [17] (fun is wx => (∃ (x y : BitVec 64) (u k' : Nat), Hid (stp 0 l k = some ((x, y, u), k') ∧ k' = k + u ∧ k' ≤ nl) ∧ is = .bool true ∧ Hid (wx.heap[wq.heap.size]? = some (.cells #[.int .u64 (W64 x), .int .u64 (W64 y), .int .i64 (u : Int)] 53 (0, 0))) ∧ Hid (New wq wx)) ∨ (Hid (stp 0 l k = none) ∧ is = .bool false ∧ Hid (New wq wx)))
      case first =>
        have HQ1 : Hid (cl = k → QRow wq (some ⟨bl, ol, none⟩) (nl - k) 0 (l.drop k)) := Lib.hid (fun e => by
          have h1 : nl - k = 0 := by omega
          rw [h1, List.drop_eq_nil_of_le (by rw [HLE.out]; omega)]
          exact qrow_empty)
        have HQ2 : Hid (QRow wq (some ⟨bl, ol + k, none⟩) (nl - k) (cl - k) (l.drop k)) := Lib.hid (qrow_rest HLQ.out (by omega))
        have hkc : (k : Int) ≤ (cl : Int) := by omega
        rcases hst : stp 0 l k with _ | ⟨⟨x, y, u⟩, k'⟩
        · have HST := Lib.hid hst
          clear hst
          by_cases hck : (cl : Int) = (k : Int)
          · skip
            have HTK : Hid (∀ w', New wq w' → Calls Tryz.prog 31 #[.slice (some ⟨bl, ol, none⟩) (nl - k : Nat) 0, .int .u64 2305843009213693951] w' fun e w2 => e = .returned (.tuple #[.agg #[.int .u64 0, .int .u64 0, .int .i64 0], .bool false]) ∧ New w' w2) := Lib.hid (fun w' hn => rtk_none44 (by rw [HLE.out]; omega) HST.out _ _ _ w' ((HQ1.out (by omega)).stay hn))
            clear HQ1 HQ2
            have HB0 := Lib.hid (heap_alloc_new wq (.cells #[.int .u64 0, .int .u64 0, .int .i64 1] 53))
            have HW1 := Lib.hid ((New.refl wq).alloc (.cells #[.int .u64 0, .int .u64 0, .int .i64 1] 53))
            go_wp2_with fail
            generalize wq.alloc (.cells #[.int .u64 0, .int .u64 0, .int .i64 1] 53) = W1 at HB0 HW1 ⊢
            have SK : Hid (∀ w', Kb44 W1 wq.heap.size w' → Kb44 W1 wq.heap.size w') := Lib.hid (fun _ h => h)
            have hkb : Kb44 W1 wq.heap.size W1 := Kb44.refl _ _
            go_region_held3 (fun w' => Kb44 W1 wq.heap.size w')
              ((refine SK.out _ ?_; repeat (first | with_reducible assumption | with_reducible exact Kb44.refl _ _ | with_reducible refine Kb44.drew ?_ | with_reducible refine Kb44.set ?_ _ _)))
              (first
              | (go_at_call 12
                 refine (HLI.out _).mono ?_
                 rintro e q0 ⟨rfl, rfl⟩)
              | (go_at_call 31
                 refine (HTK.out _ (by first | with_reducible exact HW1.out | with_reducible exact HW1.out.drew)).mono ?_
                 rintro e q1 ⟨rfl, hc1⟩
                 have hg1 : New W1 q1 := by first | with_reducible exact hc1 | with_reducible exact (New.refl W1).drew.trans hc1
                 have hw1 : Kb44 W1 wq.heap.size q1 := (Kb44.refl _ _).new hg1
                 have hz1 := (hg1.block _ (lt_of_block HB0.out)).trans HB0.out
                 have d0 := cell_of_row _ _ 0 _ _ _ hz1
                 have d1 := cell_of_row _ _ 1 _ _ _ hz1
                 have d2 := cell_of_row _ _ 2 _ _ _ hz1
                 have df := fun i => frozen_of_row _ _ i _ _ hz1
                 have HG := Lib.hid (HW1.out.trans hg1)
                 have HZ := Lib.hid hz1
                 clear hz1 hc1 hg1))
            all_goals
              go_wp2_with fail
              obtain rfl : k = cl := by omega
              go_meet
              case rel =>
                exact .inr ⟨HST, rfl, Lib.hid (((HG.out.setCell (p := ⟨wq.heap.size, 0, none⟩) (by exact Nat.le_refl _) _).setCell (p := ⟨wq.heap.size, 1, none⟩) (by exact Nat.le_refl _) _).setCell (p := ⟨wq.heap.size, 2, none⟩) (by exact Nat.le_refl _) _)⟩
          · skip
            have HTK : Hid (∀ w', New wq w' → Calls Tryz.prog 31 #[.slice (some ⟨bl, ol + k, none⟩) (nl - k : Nat) (cl - k : Nat), .int .u64 2305843009213693951] w' fun e w2 => e = .returned (.tuple #[.agg #[.int .u64 0, .int .u64 0, .int .i64 0], .bool false]) ∧ New w' w2) := Lib.hid (fun w' hn => rtk_none44 (by rw [HLE.out]; omega) HST.out _ _ _ w' (HQ2.out.stay hn))
            clear HQ1 HQ2
            have HB0 := Lib.hid (heap_alloc_new wq (.cells #[.int .u64 0, .int .u64 0, .int .i64 1] 53))
            have HW1 := Lib.hid ((New.refl wq).alloc (.cells #[.int .u64 0, .int .u64 0, .int .i64 1] 53))
            go_wp2_with fail
            generalize wq.alloc (.cells #[.int .u64 0, .int .u64 0, .int .i64 1] 53) = W1 at HB0 HW1 ⊢
            have SK : Hid (∀ w', Kb44 W1 wq.heap.size w' → Kb44 W1 wq.heap.size w') := Lib.hid (fun _ h => h)
            have hkb : Kb44 W1 wq.heap.size W1 := Kb44.refl _ _
            go_region_held3 (fun w' => Kb44 W1 wq.heap.size w')
              ((refine SK.out _ ?_; repeat (first | with_reducible assumption | with_reducible exact Kb44.refl _ _ | with_reducible refine Kb44.drew ?_ | with_reducible refine Kb44.set ?_ _ _)))
              (first
              | (go_at_call 12
                 refine (HLI.out _).mono ?_
                 rintro e q0 ⟨rfl, rfl⟩)
              | (go_at_call 31
                 refine (HTK.out _ (by first | with_reducible exact HW1.out | with_reducible exact HW1.out.drew)).mono ?_
                 rintro e q1 ⟨rfl, hc1⟩
                 have hg1 : New W1 q1 := by first | with_reducible exact hc1 | with_reducible exact (New.refl W1).drew.trans hc1
                 have hw1 : Kb44 W1 wq.heap.size q1 := (Kb44.refl _ _).new hg1
                 have hz1 := (hg1.block _ (lt_of_block HB0.out)).trans HB0.out
                 have d0 := cell_of_row _ _ 0 _ _ _ hz1
                 have d1 := cell_of_row _ _ 1 _ _ _ hz1
                 have d2 := cell_of_row _ _ 2 _ _ _ hz1
                 have df := fun i => frozen_of_row _ _ i _ _ hz1
                 have HG := Lib.hid (HW1.out.trans hg1)
                 have HZ := Lib.hid hz1
                 clear hz1 hc1 hg1))
            all_goals
              go_wp2_with fail
              skip
              go_meet
              case rel =>
                exact .inr ⟨HST, rfl, Lib.hid (((HG.out.setCell (p := ⟨wq.heap.size, 0, none⟩) (by exact Nat.le_refl _) _).setCell (p := ⟨wq.heap.size, 1, none⟩) (by exact Nat.le_refl _) _).setCell (p := ⟨wq.heap.size, 2, none⟩) (by exact Nat.le_refl _) _)⟩
        · have HSP := Lib.hid (stp_spec (by rw [HLE.out]; omega) hst)
          have HST := Lib.hid hst
          clear hst
          by_cases hck : (cl : Int) = (k : Int)
          · skip
            have HTK : Hid (∀ w', New wq w' → Calls Tryz.prog 31 #[.slice (some ⟨bl, ol, none⟩) (nl - k : Nat) 0, .int .u64 2305843009213693951] w' fun e w2 => e = .returned (.tuple #[.agg #[.int .u64 (W64 x), .int .u64 (W64 y), .int .i64 (u : Int)], .bool true]) ∧ New w' w2) := Lib.hid (fun w' hn => rtk_some44 (by rw [HLE.out]; omega) HST.out _ _ _ w' ((HQ1.out (by omega)).stay hn))
            clear HQ1 HQ2
            have HB0 := Lib.hid (heap_alloc_new wq (.cells #[.int .u64 0, .int .u64 0, .int .i64 1] 53))
            have HW1 := Lib.hid ((New.refl wq).alloc (.cells #[.int .u64 0, .int .u64 0, .int .i64 1] 53))
            go_wp2_with fail
            generalize wq.alloc (.cells #[.int .u64 0, .int .u64 0, .int .i64 1] 53) = W1 at HB0 HW1 ⊢
            have SK : Hid (∀ w', Kb44 W1 wq.heap.size w' → Kb44 W1 wq.heap.size w') := Lib.hid (fun _ h => h)
            have hkb : Kb44 W1 wq.heap.size W1 := Kb44.refl _ _
            go_region_held3 (fun w' => Kb44 W1 wq.heap.size w')
              ((refine SK.out _ ?_; repeat (first | with_reducible assumption | with_reducible exact Kb44.refl _ _ | with_reducible refine Kb44.drew ?_ | with_reducible refine Kb44.set ?_ _ _)))
              (first
              | (go_at_call 12
                 refine (HLI.out _).mono ?_
                 rintro e q0 ⟨rfl, rfl⟩)
              | (go_at_call 31
                 refine (HTK.out _ (by first | with_reducible exact HW1.out | with_reducible exact HW1.out.drew)).mono ?_
                 rintro e q1 ⟨rfl, hc1⟩
                 have hg1 : New W1 q1 := by first | with_reducible exact hc1 | with_reducible exact (New.refl W1).drew.trans hc1
                 have hw1 : Kb44 W1 wq.heap.size q1 := (Kb44.refl _ _).new hg1
                 have hz1 := (hg1.block _ (lt_of_block HB0.out)).trans HB0.out
                 have d0 := cell_of_row _ _ 0 _ _ _ hz1
                 have d1 := cell_of_row _ _ 1 _ _ _ hz1
                 have d2 := cell_of_row _ _ 2 _ _ _ hz1
                 have df := fun i => frozen_of_row _ _ i _ _ hz1
                 have HG := Lib.hid (HW1.out.trans hg1)
                 have HZ := Lib.hid hz1
                 clear hz1 hc1 hg1))
            all_goals
              go_wp2_with fail
              obtain rfl : k = cl := by omega
              go_meet
              case rel =>
                refine .inl ⟨x, y, u, k', Lib.hid ⟨HST.out, by have a1 := HSP.out.1; have a2 : u = k' - k := HSP.out.2.2.1; omega, by have := HSP.out.2.1; have := HLE.out; omega⟩, rfl, Lib.hid (put3_at _ _ _ HZ.out), Lib.hid (((HG.out.setCell (p := ⟨wq.heap.size, 0, none⟩) (by exact Nat.le_refl _) _).setCell (p := ⟨wq.heap.size, 1, none⟩) (by exact Nat.le_refl _) _).setCell (p := ⟨wq.heap.size, 2, none⟩) (by exact Nat.le_refl _) _)⟩
          · skip
            have HTK : Hid (∀ w', New wq w' → Calls Tryz.prog 31 #[.slice (some ⟨bl, ol + k, none⟩) (nl - k : Nat) (cl - k : Nat), .int .u64 2305843009213693951] w' fun e w2 => e = .returned (.tuple #[.agg #[.int .u64 (W64 x), .int .u64 (W64 y), .int .i64 (u : Int)], .bool true]) ∧ New w' w2) := Lib.hid (fun w' hn => rtk_some44 (by rw [HLE.out]; omega) HST.out _ _ _ w' (HQ2.out.stay hn))
            clear HQ1 HQ2
            have HB0 := Lib.hid (heap_alloc_new wq (.cells #[.int .u64 0, .int .u64 0, .int .i64 1] 53))
            have HW1 := Lib.hid ((New.refl wq).alloc (.cells #[.int .u64 0, .int .u64 0, .int .i64 1] 53))
            go_wp2_with fail
            generalize wq.alloc (.cells #[.int .u64 0, .int .u64 0, .int .i64 1] 53) = W1 at HB0 HW1 ⊢
            have SK : Hid (∀ w', Kb44 W1 wq.heap.size w' → Kb44 W1 wq.heap.size w') := Lib.hid (fun _ h => h)
            have hkb : Kb44 W1 wq.heap.size W1 := Kb44.refl _ _
            go_region_held3 (fun w' => Kb44 W1 wq.heap.size w')
              ((refine SK.out _ ?_; repeat (first | with_reducible assumption | with_reducible exact Kb44.refl _ _ | with_reducible refine Kb44.drew ?_ | with_reducible refine Kb44.set ?_ _ _)))
              (first
              | (go_at_call 12
                 refine (HLI.out _).mono ?_
                 rintro e q0 ⟨rfl, rfl⟩)
              | (go_at_call 31
                 refine (HTK.out _ (by first | with_reducible exact HW1.out | with_reducible exact HW1.out.drew)).mono ?_
                 rintro e q1 ⟨rfl, hc1⟩
                 have hg1 : New W1 q1 := by first | with_reducible exact hc1 | with_reducible exact (New.refl W1).drew.trans hc1
                 have hw1 : Kb44 W1 wq.heap.size q1 := (Kb44.refl _ _).new hg1
                 have hz1 := (hg1.block _ (lt_of_block HB0.out)).trans HB0.out
                 have d0 := cell_of_row _ _ 0 _ _ _ hz1
                 have d1 := cell_of_row _ _ 1 _ _ _ hz1
                 have d2 := cell_of_row _ _ 2 _ _ _ hz1
                 have df := fun i => frozen_of_row _ _ i _ _ hz1
                 have HG := Lib.hid (HW1.out.trans hg1)
                 have HZ := Lib.hid hz1
                 clear hz1 hc1 hg1))
            all_goals
              go_wp2_with fail
              skip
              go_meet
              case rel =>
                refine .inl ⟨x, y, u, k', Lib.hid ⟨HST.out, by have a1 := HSP.out.1; have a2 : u = k' - k := HSP.out.2.2.1; omega, by have := HSP.out.2.1; have := HLE.out; omega⟩, rfl, Lib.hid (put3_at _ _ _ HZ.out), Lib.hid (((HG.out.setCell (p := ⟨wq.heap.size, 0, none⟩) (by exact Nat.le_refl _) _).setCell (p := ⟨wq.heap.size, 1, none⟩) (by exact Nat.le_refl _) _).setCell (p := ⟨wq.heap.size, 2, none⟩) (by exact Nat.le_refl _) _)⟩
      case rest =>
        rcases hcut with ⟨x, y, u, k', HST, rfl, HDB, HNX⟩ | ⟨HST, rfl, HNX⟩
        · have HD := Lib.hid (sdS_next HS.out.1 HST.out.1)
          have hds := sdS_len HS.out.1
          have hkk := HST.out.2
          have hsb := (HNX.out.block _ (lt_of_block HSB.out)).trans HSB.out
          have hrb := (HNX.out.block _ (lt_of_block HRB.out)).trans HRB.out
          have o1 := ow_new HO1.out HNX.out
          have o2 := ow_new HO2.out HNX.out
          have s2 := cell_of_row _ _ 2 _ _ _ hsb
          have d0 := cell_of_row _ _ 0 _ _ _ HDB.out
          have hwk := HN.out.le
          have hwx := HNX.out.le
          have hltD := lt_of_block HDB.out
          have hltS := lt_of_block hsb
          have hltR := lt_of_block hrb
          have hltq := lt_of_block HSB.out
          have HRX := Lib.hid hrb
          have HSX := Lib.hid hsb
          have HO1X := Lib.hid o1
          have HO2X := Lib.hid o2
          have HLT1 : Hid (∀ g, (Value.slice a1 q c1).ownBlock = some g → w.heap.size + 2 ≤ g ∧ g < wq.heap.size) := Lib.hid (fun g hg => ow_lt HO1.out g hg)
          have HLT2 : Hid (∀ g, (Value.slice a2 q c2).ownBlock = some g → w.heap.size + 2 ≤ g ∧ g < wq.heap.size) := Lib.hid (fun g hg => ow_lt HO2.out g hg)
          have HSZ : Hid (w.heap.size + 1 < wq.heap.size ∧ wq.heap.size ≤ wc.heap.size ∧ True) := Lib.hid ⟨hltq, hwx, trivial⟩
          have hds2 := hds
          clear hsb hrb o2 hwk hwx hltD hltS hltR hltq
          clear HO1 HO2 HRB HSB
          have HKK := Lib.hid hkk
          have HQN : Hid (q < n) := Lib.hid (by omega)
          clear hkk hds hds2
          go_wp2_with (at_builtin; refine wpList_append_own _ rfl (.tmp 72) (.tmp 75) 28 rfl (w.heap.size + 2) 23 iq (.int .u64 0) 1 8 Tryz.underlying28 hiq jq0 jq1 jq2 rfl (by decide) _ q _ rfl (o1.alloc _) ⟨wc.heap.size, 0, none⟩ 1 1 [.int .u64 (W64 x)] rfl rfl ?c1 ?c2 ?c3 ?c4 ?c5 ?_)
          try (case c1 => exact new_cells_t wc _ _)
          try (case c2 => intro z hz; simp at hz; subst hz; rfl)
          try (case c3 => unfold maxLen; have := HQN.out; omega)
          try (case c4 => have := HQN.out; omega)
          try (case c5 => have := HSZ.out; simp; omega)
          intro v1 w1 how1 hgr1 _
          have hw1' : w1.ownsRow (w.heap.size + 2) 23 1 v1 (q + 1) (((ds ++ [(x, y, u)]).map fun d => d.1).map fun x => .int .u64 (W64 x)) := by
            rw [List.map_append, List.map_append, List.map_map]; exact how1
          obtain ⟨b1, p1, rfl, _⟩ := own_len hw1'
          have hlt1 : wc.heap.size ≤ (wc.alloc (.cells #[.int .u64 (W64 x)] 23)).heap.size := by simp
          have HD1 : Hid (w1.heap[wq.heap.size]? = some (.cells #[.int .u64 (W64 x), .int .u64 (W64 y), .int .i64 (u : Int)] 53 (0, 0))) := Lib.hid ((hgr1.block _ (Nat.lt_of_lt_of_le (lt_of_block HDB.out) hlt1) (fun e => by have := HLT1.out _ e.symm; omega)).trans ((((New.refl wc).alloc _).block _ (lt_of_block HDB.out)).trans HDB.out))
          have HS1 : Hid (w1.heap[w.heap.size + 1]? = some (.cells (sdc k0 bi a1 q c1) 37 (0, 0))) := Lib.hid ((hgr1.block _ (Nat.lt_of_lt_of_le (lt_of_block HSX.out) hlt1) (fun e => by have := HLT1.out _ e.symm; omega)).trans ((((New.refl wc).alloc _).block _ (lt_of_block HSX.out)).trans HSX.out))
          have HR1 : Hid (w1.heap[w.heap.size]? = some (.cells zSd 37 (0, 0))) := Lib.hid ((hgr1.block _ (Nat.lt_of_lt_of_le (lt_of_block HRX.out) hlt1) (fun e => by have := HLT1.out _ e.symm; omega)).trans ((((New.refl wc).alloc _).block _ (lt_of_block HRX.out)).trans HRX.out))
          have HO21 : Hid (w1.ownsRow (w.heap.size + 2) 53 3 (.slice a2 q c2) q (drCs ds)) := Lib.hid (ow_blk (ow_new HO2X.out ((New.refl wc).alloc _)) (fun z hz => hgr1.block z (by have := HLT2.out z hz; have := HSZ.out; omega) (fun e => ow_apart HO1X.out HO2X.out (by decide) z e.symm hz)))
          have HN1 : Hid (New w w1) := Lib.hid (((HN.out.trans HNX.out).alloc _).grown' hgr1 (fun z e => by have := HLT1.out z e; omega))
          have HO11 := Lib.hid hw1'
          have HZ1 : Hid (wq.heap.size ≤ w1.heap.size) := Lib.hid (by have := hgr1.size; have := HSZ.out; omega)
          have f2 := frozen_of_row _ _ 2 _ _ HS1.out
          have t2 := cell_of_row _ _ 2 _ _ _ HS1.out
          clear how1 hgr1 hw1' hlt1 o1 s2 d0 HO1X HO2X HSX HRX
          go_upto_region 20 with fail
          have HSW := Lib.hid (heap_setCell_same _ _ 2 _ _ (.slice b1 (q + 1) p1) HS1.out)
          have HDW := Lib.hid ((heap_setCell_other w1 ⟨w.heap.size + 1, 2, none⟩ wq.heap.size (.slice b1 (q + 1) p1) (by show wq.heap.size ≠ w.heap.size + 1; have := HSZ.out; omega)).trans HD1.out)
          have HRW := Lib.hid ((heap_setCell_other w1 ⟨w.heap.size + 1, 2, none⟩ w.heap.size (.slice b1 (q + 1) p1) (by show w.heap.size ≠ w.heap.size + 1; omega)).trans HR1.out)
          have HO1W := Lib.hid (ow_far3 HO11.out (a := ⟨w.heap.size + 1, 2, none⟩) (fun e => absurd (ow_lt HO11.out _ e).1 (by show ¬ (w.heap.size + 2 ≤ w.heap.size + 1); omega)) (.slice b1 (q + 1) p1))
          have HO2W := Lib.hid (ow_far3 HO21.out (a := ⟨w.heap.size + 1, 2, none⟩) (fun e => absurd (ow_lt HO21.out _ e).1 (by show ¬ (w.heap.size + 2 ≤ w.heap.size + 1); omega)) (.slice b1 (q + 1) p1))
          have HNW := Lib.hid (HN1.out.setCell (p := ⟨w.heap.size + 1, 2, none⟩) (by show w.heap.size ≤ w.heap.size + 1; omega) (.slice b1 (q + 1) p1))
          have HZW : Hid (wq.heap.size ≤ (w1.setCell ⟨w.heap.size + 1, 2, none⟩ (.slice b1 (q + 1) p1)).heap.size) := Lib.hid (by rw [size_set]; exact HZ1.out)
          generalize w1.setCell ⟨w.heap.size + 1, 2, none⟩ (.slice b1 (q + 1) p1) = W2 at *
          clear HS1 HD1 HR1 HO11 HO21 HN1 HZ1 f2 t2
          have e0 := cell_of_row _ _ 0 _ _ _ HDW.out
          have e1 := cell_of_row _ _ 1 _ _ _ HDW.out
          have e2 := cell_of_row _ _ 2 _ _ _ HDW.out
          have o2 := HO2W.out
          go_wp2_with (at_builtin; refine wpList_append_own _ rfl (.tmp 78) (.tmp 80) 38 rfl (w.heap.size + 2) 53 id (.agg #[.int .u64 0, .int .u64 0, .int .i64 0]) 3 24 Tryz.underlying38 hid hd0 hd1 hd2 rfl (by decide) _ q _ rfl (o2.alloc _) ⟨W2.heap.size, 0, none⟩ 1 1 (drC (x, y, u)) rfl rfl ?c1 ?c2 ?c3 ?c4 ?c5 ?_)
          try (case c1 => exact drw_cells W2 x y u 53)
          try (case c2 => exact drw_one x y u)
          try (case c3 => unfold maxLen; have := HQN.out; omega)
          try (case c4 => have := HQN.out; omega)
          try (case c5 => have := HZW.out; have := HSZ.out; simp; omega)
          intro v2 w2 how2 hgr2 _
          have hw2' : w2.ownsRow (w.heap.size + 2) 53 3 v2 (q + 1) (drCs (ds ++ [(x, y, u)])) := by
            rw [drCs_snoc]; exact how2
          obtain ⟨b2, p2, rfl, _⟩ := KRow.of_owns hw2' (by have := HQN.out; omega)
          have hlt2 : W2.heap.size ≤ (W2.alloc (.cells #[.int .u64 (W64 x), .int .u64 (W64 y), .int .i64 (u : Int)] 53)).heap.size := by simp
          have HD2 : Hid (w2.heap[wq.heap.size]? = some (.cells #[.int .u64 (W64 x), .int .u64 (W64 y), .int .i64 (u : Int)] 53 (0, 0))) := Lib.hid ((hgr2.block _ (Nat.lt_of_lt_of_le (lt_of_block HDW.out) hlt2) (fun e => by have := HLT2.out _ e.symm; omega)).trans ((((New.refl W2).alloc _).block _ (lt_of_block HDW.out)).trans HDW.out))
          have HS2 : Hid (w2.heap[w.heap.size + 1]? = some (.cells (sdc k0 bi b1 (q + 1) p1) 37 (0, 0))) := Lib.hid ((hgr2.block _ (Nat.lt_of_lt_of_le (lt_of_block HSW.out) hlt2) (fun e => by have := HLT2.out _ e.symm; omega)).trans ((((New.refl W2).alloc _).block _ (lt_of_block HSW.out)).trans HSW.out))
          have HR2 : Hid (w2.heap[w.heap.size]? = some (.cells zSd 37 (0, 0))) := Lib.hid ((hgr2.block _ (Nat.lt_of_lt_of_le (lt_of_block HRW.out) hlt2) (fun e => by have := HLT2.out _ e.symm; omega)).trans ((((New.refl W2).alloc _).block _ (lt_of_block HRW.out)).trans HRW.out))
          have HO12 : Hid (w2.ownsRow (w.heap.size + 2) 23 1 (.slice b1 (q + 1) p1) (q + 1) (((ds ++ [(x, y, u)]).map fun d => d.1).map fun x => .int .u64 (W64 x))) := Lib.hid (ow_blk (ow_new HO1W.out ((New.refl W2).alloc _)) (fun z hz => hgr2.block z (by have := (ow_lt HO1W.out z hz).2; omega) (fun e => ow_apart HO1W.out HO2W.out (by decide) z hz e.symm)))
          have HN2 : Hid (New w w2) := Lib.hid ((HNW.out.alloc _).grown' hgr2 (fun z e => by have := HLT2.out z e; omega))
          have HO22 := Lib.hid hw2'
          have g2 := cell_of_row _ _ 2 _ _ _ HD2.out
          have hw1 : wrap64 ((k : Int) + (u : Int)) = ((k + u : Nat) : Int) := by have := HKK.out; unfold wrap64; omega
          clear how2 hgr2 hw2' hlt2 o2 e0 e1 e2 HO1W HO2W HSW HRW HDW HNW
          go_wp2
          exact ⟨⟨q + 1, k', _, b1, p1, b2, p2, by have := HQN.out; omega, by go_num, by rw [hw1, HKK.out.1], rfl, Lib.hid ⟨HD.out, HKK.out.2⟩, HR2, HS2, HO12.out, HO22.out, HN2⟩, by have := HQN.out; simp [intOf]; omega⟩
        · have HD := Lib.hid (sdS_few HS.out.1 HST.out)
          have HNO : Hid (sdS 0 l n = none) := Lib.hid (by
            have := sdS_none HD.out (n - (q + 1))
            rw [show q + 1 + (n - (q + 1)) = n by omega] at this
            exact this)
          have hrb := (HNX.out.block _ (lt_of_block HRB.out)).trans HRB.out
          have r0 := cell_of_row _ _ 0 _ _ _ hrb
          have r1 := cell_of_row _ _ 1 _ _ _ hrb
          have r2 := cell_of_row _ _ 2 _ _ _ hrb
          have rf := fun i => frozen_of_row _ _ i _ _ hrb
          have HNF := Lib.hid (HN.out.trans HNX.out)
          clear hrb HRB HSB HO1 HO2
          go_wp2_with fail
          refine bodyPost_ret (by simp [results, Tryz.results17, go_sem, r0, r1, r2]; try rfl) rfl ?_
          exact ⟨.inr ⟨HNO.out, rfl⟩, ((HNF.out.setCell (by exact Nat.le_refl _) _).setCell (by exact Nat.le_refl _) _).setCell (by exact Nat.le_refl _) _⟩
    · obtain rfl : q = n := by omega
      have r0 := cell_of_row _ _ 0 _ _ _ HRB.out
      have r1 := cell_of_row _ _ 1 _ _ _ HRB.out
      have r2 := cell_of_row _ _ 2 _ _ _ HRB.out
      have rf := fun i => frozen_of_row _ _ i _ _ HRB.out
      have s0 := cell_of_row _ _ 0 _ _ _ HSB.out
      have s1 := cell_of_row _ _ 1 _ _ _ HSB.out
      have s2 := cell_of_row _ _ 2 _ _ _ HSB.out
      have hR : ∀ (i x : Nat), (((wq.setCell ⟨w.heap.size, 0, none⟩ (.int .i64 k0)).setCell ⟨w.heap.size, 1, none⟩ (.int .i64 bi)).setCell ⟨w.heap.size, 2, none⟩ (.slice a1 q c1)).ownsRow (w.heap.size + 2) 23 1 (.slice a1 q c1) q ((ds.map fun d => d.1).map fun x => .int .u64 (W64 x)) := fun i x =>
        ow_far3 (ow_far3 (ow_far3 HO1.out (a := ⟨w.heap.size, 0, none⟩) (fun e => absurd (ow_lt HO1.out _ e).1 (by show ¬ (w.heap.size + 2 ≤ w.heap.size); omega)) _) (a := ⟨w.heap.size, 1, none⟩) (fun e => absurd (ow_lt HO1.out _ e).1 (by show ¬ (w.heap.size + 2 ≤ w.heap.size); omega)) _) (a := ⟨w.heap.size, 2, none⟩) (fun e => absurd (ow_lt HO1.out _ e).1 (by show ¬ (w.heap.size + 2 ≤ w.heap.size); omega)) _
      have hK : ∀ (i x : Nat), (((wq.setCell ⟨w.heap.size, 0, none⟩ (.int .i64 k0)).setCell ⟨w.heap.size, 1, none⟩ (.int .i64 bi)).setCell ⟨w.heap.size, 2, none⟩ (.slice a1 q c1)).ownsRow (w.heap.size + 2) 53 3 (.slice a2 q c2) q (drCs ds) := fun i x =>
        ow_far3 (ow_far3 (ow_far3 HO2.out (a := ⟨w.heap.size, 0, none⟩) (fun e => absurd (ow_lt HO2.out _ e).1 (by show ¬ (w.heap.size + 2 ≤ w.heap.size); omega)) _) (a := ⟨w.heap.size, 1, none⟩) (fun e => absurd (ow_lt HO2.out _ e).1 (by show ¬ (w.heap.size + 2 ≤ w.heap.size); omega)) _) (a := ⟨w.heap.size, 2, none⟩) (fun e => absurd (ow_lt HO2.out _ e).1 (by show ¬ (w.heap.size + 2 ≤ w.heap.size); omega)) _
      obtain ⟨x1, y1, z1, hq1⟩ := QRow.of_owns (hR 0 0) (by omega)
      cases z1
      obtain ⟨x2, y2, z2, hq2⟩ := KRow.of_owns (hK 0 0) (by omega)
      cases z2
      have HQ1 := Lib.hid hq1
      have HQ2 := Lib.hid hq2
      have HNF := Lib.hid (((HN.out.setCell (p := ⟨w.heap.size, 0, none⟩) (by exact Nat.le_refl _) (.int .i64 k0)).setCell (p := ⟨w.heap.size, 1, none⟩) (by exact Nat.le_refl _) (.int .i64 bi)).setCell (p := ⟨w.heap.size, 2, none⟩) (by exact Nat.le_refl _) (.slice a1 q c1))
      clear hq1 hq2 hR hK HO1 HO2 HRB HSB
      go_wp2_with fail
      refine bodyPost_ret (by simp [results, Tryz.results17, go_sem, r0, r1, r2]; try rfl) rfl ?_
      first | exact ⟨.inl ⟨ds, k, a1, c1, a2, c2, HS.out.1, rfl, HQ1.out, HQ2.out⟩, HNF.out⟩ | exact ⟨.inl ⟨ds, k, HS.out.1, a1, c1, a2, c2, rfl, HQ1.out, HQ2.out⟩, HNF.out⟩
end Go.Proofs.YtdjlbpgjbgepdaaGreat
end
section
/- Layer 44: the document's Take of no words; of any kind. -/
namespace Go.Proofs.YtdjlbpgjbgepdaaGreat
open Go Go.RowKit Go.Bv
set_option linter.unusedVariables false
set_option maxRecDepth 100000
theorem stp_nil (c : Nat) : stp c [] 0 = none := by
  unfold stp
  by_cases hc : c = 0
  · rw [if_pos hc, if_neg (by rw [fstT_no (l := []) (k := 0) (by simp) (fun i _ h => absurd h (by simp))]; simp)]
  · rw [if_neg hc, if_neg (by simp)]
theorem sdS_nil (c : Nat) {n : Nat} (hn : 1 ≤ n) : sdS c [] n = none := by
  have h1 : sdS c [] (0 + 1) = none := sdS_few (ds := []) (k := 0) rfl (stp_nil c)
  have := sdS_none h1 (n - 1)
  rwa [show 0 + 1 + (n - 1) = n by omega] at this
set_option maxHeartbeats 4000000 in
theorem rtake0_044 (k0 bi : Int) (n : Nat) (hn : 1 ≤ n ∧ n ≤ 320) (hlm : W64 (lmW k0) = 2305843009213693951) (a : Option Addr) (cl : Nat) (w : World) (hl : QRow w a 0 cl []) : Calls Tryz.prog 17 #[.slice a 0 cl, .int .i64 k0, .int .i64 bi, .int .i64 (n : Int)] w fun e w' =>
    e = .returned (.tuple #[.agg zSd, .slice none 0 0, .int .i64 0, .bool false]) ∧ New w w' := by
  have hlr := hl.room
  have HL := Lib.hid hl
  have HLI := Lib.hid (fun w => rlimit_44 k0 w)
  rw [hlm] at HLI
  obtain ⟨h1, h2, h3⟩ := two_blocks44 w (.cells zSd 37) (.cells (sdc k0 bi none 0 0) 37)
  have HR0 := Lib.hid h1
  have HN0 := Lib.hid h3
  have hlt : (0 : Int) < (n : Int) := by omega
  clear h1 h2 h3 hl hlm
  go_enter Tryz.func17, Tryz.ntmps17
  go_wp2_with fail
  generalize (w.alloc (.cells zSd 37)).alloc (.cells (sdc k0 bi none 0 0) 37) = wq at HR0 HN0 ⊢
  go_loop [13, 14, 15] (fun ov uv iv => ov = .slice none 0 0 ∧ uv = .int .i64 0 ∧ iv = .int .i64 0) (fun _ _ _ => 0)
  case atStart => exact ⟨rfl, rfl, rfl⟩
  case round =>
    obtain ⟨rfl, rfl, rfl⟩ := hrel
    have HLQ := Lib.hid (HL.out.stay HN0.out)
    go_wp2_with fail
    refine (HLI.out _).mono ?_
    rintro e w9 ⟨rfl, rfl⟩
    go_upto_if 33 with fail
    go_cut [17] (fun is wx => is = .bool false ∧ Hid (New wq wx))
    case first =>
        have HTK : Hid (∀ w', New wq w' → Calls Tryz.prog 31 #[.slice a 0 cl, .int .u64 2305843009213693951] w' fun e w2 => e = .returned (.tuple #[.agg #[.int .u64 0, .int .u64 0, .int .i64 0], .bool false]) ∧ New w' w2) := Lib.hid (fun w' hn => rtk_none44 (l := []) (k := 0) (Nat.le_refl _) (stp_nil 0) _ _ _ w' (HLQ.out.stay hn))
        have HB0 := Lib.hid (heap_alloc_new wq (.cells #[.int .u64 0, .int .u64 0, .int .i64 1] 53))
        have HW1 := Lib.hid ((New.refl wq).alloc (.cells #[.int .u64 0, .int .u64 0, .int .i64 1] 53))
        go_wp2_with fail
        generalize wq.alloc (.cells #[.int .u64 0, .int .u64 0, .int .i64 1] 53) = W1 at HB0 HW1 ⊢
        have SK : Hid (∀ w', Kb44 W1 wq.heap.size w' → Kb44 W1 wq.heap.size w') := Lib.hid (fun _ h => h)
        have hkb : Kb44 W1 wq.heap.size W1 := Kb44.refl _ _
        go_region_held3 (fun w' => Kb44 W1 wq.heap.size w')
          ((refine SK.out _ ?_; repeat (first | with_reducible assumption | with_reducible exact Kb44.refl _ _ | with_reducible refine Kb44.drew ?_ | with_reducible refine Kb44.set ?_ _ _)))
          (first
          | (go_at_call 12
             refine (HLI.out _).mono ?_
             rintro e q0 ⟨rfl, rfl⟩)
          | (go_at_call 31
             refine (HTK.out _ (by first | with_reducible exact HW1.out | with_reducible exact HW1.out.drew)).mono ?_
             rintro e q1 ⟨rfl, hc1⟩
             have hg1 : New W1 q1 := by first | with_reducible exact hc1 | with_reducible exact (New.refl W1).drew.trans hc1
             have hw1 : Kb44 W1 wq.heap.size q1 := (Kb44.refl _ _).new hg1
             have hz1 := (hg1.block _ (lt_of_block HB0.out)).trans HB0.out
             have d0 := cell_of_row _ _ 0 _ _ _ hz1
             have d1 := cell_of_row _ _ 1 _ _ _ hz1
             have d2 := cell_of_row _ _ 2 _ _ _ hz1
             have df := fun i => frozen_of_row _ _ i _ _ hz1
             have HG := Lib.hid (HW1.out.trans hg1)
             clear hz1 hc1 hg1))
        all_goals
          go_wp2_with fail
          go_meet
          case rel => exact ⟨rfl, Lib.hid (((HG.out.setCell (p := ⟨wq.heap.size, 0, none⟩) (by exact Nat.le_refl _) _).setCell (p := ⟨wq.heap.size, 1, none⟩) (by exact Nat.le_refl _) _).setCell (p := ⟨wq.heap.size, 2, none⟩) (by exact Nat.le_refl _) _)⟩
    case rest =>
      obtain ⟨rfl, HNX⟩ := hcut
      have hrb := (HNX.out.block _ (lt_of_block HR0.out)).trans HR0.out
      have r0 := cell_of_row _ _ 0 _ _ _ hrb
      have r1 := cell_of_row _ _ 1 _ _ _ hrb
      have r2 := cell_of_row _ _ 2 _ _ _ hrb
      have rf := fun i => frozen_of_row _ _ i _ _ hrb
      have HNF := Lib.hid (HN0.out.trans HNX.out)
      clear hrb HR0
      go_wp2_with fail
      refine bodyPost_ret (by simp [results, Tryz.results17, go_sem, r0, r1, r2]; try rfl) rfl ?_
      exact ⟨rfl, ((HNF.out.setCell (by exact Nat.le_refl _) _).setCell (by exact Nat.le_refl _) _).setCell (by exact Nat.le_refl _) _⟩
set_option maxHeartbeats 4000000 in
theorem rtake0_144 (k0 bi : Int) (n : Nat) (hn : 1 ≤ n ∧ n ≤ 320) (hlm : W64 (lmW k0) = 2) (a : Option Addr) (cl : Nat) (w : World) (hl : QRow w a 0 cl []) : Calls Tryz.prog 17 #[.slice a 0 cl, .int .i64 k0, .int .i64 bi, .int .i64 (n : Int)] w fun e w' =>
    e = .returned (.tuple #[.agg zSd, .slice none 0 0, .int .i64 0, .bool false]) ∧ New w w' := by
  have hlr := hl.room
  have HL := Lib.hid hl
  have HLI := Lib.hid (fun w => rlimit_44 k0 w)
  rw [hlm] at HLI
  obtain ⟨h1, h2, h3⟩ := two_blocks44 w (.cells zSd 37) (.cells (sdc k0 bi none 0 0) 37)
  have HR0 := Lib.hid h1
  have HN0 := Lib.hid h3
  have hlt : (0 : Int) < (n : Int) := by omega
  clear h1 h2 h3 hl hlm
  go_enter Tryz.func17, Tryz.ntmps17
  go_wp2_with fail
  generalize (w.alloc (.cells zSd 37)).alloc (.cells (sdc k0 bi none 0 0) 37) = wq at HR0 HN0 ⊢
  go_loop [13, 14, 15] (fun ov uv iv => ov = .slice none 0 0 ∧ uv = .int .i64 0 ∧ iv = .int .i64 0) (fun _ _ _ => 0)
  case atStart => exact ⟨rfl, rfl, rfl⟩
  case round =>
    obtain ⟨rfl, rfl, rfl⟩ := hrel
    have HLQ := Lib.hid (HL.out.stay HN0.out)
    go_wp2_with fail
    refine (HLI.out _).mono ?_
    rintro e w9 ⟨rfl, rfl⟩
    go_upto_if 33 with fail
    go_cut [17] (fun is wx => is = .bool false ∧ Hid (New wq wx))
    case first =>
        go_wp2_with fail
        go_meet
        case rel => exact ⟨rfl, Lib.hid ((New.refl wq).alloc _)⟩
    case rest =>
      obtain ⟨rfl, HNX⟩ := hcut
      have hrb := (HNX.out.block _ (lt_of_block HR0.out)).trans HR0.out
      have r0 := cell_of_row _ _ 0 _ _ _ hrb
      have r1 := cell_of_row _ _ 1 _ _ _ hrb
      have r2 := cell_of_row _ _ 2 _ _ _ hrb
      have rf := fun i => frozen_of_row _ _ i _ _ hrb
      have HNF := Lib.hid (HN0.out.trans HNX.out)
      clear hrb HR0
      go_wp2_with fail
      refine bodyPost_ret (by simp [results, Tryz.results17, go_sem, r0, r1, r2]; try rfl) rfl ?_
      exact ⟨rfl, ((HNF.out.setCell (by exact Nat.le_refl _) _).setCell (by exact Nat.le_refl _) _).setCell (by exact Nat.le_refl _) _⟩
set_option maxHeartbeats 4000000 in
theorem rtake0_244 (k0 bi : Int) (n : Nat) (hn : 1 ≤ n ∧ n ≤ 320) (hlm : W64 (lmW k0) = 0) (a : Option Addr) (cl : Nat) (w : World) (hl : QRow w a 0 cl []) : Calls Tryz.prog 17 #[.slice a 0 cl, .int .i64 k0, .int .i64 bi, .int .i64 (n : Int)] w fun e w' =>
    e = .returned (.tuple #[.agg zSd, .slice none 0 0, .int .i64 0, .bool false]) ∧ New w w' := by
  have hlr := hl.room
  have HL := Lib.hid hl
  have HLI := Lib.hid (fun w => rlimit_44 k0 w)
  rw [hlm] at HLI
  obtain ⟨h1, h2, h3⟩ := two_blocks44 w (.cells zSd 37) (.cells (sdc k0 bi none 0 0) 37)
  have HR0 := Lib.hid h1
  have HN0 := Lib.hid h3
  have hlt : (0 : Int) < (n : Int) := by omega
  clear h1 h2 h3 hl hlm
  go_enter Tryz.func17, Tryz.ntmps17
  go_wp2_with fail
  generalize (w.alloc (.cells zSd 37)).alloc (.cells (sdc k0 bi none 0 0) 37) = wq at HR0 HN0 ⊢
  go_loop [13, 14, 15] (fun ov uv iv => ov = .slice none 0 0 ∧ uv = .int .i64 0 ∧ iv = .int .i64 0) (fun _ _ _ => 0)
  case atStart => exact ⟨rfl, rfl, rfl⟩
  case round =>
    obtain ⟨rfl, rfl, rfl⟩ := hrel
    have HLQ := Lib.hid (HL.out.stay HN0.out)
    go_wp2_with fail
    refine (HLI.out _).mono ?_
    rintro e w9 ⟨rfl, rfl⟩
    go_upto_if 33 with fail
    go_cut [17] (fun is wx => is = .bool false ∧ Hid (New wq wx))
    case first =>
        go_wp2_with fail
        go_meet
        case rel => exact ⟨rfl, Lib.hid ((New.refl wq).alloc _)⟩
    case rest =>
      obtain ⟨rfl, HNX⟩ := hcut
      have hrb := (HNX.out.block _ (lt_of_block HR0.out)).trans HR0.out
      have r0 := cell_of_row _ _ 0 _ _ _ hrb
      have r1 := cell_of_row _ _ 1 _ _ _ hrb
      have r2 := cell_of_row _ _ 2 _ _ _ hrb
      have rf := fun i => frozen_of_row _ _ i _ _ hrb
      have HNF := Lib.hid (HN0.out.trans HNX.out)
      clear hrb HR0
      go_wp2_with fail
      refine bodyPost_ret (by simp [results, Tryz.results17, go_sem, r0, r1, r2]; try rfl) rfl ?_
      exact ⟨rfl, ((HNF.out.setCell (by exact Nat.le_refl _) _).setCell (by exact Nat.le_refl _) _).setCell (by exact Nat.le_refl _) _⟩
theorem lmW_wk (k : Int) : (wkK k = 0 → W64 (lmW k) = 2305843009213693951) ∧ (wkK k = 1 → W64 (lmW k) = 2) ∧ (wkK k = 2 → W64 (lmW k) = 0) := by
  unfold wkK lmW
  by_cases h1 : k = 1 ∨ k = 8
  · rw [if_pos h1, if_pos h1]; exact ⟨fun _ => by decide, fun h => absurd h (by decide), fun h => absurd h (by decide)⟩
  · rw [if_neg h1, if_neg h1]
    by_cases h2 : k = 2
    · rw [if_pos h2, if_pos h2]; exact ⟨fun h => absurd h (by decide), fun _ => by decide, fun h => absurd h (by decide)⟩
    · rw [if_neg h2, if_neg h2]; exact ⟨fun h => absurd h (by decide), fun h => absurd h (by decide), fun _ => by decide⟩
theorem rtake_44 (k0 bi : Int) (n : Nat) (hn : 1 ≤ n ∧ n ≤ 320) (a : Option Addr) (nl cl : Nat) (l : List (BitVec 64)) (hnl : nl ≤ 400) (w : World) (hl : QRow w a nl cl l) : Calls Tryz.prog 17 #[.slice a nl cl, .int .i64 k0, .int .i64 bi, .int .i64 (n : Int)] w fun e w' =>
    ((∃ ds k a1 c1 a2 c2, sdS (wkK k0) l n = some (ds, k) ∧ e = .returned (.tuple #[.agg (sdc k0 bi a1 n c1), .slice a2 n c2, .int .i64 (k : Int), .bool true]) ∧ QRow w' a1 n c1 (ds.map fun d => d.1) ∧ KRow w' a2 n c2 ds) ∨ (sdS (wkK k0) l n = none ∧ e = .returned (.tuple #[.agg zSd, .slice none 0 0, .int .i64 (nl : Int), .bool false]))) ∧ New w w' := by
  obtain ⟨l0, l1, l2⟩ := lmW_wk k0
  by_cases h0 : nl = 0
  · subst h0
    obtain rfl : l = [] := List.eq_nil_of_length_eq_zero hl.len_eq
    rcases wkK_three k0 with h | h | h
    · exact (rtake0_044 k0 bi n hn (l0 h) a cl w hl).mono fun e w' h' => ⟨.inr ⟨sdS_nil _ hn.1, h'.1⟩, h'.2⟩
    · exact (rtake0_144 k0 bi n hn (l1 h) a cl w hl).mono fun e w' h' => ⟨.inr ⟨sdS_nil _ hn.1, h'.1⟩, h'.2⟩
    · exact (rtake0_244 k0 bi n hn (l2 h) a cl w hl).mono fun e w' h' => ⟨.inr ⟨sdS_nil _ hn.1, h'.1⟩, h'.2⟩
  · obtain ⟨bl, ol, rfl, _⟩ := hl.addr (by omega)
    rcases wkK_three k0 with h | h | h
    · rw [h]; exact rtake_044 k0 bi n hn h (l0 h) bl ol nl cl l hnl w hl (by omega)
    · rw [h]; exact rtake_144 k0 bi n hn h (l1 h) bl ol nl cl l hnl w hl (by omega)
    · rw [h]; exact rtake_244 k0 bi n hn h (l2 h) bl ol nl cl l hnl w hl (by omega)
end Go.Proofs.YtdjlbpgjbgepdaaGreat
end
section
/- Layer 44: the law SeedsTakes. -/
namespace Go.Proofs.YtdjlbpgjbgepdaaGreat
open Go Go.RowKit Go.Bv
set_option linter.unusedVariables false
set_option maxRecDepth 100000
theorem nil_q44 (w : World) : QRow w none 0 0 [] := ⟨rfl, Nat.le_refl _, by omega, by omega, (fun _ => ⟨rfl, rfl⟩), (fun b off e => by cases e), (fun x e => by cases e), (fun x e => by cases e)⟩
theorem same_27 (k b : Int) (a a' : Option Addr) (n c c' : Nat) (l : List (BitVec 64)) (w : World) (h1 : QRow w a n c l) (h2 : QRow w a' n c' l) : Calls Tryz.prog 15 #[.agg (sdc k b a n c), .agg (sdc k b a' n c')] w fun e w' => e = .returned (.bool true) ∧ New w w' := by
  obtain ⟨hA, hB, hN⟩ := two_blocks44 w (.cells (sdc k b a n c) 37) (.cells (sdc k b a' n c') 37)
  have HW := Lib.hid (words_ref a a' n c n c' l l w _ (h1.stay hN) (h2.stay hN) hN)
  clear hA hB hN h1 h2
  go_enter Tryz.func15, Tryz.ntmps15
  go_wp2_with fail
  refine HW.out.mono ?_
  rintro e w' ⟨rfl, hn, hN⟩
  rw [beq_self_eq_true]
  clear HW hn
  go_wp2
  go_ret
  exact ⟨rfl, hN⟩
theorem seed_box (w : World) (k b : Int) (a : Option Addr) (n c : Nat) : ∃ w2, w.alloc (.cells (sdc k b a n c) 37) = w2 ∧ w2.heap[w.heap.size]? = some (.cells (sdc k b a n c) 37 (0, 0)) ∧ New w w2 := ⟨_, rfl, heap_alloc_new w _, (New.refl w).alloc _⟩
set_option maxHeartbeats 4000000 in
theorem takes_bad (W : World) (a : Option Addr) (n c : Nat) (l : List (BitVec 64)) (hl : QRow W a n c l) (hs : ¬ (400 : Int) < (n : Int)) (k b0 m E : Int) (hE : ckS k b0 m = E) (h0 : (E == 0) = false) : Calls Tryz.prog 4 #[.slice a n c, .int .i64 k, .int .i64 b0, .int .i64 m] W fun e w' => e = .returned (.bool true) ∧ New W w' := by
  have H0 := Lib.hid hl
  have HA := Lib.hid awake44
  have HRC := Lib.hid (fun w => rcheck_44 k b0 m w)
  rw [hE] at HRC
  have HTK := Lib.hid (fun a w => take_bad44 0 k b0 m E a hE h0 w)
  have h1 : (E != 0) = true := by rw [bne, h0]; rfl
  clear hl hE
  go_enter Tryz.func4, Tryz.ntmps4
  go_wp2_with fail
  refine (HA.out _).mono ?_
  rintro e wA ⟨rfl, hn⟩
  replace H0 := Lib.hid (H0.out.stay hn)
  have HN := Lib.hid hn
  clear hn HA
  go_wp2_with fail
  refine (new_t _ _ _ _ _ H0.out).mono ?_
  rintro e wB ⟨b, rfl, hb, ht, hn⟩
  have HT := Lib.hid ht
  have HNB := Lib.hid hn
  have HBB := Lib.hid hb
  clear ht hn hb
  go_wp2_with fail
  refine (HTK.out _ _).mono ?_
  rintro e wC ⟨rfl, hnc⟩
  obtain ⟨wD, hD0, hbox, hnd⟩ := seed_box wC 0 0 none 0 0
  have HAL := Lib.hid hD0
  clear hD0
  have HB := Lib.hid hbox
  have HND := Lib.hid (hnc.trans hnd)
  clear hnc hbox hnd
  go_wp2_with fail
  rw [HAL.out]
  refine (HRC.out _).mono ?_
  rintro e wE ⟨rfl, hne⟩
  have hbx := (hne.block _ (lt_of_block HB.out)).trans HB.out
  have c0 := cell_of_row _ _ 0 _ _ _ hbx
  have c1 := cell_of_row _ _ 1 _ _ _ hbx
  have c2 := cell_of_row _ _ 2 _ _ _ hbx
  have HNE := Lib.hid (HND.out.trans hne)
  have HTE := Lib.hid (HT.out.stay HNE.out)
  clear hne hbx HB HND HAL
  go_wp2_with fail
  refine (same_27 0 0 none none 0 0 0 [] _ (nil_q44 _) (nil_q44 _)).mono ?_
  rintro e wF ⟨rfl, hnf⟩
  have HUS := Lib.hid (used_t _ _ _ _ _ (HTE.out.stay hnf))
  have HNF := Lib.hid (HNE.out.trans hnf)
  clear hnf c0 c1 c2
  go_wp2_with fail
  refine HUS.out.mono ?_
  rintro e w' ⟨rfl, rfl⟩
  go_wp2
  go_ret
  exact ⟨rfl, (HN.out.trans HNB.out).trans HNF.out⟩
set_option maxHeartbeats 4000000 in
theorem takes_ok (W : World) (a : Option Addr) (n c : Nat) (l : List (BitVec 64)) (hl : QRow W a n c l) (hs : ¬ (400 : Int) < (n : Int)) (k b0 : Int) (m : Nat) (hE : ckS k b0 (m : Int) = 0) : Calls Tryz.prog 4 #[.slice a n c, .int .i64 k, .int .i64 b0, .int .i64 (m : Int)] W fun e w' => e = .returned (.bool true) ∧ New W w' := by
  have H0 := Lib.hid hl
  have HLE := Lib.hid hl.len_eq
  have HA := Lib.hid awake44
  have HRC := Lib.hid (fun w => rcheck_44 k b0 (m : Int) w)
  rw [hE] at HRC
  obtain ⟨_, m', e1, hm1, hm320, _⟩ := ckS_ok hE
  have hm : 1 ≤ m ∧ m ≤ 320 := by omega
  have HTK := Lib.hid (fun b g l w h => take_44 k b0 m hE b g l w h)
  have HRT := Lib.hid (fun w h => rtake_44 k b0 m hm a n c l (by omega) w h)
  have HCK := Lib.hid (fun ds kk (h : sdS (wkK k) l m = some (ds, kk)) => ch_of_ck hE (l := ds.map fun d => d.1) (by rw [List.length_map, sdS_len h]) (fun i hi => by
    have hv := (sdS_each h i hi).1
    have e : (ds.map fun d => d.1).getD i 0 = (ds.getD i dz).1 := by
      have hl := sdS_len h
      rw [List.getD_eq_getElem?_getD, List.getElem?_map, List.getD_eq_getElem?_getD, List.getElem?_eq_getElem (by omega)]; rfl
    rw [e]; exact hv))
  clear hl hE e1
  go_enter Tryz.func4, Tryz.ntmps4
  go_wp2_with fail
  refine (HA.out _).mono ?_
  rintro e wA ⟨rfl, hn⟩
  replace H0 := Lib.hid (H0.out.stay hn)
  have HN := Lib.hid hn
  clear hn HA
  go_wp2_with fail
  refine (new_t _ _ _ _ _ H0.out).mono ?_
  rintro e wB ⟨b, rfl, hb, ht, hn⟩
  have HT := Lib.hid ht
  have HNB := Lib.hid hn
  have HBB := Lib.hid hb
  clear ht hn hb
  go_wp2_with fail
  refine (HTK.out _ _ _ _ HT.out).mono ?_
  rintro e wC (⟨ds, kk, g1, g2, hd, rfl, hq, hk, hAf, hg1⟩ | ⟨hd, rfl, hAf⟩)
  · have hnc : New wA wC := hAf.new HNB.out HBB.out HBB.out
    obtain ⟨gt, ht, _, _⟩ := hAf
    obtain ⟨wD, hD0, hbox, hnd⟩ := seed_box wC k b0 (some ⟨g1, 0, none⟩) m m
    have HAL := Lib.hid hD0
    clear hD0
    have HB := Lib.hid hbox
    have HND := Lib.hid (hnc.trans hnd)
    have HTD := Lib.hid (ht.stay hnd)
    have HQ := Lib.hid (hq.stay hnd)
    have HK := Lib.hid (hk.stay hnd)
    have HD := Lib.hid hd
    have HCF := Lib.hid (HCK.out ds kk hd)
    clear hnc hbox hnd ht hq hk hd HT
    go_wp2_with fail
    rw [HAL.out]
    refine (HRC.out _).mono ?_
    rintro e wE ⟨rfl, hne⟩
    clear HAL
    go_wp2_with fail
    refine (HRT.out _ ((H0.out.stay HND.out).stay hne)).mono ?_
    rintro e wF ⟨⟨ds', kk', a1, c1, a2, c2, hd', rfl, hq', hk'⟩ | ⟨hd', _⟩, hnf⟩
    · have he : (ds, kk) = (ds', kk') := Option.some.inj (HD.out.symm.trans hd')
      cases he
      obtain ⟨wG, hG0, hbox, hng⟩ := seed_box wF k b0 a1 m c1
      have HAL2 := Lib.hid hG0
      clear hG0
      have hnn := (hne.trans hnf).trans hng
      have hbx := (hnn.block _ (lt_of_block HB.out)).trans HB.out
      have HB1 := Lib.hid hbx
      have HB2 := Lib.hid hbox
      have HNG := Lib.hid (HND.out.trans hnn)
      have HUS := Lib.hid (used_t _ _ _ _ _ (HTD.out.stay hnn))
      have HQ1 := Lib.hid (HQ.out.stay hnn)
      have HQ2 := Lib.hid (hq'.stay hng)
      have HK1 := Lib.hid (HK.out.stay hnn)
      have HK2 := Lib.hid (hk'.stay hng)
      clear hne hnf hng hbox hbx hnn hq' hk' hd' HQ HK HB HND HTD
      go_wp2_with fail
      rw [HAL2.out]
      refine HUS.out.mono ?_
      rintro e w' ⟨rfl, rfl⟩
      have c0 := cell_of_row _ _ 0 _ _ _ HB1.out
      have c1' := cell_of_row _ _ 1 _ _ _ HB1.out
      have c2' := cell_of_row _ _ 2 _ _ _ HB1.out
      have d0 := cell_of_row _ _ 0 _ _ _ HB2.out
      have d1 := cell_of_row _ _ 1 _ _ _ HB2.out
      have d2 := cell_of_row _ _ 2 _ _ _ HB2.out
      clear HAL2
      go_wp2_with fail
      refine (same_27 k b0 _ _ m m c1 _ _ HQ1.out HQ2.out).mono ?_
      rintro e wH ⟨rfl, hnh⟩
      clear c0 c1' c2' d0 d1 d2
      go_wp2_with fail
      refine (same38_q _ _ m m c2 ds _ (HK1.out.stay hnh) (HK2.out.stay hnh)).mono ?_
      rintro e wI ⟨rfl, hni⟩
      have hnn := hnh.trans hni
      have hbx := (hnn.block _ (lt_of_block HB1.out)).trans HB1.out
      have c0 := cell_of_row _ _ 0 _ _ _ hbx
      have c1' := cell_of_row _ _ 1 _ _ _ hbx
      have c2' := cell_of_row _ _ 2 _ _ _ hbx
      have HCH := Lib.hid (rcheck_27 k b0 _ m m _ _ (HQ1.out.stay hnn))
      rw [HCF.out] at HCH
      have HNI := Lib.hid (HNG.out.trans hnn)
      clear hnh hni hnn hbx HQ1 HQ2 HK1 HK2
      go_wp2_with fail
      refine HCH.out.mono ?_
      rintro e wJ ⟨rfl, hnj⟩
      clear c0 c1' c2'
      go_wp2
      go_ret
      exact ⟨rfl, (HN.out.trans HNI.out).trans hnj⟩
    · rw [HD.out] at hd'; cases hd'
  · have hnc : New wA wC := hAf.new HNB.out HBB.out HBB.out
    obtain ⟨gt, ht, _, _⟩ := hAf
    obtain ⟨wD, hD0, hbox, hnd⟩ := seed_box wC 0 0 none 0 0
    have HAL := Lib.hid hD0
    clear hD0
    have HB := Lib.hid hbox
    have HND := Lib.hid (hnc.trans hnd)
    have HTD := Lib.hid (ht.stay hnd)
    have HD := Lib.hid hd
    clear hnc hbox hnd ht hd HT HCK
    go_wp2_with fail
    rw [HAL.out]
    refine (HRC.out _).mono ?_
    rintro e wE ⟨rfl, hne⟩
    clear HAL
    go_wp2_with fail
    refine (HRT.out _ ((H0.out.stay HND.out).stay hne)).mono ?_
    rintro e wF ⟨⟨ds', kk', a1, c1, a2, c2, hd', _⟩ | ⟨hd', rfl⟩, hnf⟩
    · rw [HD.out] at hd'; cases hd'
    · obtain ⟨wG, hG0, hbox, hng⟩ := seed_box wF 0 0 none 0 0
      have HAL2 := Lib.hid hG0
      clear hG0
      have hnn := (hne.trans hnf).trans hng
      have hbx := (hnn.block _ (lt_of_block HB.out)).trans HB.out
      have HB1 := Lib.hid hbx
      have HNG := Lib.hid (HND.out.trans hnn)
      have HUS := Lib.hid (used_t _ _ _ _ _ (HTD.out.stay hnn))
      rw [HLE.out] at HUS
      clear hne hnf hng hbox hbx hnn hd' HB HND HTD
      go_wp2_with fail
      rw [HAL2.out]
      refine HUS.out.mono ?_
      rintro e w' ⟨rfl, rfl⟩
      have c0 := cell_of_row _ _ 0 _ _ _ HB1.out
      have c1 := cell_of_row _ _ 1 _ _ _ HB1.out
      have c2 := cell_of_row _ _ 2 _ _ _ HB1.out
      clear HAL2
      go_wp2_with fail
      refine (same_27 0 0 none none 0 0 0 [] _ (nil_q44 _) (nil_q44 _)).mono ?_
      rintro e wH ⟨rfl, hnh⟩
      clear c0 c1 c2
      go_wp2
      go_ret
      exact ⟨rfl, (HN.out.trans HNG.out).trans hnh⟩
set_option maxHeartbeats 1000000 in
theorem takes_long (W : World) (a : Option Addr) (n c : Nat) (hs : (400 : Int) < (n : Int)) (k b0 m : Int) : Calls Tryz.prog 4 #[.slice a n c, .int .i64 k, .int .i64 b0, .int .i64 m] W fun e w' => e = .returned (.bool true) ∧ New W w' := by
  have HA := Lib.hid awake44
  go_enter Tryz.func4, Tryz.ntmps4
  go_wp2_with fail
  refine (HA.out _).mono ?_
  rintro e wA ⟨rfl, hn⟩
  go_wp2
  go_ret
  exact ⟨rfl, hn⟩
theorem SeedsTakes_walk (W : World) (a0 : Option Addr) (n0 m0 : Nat) (z0 : List Int) (w0 : IRow .u64 W a0 n0 m0 z0) (r0 : m0 * 8 ≤ 140737488351232) (a1 : Int) (w1 : (Lit.int .i64 a1).wf = true) (a2 : Int) (w2 : (Lit.int .i64 a2).wf = true) (a3 : Int) (w3 : (Lit.int .i64 a3).wf = true) :
    Calls Tryz.prog 4 #[.slice a0 n0 m0, .int .i64 a1, .int .i64 a2, .int .i64 a3] W fun e w' => e = .returned (.bool true) ∧ Below W.heap.size W w' := by
  obtain ⟨l, hl⟩ := w0.words r0
  by_cases hs : (400 : Int) < (n0 : Int)
  · exact takes_long W a0 n0 m0 hs a1 a2 a3
  · by_cases hE : ckS a1 a2 a3 = 0
    · obtain ⟨_, n, rfl, _⟩ := ckS_ok hE
      exact takes_ok W a0 n0 m0 l hl hs a1 a2 n hE
    · exact takes_bad W a0 n0 m0 l hl hs a1 a2 a3 _ rfl (beq_eq_false_iff_ne.2 hE)
end Go.Proofs.YtdjlbpgjbgepdaaGreat
end
