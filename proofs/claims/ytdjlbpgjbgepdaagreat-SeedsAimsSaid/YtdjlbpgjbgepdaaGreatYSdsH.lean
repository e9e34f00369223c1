import Derived.Test.YtdjlbpgjbgepdaaGreatYSdsF
import Derived.Test.YtdjlbpgjbgepdaaGreatRowQ
import Derived.Test.YtdjlbpgjbgepdaaGreatFrame
import Derived.Deep.Strs
import Derived.SizedLaws
section
/- Layer 44: the document's Take, by Lemire's. -/
namespace Go.Proofs.YtdjlbpgjbgepdaaGreat
open Go Go.RowKit Go.Bv
set_option linter.unusedVariables false
set_option maxRecDepth 100000
set_option maxHeartbeats 8000000 in
theorem rtake_044 (k0 bi : Int) (n : Nat) (hn : 1 ≤ n ∧ n ≤ 320) (hwk : wkK k0 = 0) (hlm : W64 (lmW k0) = 2305843009213693951) (bl ol nl cl : Nat) (l : List (BitVec 64)) (hnl : nl ≤ 400) (w : World) (hl : QRow w (some ⟨bl, ol, none⟩) nl cl l) (hnl0 : 0 < nl) : Calls Tryz.prog 17 #[.slice (some ⟨bl, ol, none⟩) nl cl, .int .i64 k0, .int .i64 bi, .int .i64 (n : Int)] w fun e w' =>
    ((∃ ds k a1 c1 a2 c2, sdS 0 l n = some (ds, k) ∧ e = .returned (.tuple #[.agg (sdc k0 bi a1 n c1), .slice a2 n c2, .int .i64 (k : Int), .bool true]) ∧ QRow w' a1 n c1 (ds.map fun d => d.1) ∧ KRow w' a2 n c2 ds) ∨ (sdS 0 l n = none ∧ e = .returned (.tuple #[.agg zSd, .slice none 0 0, .int .i64 (nl : Int), .bool false]))) ∧ New w w' := by
  obtain ⟨iq, hiq, jq0, jq1, jq2⟩ := info_parts info_u64q
  obtain ⟨id, hid, hd0, hd1, hd2⟩ := info_parts info_drw
  have hlc := hl.le
  have hlr := hl.room
  have HLE := Lib.hid hl.len_eq
  have HL := Lib.hid hl
  have HLI := Lib.hid (fun w => rlimit_44 k0 w)
  rw [hlm] at HLI
  obtain ⟨h1, h2, h3⟩ := two_blocks44 w (.cells zSd 37) (.cells (sdc k0 bi none 0 0) 37)
  have HR0 := Lib.hid h1
  have HS0 := Lib.hid h2
  have HN0 := Lib.hid h3
  have hsz : (w.alloc (.cells zSd 37)).heap.size = w.heap.size + 1 := by simp
  have hsz2 : ((w.alloc (.cells zSd 37)).alloc (.cells (sdc k0 bi none 0 0) 37)).heap.size = w.heap.size + 2 := by simp
  clear h1 h2 h3 hl hwk hlm
  go_enter Tryz.func17, Tryz.ntmps17
  go_wp2_with fail
  generalize (w.alloc (.cells zSd 37)).alloc (.cells (sdc k0 bi none 0 0) 37) = w0 at HR0 HS0 HN0 hsz2 ⊢
  have HZ0 := Lib.hid hsz2
  clear hsz2
  try rw [hsz]
  clear hsz
  go_loopw [13, 14, 15] (fun ov uv iv wr => ∃ (q k : Nat) (ds : List Drw) (a1 : Option Addr) (c1 : Nat) (a2 : Option Addr) (c2 : Nat), q ≤ n ∧ iv = .int .i64 (q : Int) ∧ uv = .int .i64 (k : Int) ∧ ov = .slice a2 q c2 ∧ Hid (sdS 0 l q = some (ds, k) ∧ k ≤ nl) ∧ Hid (wr.heap[w.heap.size]? = some (.cells zSd 37 (0, 0))) ∧ Hid (wr.heap[w.heap.size + 1]? = some (.cells (sdc k0 bi a1 q c1) 37 (0, 0))) ∧ wr.ownsRow (w.heap.size + 2) 23 1 (.slice a1 q c1) q ((ds.map fun d => d.1).map fun x => .int .u64 (W64 x)) ∧ wr.ownsRow (w.heap.size + 2) 53 3 (.slice a2 q c2) q (drCs ds) ∧ Hid (New w wr)) (fun _ _ iv _ => n - (intOf iv).toNat)
  case atStart => exact ⟨0, 0, [], none, 0, none, 0, Nat.zero_le _, rfl, rfl, rfl, Lib.hid ⟨rfl, Nat.zero_le _⟩, HR0, HS0, World.ownsRow_nil _ _ _ 1, World.ownsRow_nil _ _ _ 3, HN0⟩
  case round =>
    obtain ⟨q, k, ds, a1, c1, a2, c2, hq, rfl, rfl, rfl, HS, HRB, HSB, ho1, ho2, HN⟩ := hrel
    clear HR0 HS0 HN0 HZ0
    have HO1 := Lib.hid ho1
    have HO2 := Lib.hid ho2
    obtain ⟨wq, hwq⟩ : ∃ z, z = wr := ⟨_, rfl⟩
    rw [← hwq] at HO1 HO2 HRB HSB HN ⊢
    clear ho1 ho2 hwq
    have hk0 : (0 : Int) ≤ (k : Int) := by omega
    have hkl : (k : Int) ≤ (nl : Int) := by have := HS.out.2; omega
    by_cases hlt : (q : Int) < (n : Int)
    · have hq0 : (0 : Int) ≤ (q : Int) := by omega
      have HLQ := Lib.hid (HL.out.stay HN.out)
      go_wp2_with fail
      refine (HLI.out _).mono ?_
      rintro e w9 ⟨rfl, rfl⟩
      go_upto_if 33 with fail
      go_cut [17] (fun is wx => (∃ (x y : BitVec 64) (u k' : Nat), Hid (stp 0 l k = some ((x, y, u), k') ∧ k' = k + u ∧ k' ≤ nl) ∧ is = .bool true ∧ Hid (wx.heap[wq.heap.size]? = some (.cells #[.int .u64 (W64 x), .int .u64 (W64 y), .int .i64 (u : Int)] 53 (0, 0))) ∧ Hid (New wq wx)) ∨ (Hid (stp 0 l k = none) ∧ is = .bool false ∧ Hid (New wq wx)))
      case first =>
        have HQ1 : Hid (cl = k → QRow wq (some ⟨bl, ol, none⟩) (nl - k) 0 (l.drop k)) := Lib.hid (fun e => by
          have h1 : nl - k = 0 := by omega
          rw [h1, List.drop_eq_nil_of_le (by rw [HLE.out]; omega)]
          exact qrow_empty)
        have HQ2 : Hid (QRow wq (some ⟨bl, ol + k, none⟩) (nl - k) (cl - k) (l.drop k)) := Lib.hid (qrow_rest HLQ.out (by omega))
        have hkc : (k : Int) ≤ (cl : Int) := by omega
        rcases hst : stp 0 l k with _ | ⟨⟨x, y, u⟩, k'⟩
        · have HST := Lib.hid hst
          clear hst
          by_cases hck : (cl : Int) = (k : Int)
          · skip
            have HTK : Hid (∀ w', New wq w' → Calls Tryz.prog 31 #[.slice (some ⟨bl, ol, none⟩) (nl - k : Nat) 0, .int .u64 2305843009213693951] w' fun e w2 => e = .returned (.tuple #[.agg #[.int .u64 0, .int .u64 0, .int .i64 0], .bool false]) ∧ New w' w2) := Lib.hid (fun w' hn => rtk_none44 (by rw [HLE.out]; omega) HST.out _ _ _ w' ((HQ1.out (by omega)).stay hn))
            clear HQ1 HQ2
            have HB0 := Lib.hid (heap_alloc_new wq (.cells #[.int .u64 0, .int .u64 0, .int .i64 1] 53))
            have HW1 := Lib.hid ((New.refl wq).alloc (.cells #[.int .u64 0, .int .u64 0, .int .i64 1] 53))
            go_wp2_with fail
            generalize wq.alloc (.cells #[.int .u64 0, .int .u64 0, .int .i64 1] 53) = W1 at HB0 HW1 ⊢
            have SK : Hid (∀ w', Kb44 W1 wq.heap.size w' → Kb44 W1 wq.heap.size w') := Lib.hid (fun _ h => h)
            have hkb : Kb44 W1 wq.heap.size W1 := Kb44.refl _ _
            go_region_held3 (fun w' => Kb44 W1 wq.heap.size w')
              ((refine SK.out _ ?_; repeat (first | with_reducible assumption | with_reducible exact Kb44.refl _ _ | with_reducible refine Kb44.drew ?_ | with_reducible refine Kb44.set ?_ _ _)))
              (first
              | (go_at_call 12
                 refine (HLI.out _).mono ?_
                 rintro e q0 ⟨rfl, rfl⟩)
              | (go_at_call 31
                 refine (HTK.out _ (by first | with_reducible exact HW1.out | with_reducible exact HW1.out.drew)).mono ?_
                 rintro e q1 ⟨rfl, hc1⟩
                 have hg1 : New W1 q1 := by first | with_reducible exact hc1 | with_reducible exact (New.refl W1).drew.trans hc1
                 have hw1 : Kb44 W1 wq.heap.size q1 := (Kb44.refl _ _).new hg1
                 have hz1 := (hg1.block _ (lt_of_block HB0.out)).trans HB0.out
                 have d0 := cell_of_row _ _ 0 _ _ _ hz1
                 have d1 := cell_of_row _ _ 1 _ _ _ hz1
                 have d2 := cell_of_row _ _ 2 _ _ _ hz1
                 have df := fun i => frozen_of_row _ _ i _ _ hz1
                 have HG := Lib.hid (HW1.out.trans hg1)
                 have HZ := Lib.hid hz1
                 clear hz1 hc1 hg1))
            all_goals
              go_wp2_with fail
              obtain rfl : k = cl := by omega
              go_meet
              case rel =>
                exact .inr ⟨HST, rfl, Lib.hid (((HG.out.setCell (p := ⟨wq.heap.size, 0, none⟩) (by exact Nat.le_refl _) _).setCell (p := ⟨wq.heap.size, 1, none⟩) (by exact Nat.le_refl _) _).setCell (p := ⟨wq.heap.size, 2, none⟩) (by exact Nat.le_refl _) _)⟩
          · skip
            have HTK : Hid (∀ w', New wq w' → Calls Tryz.prog 31 #[.slice (some ⟨bl, ol + k, none⟩) (nl - k : Nat) (cl - k : Nat), .int .u64 2305843009213693951] w' fun e w2 => e = .returned (.tuple #[.agg #[.int .u64 0, .int .u64 0, .int .i64 0], .bool false]) ∧ New w' w2) := Lib.hid (fun w' hn => rtk_none44 (by rw [HLE.out]; omega) HST.out _ _ _ w' (HQ2.out.stay hn))
            clear HQ1 HQ2
            have HB0 := Lib.hid (heap_alloc_new wq (.cells #[.int .u64 0, .int .u64 0, .int .i64 1] 53))
            have HW1 := Lib.hid ((New.refl wq).alloc (.cells #[.int .u64 0, .int .u64 0, .int .i64 1] 53))
            go_wp2_with fail
            generalize wq.alloc (.cells #[.int .u64 0, .int .u64 0, .int .i64 1] 53) = W1 at HB0 HW1 ⊢
            have SK : Hid (∀ w', Kb44 W1 wq.heap.size w' → Kb44 W1 wq.heap.size w') := Lib.hid (fun _ h => h)
            have hkb : Kb44 W1 wq.heap.size W1 := Kb44.refl _ _
            go_region_held3 (fun w' => Kb44 W1 wq.heap.size w')
              ((refine SK.out _ ?_; repeat (first | with_reducible assumption | with_reducible exact Kb44.refl _ _ | with_reducible refine Kb44.drew ?_ | with_reducible refine Kb44.set ?_ _ _)))
              (first
              | (go_at_call 12
                 refine (HLI.out _).mono ?_
                 rintro e q0 ⟨rfl, rfl⟩)
              | (go_at_call 31
                 refine (HTK.out _ (by first | with_reducible exact HW1.out | with_reducible exact HW1.out.drew)).mono ?_
                 rintro e q1 ⟨rfl, hc1⟩
                 have hg1 : New W1 q1 := by first | with_reducible exact hc1 | with_reducible exact (New.refl W1).drew.trans hc1
                 have hw1 : Kb44 W1 wq.heap.size q1 := (Kb44.refl _ _).new hg1
                 have hz1 := (hg1.block _ (lt_of_block HB0.out)).trans HB0.out
                 have d0 := cell_of_row _ _ 0 _ _ _ hz1
                 have d1 := cell_of_row _ _ 1 _ _ _ hz1
                 have d2 := cell_of_row _ _ 2 _ _ _ hz1
                 have df := fun i => frozen_of_row _ _ i _ _ hz1
                 have HG := Lib.hid (HW1.out.trans hg1)
                 have HZ := Lib.hid hz1
                 clear hz1 hc1 hg1))
            all_goals
              go_wp2_with fail
              skip
              go_meet
              case rel =>
                exact .inr ⟨HST, rfl, Lib.hid (((HG.out.setCell (p := ⟨wq.heap.size, 0, none⟩) (by exact Nat.le_refl _) _).setCell (p := ⟨wq.heap.size, 1, none⟩) (by exact Nat.le_refl _) _).setCell (p := ⟨wq.heap.size, 2, none⟩) (by exact Nat.le_refl _) _)⟩
        · have HSP := Lib.hid (stp_spec (by rw [HLE.out]; omega) hst)
          have HST := Lib.hid hst
          clear hst
          by_cases hck : (cl : Int) = (k : Int)
          · skip
            have HTK : Hid (∀ w', New wq w' → Calls Tryz.prog 31 #[.slice (some ⟨bl, ol, none⟩) (nl - k : Nat) 0, .int .u64 2305843009213693951] w' fun e w2 => e = .returned (.tuple #[.agg #[.int .u64 (W64 x), .int .u64 (W64 y), .int .i64 (u : Int)], .bool true]) ∧ New w' w2) := Lib.hid (fun w' hn => rtk_some44 (by rw [HLE.out]; omega) HST.out _ _ _ w' ((HQ1.out (by omega)).stay hn))
            clear HQ1 HQ2
            have HB0 := Lib.hid (heap_alloc_new wq (.cells #[.int .u64 0, .int .u64 0, .int .i64 1] 53))
            have HW1 := Lib.hid ((New.refl wq).alloc (.cells #[.int .u64 0, .int .u64 0, .int .i64 1] 53))
            go_wp2_with fail
            generalize wq.alloc (.cells #[.int .u64 0, .int .u64 0, .int .i64 1] 53) = W1 at HB0 HW1 ⊢
            have SK : Hid (∀ w', Kb44 W1 wq.heap.size w' → Kb44 W1 wq.heap.size w') := Lib.hid (fun _ h => h)
            have hkb : Kb44 W1 wq.heap.size W1 := Kb44.refl _ _
            go_region_held3 (fun w' => Kb44 W1 wq.heap.size w')
              ((refine SK.out _ ?_; repeat (first | with_reducible assumption | with_reducible exact Kb44.refl _ _ | with_reducible refine Kb44.drew ?_ | with_reducible refine Kb44.set ?_ _ _)))
              (first
              | (go_at_call 12
                 refine (HLI.out _).mono ?_
                 rintro e q0 ⟨rfl, rfl⟩)
              | (go_at_call 31
                 refine (HTK.out _ (by first | with_reducible exact HW1.out | with_reducible exact HW1.out.drew)).mono ?_
                 rintro e q1 ⟨rfl, hc1⟩
                 have hg1 : New W1 q1 := by first | with_reducible exact hc1 | with_reducible exact (New.refl W1).drew.trans hc1
                 have hw1 : Kb44 W1 wq.heap.size q1 := (Kb44.refl _ _).new hg1
                 have hz1 := (hg1.block _ (lt_of_block HB0.out)).trans HB0.out
                 have d0 := cell_of_row _ _ 0 _ _ _ hz1
                 have d1 := cell_of_row _ _ 1 _ _ _ hz1
                 have d2 := cell_of_row _ _ 2 _ _ _ hz1
                 have df := fun i => frozen_of_row _ _ i _ _ hz1
                 have HG := Lib.hid (HW1.out.trans hg1)
                 have HZ := Lib.hid hz1
                 clear hz1 hc1 hg1))
            all_goals
              go_wp2_with fail
              obtain rfl : k = cl := by omega
              go_meet
              case rel =>
                refine .inl ⟨x, y, u, k', Lib.hid ⟨HST.out, by have a1 := HSP.out.1; have a2 : u = k' - k := HSP.out.2.2.1; omega, by have := HSP.out.2.1; have := HLE.out; omega⟩, rfl, Lib.hid (put3_at _ _ _ HZ.out), Lib.hid (((HG.out.setCell (p := ⟨wq.heap.size, 0, none⟩) (by exact Nat.le_refl _) _).setCell (p := ⟨wq.heap.size, 1, none⟩) (by exact Nat.le_refl _) _).setCell (p := ⟨wq.heap.size, 2, none⟩) (by exact Nat.le_refl _) _)⟩
          · skip
            have HTK : Hid (∀ w', New wq w' → Calls Tryz.prog 31 #[.slice (some ⟨bl, ol + k, none⟩) (nl - k : Nat) (cl - k : Nat), .int .u64 2305843009213693951] w' fun e w2 => e = .returned (.tuple #[.agg #[.int .u64 (W64 x), .int .u64 (W64 y), .int .i64 (u : Int)], .bool true]) ∧ New w' w2) := Lib.hid (fun w' hn => rtk_some44 (by rw [HLE.out]; omega) HST.out _ _ _ w' (HQ2.out.stay hn))
            clear HQ1 HQ2
            have HB0 := Lib.hid (heap_alloc_new wq (.cells #[.int .u64 0, .int .u64 0, .int .i64 1] 53))
            have HW1 := Lib.hid ((New.refl wq).alloc (.cells #[.int .u64 0, .int .u64 0, .int .i64 1] 53))
            go_wp2_with fail
            generalize wq.alloc (.cells #[.int .u64 0, .int .u64 0, .int .i64 1] 53) = W1 at HB0 HW1 ⊢
            have SK : Hid (∀ w', Kb44 W1 wq.heap.size w' → Kb44 W1 wq.heap.size w') := Lib.hid (fun _ h => h)
            have hkb : Kb44 W1 wq.heap.size W1 := Kb44.refl _ _
            go_region_held3 (fun w' => Kb44 W1 wq.heap.size w')
              ((refine SK.out _ ?_; repeat (first | with_reducible assumption | with_reducible exact Kb44.refl _ _ | with_reducible refine Kb44.drew ?_ | with_reducible refine Kb44.set ?_ _ _)))
              (first
              | (go_at_call 12
                 refine (HLI.out _).mono ?_
                 rintro e q0 ⟨rfl, rfl⟩)
              | (go_at_call 31
                 refine (HTK.out _ (by first | with_reducible exact HW1.out | with_reducible exact HW1.out.drew)).mono ?_
                 rintro e q1 ⟨rfl, hc1⟩
                 have hg1 : New W1 q1 := by first | with_reducible exact hc1 | with_reducible exact (New.refl W1).drew.trans hc1
                 have hw1 : Kb44 W1 wq.heap.size q1 := (Kb44.refl _ _).new hg1
                 have hz1 := (hg1.block _ (lt_of_block HB0.out)).trans HB0.out
                 have d0 := cell_of_row _ _ 0 _ _ _ hz1
                 have d1 := cell_of_row _ _ 1 _ _ _ hz1
                 have d2 := cell_of_row _ _ 2 _ _ _ hz1
                 have df := fun i => frozen_of_row _ _ i _ _ hz1
                 have HG := Lib.hid (HW1.out.trans hg1)
                 have HZ := Lib.hid hz1
                 clear hz1 hc1 hg1))
            all_goals
              go_wp2_with fail
              skip
              go_meet
              case rel =>
                refine .inl ⟨x, y, u, k', Lib.hid ⟨HST.out, by have a1 := HSP.out.1; have a2 : u = k' - k := HSP.out.2.2.1; omega, by have := HSP.out.2.1; have := HLE.out; omega⟩, rfl, Lib.hid (put3_at _ _ _ HZ.out), Lib.hid (((HG.out.setCell (p := ⟨wq.heap.size, 0, none⟩) (by exact Nat.le_refl _) _).setCell (p := ⟨wq.heap.size, 1, none⟩) (by exact Nat.le_refl _) _).setCell (p := ⟨wq.heap.size, 2, none⟩) (by exact Nat.le_refl _) _)⟩
      case rest =>
        rcases hcut with ⟨x, y, u, k', HST, rfl, HDB, HNX⟩ | ⟨HST, rfl, HNX⟩
        · have HD := Lib.hid (sdS_next HS.out.1 HST.out.1)
          have hds := sdS_len HS.out.1
          have hkk := HST.out.2
          have hsb := (HNX.out.block _ (lt_of_block HSB.out)).trans HSB.out
          have hrb := (HNX.out.block _ (lt_of_block HRB.out)).trans HRB.out
          have o1 := ow_new HO1.out HNX.out
          have o2 := ow_new HO2.out HNX.out
          have s2 := cell_of_row _ _ 2 _ _ _ hsb
          have d0 := cell_of_row _ _ 0 _ _ _ HDB.out
          have hwk := HN.out.le
          have hwx := HNX.out.le
          have hltD := lt_of_block HDB.out
          have hltS := lt_of_block hsb
          have hltR := lt_of_block hrb
          have hltq := lt_of_block HSB.out
          have HRX := Lib.hid hrb
          have HSX := Lib.hid hsb
          have HO1X := Lib.hid o1
          have HO2X := Lib.hid o2
          have HLT1 : Hid (∀ g, (Value.slice a1 q c1).ownBlock = some g → w.heap.size + 2 ≤ g ∧ g < wq.heap.size) := Lib.hid (fun g hg => ow_lt HO1.out g hg)
          have HLT2 : Hid (∀ g, (Value.slice a2 q c2).ownBlock = some g → w.heap.size + 2 ≤ g ∧ g < wq.heap.size) := Lib.hid (fun g hg => ow_lt HO2.out g hg)
          have HSZ : Hid (w.heap.size + 1 < wq.heap.size ∧ wq.heap.size ≤ wc.heap.size ∧ True) := Lib.hid ⟨hltq, hwx, trivial⟩
          have hds2 := hds
          clear hsb hrb o2 hwk hwx hltD hltS hltR hltq
          clear HO1 HO2 HRB HSB
          have HKK := Lib.hid hkk
          have HQN : Hid (q < n) := Lib.hid (by omega)
          clear hkk hds hds2
          go_wp2_with (at_builtin; refine wpList_append_own _ rfl (.tmp 72) (.tmp 75) 28 rfl (w.heap.size + 2) 23 iq (.int .u64 0) 1 8 Tryz.underlying28 hiq jq0 jq1 jq2 rfl (by decide) _ q _ rfl (o1.alloc _) ⟨wc.heap.size, 0, none⟩ 1 1 [.int .u64 (W64 x)] rfl rfl ?c1 ?c2 ?c3 ?c4 ?c5 ?_)
          try (case c1 => exact new_cells_t wc _ _)
          try (case c2 => intro z hz; simp at hz; subst hz; rfl)
          try (case c3 => unfold maxLen; have := HQN.out; omega)
          try (case c4 => have := HQN.out; omega)
          try (case c5 => have := HSZ.out; simp; omega)
          intro v1 w1 how1 hgr1 _
          have hw1' : w1.ownsRow (w.heap.size + 2) 23 1 v1 (q + 1) (((ds ++ [(x, y, u)]).map fun d => d.1).map fun x => .int .u64 (W64 x)) := by
            rw [List.map_append, List.map_append, List.map_map]; exact how1
          obtain ⟨b1, p1, rfl, _⟩ := own_len hw1'
          have hlt1 : wc.heap.size ≤ (wc.alloc (.cells #[.int .u64 (W64 x)] 23)).heap.size := by simp
          have HD1 : Hid (w1.heap[wq.heap.size]? = some (.cells #[.int .u64 (W64 x), .int .u64 (W64 y), .int .i64 (u : Int)] 53 (0, 0))) := Lib.hid ((hgr1.block _ (Nat.lt_of_lt_of_le (lt_of_block HDB.out) hlt1) (fun e => by have := HLT1.out _ e.symm; omega)).trans ((((New.refl wc).alloc _).block _ (lt_of_block HDB.out)).trans HDB.out))
          have HS1 : Hid (w1.heap[w.heap.size + 1]? = some (.cells (sdc k0 bi a1 q c1) 37 (0, 0))) := Lib.hid ((hgr1.block _ (Nat.lt_of_lt_of_le (lt_of_block HSX.out) hlt1) (fun e => by have := HLT1.out _ e.symm; omega)).trans ((((New.refl wc).alloc _).block _ (lt_of_block HSX.out)).trans HSX.out))
          have HR1 : Hid (w1.heap[w.heap.size]? = some (.cells zSd 37 (0, 0))) := Lib.hid ((hgr1.block _ (Nat.lt_of_lt_of_le (lt_of_block HRX.out) hlt1) (fun e => by have := HLT1.out _ e.symm; omega)).trans ((((New.refl wc).alloc _).block _ (lt_of_block HRX.out)).trans HRX.out))
          have HO21 : Hid (w1.ownsRow (w.heap.size + 2) 53 3 (.slice a2 q c2) q (drCs ds)) := Lib.hid (ow_blk (ow_new HO2X.out ((New.refl wc).alloc _)) (fun z hz => hgr1.block z (by have := HLT2.out z hz; have := HSZ.out; omega) (fun e => ow_apart HO1X.out HO2X.out (by decide) z e.symm hz)))
          have HN1 : Hid (New w w1) := Lib.hid (((HN.out.trans HNX.out).alloc _).grown' hgr1 (fun z e => by have := HLT1.out z e; omega))
          have HO11 := Lib.hid hw1'
          have HZ1 : Hid (wq.heap.size ≤ w1.heap.size) := Lib.hid (by have := hgr1.size; have := HSZ.out; omega)
          have f2 := frozen_of_row _ _ 2 _ _ HS1.out
          have t2 := cell_of_row _ _ 2 _ _ _ HS1.out
          clear how1 hgr1 hw1' hlt1 o1 s2 d0 HO1X HO2X HSX HRX
          go_upto_region 20 with fail
          have HSW := Lib.hid (heap_setCell_same _ _ 2 _ _ (.slice b1 (q + 1) p1) HS1.out)
          have HDW := Lib.hid ((heap_setCell_other w1 ⟨w.heap.size + 1, 2, none⟩ wq.heap.size (.slice b1 (q + 1) p1) (by show wq.heap.size ≠ w.heap.size + 1; have := HSZ.out; omega)).trans HD1.out)
          have HRW := Lib.hid ((heap_setCell_other w1 ⟨w.heap.size + 1, 2, none⟩ w.heap.size (.slice b1 (q + 1) p1) (by show w.heap.size ≠ w.heap.size + 1; omega)).trans HR1.out)
          have HO1W := Lib.hid (ow_far3 HO11.out (a := ⟨w.heap.size + 1, 2, none⟩) (fun e => absurd (ow_lt HO11.out _ e).1 (by show ¬ (w.heap.size + 2 ≤ w.heap.size + 1); omega)) (.slice b1 (q + 1) p1))
          have HO2W := Lib.hid (ow_far3 HO21.out (a := ⟨w.heap.size + 1, 2, none⟩) (fun e => absurd (ow_lt HO21.out _ e).1 (by show ¬ (w.heap.size + 2 ≤ w.heap.size + 1); omega)) (.slice b1 (q + 1) p1))
          have HNW := Lib.hid (HN1.out.setCell (p := ⟨w.heap.size + 1, 2, none⟩) (by show w.heap.size ≤ w.heap.size + 1; omega) (.slice b1 (q + 1) p1))
          have HZW : Hid (wq.heap.size ≤ (w1.setCell ⟨w.heap.size + 1, 2, none⟩ (.slice b1 (q + 1) p1)).heap.size) := Lib.hid (by rw [size_set]; exact HZ1.out)
          generalize w1.setCell ⟨w.heap.size + 1, 2, none⟩ (.slice b1 (q + 1) p1) = W2 at *
          clear HS1 HD1 HR1 HO11 HO21 HN1 HZ1 f2 t2
          have e0 := cell_of_row _ _ 0 _ _ _ HDW.out
          have e1 := cell_of_row _ _ 1 _ _ _ HDW.out
          have e2 := cell_of_row _ _ 2 _ _ _ HDW.out
          have o2 := HO2W.out
          go_wp2_with (at_builtin; refine wpList_append_own _ rfl (.tmp 78) (.tmp 80) 38 rfl (w.heap.size + 2) 53 id (.agg #[.int .u64 0, .int .u64 0, .int .i64 0]) 3 24 Tryz.underlying38 hid hd0 hd1 hd2 rfl (by decide) _ q _ rfl (o2.alloc _) ⟨W2.heap.size, 0, none⟩ 1 1 (drC (x, y, u)) rfl rfl ?c1 ?c2 ?c3 ?c4 ?c5 ?_)
          try (case c1 => exact drw_cells W2 x y u 53)
          try (case c2 => exact drw_one x y u)
          try (case c3 => unfold maxLen; have := HQN.out; omega)
          try (case c4 => have := HQN.out; omega)
          try (case c5 => have := HZW.out; have := HSZ.out; simp; omega)
          intro v2 w2 how2 hgr2 _
          have hw2' : w2.ownsRow (w.heap.size + 2) 53 3 v2 (q + 1) (drCs (ds ++ [(x, y, u)])) := by
            rw [drCs_snoc]; exact how2
          obtain ⟨b2, p2, rfl, _⟩ := KRow.of_owns hw2' (by have := HQN.out; omega)
          have hlt2 : W2.heap.size ≤ (W2.alloc (.cells #[.int .u64 (W64 x), .int .u64 (W64 y), .int .i64 (u : Int)] 53)).heap.size := by simp
          have HD2 : Hid (w2.heap[wq.heap.size]? = some (.cells #[.int .u64 (W64 x), .int .u64 (W64 y), .int .i64 (u : Int)] 53 (0, 0))) := Lib.hid ((hgr2.block _ (Nat.lt_of_lt_of_le (lt_of_block HDW.out) hlt2) (fun e => by have := HLT2.out _ e.symm; omega)).trans ((((New.refl W2).alloc _).block _ (lt_of_block HDW.out)).trans HDW.out))
          have HS2 : Hid (w2.heap[w.heap.size + 1]? = some (.cells (sdc k0 bi b1 (q + 1) p1) 37 (0, 0))) := Lib.hid ((hgr2.block _ (Nat.lt_of_lt_of_le (lt_of_block HSW.out) hlt2) (fun e => by have := HLT2.out _ e.symm; omega)).trans ((((New.refl W2).alloc _).block _ (lt_of_block HSW.out)).trans HSW.out))
          have HR2 : Hid (w2.heap[w.heap.size]? = some (.cells zSd 37 (0, 0))) := Lib.hid ((hgr2.block _ (Nat.lt_of_lt_of_le (lt_of_block HRW.out) hlt2) (fun e => by have := HLT2.out _ e.symm; omega)).trans ((((New.refl W2).alloc _).block _ (lt_of_block HRW.out)).trans HRW.out))
          have HO12 : Hid (w2.ownsRow (w.heap.size + 2) 23 1 (.slice b1 (q + 1) p1) (q + 1) (((ds ++ [(x, y, u)]).map fun d => d.1).map fun x => .int .u64 (W64 x))) := Lib.hid (ow_blk (ow_new HO1W.out ((New.refl W2).alloc _)) (fun z hz => hgr2.block z (by have := (ow_lt HO1W.out z hz).2; omega) (fun e => ow_apart HO1W.out HO2W.out (by decide) z hz e.symm)))
          have HN2 : Hid (New w w2) := Lib.hid ((HNW.out.alloc _).grown' hgr2 (fun z e => by have := HLT2.out z e; omega))
          have HO22 := Lib.hid hw2'
          have g2 := cell_of_row _ _ 2 _ _ _ HD2.out
          have hw1 : wrap64 ((k : Int) + (u : Int)) = ((k + u : Nat) : Int) := by have := HKK.out; unfold wrap64; omega
          clear how2 hgr2 hw2' hlt2 o2 e0 e1 e2 HO1W HO2W HSW HRW HDW HNW
          go_wp2
          exact ⟨⟨q + 1, k', _, b1, p1, b2, p2, by have := HQN.out; omega, by go_num, by rw [hw1, HKK.out.1], rfl, Lib.hid ⟨HD.out, HKK.out.2⟩, HR2, HS2, HO12.out, HO22.out, HN2⟩, by have := HQN.out; simp [intOf]; omega⟩
        · have HD := Lib.hid (sdS_few HS.out.1 HST.out)
          have HNO : Hid (sdS 0 l n = none) := Lib.hid (by
            have := sdS_none HD.out (n - (q + 1))
            rw [show q + 1 + (n - (q + 1)) = n by omega] at this
            exact this)
          have hrb := (HNX.out.block _ (lt_of_block HRB.out)).trans HRB.out
          have r0 := cell_of_row _ _ 0 _ _ _ hrb
          have r1 := cell_of_row _ _ 1 _ _ _ hrb
          have r2 := cell_of_row _ _ 2 _ _ _ hrb
          have rf := fun i => frozen_of_row _ _ i _ _ hrb
          have HNF := Lib.hid (HN.out.trans HNX.out)
          clear hrb HRB HSB HO1 HO2
          go_wp2_with fail
          refine bodyPost_ret (by simp [results, Tryz.results17, go_sem, r0, r1, r2]; try rfl) rfl ?_
          exact ⟨.inr ⟨HNO.out, rfl⟩, ((HNF.out.setCell (by exact Nat.le_refl _) _).setCell (by exact Nat.le_refl _) _).setCell (by exact Nat.le_refl _) _⟩
    · obtain rfl : q = n := by omega
      have r0 := cell_of_row _ _ 0 _ _ _ HRB.out
      have r1 := cell_of_row _ _ 1 _ _ _ HRB.out
      have r2 := cell_of_row _ _ 2 _ _ _ HRB.out
      have rf := fun i => frozen_of_row _ _ i _ _ HRB.out
      have s0 := cell_of_row _ _ 0 _ _ _ HSB.out
      have s1 := cell_of_row _ _ 1 _ _ _ HSB.out
      have s2 := cell_of_row _ _ 2 _ _ _ HSB.out
      have hR : ∀ (i x : Nat), (((wq.setCell ⟨w.heap.size, 0, none⟩ (.int .i64 k0)).setCell ⟨w.heap.size, 1, none⟩ (.int .i64 bi)).setCell ⟨w.heap.size, 2, none⟩ (.slice a1 q c1)).ownsRow (w.heap.size + 2) 23 1 (.slice a1 q c1) q ((ds.map fun d => d.1).map fun x => .int .u64 (W64 x)) := fun i x =>
        ow_far3 (ow_far3 (ow_far3 HO1.out (a := ⟨w.heap.size, 0, none⟩) (fun e => absurd (ow_lt HO1.out _ e).1 (by show ¬ (w.heap.size + 2 ≤ w.heap.size); omega)) _) (a := ⟨w.heap.size, 1, none⟩) (fun e => absurd (ow_lt HO1.out _ e).1 (by show ¬ (w.heap.size + 2 ≤ w.heap.size); omega)) _) (a := ⟨w.heap.size, 2, none⟩) (fun e => absurd (ow_lt HO1.out _ e).1 (by show ¬ (w.heap.size + 2 ≤ w.heap.size); omega)) _
      have hK : ∀ (i x : Nat), (((wq.setCell ⟨w.heap.size, 0, none⟩ (.int .i64 k0)).setCell ⟨w.heap.size, 1, none⟩ (.int .i64 bi)).setCell ⟨w.heap.size, 2, none⟩ (.slice a1 q c1)).ownsRow (w.heap.size + 2) 53 3 (.slice a2 q c2) q (drCs ds) := fun i x =>
        ow_far3 (ow_far3 (ow_far3 HO2.out (a := ⟨w.heap.size, 0, none⟩) (fun e => absurd (ow_lt HO2.out _ e).1 (by show ¬ (w.heap.size + 2 ≤ w.heap.size); omega)) _) (a := ⟨w.heap.size, 1, none⟩) (fun e => absurd (ow_lt HO2.out _ e).1 (by show ¬ (w.heap.size + 2 ≤ w.heap.size); omega)) _) (a := ⟨w.heap.size, 2, none⟩) (fun e => absurd (ow_lt HO2.out _ e).1 (by show ¬ (w.heap.size + 2 ≤ w.heap.size); omega)) _
      obtain ⟨x1, y1, z1, hq1⟩ := QRow.of_owns (hR 0 0) (by omega)
      cases z1
      obtain ⟨x2, y2, z2, hq2⟩ := KRow.of_owns (hK 0 0) (by omega)
      cases z2
      have HQ1 := Lib.hid hq1
      have HQ2 := Lib.hid hq2
      have HNF := Lib.hid (((HN.out.setCell (p := ⟨w.heap.size, 0, none⟩) (by exact Nat.le_refl _) (.int .i64 k0)).setCell (p := ⟨w.heap.size, 1, none⟩) (by exact Nat.le_refl _) (.int .i64 bi)).setCell (p := ⟨w.heap.size, 2, none⟩) (by exact Nat.le_refl _) (.slice a1 q c1))
      clear hq1 hq2 hR hK HO1 HO2 HRB HSB
      go_wp2_with fail
      refine bodyPost_ret (by simp [results, Tryz.results17, go_sem, r0, r1, r2]; try rfl) rfl ?_
      first | exact ⟨.inl ⟨ds, k, a1, c1, a2, c2, HS.out.1, rfl, HQ1.out, HQ2.out⟩, HNF.out⟩ | exact ⟨.inl ⟨ds, k, HS.out.1, a1, c1, a2, c2, rfl, HQ1.out, HQ2.out⟩, HNF.out⟩
end Go.Proofs.YtdjlbpgjbgepdaaGreat
end
section
/- Layer 44: the document's Take of no words; of any kind. -/
namespace Go.Proofs.YtdjlbpgjbgepdaaGreat
open Go Go.RowKit Go.Bv
set_option linter.unusedVariables false
set_option maxRecDepth 100000
theorem stp_nil (c : Nat) : stp c [] 0 = none := by
  unfold stp
  by_cases hc : c = 0
  · rw [if_pos hc, if_neg (by rw [fstT_no (l := []) (k := 0) (by simp) (fun i _ h => absurd h (by simp))]; simp)]
  · rw [if_neg hc, if_neg (by simp)]
theorem sdS_nil (c : Nat) {n : Nat} (hn : 1 ≤ n) : sdS c [] n = none := by
  have h1 : sdS c [] (0 + 1) = none := sdS_few (ds := []) (k := 0) rfl (stp_nil c)
  have := sdS_none h1 (n - 1)
  rwa [show 0 + 1 + (n - 1) = n by omega] at this
set_option maxHeartbeats 4000000 in
theorem rtake0_044 (k0 bi : Int) (n : Nat) (hn : 1 ≤ n ∧ n ≤ 320) (hlm : W64 (lmW k0) = 2305843009213693951) (a : Option Addr) (cl : Nat) (w : World) (hl : QRow w a 0 cl []) : Calls Tryz.prog 17 #[.slice a 0 cl, .int .i64 k0, .int .i64 bi, .int .i64 (n : Int)] w fun e w' =>
    e = .returned (.tuple #[.agg zSd, .slice none 0 0, .int .i64 0, .bool false]) ∧ New w w' := by
  have hlr := hl.room
  have HL := Lib.hid hl
  have HLI := Lib.hid (fun w => rlimit_44 k0 w)
  rw [hlm] at HLI
  obtain ⟨h1, h2, h3⟩ := two_blocks44 w (.cells zSd 37) (.cells (sdc k0 bi none 0 0) 37)
  have HR0 := Lib.hid h1
  have HN0 := Lib.hid h3
  have hlt : (0 : Int) < (n : Int) := by omega
  clear h1 h2 h3 hl hlm
  go_enter Tryz.func17, Tryz.ntmps17
  go_wp2_with fail
  generalize (w.alloc (.cells zSd 37)).alloc (.cells (sdc k0 bi none 0 0) 37) = wq at HR0 HN0 ⊢
  go_loop [13, 14, 15] (fun ov uv iv => ov = .slice none 0 0 ∧ uv = .int .i64 0 ∧ iv = .int .i64 0) (fun _ _ _ => 0)
  case atStart => exact ⟨rfl, rfl, rfl⟩
  case round =>
    obtain ⟨rfl, rfl, rfl⟩ := hrel
    have HLQ := Lib.hid (HL.out.stay HN0.out)
    go_wp2_with fail
    refine (HLI.out _).mono ?_
    rintro e w9 ⟨rfl, rfl⟩
    go_upto_if 33 with fail
    go_cut [17] (fun is wx => is = .bool false ∧ Hid (New wq wx))
    case first =>
        have HTK : Hid (∀ w', New wq w' → Calls Tryz.prog 31 #[.slice a 0 cl, .int .u64 2305843009213693951] w' fun e w2 => e = .returned (.tuple #[.agg #[.int .u64 0, .int .u64 0, .int .i64 0], .bool false]) ∧ New w' w2) := Lib.hid (fun w' hn => rtk_none44 (l := []) (k := 0) (Nat.le_refl _) (stp_nil 0) _ _ _ w' (HLQ.out.stay hn))
        have HB0 := Lib.hid (heap_alloc_new wq (.cells #[.int .u64 0, .int .u64 0, .int .i64 1] 53))
        have HW1 := Lib.hid ((New.refl wq).alloc (.cells #[.int .u64 0, .int .u64 0, .int .i64 1] 53))
        go_wp2_with fail
        generalize wq.alloc (.cells #[.int .u64 0, .int .u64 0, .int .i64 1] 53) = W1 at HB0 HW1 ⊢
        have SK : Hid (∀ w', Kb44 W1 wq.heap.size w' → Kb44 W1 wq.heap.size w') := Lib.hid (fun _ h => h)
        have hkb : Kb44 W1 wq.heap.size W1 := Kb44.refl _ _
        go_region_held3 (fun w' => Kb44 W1 wq.heap.size w')
          ((refine SK.out _ ?_; repeat (first | with_reducible assumption | with_reducible exact Kb44.refl _ _ | with_reducible refine Kb44.drew ?_ | with_reducible refine Kb44.set ?_ _ _)))
          (first
          | (go_at_call 12
             refine (HLI.out _).mono ?_
             rintro e q0 ⟨rfl, rfl⟩)
          | (go_at_call 31
             refine (HTK.out _ (by first | with_reducible exact HW1.out | with_reducible exact HW1.out.drew)).mono ?_
             rintro e q1 ⟨rfl, hc1⟩
             have hg1 : New W1 q1 := by first | with_reducible exact hc1 | with_reducible exact (New.refl W1).drew.trans hc1
             have hw1 : Kb44 W1 wq.heap.size q1 := (Kb44.refl _ _).new hg1
             have hz1 := (hg1.block _ (lt_of_block HB0.out)).trans HB0.out
             have d0 := cell_of_row _ _ 0 _ _ _ hz1
             have d1 := cell_of_row _ _ 1 _ _ _ hz1
             have d2 := cell_of_row _ _ 2 _ _ _ hz1
             have df := fun i => frozen_of_row _ _ i _ _ hz1
             have HG := Lib.hid (HW1.out.trans hg1)
             clear hz1 hc1 hg1))
        all_goals
          go_wp2_with fail
          go_meet
          case rel => exact ⟨rfl, Lib.hid (((HG.out.setCell (p := ⟨wq.heap.size, 0, none⟩) (by exact Nat.le_refl _) _).setCell (p := ⟨wq.heap.size, 1, none⟩) (by exact Nat.le_refl _) _).setCell (p := ⟨wq.heap.size, 2, none⟩) (by exact Nat.le_refl _) _)⟩
    case rest =>
      obtain ⟨rfl, HNX⟩ := hcut
      have hrb := (HNX.out.block _ (lt_of_block HR0.out)).trans HR0.out
      have r0 := cell_of_row _ _ 0 _ _ _ hrb
      have r1 := cell_of_row _ _ 1 _ _ _ hrb
      have r2 := cell_of_row _ _ 2 _ _ _ hrb
      have rf := fun i => frozen_of_row _ _ i _ _ hrb
      have HNF := Lib.hid (HN0.out.trans HNX.out)
      clear hrb HR0
      go_wp2_with fail
      refine bodyPost_ret (by simp [results, Tryz.results17, go_sem, r0, r1, r2]; try rfl) rfl ?_
      exact ⟨rfl, ((HNF.out.setCell (by exact Nat.le_refl _) _).setCell (by exact Nat.le_refl _) _).setCell (by exact Nat.le_refl _) _⟩
set_option maxHeartbeats 4000000 in
theorem rtake0_144 (k0 bi : Int) (n : Nat) (hn : 1 ≤ n ∧ n ≤ 320) (hlm : W64 (lmW k0) = 2) (a : Option Addr) (cl : Nat) (w : World) (hl : QRow w a 0 cl []) : Calls Tryz.prog 17 #[.slice a 0 cl, .int .i64 k0, .int .i64 bi, .int .i64 (n : Int)] w fun e w' =>
    e = .returned (.tuple #[.agg zSd, .slice none 0 0, .int .i64 0, .bool false]) ∧ New w w' := by
  have hlr := hl.room
  have HL := Lib.hid hl
  have HLI := Lib.hid (fun w => rlimit_44 k0 w)
  rw [hlm] at HLI
  obtain ⟨h1, h2, h3⟩ := two_blocks44 w (.cells zSd 37) (.cells (sdc k0 bi none 0 0) 37)
  have HR0 := Lib.hid h1
  have HN0 := Lib.hid h3
  have hlt : (0 : Int) < (n : Int) := by omega
  clear h1 h2 h3 hl hlm
  go_enter Tryz.func17, Tryz.ntmps17
  go_wp2_with fail
  generalize (w.alloc (.cells zSd 37)).alloc (.cells (sdc k0 bi none 0 0) 37) = wq at HR0 HN0 ⊢
  go_loop [13, 14, 15] (fun ov uv iv => ov = .slice none 0 0 ∧ uv = .int .i64 0 ∧ iv = .int .i64 0) (fun _ _ _ => 0)
  case atStart => exact ⟨rfl, rfl, rfl⟩
  case round =>
    obtain ⟨rfl, rfl, rfl⟩ := hrel
    have HLQ := Lib.hid (HL.out.stay HN0.out)
    go_wp2_with fail
    refine (HLI.out _).mono ?_
    rintro e w9 ⟨rfl, rfl⟩
    go_upto_if 33 with fail
    go_cut [17] (fun is wx => is = .bool false ∧ Hid (New wq wx))
    case first =>
        go_wp2_with fail
        go_meet
        case rel => exact ⟨rfl, Lib.hid ((New.refl wq).alloc _)⟩
    case rest =>
      obtain ⟨rfl, HNX⟩ := hcut
      have hrb := (HNX.out.block _ (lt_of_block HR0.out)).trans HR0.out
      have r0 := cell_of_row _ _ 0 _ _ _ hrb
      have r1 := cell_of_row _ _ 1 _ _ _ hrb
      have r2 := cell_of_row _ _ 2 _ _ _ hrb
      have rf := fun i => frozen_of_row _ _ i _ _ hrb
      have HNF := Lib.hid (HN0.out.trans HNX.out)
      clear hrb HR0
      go_wp2_with fail
      refine bodyPost_ret (by simp [results, Tryz.results17, go_sem, r0, r1, r2]; try rfl) rfl ?_
      exact ⟨rfl, ((HNF.out.setCell (by exact Nat.le_refl _) _).setCell (by exact Nat.le_refl _) _).setCell (by exact Nat.le_refl _) _⟩
set_option maxHeartbeats 4000000 in
theorem rtake0_244 (k0 bi : Int) (n : Nat) (hn : 1 ≤ n ∧ n ≤ 320) (hlm : W64 (lmW k0) = 0) (a : Option Addr) (cl : Nat) (w : World) (hl : QRow w a 0 cl []) : Calls Tryz.prog 17 #[.slice a 0 cl, .int .i64 k0, .int .i64 bi, .int .i64 (n : Int)] w fun e w' =>
    e = .returned (.tuple #[.agg zSd, .slice none 0 0, .int .i64 0, .bool false]) ∧ New w w' := by
  have hlr := hl.room
  have HL := Lib.hid hl
  have HLI := Lib.hid (fun w => rlimit_44 k0 w)
  rw [hlm] at HLI
  obtain ⟨h1, h2, h3⟩ := two_blocks44 w (.cells zSd 37) (.cells (sdc k0 bi none 0 0) 37)
  have HR0 := Lib.hid h1
  have HN0 := Lib.hid h3
  have hlt : (0 : Int) < (n : Int) := by omega
  clear h1 h2 h3 hl hlm
  go_enter Tryz.func17, Tryz.ntmps17
  go_wp2_with fail
  generalize (w.alloc (.cells zSd 37)).alloc (.cells (sdc k0 bi none 0 0) 37) = wq at HR0 HN0 ⊢
  go_loop [13, 14, 15] (fun ov uv iv => ov = .slice none 0 0 ∧ uv = .int .i64 0 ∧ iv = .int .i64 0) (fun _ _ _ => 0)
  case atStart => exact ⟨rfl, rfl, rfl⟩
  case round =>
    obtain ⟨rfl, rfl, rfl⟩ := hrel
    have HLQ := Lib.hid (HL.out.stay HN0.out)
    go_wp2_with fail
    refine (HLI.out _).mono ?_
    rintro e w9 ⟨rfl, rfl⟩
    go_upto_if 33 with fail
    go_cut [17] (fun is wx => is = .bool false ∧ Hid (New wq wx))
    case first =>
        go_wp2_with fail
        go_meet
        case rel => exact ⟨rfl, Lib.hid ((New.refl wq).alloc _)⟩
    case rest =>
      obtain ⟨rfl, HNX⟩ := hcut
      have hrb := (HNX.out.block _ (lt_of_block HR0.out)).trans HR0.out
      have r0 := cell_of_row _ _ 0 _ _ _ hrb
      have r1 := cell_of_row _ _ 1 _ _ _ hrb
      have r2 := cell_of_row _ _ 2 _ _ _ hrb
      have rf := fun i => frozen_of_row _ _ i _ _ hrb
      have HNF := Lib.hid (HN0.out.trans HNX.out)
      clear hrb HR0
      go_wp2_with fail
      refine bodyPost_ret (by simp [results, Tryz.results17, go_sem, r0, r1, r2]; try rfl) rfl ?_
      exact ⟨rfl, ((HNF.out.setCell (by exact Nat.le_refl _) _).setCell (by exact Nat.le_refl _) _).setCell (by exact Nat.le_refl _) _⟩
theorem lmW_wk (k : Int) : (wkK k = 0 → W64 (lmW k) = 2305843009213693951) ∧ (wkK k = 1 → W64 (lmW k) = 2) ∧ (wkK k = 2 → W64 (lmW k) = 0) := by
  unfold wkK lmW
  by_cases h1 : k = 1 ∨ k = 8
  · rw [if_pos h1, if_pos h1]; exact ⟨fun _ => by decide, fun h => absurd h (by decide), fun h => absurd h (by decide)⟩
  · rw [if_neg h1, if_neg h1]
    by_cases h2 : k = 2
    · rw [if_pos h2, if_pos h2]; exact ⟨fun h => absurd h (by decide), fun _ => by decide, fun h => absurd h (by decide)⟩
    · rw [if_neg h2, if_neg h2]; exact ⟨fun h => absurd h (by decide), fun h => absurd h (by decide), fun _ => by decide⟩
theorem rtake_44 (k0 bi : Int) (n : Nat) (hn : 1 ≤ n ∧ n ≤ 320) (a : Option Addr) (nl cl : Nat) (l : List (BitVec 64)) (hnl : nl ≤ 400) (w : World) (hl : QRow w a nl cl l) : Calls Tryz.prog 17 #[.slice a nl cl, .int .i64 k0, .int .i64 bi, .int .i64 (n : Int)] w fun e w' =>
    ((∃ ds k a1 c1 a2 c2, sdS (wkK k0) l n = some (ds, k) ∧ e = .returned (.tuple #[.agg (sdc k0 bi a1 n c1), .slice a2 n c2, .int .i64 (k : Int), .bool true]) ∧ QRow w' a1 n c1 (ds.map fun d => d.1) ∧ KRow w' a2 n c2 ds) ∨ (sdS (wkK k0) l n = none ∧ e = .returned (.tuple #[.agg zSd, .slice none 0 0, .int .i64 (nl : Int), .bool false]))) ∧ New w w' := by
  obtain ⟨l0, l1, l2⟩ := lmW_wk k0
  by_cases h0 : nl = 0
  · subst h0
    obtain rfl : l = [] := List.eq_nil_of_length_eq_zero hl.len_eq
    rcases wkK_three k0 with h | h | h
    · exact (rtake0_044 k0 bi n hn (l0 h) a cl w hl).mono fun e w' h' => ⟨.inr ⟨sdS_nil _ hn.1, h'.1⟩, h'.2⟩
    · exact (rtake0_144 k0 bi n hn (l1 h) a cl w hl).mono fun e w' h' => ⟨.inr ⟨sdS_nil _ hn.1, h'.1⟩, h'.2⟩
    · exact (rtake0_244 k0 bi n hn (l2 h) a cl w hl).mono fun e w' h' => ⟨.inr ⟨sdS_nil _ hn.1, h'.1⟩, h'.2⟩
  · obtain ⟨bl, ol, rfl, _⟩ := hl.addr (by omega)
    rcases wkK_three k0 with h | h | h
    · rw [h]; exact rtake_044 k0 bi n hn h (l0 h) bl ol nl cl l hnl w hl (by omega)
    · rw [h]; exact rtake_144 k0 bi n hn h (l1 h) bl ol nl cl l hnl w hl (by omega)
    · rw [h]; exact rtake_244 k0 bi n hn h (l2 h) bl ol nl cl l hnl w hl (by omega)
end Go.Proofs.YtdjlbpgjbgepdaaGreat
end
section
/- Layer 44: the law SeedsTakes. -/
namespace Go.Proofs.YtdjlbpgjbgepdaaGreat
open Go Go.RowKit Go.Bv
set_option linter.unusedVariables false
set_option maxRecDepth 100000
theorem nil_q44 (w : World) : QRow w none 0 0 [] := ⟨rfl, Nat.le_refl _, by omega, by omega, (fun _ => ⟨rfl, rfl⟩), (fun b off e => by cases e), (fun x e => by cases e), (fun x e => by cases e)⟩
theorem same_27 (k b : Int) (a a' : Option Addr) (n c c' : Nat) (l : List (BitVec 64)) (w : World) (h1 : QRow w a n c l) (h2 : QRow w a' n c' l) : Calls Tryz.prog 15 #[.agg (sdc k b a n c), .agg (sdc k b a' n c')] w fun e w' => e = .returned (.bool true) ∧ New w w' := by
  obtain ⟨hA, hB, hN⟩ := two_blocks44 w (.cells (sdc k b a n c) 37) (.cells (sdc k b a' n c') 37)
  have HW := Lib.hid (words_ref a a' n c n c' l l w _ (h1.stay hN) (h2.stay hN) hN)
  clear hA hB hN h1 h2
  go_enter Tryz.func15, Tryz.ntmps15
  go_wp2_with fail
  refine HW.out.mono ?_
  rintro e w' ⟨rfl, hn, hN⟩
  rw [beq_self_eq_true]
  clear HW hn
  go_wp2
  go_ret
  exact ⟨rfl, hN⟩
theorem seed_box (w : World) (k b : Int) (a : Option Addr) (n c : Nat) : ∃ w2, w.alloc (.cells (sdc k b a n c) 37) = w2 ∧ w2.heap[w.heap.size]? = some (.cells (sdc k b a n c) 37 (0, 0)) ∧ New w w2 := ⟨_, rfl, heap_alloc_new w _, (New.refl w).alloc _⟩
set_option maxHeartbeats 4000000 in
theorem takes_bad (W : World) (a : Option Addr) (n c : Nat) (l : List (BitVec 64)) (hl : QRow W a n c l) (hs : ¬ (400 : Int) < (n : Int)) (k b0 m E : Int) (hE : ckS k b0 m = E) (h0 : (E == 0) = false) : Calls Tryz.prog 4 #[.slice a n c, .int .i64 k, .int .i64 b0, .int .i64 m] W fun e w' => e = .returned (.bool true) ∧ New W w' := by
  have H0 := Lib.hid hl
  have HA := Lib.hid awake44
  have HRC := Lib.hid (fun w => rcheck_44 k b0 m w)
  rw [hE] at HRC
  have HTK := Lib.hid (fun a w => take_bad44 0 k b0 m E a hE h0 w)
  have h1 : (E != 0) = true := by rw [bne, h0]; rfl
  clear hl hE
  go_enter Tryz.func4, Tryz.ntmps4
  go_wp2_with fail
  refine (HA.out _).mono ?_
  rintro e wA ⟨rfl, hn⟩
  replace H0 := Lib.hid (H0.out.stay hn)
  have HN := Lib.hid hn
  clear hn HA
  go_wp2_with fail
  refine (new_t _ _ _ _ _ H0.out).mono ?_
  rintro e wB ⟨b, rfl, hb, ht, hn⟩
  have HT := Lib.hid ht
  have HNB := Lib.hid hn
  have HBB := Lib.hid hb
  clear ht hn hb
  go_wp2_with fail
  refine (HTK.out _ _).mono ?_
  rintro e wC ⟨rfl, hnc⟩
  obtain ⟨wD, hD0, hbox, hnd⟩ := seed_box wC 0 0 none 0 0
  have HAL := Lib.hid hD0
  clear hD0
  have HB := Lib.hid hbox
  have HND := Lib.hid (hnc.trans hnd)
  clear hnc hbox hnd
  go_wp2_with fail
  rw [HAL.out]
  refine (HRC.out _).mono ?_
  rintro e wE ⟨rfl, hne⟩
  have hbx := (hne.block _ (lt_of_block HB.out)).trans HB.out
  have c0 := cell_of_row _ _ 0 _ _ _ hbx
  have c1 := cell_of_row _ _ 1 _ _ _ hbx
  have c2 := cell_of_row _ _ 2 _ _ _ hbx
  have HNE := Lib.hid (HND.out.trans hne)
  have HTE := Lib.hid (HT.out.stay HNE.out)
  clear hne hbx HB HND HAL
  go_wp2_with fail
  refine (same_27 0 0 none none 0 0 0 [] _ (nil_q44 _) (nil_q44 _)).mono ?_
  rintro e wF ⟨rfl, hnf⟩
  have HUS := Lib.hid (used_t _ _ _ _ _ (HTE.out.stay hnf))
  have HNF := Lib.hid (HNE.out.trans hnf)
  clear hnf c0 c1 c2
  go_wp2_with fail
  refine HUS.out.mono ?_
  rintro e w' ⟨rfl, rfl⟩
  go_wp2
  go_ret
  exact ⟨rfl, (HN.out.trans HNB.out).trans HNF.out⟩
set_option maxHeartbeats 4000000 in
theorem takes_ok (W : World) (a : Option Addr) (n c : Nat) (l : List (BitVec 64)) (hl : QRow W a n c l) (hs : ¬ (400 : Int) < (n : Int)) (k b0 : Int) (m : Nat) (hE : ckS k b0 (m : Int) = 0) : Calls Tryz.prog 4 #[.slice a n c, .int .i64 k, .int .i64 b0, .int .i64 (m : Int)] W fun e w' => e = .returned (.bool true) ∧ New W w' := by
  have H0 := Lib.hid hl
  have HLE := Lib.hid hl.len_eq
  have HA := Lib.hid awake44
  have HRC := Lib.hid (fun w => rcheck_44 k b0 (m : Int) w)
  rw [hE] at HRC
  obtain ⟨_, m', e1, hm1, hm320, _⟩ := ckS_ok hE
  have hm : 1 ≤ m ∧ m ≤ 320 := by omega
  have HTK := Lib.hid (fun b g l w h => take_44 k b0 m hE b g l w h)
  have HRT := Lib.hid (fun w h => rtake_44 k b0 m hm a n c l (by omega) w h)
  have HCK := Lib.hid (fun ds kk (h : sdS (wkK k) l m = some (ds, kk)) => ch_of_ck hE (l := ds.map fun d => d.1) (by rw [List.length_map, sdS_len h]) (fun i hi => by
    have hv := (sdS_each h i hi).1
    have e : (ds.map fun d => d.1).getD i 0 = (ds.getD i dz).1 := by
      have hl := sdS_len h
      rw [List.getD_eq_getElem?_getD, List.getElem?_map, List.getD_eq_getElem?_getD, List.getElem?_eq_getElem (by omega)]; rfl
    rw [e]; exact hv))
  clear hl hE e1
  go_enter Tryz.func4, Tryz.ntmps4
  go_wp2_with fail
  refine (HA.out _).mono ?_
  rintro e wA ⟨rfl, hn⟩
  replace H0 := Lib.hid (H0.out.stay hn)
  have HN := Lib.hid hn
  clear hn HA
  go_wp2_with fail
  refine (new_t _ _ _ _ _ H0.out).mono ?_
  rintro e wB ⟨b, rfl, hb, ht, hn⟩
  have HT := Lib.hid ht
  have HNB := Lib.hid hn
  have HBB := Lib.hid hb
  clear ht hn hb
  go_wp2_with fail
  refine (HTK.out _ _ _ _ HT.out).mono ?_
  rintro e wC (⟨ds, kk, g1, g2, hd, rfl, hq, hk, hAf, hg1⟩ | ⟨hd, rfl, hAf⟩)
  · have hnc : New wA wC := hAf.new HNB.out HBB.out HBB.out
    obtain ⟨gt, ht, _, _⟩ := hAf
    obtain ⟨wD, hD0, hbox, hnd⟩ := seed_box wC k b0 (some ⟨g1, 0, none⟩) m m
    have HAL := Lib.hid hD0
    clear hD0
    have HB := Lib.hid hbox
    have HND := Lib.hid (hnc.trans hnd)
    have HTD := Lib.hid (ht.stay hnd)
    have HQ := Lib.hid (hq.stay hnd)
    have HK := Lib.hid (hk.stay hnd)
    have HD := Lib.hid hd
    have HCF := Lib.hid (HCK.out ds kk hd)
    clear hnc hbox hnd ht hq hk hd HT
    go_wp2_with fail
    rw [HAL.out]
    refine (HRC.out _).mono ?_
    rintro e wE ⟨rfl, hne⟩
    clear HAL
    go_wp2_with fail
    refine (HRT.out _ ((H0.out.stay HND.out).stay hne)).mono ?_
    rintro e wF ⟨⟨ds', kk', a1, c1, a2, c2, hd', rfl, hq', hk'⟩ | ⟨hd', _⟩, hnf⟩
    · have he : (ds, kk) = (ds', kk') := Option.some.inj (HD.out.symm.trans hd')
      cases he
      obtain ⟨wG, hG0, hbox, hng⟩ := seed_box wF k b0 a1 m c1
      have HAL2 := Lib.hid hG0
      clear hG0
      have hnn := (hne.trans hnf).trans hng
      have hbx := (hnn.block _ (lt_of_block HB.out)).trans HB.out
      have HB1 := Lib.hid hbx
      have HB2 := Lib.hid hbox
      have HNG := Lib.hid (HND.out.trans hnn)
      have HUS := Lib.hid (used_t _ _ _ _ _ (HTD.out.stay hnn))
      have HQ1 := Lib.hid (HQ.out.stay hnn)
      have HQ2 := Lib.hid (hq'.stay hng)
      have HK1 := Lib.hid (HK.out.stay hnn)
      have HK2 := Lib.hid (hk'.stay hng)
      clear hne hnf hng hbox hbx hnn hq' hk' hd' HQ HK HB HND HTD
      go_wp2_with fail
      rw [HAL2.out]
      refine HUS.out.mono ?_
      rintro e w' ⟨rfl, rfl⟩
      have c0 := cell_of_row _ _ 0 _ _ _ HB1.out
      have c1' := cell_of_row _ _ 1 _ _ _ HB1.out
      have c2' := cell_of_row _ _ 2 _ _ _ HB1.out
      have d0 := cell_of_row _ _ 0 _ _ _ HB2.out
      have d1 := cell_of_row _ _ 1 _ _ _ HB2.out
      have d2 := cell_of_row _ _ 2 _ _ _ HB2.out
      clear HAL2
      go_wp2_with fail
      refine (same_27 k b0 _ _ m m c1 _ _ HQ1.out HQ2.out).mono ?_
      rintro e wH ⟨rfl, hnh⟩
      clear c0 c1' c2' d0 d1 d2
      go_wp2_with fail
      refine (same38_q _ _ m m c2 ds _ (HK1.out.stay hnh) (HK2.out.stay hnh)).mono ?_
      rintro e wI ⟨rfl, hni⟩
      have hnn := hnh.trans hni
      have hbx := (hnn.block _ (lt_of_block HB1.out)).trans HB1.out
      have c0 := cell_of_row _ _ 0 _ _ _ hbx
      have c1' := cell_of_row _ _ 1 _ _ _ hbx
      have c2' := cell_of_row _ _ 2 _ _ _ hbx
      have HCH := Lib.hid (rcheck_27 k b0 _ m m _ _ (HQ1.out.stay hnn))
      rw [HCF.out] at HCH
      have HNI := Lib.hid (HNG.out.trans hnn)
      clear hnh hni hnn hbx HQ1 HQ2 HK1 HK2
      go_wp2_with fail
      refine HCH.out.mono ?_
      rintro e wJ ⟨rfl, hnj⟩
      clear c0 c1' c2'
      go_wp2
      go_ret
      exact ⟨rfl, (HN.out.trans HNI.out).trans hnj⟩
    · rw [HD.out] at hd'; cases hd'
  · have hnc : New wA wC := hAf.new HNB.out HBB.out HBB.out
    obtain ⟨gt, ht, _, _⟩ := hAf
    obtain ⟨wD, hD0, hbox, hnd⟩ := seed_box wC 0 0 none 0 0
    have HAL := Lib.hid hD0
    clear hD0
    have HB := Lib.hid hbox
    have HND := Lib.hid (hnc.trans hnd)
    have HTD := Lib.hid (ht.stay hnd)
    have HD := Lib.hid hd
    clear hnc hbox hnd ht hd HT HCK
    go_wp2_with fail
    rw [HAL.out]
    refine (HRC.out _).mono ?_
    rintro e wE ⟨rfl, hne⟩
    clear HAL
    go_wp2_with fail
    refine (HRT.out _ ((H0.out.stay HND.out).stay hne)).mono ?_
    rintro e wF ⟨⟨ds', kk', a1, c1, a2, c2, hd', _⟩ | ⟨hd', rfl⟩, hnf⟩
    · rw [HD.out] at hd'; cases hd'
    · obtain ⟨wG, hG0, hbox, hng⟩ := seed_box wF 0 0 none 0 0
      have HAL2 := Lib.hid hG0
      clear hG0
      have hnn := (hne.trans hnf).trans hng
      have hbx := (hnn.block _ (lt_of_block HB.out)).trans HB.out
      have HB1 := Lib.hid hbx
      have HNG := Lib.hid (HND.out.trans hnn)
      have HUS := Lib.hid (used_t _ _ _ _ _ (HTD.out.stay hnn))
      rw [HLE.out] at HUS
      clear hne hnf hng hbox hbx hnn hd' HB HND HTD
      go_wp2_with fail
      rw [HAL2.out]
      refine HUS.out.mono ?_
      rintro e w' ⟨rfl, rfl⟩
      have c0 := cell_of_row _ _ 0 _ _ _ HB1.out
      have c1 := cell_of_row _ _ 1 _ _ _ HB1.out
      have c2 := cell_of_row _ _ 2 _ _ _ HB1.out
      clear HAL2
      go_wp2_with fail
      refine (same_27 0 0 none none 0 0 0 [] _ (nil_q44 _) (nil_q44 _)).mono ?_
      rintro e wH ⟨rfl, hnh⟩
      clear c0 c1 c2
      go_wp2
      go_ret
      exact ⟨rfl, (HN.out.trans HNG.out).trans hnh⟩
set_option maxHeartbeats 1000000 in
theorem takes_long (W : World) (a : Option Addr) (n c : Nat) (hs : (400 : Int) < (n : Int)) (k b0 m : Int) : Calls Tryz.prog 4 #[.slice a n c, .int .i64 k, .int .i64 b0, .int .i64 m] W fun e w' => e = .returned (.bool true) ∧ New W w' := by
  have HA := Lib.hid awake44
  go_enter Tryz.func4, Tryz.ntmps4
  go_wp2_with fail
  refine (HA.out _).mono ?_
  rintro e wA ⟨rfl, hn⟩
  go_wp2
  go_ret
  exact ⟨rfl, hn⟩
theorem SeedsTakes_walk (W : World) (a0 : Option Addr) (n0 m0 : Nat) (z0 : List Int) (w0 : IRow .u64 W a0 n0 m0 z0) (r0 : m0 * 8 ≤ 140737488351232) (a1 : Int) (w1 : (Lit.int .i64 a1).wf = true) (a2 : Int) (w2 : (Lit.int .i64 a2).wf = true) (a3 : Int) (w3 : (Lit.int .i64 a3).wf = true) :
    Calls Tryz.prog 4 #[.slice a0 n0 m0, .int .i64 a1, .int .i64 a2, .int .i64 a3] W fun e w' => e = .returned (.bool true) ∧ Below W.heap.size W w' := by
  obtain ⟨l, hl⟩ := w0.words r0
  by_cases hs : (400 : Int) < (n0 : Int)
  · exact takes_long W a0 n0 m0 hs a1 a2 a3
  · by_cases hE : ckS a1 a2 a3 = 0
    · obtain ⟨_, n, rfl, _⟩ := ckS_ok hE
      exact takes_ok W a0 n0 m0 l hl hs a1 a2 n hE
    · exact takes_bad W a0 n0 m0 l hl hs a1 a2 a3 _ rfl (beq_eq_false_iff_ne.2 hE)
end Go.Proofs.YtdjlbpgjbgepdaaGreat
end
section
/- Layer 44: Aim. -/
namespace Go.Proofs.YtdjlbpgjbgepdaaGreat
open Go Go.RowKit Go.Bv
set_option linter.unusedVariables false
set_option maxRecDepth 100000
/-- ranks that a word may have -/
def rkO (c : Nat) (r : BitVec 64) : Prop := c = 0 → r.toNat < eachN PPw
theorem stp_rk {c : Nat} {l : List (BitVec 64)} {k k' : Nat} {d : Drw} (hk : k ≤ l.length) (h : stp c l k = some (d, k')) : rkO c d.2.1 := by
  intro hc
  subst hc
  unfold stp at h
  rw [if_pos rfl] at h
  by_cases hj : fstT l PPw k < l.length
  · rw [if_pos hj] at h
    obtain ⟨h1, h2, h3⟩ := fstT_spec hk hj
    cases h
    exact rnk_ltN _ _ PPw_ne (takO_tak h3)
  · rw [if_neg hj] at h; cases h
theorem sdS_rk {c : Nat} {l : List (BitVec 64)} : ∀ {m ds k}, sdS c l m = some (ds, k) → ∀ i, i < m → rkO c (ds.getD i dz).2.1
  | 0, ds, k, _, i, hi => by omega
  | m + 1, ds, k, h, i, hi => by
    obtain ⟨ds0, k0, d, h0, hl, hs, rfl⟩ := sdS_prev h
    by_cases e : i = m
    · subst e
      rw [← hl, getD_last]
      exact stp_rk (sdS_le h0) hs
    · rw [getD_app _ _ (by omega)]
      exact sdS_rk h0 i (by omega)
theorem word_p44 (v r : BitVec 64) (hv : vld 0 v) (hr : rkO 0 r) (w : World) : Calls Tryz.prog 45 #[.int .u64 (W64 v), .int .u64 (W64 r)] w fun e w' => e = .returned (.int .u64 (W64 (wd 0 v r))) ∧ New w w' := by
  have HC := Lib.hid (fun w => word_l v r PPw PPw_ne hv (hr rfl) w)
  rw [PPw_lit] at HC
  have e0 : wd 0 v r = wrdN v r PPw := rfl
  rw [e0]
  clear hv hr e0
  go_enter Tryz.func45, Tryz.ntmps45
  go_wp2_with fail
  refine (HC.out _).mono ?_
  rintro e w' ⟨rfl, hn⟩
  go_wp2
  go_ret
  exact ⟨rfl, hn⟩
theorem word_o44 (v r : BitVec 64) (w : World) : Calls Tryz.prog 49 #[.int .u64 (W64 v), .int .u64 (W64 r)] w fun e w' => e = .returned (.int .u64 (W64 (wd 1 v r))) ∧ New w w' := by
  have e0 : wd 1 v r = v &&& ~~~1#64 ||| r := rfl
  rw [e0]
  clear e0
  go_enter Tryz.func49, Tryz.ntmps49
  go_wp2
  go_ret
  exact ⟨rfl, New.refl _⟩
theorem word_a44 (v r : BitVec 64) (w : World) : Calls Tryz.prog 51 #[.int .u64 (W64 v), .int .u64 (W64 r)] w fun e w' => e = .returned (.int .u64 (W64 (wd 2 v r))) ∧ New w w' := by
  have e0 : wd 2 v r = v := rfl
  rw [e0]
  clear e0
  go_enter Tryz.func51, Tryz.ntmps51
  go_wp2
  go_ret
  exact ⟨rfl, New.refl _⟩
/-- the row that is aimed at words -/
def aimR (c : Nat) (l ws : List (BitVec 64)) (ds : List Drw) (n : Nat) : List (BitVec 64) := aimS c l (fun i => ws.getD i 0) ds n
theorem cell_eq44 {w w' : World} {b : Nat} (h : w'.heap[b]? = w.heap[b]?) (i : Nat) : w'.cell? ⟨b, i, none⟩ = w.cell? ⟨b, i, none⟩ := by
  unfold World.cell?
  simp only [h]
theorem zb_new (w : World) : (w.alloc (.cells zSd 37)).heap[w.heap.size]? = some (.cells zSd 37 (0, 0)) := heap_alloc_new w _
theorem zb_d (w : World) : (w.drew.alloc (.cells zSd 37)).heap[w.heap.size]? = some (.cells zSd 37 (0, 0)) := heap_alloc_new w.drew _
theorem zb_dd (w : World) : ((w.alloc (.cells zSd 37)).drew).heap[w.heap.size]? = some (.cells zSd 37 (0, 0)) := heap_alloc_new w _
theorem zb_stay {w w' : World} {q : Nat} {o : Obj} (h : w.heap[q]? = some o) (hn : New w w') : w'.heap[q]? = some o := (hn.block _ (lt_of_block h)).trans h
theorem zb_put {W w : World} {q : Nat} (h : New W w) (hq : W.heap.size ≤ q) (x y z : Value) : New W (((w.setCell ⟨q, 0, none⟩ x).setCell ⟨q, 1, none⟩ y).setCell ⟨q, 2, none⟩ z) := ((h.setCell (by exact hq) _).setCell (by exact hq) _).setCell (by exact hq) _
theorem kz_far {w : World} {g len cap q : Nat} {l : List Drw} (h : KRow w (some ⟨g, 0, none⟩) len cap l) (h0 : 0 < len) (hz : w.heap[q]? = some (.cells zSd 37 (0, 0))) (x y z : Value) : KRow (((w.setCell ⟨q, 0, none⟩ x).setCell ⟨q, 1, none⟩ y).setCell ⟨q, 2, none⟩ z) (some ⟨g, 0, none⟩) len cap l := by
  have hne : g ≠ q := by
    intro e
    subst e
    have h1 := (h.cell g 0 rfl 0 h0).1
    have h2 := cell_of_row _ _ 0 _ _ _ hz
    rw [show 0 + 0 * 3 = 0 from rfl, h2] at h1
    cases h1
  exact kfar44 (kfar44 (kfar44 h hne _ _) hne _ _) hne _ _
set_option maxHeartbeats 4000000 in
theorem aim_bad44 (k b : Int) (a : Option Addr) (nl ca : Nat) (aw : Option Addr) (n cw : Nat) (ws : List (BitVec 64)) (E : Int) (hE : chF k b ws = E) (h0 : (E == 0) = false) (w : World) (hw : QRow w aw n cw ws) : Calls Tryz.prog 20 #[.slice a nl ca, .agg (sdc k b aw n cw)] w fun e w' => e = .returned (.tuple #[.slice none 0 0, .int .i64 E]) ∧ New w w' := by
  obtain ⟨w0, hW0, hbox, hn0⟩ := seed_box w k b aw n cw
  have HAL := Lib.hid hW0
  have HC := Lib.hid (check_27 k b aw n cw ws w0 (hw.stay hn0))
  rw [hE] at HC
  have h1 : (E != 0) = true := by rw [bne, h0]; rfl
  have HN0 := Lib.hid hn0
  clear hW0 hw hE hbox hn0
  go_enter Tryz.func20, Tryz.ntmps20
  go_wp2_with fail
  rw [HAL.out]
  refine HC.out.mono ?_
  rintro e w1 ⟨rfl, hn1⟩
  go_wp2
  go_ret2
  exact ⟨rfl, HN0.out.trans hn1⟩
set_option maxHeartbeats 8000000 in
theorem aim_none44 (k b : Int) (a : Option Addr) (nl ca : Nat) (l : List (BitVec 64)) (aw : Option Addr) (n cw : Nat) (ws : List (BitVec 64)) (hch : chF k b ws = 0) (hd : sdS (wkK k) l n = none) (w : World) (hl : QRow w a nl ca l) (hw : QRow w aw n cw ws) : Calls Tryz.prog 20 #[.slice a nl ca, .agg (sdc k b aw n cw)] w fun e w' => e = .returned (.tuple #[.slice none 0 0, .int .i64 7]) ∧ New w w' := by
  obtain ⟨hck, hvl⟩ := ck_of_ch hch
  rw [hw.len_eq] at hck hvl
  obtain ⟨hok, n', en, hn1, hn320, _⟩ := ckS_ok hck
  obtain rfl : n = n' := by omega
  have HNP : Hid (0 < n) := Lib.hid hn1
  obtain ⟨w0, hW0, hbox, hn0⟩ := seed_box w k b aw n cw
  have HAL := Lib.hid hW0
  have HC := Lib.hid (check_27 k b aw n cw ws w0 (hw.stay hn0))
  rw [hch] at HC
  have HB0 := Lib.hid hbox
  have HN0 := Lib.hid hn0
  have HNT := Lib.hid (fun (w' : World) (hn : New w w') => new_t a nl ca l w' (hl.stay hn))
  have HTK : Hid (∀ (W1 w' : World) (tb : Nat), New W1 w' → W1.heap.size ≤ tb → Tape w' tb tb l 0 → Calls Tryz.prog 14 #[.pointer (some ⟨tb, 0, none⟩), .int .i64 k, .int .i64 b, .int .i64 (n : Int)] w' fun e w2 => e = .returned (.tuple #[.agg zSd, .slice none 0 0, .int .i64 7]) ∧ New W1 w2 ∧ (∀ q o, w'.heap[q]? = some o → q ≠ tb → w2.heap[q]? = some o)) := Lib.hid (fun W1 w' tb hn htb ht => (take_44 k b n hck tb tb l w' ht).mono (fun e w2 h => by
    rcases h with ⟨ds', kk', g1, g2, hd', _⟩ | ⟨hd', rfl, hA⟩
    · rw [hd] at hd'; cases hd'
    · have hA2 := hA
      obtain ⟨_, _, hb2, _⟩ := hA2
      exact ⟨rfl, hA.new hn htb htb, fun q o hq hne => (hb2.block q (lt_of_block hq) hne hne).trans hq⟩))
  have HLQ := Lib.hid hl
  have HWQ := Lib.hid hw
  have HOK := Lib.hid hok
  clear hW0 hw hl hch hck hvl hok en hbox hn0 hd
  go_enter Tryz.func20, Tryz.ntmps20
  go_wp2_with fail
  rw [HAL.out]
  refine HC.out.mono ?_
  rintro e w1 ⟨rfl, hn1⟩
  have HB1 := Lib.hid (zb_stay HB0.out hn1)
  have HN1 := Lib.hid (HN0.out.trans hn1)
  clear hn1 HAL HC HB0 HN0
  have SK : Hid (∀ w', New w1 w' → New w1 w' ∧ w'.cell? ⟨w.heap.size, 0, none⟩ = some (.int .i64 k) ∧ w'.cell? ⟨w.heap.size, 1, none⟩ = some (.int .i64 b) ∧ w'.cell? ⟨w.heap.size, 2, none⟩ = some (.slice aw n cw)) := Lib.hid (fun w' hn => ⟨hn, cell_of_row _ _ 0 _ _ _ (zb_stay HB1.out hn), cell_of_row _ _ 1 _ _ _ (zb_stay HB1.out hn), cell_of_row _ _ 2 _ _ _ (zb_stay HB1.out hn)⟩)
  go_wp2_with fail
  obtain ⟨_, ce0, ce1, ce2⟩ := SK.out w1 (New.refl _)
  go_cut [7, 8, 9] (fun p d e wx => ∃ q, p = .pointer (some ⟨q, 0, none⟩) ∧ d = .slice none 0 0 ∧ e = .int .i64 7 ∧ Hid (New w1 wx))
  case first =>
    go_region_held3 (fun w' => New w1 w' ∧ w'.cell? ⟨w.heap.size, 0, none⟩ = some (.int .i64 k) ∧ w'.cell? ⟨w.heap.size, 1, none⟩ = some (.int .i64 b) ∧ w'.cell? ⟨w.heap.size, 2, none⟩ = some (.slice aw n cw))
      ((refine SK.out _ ?_; first | with_reducible assumption | with_reducible exact (New.refl _).drew | with_reducible exact New.drew (by assumption) | with_reducible exact New.alloc (by assumption) _ | with_reducible exact (New.refl _).drew.alloc _ | with_reducible exact ((New.refl _).alloc _).drew | with_reducible exact zb_put (by assumption) (by assumption) _ _ _ | with_reducible exact (zb_put (by assumption) (by assumption) _ _ _).drew))
      (first
      | (go_at_call 13
         refine (HNT.out _ (HN1.out.trans (by first | with_reducible exact (New.refl _).drew | with_reducible exact New.refl _ | with_reducible exact (New.refl _).drew.alloc _ | with_reducible exact ((New.refl _).alloc _).drew))).mono ?_
         rintro e q1 ⟨tb, rfl, htb, htt, hc1⟩
         have HTT := Lib.hid htt
         first
         | (have hg1 : New w1 q1 := by first | with_reducible exact (New.refl w1).drew.trans hc1 | with_reducible exact hc1
            have HTB : Hid (w1.heap.size ≤ tb) := Lib.hid htb)
         | (have hz1 : q1.heap[w1.heap.size]? = some (.cells zSd 37 (0, 0)) := by first | with_reducible exact zb_stay (zb_d w1) hc1 | with_reducible exact zb_stay (zb_dd w1) hc1
            have hg1 : New w1 q1 := by first | with_reducible exact ((New.refl w1).drew.alloc _).trans hc1 | with_reducible exact ((New.refl w1).alloc _).drew.trans hc1
            have HTB : Hid (w1.heap.size ≤ tb ∧ w1.heap.size ≠ tb) := Lib.hid (by simp at htb; omega)
            have HZ1 := Lib.hid hz1
            clear hz1)
         clear hc1 htb htt)
      | (go_at_call 14
         first
         | (refine (HTK.out w1 _ _ (by with_reducible assumption) HTB.out (by with_reducible exact HTT.out)).mono ?_
            rintro e q2 ⟨rfl, hg2, hkp⟩
            have HG2 := Lib.hid hg2)
         | (refine (HTK.out w1 _ _ (by with_reducible assumption) HTB.out.1 (by with_reducible exact HTT.out)).mono ?_
            rintro e q2 ⟨rfl, hg2, hkp⟩
            have hz2 := hkp _ _ HZ1.out HTB.out.2
            have z0 := cell_of_row _ _ 0 _ _ _ hz2
            have z1 := cell_of_row _ _ 1 _ _ _ hz2
            have z2 := cell_of_row _ _ 2 _ _ _ hz2
            have zf := fun i => frozen_of_row _ _ i _ _ hz2
            have hp2 : w1.heap.size ≤ w1.heap.size := Nat.le_refl _
            have HP2 := Lib.hid hp2
            have HZ2 := Lib.hid hz2
            have HG2 := Lib.hid hg2
            clear hz2)
         | (refine (HTK.out w1 _ _ (by with_reducible exact hg1.alloc _) HTB.out (by with_reducible exact HTT.out.stay ((New.refl _).alloc _))).mono ?_
            rintro e q2 ⟨rfl, hg2, hkp⟩
            have hz2 := hkp _ _ (zb_new q1) (by have := HTT.out.lt.1; omega)
            have z0 := cell_of_row _ _ 0 _ _ _ hz2
            have z1 := cell_of_row _ _ 1 _ _ _ hz2
            have z2 := cell_of_row _ _ 2 _ _ _ hz2
            have zf := fun i => frozen_of_row _ _ i _ _ hz2
            have hp2 : w1.heap.size ≤ q1.heap.size := hg1.le
            have HP2 := Lib.hid hp2
            have HZ2 := Lib.hid hz2
            have HG2 := Lib.hid hg2
            clear hz2)
         skip
         clear hkp))
    all_goals
      go_wp2_with fail
      go_meet
      case rel => first
      | exact ⟨_, rfl, rfl, rfl, Lib.hid (zb_put HG2.out HP2.out _ _ _)⟩
      | exact ⟨_, rfl, rfl, rfl, Lib.hid (HG2.out.alloc _)⟩
  case rest =>
    obtain ⟨q, rfl, rfl, rfl, HNC⟩ := hcut
    clear SK ce0 ce1 ce2
    go_wp2
    go_ret2
    exact ⟨rfl, HN1.out.trans HNC.out⟩
set_option maxHeartbeats 8000000 in
theorem aim_some044 (k b : Int) (hwk : wkK k = 0) (a : Option Addr) (nl ca : Nat) (l : List (BitVec 64)) (aw : Option Addr) (n cw : Nat) (ws : List (BitVec 64)) (hch : chF k b ws = 0) (ds : List Drw) (kk : Nat) (hd : sdS (wkK k) l n = some (ds, kk)) (w : World) (hl : QRow w a nl ca l) (hw : QRow w aw n cw ws) : Calls Tryz.prog 20 #[.slice a nl ca, .agg (sdc k b aw n cw)] w fun e w' => (∃ v c', e = .returned (.tuple #[.slice v nl c', .int .i64 0]) ∧ QRow w' v nl c' (aimR (wkK k) l ws ds n)) ∧ New w w' := by
  obtain ⟨hck, hvl⟩ := ck_of_ch hch
  rw [hw.len_eq] at hck hvl
  obtain ⟨hok, n', en, hn1, hn320, _⟩ := ckS_ok hck
  obtain rfl : n = n' := by omega
  have HNP : Hid (0 < n) := Lib.hid hn1
  obtain ⟨w0, hW0, hbox, hn0⟩ := seed_box w k b aw n cw
  have HAL := Lib.hid hW0
  have HC := Lib.hid (check_27 k b aw n cw ws w0 (hw.stay hn0))
  rw [hch] at HC
  have HB0 := Lib.hid hbox
  have HN0 := Lib.hid hn0
  have HNT := Lib.hid (fun (w' : World) (hn : New w w') => new_t a nl ca l w' (hl.stay hn))
  have HTK : Hid (∀ (W1 w' : World) (tb : Nat), New W1 w' → W1.heap.size ≤ tb → Tape w' tb tb l 0 → Calls Tryz.prog 14 #[.pointer (some ⟨tb, 0, none⟩), .int .i64 k, .int .i64 b, .int .i64 (n : Int)] w' fun e w2 => (∃ g1 g2, e = .returned (.tuple #[.agg (sdc k b (some ⟨g1, 0, none⟩) n n), .slice (some ⟨g2, 0, none⟩) n n, .int .i64 0]) ∧ KRow w2 (some ⟨g2, 0, none⟩) n n ds) ∧ New W1 w2 ∧ (∀ q o, w'.heap[q]? = some o → q ≠ tb → w2.heap[q]? = some o)) := Lib.hid (fun W1 w' tb hn htb ht => (take_44 k b n hck tb tb l w' ht).mono (fun e w2 h => by
    rcases h with ⟨ds', kk', g1, g2, hd', rfl, hq, hk, hA, _⟩ | ⟨hd', _⟩
    · rw [hd] at hd'; cases hd'
      have hA2 := hA
      obtain ⟨_, _, hb2, _⟩ := hA2
      exact ⟨⟨g1, g2, rfl, hk⟩, hA.new hn htb htb, fun q o hq hne => (hb2.block q (lt_of_block hq) hne hne).trans hq⟩
    · rw [hd] at hd'; cases hd'))
  have HLQ := Lib.hid hl
  have HWQ := Lib.hid hw
  have HOK := Lib.hid hok
  have HVL := Lib.hid hvl
  have HEA := Lib.hid (sdS_each hd)
  have HRK := Lib.hid (sdS_rk hd)
  have HLD := Lib.hid (sdS_len hd)
  have HKL := Lib.hid (sdS_le hd)
  have hF : wdV (wkK k) = .func (Fn.func 45) #[] #[] := by rw [hwk]; rfl
  have hFW : ∀ v r, vld (wkK k) v → rkO (wkK k) r → ∀ w, Calls Tryz.prog 45 #[.int .u64 (W64 v), .int .u64 (W64 r)] w fun e w' => e = .returned (.int .u64 (W64 (wd (wkK k) v r))) ∧ New w w' := by rw [hwk]; exact fun v r hv hr w => word_p44 v r hv hr w
  have HFW := Lib.hid hFW
  have HF := Lib.hid hF
  clear hwk hF hFW
  clear hW0 hw hl hch hck hvl hok en hbox hn0 hd
  go_enter Tryz.func20, Tryz.ntmps20
  go_wp2_with fail
  rw [HAL.out]
  refine HC.out.mono ?_
  rintro e w1 ⟨rfl, hn1⟩
  have HB1 := Lib.hid (zb_stay HB0.out hn1)
  have HN1 := Lib.hid (HN0.out.trans hn1)
  clear hn1 HAL HC HB0 HN0
  have SK : Hid (∀ w', New w1 w' → New w1 w' ∧ w'.cell? ⟨w.heap.size, 0, none⟩ = some (.int .i64 k) ∧ w'.cell? ⟨w.heap.size, 1, none⟩ = some (.int .i64 b) ∧ w'.cell? ⟨w.heap.size, 2, none⟩ = some (.slice aw n cw)) := Lib.hid (fun w' hn => ⟨hn, cell_of_row _ _ 0 _ _ _ (zb_stay HB1.out hn), cell_of_row _ _ 1 _ _ _ (zb_stay HB1.out hn), cell_of_row _ _ 2 _ _ _ (zb_stay HB1.out hn)⟩)
  go_wp2_with fail
  obtain ⟨_, ce0, ce1, ce2⟩ := SK.out w1 (New.refl _)
  go_cut [7, 8, 9] (fun p d e wx => ∃ q ad, p = .pointer (some ⟨q, 0, none⟩) ∧ d = .slice ad n n ∧ e = .int .i64 0 ∧ Hid (KRow wx ad n n ds) ∧ Hid (New w1 wx))
  case first =>
    go_region_held3 (fun w' => New w1 w' ∧ w'.cell? ⟨w.heap.size, 0, none⟩ = some (.int .i64 k) ∧ w'.cell? ⟨w.heap.size, 1, none⟩ = some (.int .i64 b) ∧ w'.cell? ⟨w.heap.size, 2, none⟩ = some (.slice aw n cw))
      ((refine SK.out _ ?_; first | with_reducible assumption | with_reducible exact (New.refl _).drew | with_reducible exact New.drew (by assumption) | with_reducible exact New.alloc (by assumption) _ | with_reducible exact (New.refl _).drew.alloc _ | with_reducible exact ((New.refl _).alloc _).drew | with_reducible exact zb_put (by assumption) (by assumption) _ _ _ | with_reducible exact (zb_put (by assumption) (by assumption) _ _ _).drew))
      (first
      | (go_at_call 13
         refine (HNT.out _ (HN1.out.trans (by first | with_reducible exact (New.refl _).drew | with_reducible exact New.refl _ | with_reducible exact (New.refl _).drew.alloc _ | with_reducible exact ((New.refl _).alloc _).drew))).mono ?_
         rintro e q1 ⟨tb, rfl, htb, htt, hc1⟩
         have HTT := Lib.hid htt
         first
         | (have hg1 : New w1 q1 := by first | with_reducible exact (New.refl w1).drew.trans hc1 | with_reducible exact hc1
            have HTB : Hid (w1.heap.size ≤ tb) := Lib.hid htb)
         | (have hz1 : q1.heap[w1.heap.size]? = some (.cells zSd 37 (0, 0)) := by first | with_reducible exact zb_stay (zb_d w1) hc1 | with_reducible exact zb_stay (zb_dd w1) hc1
            have hg1 : New w1 q1 := by first | with_reducible exact ((New.refl w1).drew.alloc _).trans hc1 | with_reducible exact ((New.refl w1).alloc _).drew.trans hc1
            have HTB : Hid (w1.heap.size ≤ tb ∧ w1.heap.size ≠ tb) := Lib.hid (by simp at htb; omega)
            have HZ1 := Lib.hid hz1
            clear hz1)
         clear hc1 htb htt)
      | (go_at_call 14
         first
         | (refine (HTK.out w1 _ _ (by with_reducible assumption) HTB.out (by with_reducible exact HTT.out)).mono ?_
            rintro e q2 ⟨⟨g1, g2, rfl, hk⟩, hg2, hkp⟩
            have HG2 := Lib.hid hg2)
         | (refine (HTK.out w1 _ _ (by with_reducible assumption) HTB.out.1 (by with_reducible exact HTT.out)).mono ?_
            rintro e q2 ⟨⟨g1, g2, rfl, hk⟩, hg2, hkp⟩
            have hz2 := hkp _ _ HZ1.out HTB.out.2
            have z0 := cell_of_row _ _ 0 _ _ _ hz2
            have z1 := cell_of_row _ _ 1 _ _ _ hz2
            have z2 := cell_of_row _ _ 2 _ _ _ hz2
            have zf := fun i => frozen_of_row _ _ i _ _ hz2
            have hp2 : w1.heap.size ≤ w1.heap.size := Nat.le_refl _
            have HP2 := Lib.hid hp2
            have HZ2 := Lib.hid hz2
            have HG2 := Lib.hid hg2
            clear hz2)
         | (refine (HTK.out w1 _ _ (by with_reducible exact hg1.alloc _) HTB.out (by with_reducible exact HTT.out.stay ((New.refl _).alloc _))).mono ?_
            rintro e q2 ⟨⟨g1, g2, rfl, hk⟩, hg2, hkp⟩
            have hz2 := hkp _ _ (zb_new q1) (by have := HTT.out.lt.1; omega)
            have z0 := cell_of_row _ _ 0 _ _ _ hz2
            have z1 := cell_of_row _ _ 1 _ _ _ hz2
            have z2 := cell_of_row _ _ 2 _ _ _ hz2
            have zf := fun i => frozen_of_row _ _ i _ _ hz2
            have hp2 : w1.heap.size ≤ q1.heap.size := hg1.le
            have HP2 := Lib.hid hp2
            have HZ2 := Lib.hid hz2
            have HG2 := Lib.hid hg2
            clear hz2)
         have HK := Lib.hid hk
         clear hk
         clear hkp))
    all_goals
      go_wp2_with fail
      go_meet
      case rel => first
      | exact ⟨_, _, rfl, rfl, rfl, Lib.hid (kz_far HK.out HNP.out HZ2.out _ _ _), Lib.hid (zb_put HG2.out HP2.out _ _ _)⟩
      | exact ⟨_, _, rfl, rfl, rfl, Lib.hid (HK.out.stay ((New.refl _).alloc _)), Lib.hid (HG2.out.alloc _)⟩
  case rest =>
    obtain ⟨q9, ad, rfl, rfl, rfl, HKD, HNC⟩ := hcut
    obtain ⟨_, cd0, cd1, cd2⟩ := SK.out wc HNC.out
    have hG : ∃ (G : Nat) (cap : Nat → Array Value), ∀ p, tkV (wkK k) p = .func (Fn.func G) #[] (cap p) := by
      unfold tkV
      by_cases h : wkK k = 0
      · exact ⟨_, fun _ => _, fun p => by rw [if_pos h]⟩
      · exact ⟨_, fun p => _, fun p => by rw [if_neg h]⟩
    obtain ⟨G, cap, hG⟩ := hG
    have HG := Lib.hid hG
    clear ce0 ce1 ce2 SK HTK HNT hG
    go_wp2_with fail
    refine (way_44 k HOK.out _).mono ?_
    rintro e w2 ⟨⟨p, rfl, _⟩, hn2⟩
    rw [HG.out, HF.out]
    generalize cap p = cp
    generalize lmW k = lm
    have HB2 := Lib.hid (zb_stay HB1.out (HNC.out.trans hn2))
    have HK2 := Lib.hid (HKD.out.stay hn2)
    have HN2 := Lib.hid ((HN1.out.trans HNC.out).trans hn2)
    clear cd0 cd1 cd2 hn2 HB1 HKD HN1 HNC HG HF HOK
    obtain ⟨w3, hW3⟩ : ∃ z, w2.alloc (.cells #[.int .u64 (W64 lm), .func (Fn.func G) #[] cp, .func (Fn.func 45) #[] #[]] 57) = z := ⟨_, rfl⟩
    have HAL3 := Lib.hid hW3
    have hwy := heap_alloc_new w2 (.cells #[.int .u64 (W64 lm), .func (Fn.func G) #[] cp, .func (Fn.func 45) #[] #[]] 57)
    have hn3 : New w2 w3 := by rw [← hW3]; exact (New.refl _).alloc _
    rw [hW3] at hwy
    have HWY := Lib.hid hwy
    have HB3 := Lib.hid (zb_stay HB2.out hn3)
    have HK3 := Lib.hid (HK2.out.stay hn3)
    have HN3 := Lib.hid (HN2.out.trans hn3)
    have HCL := Lib.hid (clone_q a nl ca l w3 (HLQ.out.stay HN3.out))
    clear hW3 hwy hn3 HB2 HK2 HN2
    go_wp2_with fail
    rw [HAL3.out]
    refine HCL.out.mono ?_
    rintro e w4 ⟨v, rfl, how, hn4⟩
    obtain ⟨yz, hyz⟩ : ∃ z, w2.heap.size = z := ⟨_, rfl⟩
    rw [hyz] at HWY ⊢
    have HO4 := Lib.hid how
    have HN4 := Lib.hid hn4
    have HML := Lib.hid HLQ.out.most
    have HLL := Lib.hid HLQ.out.len_eq
    have HQ3 := Lib.hid (HWQ.out.stay HN3.out)
    have HSZ3 : Hid (w.heap.size < w3.heap.size ∧ yz < w3.heap.size ∧ w.heap.size ≤ w3.heap.size) := Lib.hid ⟨lt_of_block HB3.out, lt_of_block HWY.out, HN3.out.le⟩
    have HKM := Lib.hid HK3.out.most
    clear how hn4 HCL HAL3 hyz HLQ HWQ
    go_wp2_with fail
    go_loopw [13, 48] (fun av iv wr => ∃ (q : Nat) (z : Int), q ≤ n ∧ iv = .int .i64 (q : Int) ∧ av = .int .i64 z ∧ Hid (z = (usS ds q : Int) - 1) ∧ wr.ownsRow w3.heap.size 23 1 v nl ((aimS (wkK k) l (fun i => ws.getD i 0) ds q).map fun x => .int .u64 (W64 x)) ∧ New w3 wr) (fun _ iv _ => n - (intOf iv).toNat)
    case atStart => exact ⟨0, _, Nat.zero_le _, rfl, rfl, Lib.hid rfl, HO4.out, HN4.out⟩
    case round =>
      obtain ⟨q, z, hq, rfl, rfl, HZ, hown, hnew⟩ := hrel
      obtain ⟨wq, hwq⟩ : ∃ z, z = wr := ⟨_, rfl⟩
      rw [← hwq] at hown hnew ⊢
      clear hwq HO4 HN4
      by_cases hlt : (q : Int) < (n : Int)
      · have hq0 : (0 : Int) ≤ (q : Int) := by omega
        obtain ⟨b1, o1, rfl, h1⟩ := (HK3.out.stay hnew).addr (by omega)
        obtain ⟨p0, p1, p2⟩ := h1 q (by omega)
        clear h1
        obtain ⟨b3, o3, rfl, h3⟩ := (HQ3.out.stay hnew).addr (by omega)
        have c3 := h3 q (by omega)
        clear h3
        obtain ⟨_, hr2, hr3, _⟩ := HEA.out q (by omega)
        have HCW := Lib.hid (HFW.out _ _ (HVL.out q (by omega)) (HRK.out q (by omega)))
        have hkl := HKL.out
        have hll := HLL.out
        have hml := HML.out
        have hus : usS ds (q + 1) = usS ds q + (ds.getD q dz).2.2 := rfl
        have hz := HZ.out
        obtain ⟨A, hA⟩ : ∃ A, usS ds (q + 1) - 1 = A := ⟨_, rfl⟩
        have hSS : aimS (wkK k) l (fun i => ws.getD i 0) ds (q + 1) = (aimS (wkK k) l (fun i => ws.getD i 0) ds q).set A (wd (wkK k) (ws.getD q 0) (ds.getD q dz).2.1) := by
          rw [← hA]; rfl
        have HSS := Lib.hid hSS
        have hzA : z + ((ds.getD q dz).2.2 : Int) = (A : Int) := by omega
        have HZA : Hid ((A : Int) = (usS ds (q + 1) : Int) - 1) := Lib.hid (by omega)
        have hAn : (A : Int) < (nl : Int) := by omega
        have hA0 : (0 : Int) ≤ (A : Int) := by omega
        have hAn2 : A < nl := by omega
        have hAM : (A : Int) ≤ 17592186044416 := by omega
        obtain ⟨g, cap2, rfl, hg, hgs, hgc, hgc2⟩ := ow_shape hown (by omega)
        have HGG := Lib.hid hg
        clear hr2 hr3 hkl hll hml hus hz hA hSS
        generalize wd (wkK k) (ws.getD q 0) (ds.getD q dz).2.1 = wdv at HCW HSS
        obtain ⟨⟨x, y, u⟩, hd⟩ : ∃ d, ds.getD q dz = d := ⟨_, rfl⟩
        rw [hd] at p0 p1 p2 hzA HCW
        clear hd
        simp only at p0 p1 p2 hzA HCW
        obtain ⟨s, hs⟩ : ∃ s, ws.getD q 0 = s := ⟨_, rfl⟩
        rw [hs] at c3 HCW
        clear hs
        have hown2 := ow_new hown ((New.refl wq).alloc (.cells #[.int .u64 (W64 x), .int .u64 (W64 y), .int .i64 (u : Int)] 53))
        have hnew2 := hnew.alloc (.cells #[.int .u64 (W64 x), .int .u64 (W64 y), .int .i64 (u : Int)] 53)
        obtain ⟨WB, hWB⟩ : ∃ z, wq.alloc (.cells #[.int .u64 (W64 x), .int .u64 (W64 y), .int .i64 (u : Int)] 53) = z := ⟨_, rfl⟩
        have HWB := Lib.hid hWB
        have hb1 := heap_alloc_new wq (.cells #[.int .u64 (W64 x), .int .u64 (W64 y), .int .i64 (u : Int)] 53)
        have hszB : wq.heap.size < (wq.alloc (.cells #[.int .u64 (W64 x), .int .u64 (W64 y), .int .i64 (u : Int)] 53)).heap.size := by simp
        rw [hWB] at hown2 hnew2 hb1 hszB
        have d1 : WB.cell? ⟨wq.heap.size, 1, none⟩ = some (.int .u64 (W64 y)) := cell_of_row _ _ 1 _ _ _ hb1
        have d2 : WB.cell? ⟨wq.heap.size, 2, none⟩ = some (.int .i64 (u : Int)) := cell_of_row _ _ 2 _ _ _ hb1
        have e3 : WB.cell? ⟨b3, o3 + q, none⟩ = some (.int .u64 (W64 s)) := by rw [← hWB]; exact Lib.cell?_alloc_some _ c3
        have e2 : WB.cell? ⟨w.heap.size, 2, none⟩ = some (.slice (some ⟨b3, o3, none⟩) n cw) := cell_of_row _ _ 2 _ _ _ (zb_stay HB3.out hnew2)
        have e4 : WB.cell? ⟨yz, 2, none⟩ = some (.func (Fn.func 45) #[] #[]) := cell_of_row _ _ 2 _ _ _ (zb_stay HWY.out hnew2)
        have hb3 : b3 < w3.heap.size := HQ3.out.old _ rfl (by omega)
        clear hb1 hown hnew c3 hWB
        go_wp2_with fail
        rw [HWB.out]
        obtain ⟨p, hp⟩ : ∃ p, wq.heap.size = p := ⟨_, rfl⟩
        rw [hp] at d1 d2 hgs hszB ⊢
        have hNE : g ≠ p ∧ w.heap.size ≠ g ∧ yz ≠ g ∧ b3 ≠ g ∧ w.heap.size < WB.heap.size ∧ yz < WB.heap.size ∧ b3 < WB.heap.size := by
          have := HSZ3.out; have := hnew2.le; omega
        have SK : Hid (∀ w', Kb44 WB g w' → Kb44 WB g w' ∧ w'.cell? ⟨p, 1, none⟩ = some (.int .u64 (W64 y)) ∧ w'.cell? ⟨w.heap.size, 2, none⟩ = some (.slice (some ⟨b3, o3, none⟩) n cw) ∧ w'.cell? ⟨yz, 2, none⟩ = some (.func (Fn.func 45) #[] #[]) ∧ w'.cell? ⟨b3, o3 + q, none⟩ = some (.int .u64 (W64 s))) := Lib.hid (fun w' hn => ⟨hn, (cell_eq44 (hn.2 _ hszB hNE.1.symm) _).trans d1, (cell_eq44 (hn.2 _ hNE.2.2.2.2.1 hNE.2.1) _).trans e2, (cell_eq44 (hn.2 _ hNE.2.2.2.2.2.1 hNE.2.2.1) _).trans e4, (cell_eq44 (hn.2 _ hNE.2.2.2.2.2.2 hNE.2.2.2.1) _).trans e3⟩)
        have HO2 := Lib.hid hown2
        have HN2 := Lib.hid hnew2
        have hkb : Kb44 WB g WB := Kb44.refl _ _
        clear hown2 hnew2 d2 p0 p1 p2 HWB hp hNE
        go_region_held3 (fun w' => Kb44 WB g w' ∧ w'.cell? ⟨p, 1, none⟩ = some (.int .u64 (W64 y)) ∧ w'.cell? ⟨w.heap.size, 2, none⟩ = some (.slice (some ⟨b3, o3, none⟩) n cw) ∧ w'.cell? ⟨yz, 2, none⟩ = some (.func (Fn.func 45) #[] #[]) ∧ w'.cell? ⟨b3, o3 + q, none⟩ = some (.int .u64 (W64 s)))
          ((refine SK.out _ ?_; repeat (first | with_reducible assumption | with_reducible exact Kb44.refl _ _ | with_reducible refine Kb44.drew ?_ | with_reducible refine Kb44.set ?_ _ _)))
          (first
          | (go_at_call 45
             refine (HCW.out _).mono ?_
             rintro e q1 ⟨rfl, hc1⟩
             have hg1 : New WB q1 := by first | with_reducible exact hc1 | with_reducible exact (New.refl WB).drew.trans hc1
             have hw1 : Kb44 WB g q1 := (Kb44.refl _ _).new hg1
             obtain ⟨f1, f2⟩ := ow_q (ow_new HO2.out hg1) hAn2
             have HO3 := Lib.hid (ow_set (ow_new HO2.out hg1) A (.int .u64 (W64 wdv)))
             have HN3' := Lib.hid ((HN2.out.trans hg1).setCell (show w3.heap.size ≤ (⟨g, A, none⟩ : Addr).block from HGG.out) (.int .u64 (W64 wdv)))
             clear hc1 hg1))
        all_goals
          clear SK d1 e2 e3 e4
          go_wp2
          exact ⟨⟨q + 1, _, by omega, by go_num, rfl, HZA.out, by rw [HSS.out, List.map_set]; exact HO3.out, HN3'.out⟩, by simp [intOf]; omega⟩
      · obtain rfl : q = n := by omega
        obtain ⟨a2, c2, rfl, hq2⟩ := QRow.of_owns hown (by have := HML.out; omega)
        have HQ := Lib.hid hq2
        have HNN := Lib.hid (HN3.out.trans hnew)
        clear hown hnew hq2
        go_wp2
        go_ret2
        exact ⟨⟨_, _, rfl, HQ.out⟩, HNN.out⟩
set_option maxHeartbeats 8000000 in
theorem aim_some144 (k b : Int) (hwk : wkK k = 1) (a : Option Addr) (nl ca : Nat) (l : List (BitVec 64)) (aw : Option Addr) (n cw : Nat) (ws : List (BitVec 64)) (hch : chF k b ws = 0) (ds : List Drw) (kk : Nat) (hd : sdS (wkK k) l n = some (ds, kk)) (w : World) (hl : QRow w a nl ca l) (hw : QRow w aw n cw ws) : Calls Tryz.prog 20 #[.slice a nl ca, .agg (sdc k b aw n cw)] w fun e w' => (∃ v c', e = .returned (.tuple #[.slice v nl c', .int .i64 0]) ∧ QRow w' v nl c' (aimR (wkK k) l ws ds n)) ∧ New w w' := by
  obtain ⟨hck, hvl⟩ := ck_of_ch hch
  rw [hw.len_eq] at hck hvl
  obtain ⟨hok, n', en, hn1, hn320, _⟩ := ckS_ok hck
  obtain rfl : n = n' := by omega
  have HNP : Hid (0 < n) := Lib.hid hn1
  obtain ⟨w0, hW0, hbox, hn0⟩ := seed_box w k b aw n cw
  have HAL := Lib.hid hW0
  have HC := Lib.hid (check_27 k b aw n cw ws w0 (hw.stay hn0))
  rw [hch] at HC
  have HB0 := Lib.hid hbox
  have HN0 := Lib.hid hn0
  have HNT := Lib.hid (fun (w' : World) (hn : New w w') => new_t a nl ca l w' (hl.stay hn))
  have HTK : Hid (∀ (W1 w' : World) (tb : Nat), New W1 w' → W1.heap.size ≤ tb → Tape w' tb tb l 0 → Calls Tryz.prog 14 #[.pointer (some ⟨tb, 0, none⟩), .int .i64 k, .int .i64 b, .int .i64 (n : Int)] w' fun e w2 => (∃ g1 g2, e = .returned (.tuple #[.agg (sdc k b (some ⟨g1, 0, none⟩) n n), .slice (some ⟨g2, 0, none⟩) n n, .int .i64 0]) ∧ KRow w2 (some ⟨g2, 0, none⟩) n n ds) ∧ New W1 w2 ∧ (∀ q o, w'.heap[q]? = some o → q ≠ tb → w2.heap[q]? = some o)) := Lib.hid (fun W1 w' tb hn htb ht => (take_44 k b n hck tb tb l w' ht).mono (fun e w2 h => by
    rcases h with ⟨ds', kk', g1, g2, hd', rfl, hq, hk, hA, _⟩ | ⟨hd', _⟩
    · rw [hd] at hd'; cases hd'
      have hA2 := hA
      obtain ⟨_, _, hb2, _⟩ := hA2
      exact ⟨⟨g1, g2, rfl, hk⟩, hA.new hn htb htb, fun q o hq hne => (hb2.block q (lt_of_block hq) hne hne).trans hq⟩
    · rw [hd] at hd'; cases hd'))
  have HLQ := Lib.hid hl
  have HWQ := Lib.hid hw
  have HOK := Lib.hid hok
  have HVL := Lib.hid hvl
  have HEA := Lib.hid (sdS_each hd)
  have HRK := Lib.hid (sdS_rk hd)
  have HLD := Lib.hid (sdS_len hd)
  have HKL := Lib.hid (sdS_le hd)
  have hF : wdV (wkK k) = .func (Fn.func 49) #[] #[] := by rw [hwk]; rfl
  have hFW : ∀ v r, vld (wkK k) v → rkO (wkK k) r → ∀ w, Calls Tryz.prog 49 #[.int .u64 (W64 v), .int .u64 (W64 r)] w fun e w' => e = .returned (.int .u64 (W64 (wd (wkK k) v r))) ∧ New w w' := by rw [hwk]; exact fun v r _ _ w => word_o44 v r w
  have HFW := Lib.hid hFW
  have HF := Lib.hid hF
  clear hwk hF hFW
  clear hW0 hw hl hch hck hvl hok en hbox hn0 hd
  go_enter Tryz.func20, Tryz.ntmps20
  go_wp2_with fail
  rw [HAL.out]
  refine HC.out.mono ?_
  rintro e w1 ⟨rfl, hn1⟩
  have HB1 := Lib.hid (zb_stay HB0.out hn1)
  have HN1 := Lib.hid (HN0.out.trans hn1)
  clear hn1 HAL HC HB0 HN0
  have SK : Hid (∀ w', New w1 w' → New w1 w' ∧ w'.cell? ⟨w.heap.size, 0, none⟩ = some (.int .i64 k) ∧ w'.cell? ⟨w.heap.size, 1, none⟩ = some (.int .i64 b) ∧ w'.cell? ⟨w.heap.size, 2, none⟩ = some (.slice aw n cw)) := Lib.hid (fun w' hn => ⟨hn, cell_of_row _ _ 0 _ _ _ (zb_stay HB1.out hn), cell_of_row _ _ 1 _ _ _ (zb_stay HB1.out hn), cell_of_row _ _ 2 _ _ _ (zb_stay HB1.out hn)⟩)
  go_wp2_with fail
  obtain ⟨_, ce0, ce1, ce2⟩ := SK.out w1 (New.refl _)
  go_cut [7, 8, 9] (fun p d e wx => ∃ q ad, p = .pointer (some ⟨q, 0, none⟩) ∧ d = .slice ad n n ∧ e = .int .i64 0 ∧ Hid (KRow wx ad n n ds) ∧ Hid (New w1 wx))
  case first =>
    go_region_held3 (fun w' => New w1 w' ∧ w'.cell? ⟨w.heap.size, 0, none⟩ = some (.int .i64 k) ∧ w'.cell? ⟨w.heap.size, 1, none⟩ = some (.int .i64 b) ∧ w'.cell? ⟨w.heap.size, 2, none⟩ = some (.slice aw n cw))
      ((refine SK.out _ ?_; first | with_reducible assumption | with_reducible exact (New.refl _).drew | with_reducible exact New.drew (by assumption) | with_reducible exact New.alloc (by assumption) _ | with_reducible exact (New.refl _).drew.alloc _ | with_reducible exact ((New.refl _).alloc _).drew | with_reducible exact zb_put (by assumption) (by assumption) _ _ _ | with_reducible exact (zb_put (by assumption) (by assumption) _ _ _).drew))
      (first
      | (go_at_call 13
         refine (HNT.out _ (HN1.out.trans (by first | with_reducible exact (New.refl _).drew | with_reducible exact New.refl _ | with_reducible exact (New.refl _).drew.alloc _ | with_reducible exact ((New.refl _).alloc _).drew))).mono ?_
         rintro e q1 ⟨tb, rfl, htb, htt, hc1⟩
         have HTT := Lib.hid htt
         first
         | (have hg1 : New w1 q1 := by first | with_reducible exact (New.refl w1).drew.trans hc1 | with_reducible exact hc1
            have HTB : Hid (w1.heap.size ≤ tb) := Lib.hid htb)
         | (have hz1 : q1.heap[w1.heap.size]? = some (.cells zSd 37 (0, 0)) := by first | with_reducible exact zb_stay (zb_d w1) hc1 | with_reducible exact zb_stay (zb_dd w1) hc1
            have hg1 : New w1 q1 := by first | with_reducible exact ((New.refl w1).drew.alloc _).trans hc1 | with_reducible exact ((New.refl w1).alloc _).drew.trans hc1
            have HTB : Hid (w1.heap.size ≤ tb ∧ w1.heap.size ≠ tb) := Lib.hid (by simp at htb; omega)
            have HZ1 := Lib.hid hz1
            clear hz1)
         clear hc1 htb htt)
      | (go_at_call 14
         first
         | (refine (HTK.out w1 _ _ (by with_reducible assumption) HTB.out (by with_reducible exact HTT.out)).mono ?_
            rintro e q2 ⟨⟨g1, g2, rfl, hk⟩, hg2, hkp⟩
            have HG2 := Lib.hid hg2)
         | (refine (HTK.out w1 _ _ (by with_reducible assumption) HTB.out.1 (by with_reducible exact HTT.out)).mono ?_
            rintro e q2 ⟨⟨g1, g2, rfl, hk⟩, hg2, hkp⟩
            have hz2 := hkp _ _ HZ1.out HTB.out.2
            have z0 := cell_of_row _ _ 0 _ _ _ hz2
            have z1 := cell_of_row _ _ 1 _ _ _ hz2
            have z2 := cell_of_row _ _ 2 _ _ _ hz2
            have zf := fun i => frozen_of_row _ _ i _ _ hz2
            have hp2 : w1.heap.size ≤ w1.heap.size := Nat.le_refl _
            have HP2 := Lib.hid hp2
            have HZ2 := Lib.hid hz2
            have HG2 := Lib.hid hg2
            clear hz2)
         | (refine (HTK.out w1 _ _ (by with_reducible exact hg1.alloc _) HTB.out (by with_reducible exact HTT.out.stay ((New.refl _).alloc _))).mono ?_
            rintro e q2 ⟨⟨g1, g2, rfl, hk⟩, hg2, hkp⟩
            have hz2 := hkp _ _ (zb_new q1) (by have := HTT.out.lt.1; omega)
            have z0 := cell_of_row _ _ 0 _ _ _ hz2
            have z1 := cell_of_row _ _ 1 _ _ _ hz2
            have z2 := cell_of_row _ _ 2 _ _ _ hz2
            have zf := fun i => frozen_of_row _ _ i _ _ hz2
            have hp2 : w1.heap.size ≤ q1.heap.size := hg1.le
            have HP2 := Lib.hid hp2
            have HZ2 := Lib.hid hz2
            have HG2 := Lib.hid hg2
            clear hz2)
         have HK := Lib.hid hk
         clear hk
         clear hkp))
    all_goals
      go_wp2_with fail
      go_meet
      case rel => first
      | exact ⟨_, _, rfl, rfl, rfl, Lib.hid (kz_far HK.out HNP.out HZ2.out _ _ _), Lib.hid (zb_put HG2.out HP2.out _ _ _)⟩
      | exact ⟨_, _, rfl, rfl, rfl, Lib.hid (HK.out.stay ((New.refl _).alloc _)), Lib.hid (HG2.out.alloc _)⟩
  case rest =>
    obtain ⟨q9, ad, rfl, rfl, rfl, HKD, HNC⟩ := hcut
    obtain ⟨_, cd0, cd1, cd2⟩ := SK.out wc HNC.out
    have hG : ∃ (G : Nat) (cap : Nat → Array Value), ∀ p, tkV (wkK k) p = .func (Fn.func G) #[] (cap p) := by
      unfold tkV
      by_cases h : wkK k = 0
      · exact ⟨_, fun _ => _, fun p => by rw [if_pos h]⟩
      · exact ⟨_, fun p => _, fun p => by rw [if_neg h]⟩
    obtain ⟨G, cap, hG⟩ := hG
    have HG := Lib.hid hG
    clear ce0 ce1 ce2 SK HTK HNT hG
    go_wp2_with fail
    refine (way_44 k HOK.out _).mono ?_
    rintro e w2 ⟨⟨p, rfl, _⟩, hn2⟩
    rw [HG.out, HF.out]
    generalize cap p = cp
    generalize lmW k = lm
    have HB2 := Lib.hid (zb_stay HB1.out (HNC.out.trans hn2))
    have HK2 := Lib.hid (HKD.out.stay hn2)
    have HN2 := Lib.hid ((HN1.out.trans HNC.out).trans hn2)
    clear cd0 cd1 cd2 hn2 HB1 HKD HN1 HNC HG HF HOK
    obtain ⟨w3, hW3⟩ : ∃ z, w2.alloc (.cells #[.int .u64 (W64 lm), .func (Fn.func G) #[] cp, .func (Fn.func 49) #[] #[]] 57) = z := ⟨_, rfl⟩
    have HAL3 := Lib.hid hW3
    have hwy := heap_alloc_new w2 (.cells #[.int .u64 (W64 lm), .func (Fn.func G) #[] cp, .func (Fn.func 49) #[] #[]] 57)
    have hn3 : New w2 w3 := by rw [← hW3]; exact (New.refl _).alloc _
    rw [hW3] at hwy
    have HWY := Lib.hid hwy
    have HB3 := Lib.hid (zb_stay HB2.out hn3)
    have HK3 := Lib.hid (HK2.out.stay hn3)
    have HN3 := Lib.hid (HN2.out.trans hn3)
    have HCL := Lib.hid (clone_q a nl ca l w3 (HLQ.out.stay HN3.out))
    clear hW3 hwy hn3 HB2 HK2 HN2
    go_wp2_with fail
    rw [HAL3.out]
    refine HCL.out.mono ?_
    rintro e w4 ⟨v, rfl, how, hn4⟩
    obtain ⟨yz, hyz⟩ : ∃ z, w2.heap.size = z := ⟨_, rfl⟩
    rw [hyz] at HWY ⊢
    have HO4 := Lib.hid how
    have HN4 := Lib.hid hn4
    have HML := Lib.hid HLQ.out.most
    have HLL := Lib.hid HLQ.out.len_eq
    have HQ3 := Lib.hid (HWQ.out.stay HN3.out)
    have HSZ3 : Hid (w.heap.size < w3.heap.size ∧ yz < w3.heap.size ∧ w.heap.size ≤ w3.heap.size) := Lib.hid ⟨lt_of_block HB3.out, lt_of_block HWY.out, HN3.out.le⟩
    have HKM := Lib.hid HK3.out.most
    clear how hn4 HCL HAL3 hyz HLQ HWQ
    go_wp2_with fail
    go_loopw [13, 48] (fun av iv wr => ∃ (q : Nat) (z : Int), q ≤ n ∧ iv = .int .i64 (q : Int) ∧ av = .int .i64 z ∧ Hid (z = (usS ds q : Int) - 1) ∧ wr.ownsRow w3.heap.size 23 1 v nl ((aimS (wkK k) l (fun i => ws.getD i 0) ds q).map fun x => .int .u64 (W64 x)) ∧ New w3 wr) (fun _ iv _ => n - (intOf iv).toNat)
    case atStart => exact ⟨0, _, Nat.zero_le _, rfl, rfl, Lib.hid rfl, HO4.out, HN4.out⟩
    case round =>
      obtain ⟨q, z, hq, rfl, rfl, HZ, hown, hnew⟩ := hrel
      obtain ⟨wq, hwq⟩ : ∃ z, z = wr := ⟨_, rfl⟩
      rw [← hwq] at hown hnew ⊢
      clear hwq HO4 HN4
      by_cases hlt : (q : Int) < (n : Int)
      · have hq0 : (0 : Int) ≤ (q : Int) := by omega
        obtain ⟨b1, o1, rfl, h1⟩ := (HK3.out.stay hnew).addr (by omega)
        obtain ⟨p0, p1, p2⟩ := h1 q (by omega)
        clear h1
        obtain ⟨b3, o3, rfl, h3⟩ := (HQ3.out.stay hnew).addr (by omega)
        have c3 := h3 q (by omega)
        clear h3
        obtain ⟨_, hr2, hr3, _⟩ := HEA.out q (by omega)
        have HCW := Lib.hid (HFW.out _ _ (HVL.out q (by omega)) (HRK.out q (by omega)))
        have hkl := HKL.out
        have hll := HLL.out
        have hml := HML.out
        have hus : usS ds (q + 1) = usS ds q + (ds.getD q dz).2.2 := rfl
        have hz := HZ.out
        obtain ⟨A, hA⟩ : ∃ A, usS ds (q + 1) - 1 = A := ⟨_, rfl⟩
        have hSS : aimS (wkK k) l (fun i => ws.getD i 0) ds (q + 1) = (aimS (wkK k) l (fun i => ws.getD i 0) ds q).set A (wd (wkK k) (ws.getD q 0) (ds.getD q dz).2.1) := by
          rw [← hA]; rfl
        have HSS := Lib.hid hSS
        have hzA : z + ((ds.getD q dz).2.2 : Int) = (A : Int) := by omega
        have HZA : Hid ((A : Int) = (usS ds (q + 1) : Int) - 1) := Lib.hid (by omega)
        have hAn : (A : Int) < (nl : Int) := by omega
        have hA0 : (0 : Int) ≤ (A : Int) := by omega
        have hAn2 : A < nl := by omega
        have hAM : (A : Int) ≤ 17592186044416 := by omega
        obtain ⟨g, cap2, rfl, hg, hgs, hgc, hgc2⟩ := ow_shape hown (by omega)
        have HGG := Lib.hid hg
        clear hr2 hr3 hkl hll hml hus hz hA hSS
        generalize wd (wkK k) (ws.getD q 0) (ds.getD q dz).2.1 = wdv at HCW HSS
        obtain ⟨⟨x, y, u⟩, hd⟩ : ∃ d, ds.getD q dz = d := ⟨_, rfl⟩
        rw [hd] at p0 p1 p2 hzA HCW
        clear hd
        simp only at p0 p1 p2 hzA HCW
        obtain ⟨s, hs⟩ : ∃ s, ws.getD q 0 = s := ⟨_, rfl⟩
        rw [hs] at c3 HCW
        clear hs
        have hown2 := ow_new hown ((New.refl wq).alloc (.cells #[.int .u64 (W64 x), .int .u64 (W64 y), .int .i64 (u : Int)] 53))
        have hnew2 := hnew.alloc (.cells #[.int .u64 (W64 x), .int .u64 (W64 y), .int .i64 (u : Int)] 53)
        obtain ⟨WB, hWB⟩ : ∃ z, wq.alloc (.cells #[.int .u64 (W64 x), .int .u64 (W64 y), .int .i64 (u : Int)] 53) = z := ⟨_, rfl⟩
        have HWB := Lib.hid hWB
        have hb1 := heap_alloc_new wq (.cells #[.int .u64 (W64 x), .int .u64 (W64 y), .int .i64 (u : Int)] 53)
        have hszB : wq.heap.size < (wq.alloc (.cells #[.int .u64 (W64 x), .int .u64 (W64 y), .int .i64 (u : Int)] 53)).heap.size := by simp
        rw [hWB] at hown2 hnew2 hb1 hszB
        have d1 : WB.cell? ⟨wq.heap.size, 1, none⟩ = some (.int .u64 (W64 y)) := cell_of_row _ _ 1 _ _ _ hb1
        have d2 : WB.cell? ⟨wq.heap.size, 2, none⟩ = some (.int .i64 (u : Int)) := cell_of_row _ _ 2 _ _ _ hb1
        have e3 : WB.cell? ⟨b3, o3 + q, none⟩ = some (.int .u64 (W64 s)) := by rw [← hWB]; exact Lib.cell?_alloc_some _ c3
        have e2 : WB.cell? ⟨w.heap.size, 2, none⟩ = some (.slice (some ⟨b3, o3, none⟩) n cw) := cell_of_row _ _ 2 _ _ _ (zb_stay HB3.out hnew2)
        have e4 : WB.cell? ⟨yz, 2, none⟩ = some (.func (Fn.func 49) #[] #[]) := cell_of_row _ _ 2 _ _ _ (zb_stay HWY.out hnew2)
        have hb3 : b3 < w3.heap.size := HQ3.out.old _ rfl (by omega)
        clear hb1 hown hnew c3 hWB
        go_wp2_with fail
        rw [HWB.out]
        obtain ⟨p, hp⟩ : ∃ p, wq.heap.size = p := ⟨_, rfl⟩
        rw [hp] at d1 d2 hgs hszB ⊢
        have hNE : g ≠ p ∧ w.heap.size ≠ g ∧ yz ≠ g ∧ b3 ≠ g ∧ w.heap.size < WB.heap.size ∧ yz < WB.heap.size ∧ b3 < WB.heap.size := by
          have := HSZ3.out; have := hnew2.le; omega
        have SK : Hid (∀ w', Kb44 WB g w' → Kb44 WB g w' ∧ w'.cell? ⟨p, 1, none⟩ = some (.int .u64 (W64 y)) ∧ w'.cell? ⟨w.heap.size, 2, none⟩ = some (.slice (some ⟨b3, o3, none⟩) n cw) ∧ w'.cell? ⟨yz, 2, none⟩ = some (.func (Fn.func 49) #[] #[]) ∧ w'.cell? ⟨b3, o3 + q, none⟩ = some (.int .u64 (W64 s))) := Lib.hid (fun w' hn => ⟨hn, (cell_eq44 (hn.2 _ hszB hNE.1.symm) _).trans d1, (cell_eq44 (hn.2 _ hNE.2.2.2.2.1 hNE.2.1) _).trans e2, (cell_eq44 (hn.2 _ hNE.2.2.2.2.2.1 hNE.2.2.1) _).trans e4, (cell_eq44 (hn.2 _ hNE.2.2.2.2.2.2 hNE.2.2.2.1) _).trans e3⟩)
        have HO2 := Lib.hid hown2
        have HN2 := Lib.hid hnew2
        have hkb : Kb44 WB g WB := Kb44.refl _ _
        clear hown2 hnew2 d2 p0 p1 p2 HWB hp hNE
        go_region_held3 (fun w' => Kb44 WB g w' ∧ w'.cell? ⟨p, 1, none⟩ = some (.int .u64 (W64 y)) ∧ w'.cell? ⟨w.heap.size, 2, none⟩ = some (.slice (some ⟨b3, o3, none⟩) n cw) ∧ w'.cell? ⟨yz, 2, none⟩ = some (.func (Fn.func 49) #[] #[]) ∧ w'.cell? ⟨b3, o3 + q, none⟩ = some (.int .u64 (W64 s)))
          ((refine SK.out _ ?_; repeat (first | with_reducible assumption | with_reducible exact Kb44.refl _ _ | with_reducible refine Kb44.drew ?_ | with_reducible refine Kb44.set ?_ _ _)))
          (first
          | (go_at_call 49
             refine (HCW.out _).mono ?_
             rintro e q1 ⟨rfl, hc1⟩
             have hg1 : New WB q1 := by first | with_reducible exact hc1 | with_reducible exact (New.refl WB).drew.trans hc1
             have hw1 : Kb44 WB g q1 := (Kb44.refl _ _).new hg1
             obtain ⟨f1, f2⟩ := ow_q (ow_new HO2.out hg1) hAn2
             have HO3 := Lib.hid (ow_set (ow_new HO2.out hg1) A (.int .u64 (W64 wdv)))
             have HN3' := Lib.hid ((HN2.out.trans hg1).setCell (show w3.heap.size ≤ (⟨g, A, none⟩ : Addr).block from HGG.out) (.int .u64 (W64 wdv)))
             clear hc1 hg1))
        all_goals
          clear SK d1 e2 e3 e4
          go_wp2
          exact ⟨⟨q + 1, _, by omega, by go_num, rfl, HZA.out, by rw [HSS.out, List.map_set]; exact HO3.out, HN3'.out⟩, by simp [intOf]; omega⟩
      · obtain rfl : q = n := by omega
        obtain ⟨a2, c2, rfl, hq2⟩ := QRow.of_owns hown (by have := HML.out; omega)
        have HQ := Lib.hid hq2
        have HNN := Lib.hid (HN3.out.trans hnew)
        clear hown hnew hq2
        go_wp2
        go_ret2
        exact ⟨⟨_, _, rfl, HQ.out⟩, HNN.out⟩
set_option maxHeartbeats 8000000 in
theorem aim_some244 (k b : Int) (hwk : wkK k = 2) (a : Option Addr) (nl ca : Nat) (l : List (BitVec 64)) (aw : Option Addr) (n cw : Nat) (ws : List (BitVec 64)) (hch : chF k b ws = 0) (ds : List Drw) (kk : Nat) (hd : sdS (wkK k) l n = some (ds, kk)) (w : World) (hl : QRow w a nl ca l) (hw : QRow w aw n cw ws) : Calls Tryz.prog 20 #[.slice a nl ca, .agg (sdc k b aw n cw)] w fun e w' => (∃ v c', e = .returned (.tuple #[.slice v nl c', .int .i64 0]) ∧ QRow w' v nl c' (aimR (wkK k) l ws ds n)) ∧ New w w' := by
  obtain ⟨hck, hvl⟩ := ck_of_ch hch
  rw [hw.len_eq] at hck hvl
  obtain ⟨hok, n', en, hn1, hn320, _⟩ := ckS_ok hck
  obtain rfl : n = n' := by omega
  have HNP : Hid (0 < n) := Lib.hid hn1
  obtain ⟨w0, hW0, hbox, hn0⟩ := seed_box w k b aw n cw
  have HAL := Lib.hid hW0
  have HC := Lib.hid (check_27 k b aw n cw ws w0 (hw.stay hn0))
  rw [hch] at HC
  have HB0 := Lib.hid hbox
  have HN0 := Lib.hid hn0
  have HNT := Lib.hid (fun (w' : World) (hn : New w w') => new_t a nl ca l w' (hl.stay hn))
  have HTK : Hid (∀ (W1 w' : World) (tb : Nat), New W1 w' → W1.heap.size ≤ tb → Tape w' tb tb l 0 → Calls Tryz.prog 14 #[.pointer (some ⟨tb, 0, none⟩), .int .i64 k, .int .i64 b, .int .i64 (n : Int)] w' fun e w2 => (∃ g1 g2, e = .returned (.tuple #[.agg (sdc k b (some ⟨g1, 0, none⟩) n n), .slice (some ⟨g2, 0, none⟩) n n, .int .i64 0]) ∧ KRow w2 (some ⟨g2, 0, none⟩) n n ds) ∧ New W1 w2 ∧ (∀ q o, w'.heap[q]? = some o → q ≠ tb → w2.heap[q]? = some o)) := Lib.hid (fun W1 w' tb hn htb ht => (take_44 k b n hck tb tb l w' ht).mono (fun e w2 h => by
    rcases h with ⟨ds', kk', g1, g2, hd', rfl, hq, hk, hA, _⟩ | ⟨hd', _⟩
    · rw [hd] at hd'; cases hd'
      have hA2 := hA
      obtain ⟨_, _, hb2, _⟩ := hA2
      exact ⟨⟨g1, g2, rfl, hk⟩, hA.new hn htb htb, fun q o hq hne => (hb2.block q (lt_of_block hq) hne hne).trans hq⟩
    · rw [hd] at hd'; cases hd'))
  have HLQ := Lib.hid hl
  have HWQ := Lib.hid hw
  have HOK := Lib.hid hok
  have HVL := Lib.hid hvl
  have HEA := Lib.hid (sdS_each hd)
  have HRK := Lib.hid (sdS_rk hd)
  have HLD := Lib.hid (sdS_len hd)
  have HKL := Lib.hid (sdS_le hd)
  have hF : wdV (wkK k) = .func (Fn.func 51) #[] #[] := by rw [hwk]; rfl
  have hFW : ∀ v r, vld (wkK k) v → rkO (wkK k) r → ∀ w, Calls Tryz.prog 51 #[.int .u64 (W64 v), .int .u64 (W64 r)] w fun e w' => e = .returned (.int .u64 (W64 (wd (wkK k) v r))) ∧ New w w' := by rw [hwk]; exact fun v r _ _ w => word_a44 v r w
  have HFW := Lib.hid hFW
  have HF := Lib.hid hF
  clear hwk hF hFW
  clear hW0 hw hl hch hck hvl hok en hbox hn0 hd
  go_enter Tryz.func20, Tryz.ntmps20
  go_wp2_with fail
  rw [HAL.out]
  refine HC.out.mono ?_
  rintro e w1 ⟨rfl, hn1⟩
  have HB1 := Lib.hid (zb_stay HB0.out hn1)
  have HN1 := Lib.hid (HN0.out.trans hn1)
  clear hn1 HAL HC HB0 HN0
  have SK : Hid (∀ w', New w1 w' → New w1 w' ∧ w'.cell? ⟨w.heap.size, 0, none⟩ = some (.int .i64 k) ∧ w'.cell? ⟨w.heap.size, 1, none⟩ = some (.int .i64 b) ∧ w'.cell? ⟨w.heap.size, 2, none⟩ = some (.slice aw n cw)) := Lib.hid (fun w' hn => ⟨hn, cell_of_row _ _ 0 _ _ _ (zb_stay HB1.out hn), cell_of_row _ _ 1 _ _ _ (zb_stay HB1.out hn), cell_of_row _ _ 2 _ _ _ (zb_stay HB1.out hn)⟩)
  go_wp2_with fail
  obtain ⟨_, ce0, ce1, ce2⟩ := SK.out w1 (New.refl _)
  go_cut [7, 8, 9] (fun p d e wx => ∃ q ad, p = .pointer (some ⟨q, 0, none⟩) ∧ d = .slice ad n n ∧ e = .int .i64 0 ∧ Hid (KRow wx ad n n ds) ∧ Hid (New w1 wx))
  case first =>
    go_region_held3 (fun w' => New w1 w' ∧ w'.cell? ⟨w.heap.size, 0, none⟩ = some (.int .i64 k) ∧ w'.cell? ⟨w.heap.size, 1, none⟩ = some (.int .i64 b) ∧ w'.cell? ⟨w.heap.size, 2, none⟩ = some (.slice aw n cw))
      ((refine SK.out _ ?_; first | with_reducible assumption | with_reducible exact (New.refl _).drew | with_reducible exact New.drew (by assumption) | with_reducible exact New.alloc (by assumption) _ | with_reducible exact (New.refl _).drew.alloc _ | with_reducible exact ((New.refl _).alloc _).drew | with_reducible exact zb_put (by assumption) (by assumption) _ _ _ | with_reducible exact (zb_put (by assumption) (by assumption) _ _ _).drew))
      (first
      | (go_at_call 13
         refine (HNT.out _ (HN1.out.trans (by first | with_reducible exact (New.refl _).drew | with_reducible exact New.refl _ | with_reducible exact (New.refl _).drew.alloc _ | with_reducible exact ((New.refl _).alloc _).drew))).mono ?_
         rintro e q1 ⟨tb, rfl, htb, htt, hc1⟩
         have HTT := Lib.hid htt
         first
         | (have hg1 : New w1 q1 := by first | with_reducible exact (New.refl w1).drew.trans hc1 | with_reducible exact hc1
            have HTB : Hid (w1.heap.size ≤ tb) := Lib.hid htb)
         | (have hz1 : q1.heap[w1.heap.size]? = some (.cells zSd 37 (0, 0)) := by first | with_reducible exact zb_stay (zb_d w1) hc1 | with_reducible exact zb_stay (zb_dd w1) hc1
            have hg1 : New w1 q1 := by first | with_reducible exact ((New.refl w1).drew.alloc _).trans hc1 | with_reducible exact ((New.refl w1).alloc _).drew.trans hc1
            have HTB : Hid (w1.heap.size ≤ tb ∧ w1.heap.size ≠ tb) := Lib.hid (by simp at htb; omega)
            have HZ1 := Lib.hid hz1
            clear hz1)
         clear hc1 htb htt)
      | (go_at_call 14
         first
         | (refine (HTK.out w1 _ _ (by with_reducible assumption) HTB.out (by with_reducible exact HTT.out)).mono ?_
            rintro e q2 ⟨⟨g1, g2, rfl, hk⟩, hg2, hkp⟩
            have HG2 := Lib.hid hg2)
         | (refine (HTK.out w1 _ _ (by with_reducible assumption) HTB.out.1 (by with_reducible exact HTT.out)).mono ?_
            rintro e q2 ⟨⟨g1, g2, rfl, hk⟩, hg2, hkp⟩
            have hz2 := hkp _ _ HZ1.out HTB.out.2
            have z0 := cell_of_row _ _ 0 _ _ _ hz2
            have z1 := cell_of_row _ _ 1 _ _ _ hz2
            have z2 := cell_of_row _ _ 2 _ _ _ hz2
            have zf := fun i => frozen_of_row _ _ i _ _ hz2
            have hp2 : w1.heap.size ≤ w1.heap.size := Nat.le_refl _
            have HP2 := Lib.hid hp2
            have HZ2 := Lib.hid hz2
            have HG2 := Lib.hid hg2
            clear hz2)
         | (refine (HTK.out w1 _ _ (by with_reducible exact hg1.alloc _) HTB.out (by with_reducible exact HTT.out.stay ((New.refl _).alloc _))).mono ?_
            rintro e q2 ⟨⟨g1, g2, rfl, hk⟩, hg2, hkp⟩
            have hz2 := hkp _ _ (zb_new q1) (by have := HTT.out.lt.1; omega)
            have z0 := cell_of_row _ _ 0 _ _ _ hz2
            have z1 := cell_of_row _ _ 1 _ _ _ hz2
            have z2 := cell_of_row _ _ 2 _ _ _ hz2
            have zf := fun i => frozen_of_row _ _ i _ _ hz2
            have hp2 : w1.heap.size ≤ q1.heap.size := hg1.le
            have HP2 := Lib.hid hp2
            have HZ2 := Lib.hid hz2
            have HG2 := Lib.hid hg2
            clear hz2)
         have HK := Lib.hid hk
         clear hk
         clear hkp))
    all_goals
      go_wp2_with fail
      go_meet
      case rel => first
      | exact ⟨_, _, rfl, rfl, rfl, Lib.hid (kz_far HK.out HNP.out HZ2.out _ _ _), Lib.hid (zb_put HG2.out HP2.out _ _ _)⟩
      | exact ⟨_, _, rfl, rfl, rfl, Lib.hid (HK.out.stay ((New.refl _).alloc _)), Lib.hid (HG2.out.alloc _)⟩
  case rest =>
    obtain ⟨q9, ad, rfl, rfl, rfl, HKD, HNC⟩ := hcut
    obtain ⟨_, cd0, cd1, cd2⟩ := SK.out wc HNC.out
    have hG : ∃ (G : Nat) (cap : Nat → Array Value), ∀ p, tkV (wkK k) p = .func (Fn.func G) #[] (cap p) := by
      unfold tkV
      by_cases h : wkK k = 0
      · exact ⟨_, fun _ => _, fun p => by rw [if_pos h]⟩
      · exact ⟨_, fun p => _, fun p => by rw [if_neg h]⟩
    obtain ⟨G, cap, hG⟩ := hG
    have HG := Lib.hid hG
    clear ce0 ce1 ce2 SK HTK HNT hG
    go_wp2_with fail
    refine (way_44 k HOK.out _).mono ?_
    rintro e w2 ⟨⟨p, rfl, _⟩, hn2⟩
    rw [HG.out, HF.out]
    generalize cap p = cp
    generalize lmW k = lm
    have HB2 := Lib.hid (zb_stay HB1.out (HNC.out.trans hn2))
    have HK2 := Lib.hid (HKD.out.stay hn2)
    have HN2 := Lib.hid ((HN1.out.trans HNC.out).trans hn2)
    clear cd0 cd1 cd2 hn2 HB1 HKD HN1 HNC HG HF HOK
    obtain ⟨w3, hW3⟩ : ∃ z, w2.alloc (.cells #[.int .u64 (W64 lm), .func (Fn.func G) #[] cp, .func (Fn.func 51) #[] #[]] 57) = z := ⟨_, rfl⟩
    have HAL3 := Lib.hid hW3
    have hwy := heap_alloc_new w2 (.cells #[.int .u64 (W64 lm), .func (Fn.func G) #[] cp, .func (Fn.func 51) #[] #[]] 57)
    have hn3 : New w2 w3 := by rw [← hW3]; exact (New.refl _).alloc _
    rw [hW3] at hwy
    have HWY := Lib.hid hwy
    have HB3 := Lib.hid (zb_stay HB2.out hn3)
    have HK3 := Lib.hid (HK2.out.stay hn3)
    have HN3 := Lib.hid (HN2.out.trans hn3)
    have HCL := Lib.hid (clone_q a nl ca l w3 (HLQ.out.stay HN3.out))
    clear hW3 hwy hn3 HB2 HK2 HN2
    go_wp2_with fail
    rw [HAL3.out]
    refine HCL.out.mono ?_
    rintro e w4 ⟨v, rfl, how, hn4⟩
    obtain ⟨yz, hyz⟩ : ∃ z, w2.heap.size = z := ⟨_, rfl⟩
    rw [hyz] at HWY ⊢
    have HO4 := Lib.hid how
    have HN4 := Lib.hid hn4
    have HML := Lib.hid HLQ.out.most
    have HLL := Lib.hid HLQ.out.len_eq
    have HQ3 := Lib.hid (HWQ.out.stay HN3.out)
    have HSZ3 : Hid (w.heap.size < w3.heap.size ∧ yz < w3.heap.size ∧ w.heap.size ≤ w3.heap.size) := Lib.hid ⟨lt_of_block HB3.out, lt_of_block HWY.out, HN3.out.le⟩
    have HKM := Lib.hid HK3.out.most
    clear how hn4 HCL HAL3 hyz HLQ HWQ
    go_wp2_with fail
    go_loopw [13, 48] (fun av iv wr => ∃ (q : Nat) (z : Int), q ≤ n ∧ iv = .int .i64 (q : Int) ∧ av = .int .i64 z ∧ Hid (z = (usS ds q : Int) - 1) ∧ wr.ownsRow w3.heap.size 23 1 v nl ((aimS (wkK k) l (fun i => ws.getD i 0) ds q).map fun x => .int .u64 (W64 x)) ∧ New w3 wr) (fun _ iv _ => n - (intOf iv).toNat)
    case atStart => exact ⟨0, _, Nat.zero_le _, rfl, rfl, Lib.hid rfl, HO4.out, HN4.out⟩
    case round =>
      obtain ⟨q, z, hq, rfl, rfl, HZ, hown, hnew⟩ := hrel
      obtain ⟨wq, hwq⟩ : ∃ z, z = wr := ⟨_, rfl⟩
      rw [← hwq] at hown hnew ⊢
      clear hwq HO4 HN4
      by_cases hlt : (q : Int) < (n : Int)
      · have hq0 : (0 : Int) ≤ (q : Int) := by omega
        obtain ⟨b1, o1, rfl, h1⟩ := (HK3.out.stay hnew).addr (by omega)
        obtain ⟨p0, p1, p2⟩ := h1 q (by omega)
        clear h1
        obtain ⟨b3, o3, rfl, h3⟩ := (HQ3.out.stay hnew).addr (by omega)
        have c3 := h3 q (by omega)
        clear h3
        obtain ⟨_, hr2, hr3, _⟩ := HEA.out q (by omega)
        have HCW := Lib.hid (HFW.out _ _ (HVL.out q (by omega)) (HRK.out q (by omega)))
        have hkl := HKL.out
        have hll := HLL.out
        have hml := HML.out
        have hus : usS ds (q + 1) = usS ds q + (ds.getD q dz).2.2 := rfl
        have hz := HZ.out
        obtain ⟨A, hA⟩ : ∃ A, usS ds (q + 1) - 1 = A := ⟨_, rfl⟩
        have hSS : aimS (wkK k) l (fun i => ws.getD i 0) ds (q + 1) = (aimS (wkK k) l (fun i => ws.getD i 0) ds q).set A (wd (wkK k) (ws.getD q 0) (ds.getD q dz).2.1) := by
          rw [← hA]; rfl
        have HSS := Lib.hid hSS
        have hzA : z + ((ds.getD q dz).2.2 : Int) = (A : Int) := by omega
        have HZA : Hid ((A : Int) = (usS ds (q + 1) : Int) - 1) := Lib.hid (by omega)
        have hAn : (A : Int) < (nl : Int) := by omega
        have hA0 : (0 : Int) ≤ (A : Int) := by omega
        have hAn2 : A < nl := by omega
        have hAM : (A : Int) ≤ 17592186044416 := by omega
        obtain ⟨g, cap2, rfl, hg, hgs, hgc, hgc2⟩ := ow_shape hown (by omega)
        have HGG := Lib.hid hg
        clear hr2 hr3 hkl hll hml hus hz hA hSS
        generalize wd (wkK k) (ws.getD q 0) (ds.getD q dz).2.1 = wdv at HCW HSS
        obtain ⟨⟨x, y, u⟩, hd⟩ : ∃ d, ds.getD q dz = d := ⟨_, rfl⟩
        rw [hd] at p0 p1 p2 hzA HCW
        clear hd
        simp only at p0 p1 p2 hzA HCW
        obtain ⟨s, hs⟩ : ∃ s, ws.getD q 0 = s := ⟨_, rfl⟩
        rw [hs] at c3 HCW
        clear hs
        have hown2 := ow_new hown ((New.refl wq).alloc (.cells #[.int .u64 (W64 x), .int .u64 (W64 y), .int .i64 (u : Int)] 53))
        have hnew2 := hnew.alloc (.cells #[.int .u64 (W64 x), .int .u64 (W64 y), .int .i64 (u : Int)] 53)
        obtain ⟨WB, hWB⟩ : ∃ z, wq.alloc (.cells #[.int .u64 (W64 x), .int .u64 (W64 y), .int .i64 (u : Int)] 53) = z := ⟨_, rfl⟩
        have HWB := Lib.hid hWB
        have hb1 := heap_alloc_new wq (.cells #[.int .u64 (W64 x), .int .u64 (W64 y), .int .i64 (u : Int)] 53)
        have hszB : wq.heap.size < (wq.alloc (.cells #[.int .u64 (W64 x), .int .u64 (W64 y), .int .i64 (u : Int)] 53)).heap.size := by simp
        rw [hWB] at hown2 hnew2 hb1 hszB
        have d1 : WB.cell? ⟨wq.heap.size, 1, none⟩ = some (.int .u64 (W64 y)) := cell_of_row _ _ 1 _ _ _ hb1
        have d2 : WB.cell? ⟨wq.heap.size, 2, none⟩ = some (.int .i64 (u : Int)) := cell_of_row _ _ 2 _ _ _ hb1
        have e3 : WB.cell? ⟨b3, o3 + q, none⟩ = some (.int .u64 (W64 s)) := by rw [← hWB]; exact Lib.cell?_alloc_some _ c3
        have e2 : WB.cell? ⟨w.heap.size, 2, none⟩ = some (.slice (some ⟨b3, o3, none⟩) n cw) := cell_of_row _ _ 2 _ _ _ (zb_stay HB3.out hnew2)
        have e4 : WB.cell? ⟨yz, 2, none⟩ = some (.func (Fn.func 51) #[] #[]) := cell_of_row _ _ 2 _ _ _ (zb_stay HWY.out hnew2)
        have hb3 : b3 < w3.heap.size := HQ3.out.old _ rfl (by omega)
        clear hb1 hown hnew c3 hWB
        go_wp2_with fail
        rw [HWB.out]
        obtain ⟨p, hp⟩ : ∃ p, wq.heap.size = p := ⟨_, rfl⟩
        rw [hp] at d1 d2 hgs hszB ⊢
        have hNE : g ≠ p ∧ w.heap.size ≠ g ∧ yz ≠ g ∧ b3 ≠ g ∧ w.heap.size < WB.heap.size ∧ yz < WB.heap.size ∧ b3 < WB.heap.size := by
          have := HSZ3.out; have := hnew2.le; omega
        have SK : Hid (∀ w', Kb44 WB g w' → Kb44 WB g w' ∧ w'.cell? ⟨p, 1, none⟩ = some (.int .u64 (W64 y)) ∧ w'.cell? ⟨w.heap.size, 2, none⟩ = some (.slice (some ⟨b3, o3, none⟩) n cw) ∧ w'.cell? ⟨yz, 2, none⟩ = some (.func (Fn.func 51) #[] #[]) ∧ w'.cell? ⟨b3, o3 + q, none⟩ = some (.int .u64 (W64 s))) := Lib.hid (fun w' hn => ⟨hn, (cell_eq44 (hn.2 _ hszB hNE.1.symm) _).trans d1, (cell_eq44 (hn.2 _ hNE.2.2.2.2.1 hNE.2.1) _).trans e2, (cell_eq44 (hn.2 _ hNE.2.2.2.2.2.1 hNE.2.2.1) _).trans e4, (cell_eq44 (hn.2 _ hNE.2.2.2.2.2.2 hNE.2.2.2.1) _).trans e3⟩)
        have HO2 := Lib.hid hown2
        have HN2 := Lib.hid hnew2
        have hkb : Kb44 WB g WB := Kb44.refl _ _
        clear hown2 hnew2 d2 p0 p1 p2 HWB hp hNE
        go_region_held3 (fun w' => Kb44 WB g w' ∧ w'.cell? ⟨p, 1, none⟩ = some (.int .u64 (W64 y)) ∧ w'.cell? ⟨w.heap.size, 2, none⟩ = some (.slice (some ⟨b3, o3, none⟩) n cw) ∧ w'.cell? ⟨yz, 2, none⟩ = some (.func (Fn.func 51) #[] #[]) ∧ w'.cell? ⟨b3, o3 + q, none⟩ = some (.int .u64 (W64 s)))
          ((refine SK.out _ ?_; repeat (first | with_reducible assumption | with_reducible exact Kb44.refl _ _ | with_reducible refine Kb44.drew ?_ | with_reducible refine Kb44.set ?_ _ _)))
          (first
          | (go_at_call 51
             refine (HCW.out _).mono ?_
             rintro e q1 ⟨rfl, hc1⟩
             have hg1 : New WB q1 := by first | with_reducible exact hc1 | with_reducible exact (New.refl WB).drew.trans hc1
             have hw1 : Kb44 WB g q1 := (Kb44.refl _ _).new hg1
             obtain ⟨f1, f2⟩ := ow_q (ow_new HO2.out hg1) hAn2
             have HO3 := Lib.hid (ow_set (ow_new HO2.out hg1) A (.int .u64 (W64 wdv)))
             have HN3' := Lib.hid ((HN2.out.trans hg1).setCell (show w3.heap.size ≤ (⟨g, A, none⟩ : Addr).block from HGG.out) (.int .u64 (W64 wdv)))
             clear hc1 hg1))
        all_goals
          clear SK d1 e2 e3 e4
          go_wp2
          exact ⟨⟨q + 1, _, by omega, by go_num, rfl, HZA.out, by rw [HSS.out, List.map_set]; exact HO3.out, HN3'.out⟩, by simp [intOf]; omega⟩
      · obtain rfl : q = n := by omega
        obtain ⟨a2, c2, rfl, hq2⟩ := QRow.of_owns hown (by have := HML.out; omega)
        have HQ := Lib.hid hq2
        have HNN := Lib.hid (HN3.out.trans hnew)
        clear hown hnew hq2
        go_wp2
        go_ret2
        exact ⟨⟨_, _, rfl, HQ.out⟩, HNN.out⟩
end Go.Proofs.YtdjlbpgjbgepdaaGreat
end
section
/- A seed that came in: its datum opened. -/
namespace Go.Proofs.YtdjlbpgjbgepdaaGreat
open Go Go.RowKit Go.Bv Go.Deep Go.ChangeShapes
set_option linter.unusedVariables false
set_option maxRecDepth 100000
section
variable {H : Type} {enc : TypeId × Value → H} {P : Program} {w : World} {base : Nat} {held : Bool}
theorem rowS_of {t e : TypeId} {k : IntKind} {fuel : Nat} {cs : List Value} {x : DataW H × List MemPlace} (ht : P.underlying t = some (.slice e)) (he : P.underlying e = some (.int k)) (hc : P.cellsOf e = 1) (hb : P.bytesOf e = 8)
    (h : DataW.trod enc P w base (fun _ => true) held fuel t cs = some x) (hs : ∀ n ∈ x.1.weights P t, n ≤ reachBytes) : ∃ a n m z, cs = [.slice a n m] ∧ IRow k w a n m z ∧ m * 8 ≤ 140737488351232 := by
  rcases open_ints ht he hc h with ⟨hcs, _⟩ | ⟨y, l, c, zs, hcs, _, hl, hm, hz, hx, hcell, hwz⟩
  · exact ⟨none, 0, 0, [], hcs, .inl ⟨rfl, rfl, rfl, rfl⟩, by omega⟩
  · have hz' : zs.length = c := by simpa using hz
    subst hx
    have hr := hs (((zs.take l).length + (zs.drop l).length) * 8) (by
      simp only [DataW.weights, ht, lits, List.length_map, hb]
      exact List.mem_cons_self)
    simp only [List.length_take, List.length_drop, reachBytes] at hr
    exact ⟨some y, l, c, zs, hcs, .inr ⟨_, rfl, hl, hz', hcell, hwz⟩, by omega⟩
theorem open_seed {t ea : TypeId} {f0 f1 f2 : Field} {fuel : Nat} {cs : List Value} {x : DataW H × List MemPlace} (ht : P.underlying t = some (.struct #[f0, f1, f2])) (h0 : P.underlying f0.type = some (.int .i64)) (h1 : P.underlying f1.type = some (.int .i64)) (h2 : P.underlying f2.type = some (.slice ea))
    (ha : P.underlying ea = some (.int .u64)) (q0 : f0.offset = 0) (q1 : f1.offset = 1) (q2 : f2.offset = 2) (c0 : P.cellsOf f0.type = 1) (c1 : P.cellsOf f1.type = 1) (c2 : P.cellsOf f2.type = 1) (ct : P.cellsOf t = 3)
    (ca : P.cellsOf ea = 1) (ba : P.bytesOf ea = 8) (h : DataW.trod enc P w base (fun _ => true) held fuel t cs = some x) (hs : ∀ n ∈ x.1.weights P t, n ≤ reachBytes) :
    ∃ k b a n m l, cs = [.int .i64 k, .int .i64 b, .slice a n m] ∧ (-9223372036854775808 ≤ k ∧ k ≤ 9223372036854775807) ∧ (-9223372036854775808 ≤ b ∧ b ≤ 9223372036854775807) ∧ QRow w a n m l := by
  obtain ⟨y0, y1, y2, n, rfl, hl, g0, g1, g2⟩ := trod_struct3 ht h
  rw [ct] at hl
  match cs, hl with
  | [v0, v1, v2], _ =>
    rw [q0, c0] at g0
    rw [q1, c1] at g1
    rw [q2, c2] at g2
    have hw : ∀ n ∈ y0.1.weights P f0.type ++ (y1.1.weights P f1.type ++ (y2.1.weights P f2.type ++ [])), n ≤ reachBytes := by
      intro n hn
      apply hs n
      simp only [DataW.weights, ht]
      exact hn
    obtain ⟨z, hv, _, hwf⟩ := DataW.trod_int h0 g0
    obtain ⟨z1, hv1, _, hwf1⟩ := DataW.trod_int h1 g1
    obtain ⟨a, na, ma, za, hv2, r2, s2⟩ := rowS_of h2 ha ca ba g2 (fun n hn => hw n (List.mem_append_right _ (List.mem_append_right _ (List.mem_append_left _ hn))))
    simp at hv hv1 hv2
    subst hv hv1 hv2
    obtain ⟨l, hl⟩ := r2.words s2
    have m1 : IntKind.i64.min = -9223372036854775808 := rfl
    have m2 : IntKind.i64.max = 9223372036854775807 := rfl
    simp [Lit.wf] at hwf hwf1
    exact ⟨z, z1, a, na, ma, l, rfl, by omega, by omega, hl⟩
end
end Go.Proofs.YtdjlbpgjbgepdaaGreat
end
section
/- Layer 44: the law SeedsAims. -/
namespace Go.Proofs.YtdjlbpgjbgepdaaGreat
open Go Go.RowKit Go.Bv
set_option linter.unusedVariables false
set_option maxRecDepth 100000
theorem aim_44 (k b : Int) (a : Option Addr) (nl ca : Nat) (l : List (BitVec 64)) (aw : Option Addr) (n cw : Nat) (ws : List (BitVec 64)) (hch : chF k b ws = 0) (ds : List Drw) (kk : Nat) (hd : sdS (wkK k) l n = some (ds, kk)) (w : World) (hl : QRow w a nl ca l) (hw : QRow w aw n cw ws) : Calls Tryz.prog 20 #[.slice a nl ca, .agg (sdc k b aw n cw)] w fun e w' => (∃ v c', e = .returned (.tuple #[.slice v nl c', .int .i64 0]) ∧ QRow w' v nl c' (aimR (wkK k) l ws ds n)) ∧ New w w' := by
  rcases wkK_three k with h | h | h
  · exact aim_some044 k b h a nl ca l aw n cw ws hch ds kk hd w hl hw
  · exact aim_some144 k b h a nl ca l aw n cw ws hch ds kk hd w hl hw
  · exact aim_some244 k b h a nl ca l aw n cw ws hch ds kk hd w hl hw
theorem map_get44 (ds : List Drw) {i : Nat} (h : i < ds.length) : (ds.map fun d => d.1).getD i 0 = (ds.getD i dz).1 := by
  rw [List.getD_eq_getElem?_getD, List.getElem?_map, List.getD_eq_getElem?_getD, List.getElem?_eq_getElem h]; rfl
theorem nm_words (ws : List (BitVec 64)) (ds : List Drw) (h : ds.length = ws.length) : ((nmS (fun i => ws.getD i 0) ds).map fun d => d.1) = ws := by
  apply List.ext_getElem (by rw [List.length_map, nmS_len, h])
  intro i h1 h2
  have e := map_get44 (nmS (fun i => ws.getD i 0) ds) (i := i) (by rw [nmS_len]; omega)
  rw [nmS_get _ _ (by omega)] at e
  rw [List.getD_eq_getElem?_getD, List.getElem?_eq_getElem h1, List.getD_eq_getElem?_getD, List.getElem?_eq_getElem h2] at e
  exact e
/-- what an aimed row tells, and that it is aimed back -/
theorem aimR_all {k b : Int} {l ws : List (BitVec 64)} {n kk : Nat} {ds : List Drw} (hch : chF k b ws = 0) (hn : ws.length = n) (hd : sdS (wkK k) l n = some (ds, kk)) :
    sdS (wkK k) (aimR (wkK k) l ws ds n) n = some (nmS (fun i => ws.getD i 0) ds, kk) ∧ ((nmS (fun i => ws.getD i 0) ds).map fun d => d.1) = ws ∧ chF k b (ds.map fun d => d.1) = 0 ∧ aimR (wkK k) (aimR (wkK k) l ws ds n) (ds.map fun d => d.1) (nmS (fun i => ws.getD i 0) ds) n = l ∧ (∀ i, i < n → ((nmS (fun i => ws.getD i 0) ds).getD i dz).2 = (ds.getD i dz).2) := by
  obtain ⟨hck, hvl⟩ := ck_of_ch hch
  rw [hn] at hck hvl
  have hl := sdS_len hd
  refine ⟨aimS_tells hd hvl, nm_words ws ds (by omega), ch_of_ck hck (by rw [List.length_map, hl]) (fun i hi => by rw [map_get44 ds (by omega)]; exact (sdS_each hd i hi).1), ?_, fun i hi => by rw [nmS_get _ _ (by omega)]⟩
  unfold aimR
  rw [(aimS_nm (wkK k) _ _ _ ds n (by omega)).1]
  exact aimS_back hd (fun i hi => map_get44 ds (by omega))
set_option maxHeartbeats 4000000 in
theorem aims_long (W : World) (a : Option Addr) (nl ca : Nat) (l : List (BitVec 64)) (hl : QRow W a nl ca l) (k b : Int) (aw : Option Addr) (n cw : Nat) (ws : List (BitVec 64)) (hw : QRow W aw n cw ws) (hs : (400 : Int) < (nl : Int)) : Calls Tryz.prog 5 #[.slice a nl ca, .agg (sdc k b aw n cw)] W fun e w' => e = .returned (.bool true) ∧ New W w' := by
  obtain ⟨w0, hW0, hbox, hn0⟩ := seed_box W k b aw n cw
  have HAL := Lib.hid hW0
  have HB0 := Lib.hid hbox
  have HN0 := Lib.hid hn0
  have HL := Lib.hid (fun (w' : World) (h : New w0 w') => hl.stay (hn0.trans h))
  have HW := Lib.hid (fun (w' : World) (h : New w0 w') => hw.stay (hn0.trans h))
  have HC : Hid (∀ w' : World, New w0 w' → w'.cell? ⟨W.heap.size, 0, none⟩ = some (.int .i64 k) ∧ w'.cell? ⟨W.heap.size, 1, none⟩ = some (.int .i64 b) ∧ w'.cell? ⟨W.heap.size, 2, none⟩ = some (.slice aw n cw)) := Lib.hid (fun (w' : World) (h : New w0 w') => And.intro (cell_of_row _ _ 0 _ _ _ (zb_stay hbox h)) (And.intro (cell_of_row _ _ 1 _ _ _ (zb_stay hbox h)) (cell_of_row _ _ 2 _ _ _ (zb_stay hbox h))))
  have HA := Lib.hid awake44
  have HNL := Lib.hid hl.len_eq
  have HNW := Lib.hid hw.len_eq
  clear hW0 hbox hn0 hl hw
  go_enter Tryz.func5, Tryz.ntmps5
  go_wp2_with fail
  rw [HAL.out]
  refine (HA.out _).mono ?_
  rintro e wA ⟨rfl, hna⟩
  have HNA := Lib.hid hna
  clear hna HA HAL
  go_wp2
  go_ret
  exact ⟨rfl, HN0.out.trans HNA.out⟩
set_option maxHeartbeats 4000000 in
theorem aims_bad (W : World) (a : Option Addr) (nl ca : Nat) (l : List (BitVec 64)) (hl : QRow W a nl ca l) (k b : Int) (aw : Option Addr) (n cw : Nat) (ws : List (BitVec 64)) (hw : QRow W aw n cw ws) (hs : ¬ (400 : Int) < (nl : Int)) (E : Int) (hE : chF k b ws = E) (h0 : (E == 0) = false) : Calls Tryz.prog 5 #[.slice a nl ca, .agg (sdc k b aw n cw)] W fun e w' => e = .returned (.bool true) ∧ New W w' := by
  obtain ⟨w0, hW0, hbox, hn0⟩ := seed_box W k b aw n cw
  have HAL := Lib.hid hW0
  have HB0 := Lib.hid hbox
  have HN0 := Lib.hid hn0
  have HL := Lib.hid (fun (w' : World) (h : New w0 w') => hl.stay (hn0.trans h))
  have HW := Lib.hid (fun (w' : World) (h : New w0 w') => hw.stay (hn0.trans h))
  have HC : Hid (∀ w' : World, New w0 w' → w'.cell? ⟨W.heap.size, 0, none⟩ = some (.int .i64 k) ∧ w'.cell? ⟨W.heap.size, 1, none⟩ = some (.int .i64 b) ∧ w'.cell? ⟨W.heap.size, 2, none⟩ = some (.slice aw n cw)) := Lib.hid (fun (w' : World) (h : New w0 w') => And.intro (cell_of_row _ _ 0 _ _ _ (zb_stay hbox h)) (And.intro (cell_of_row _ _ 1 _ _ _ (zb_stay hbox h)) (cell_of_row _ _ 2 _ _ _ (zb_stay hbox h))))
  have HA := Lib.hid awake44
  have HNL := Lib.hid hl.len_eq
  have HNW := Lib.hid hw.len_eq
  have h1 : (E != 0) = true := by rw [bne, h0]; rfl
  have HAIM := Lib.hid (fun (w' : World) (h : New w0 w') => aim_bad44 k b a nl ca aw n cw ws E hE h0 w' (hw.stay (hn0.trans h)))
  have HCK := Lib.hid (fun (w' : World) (h : New w0 w') => rcheck_27 k b aw n cw ws w' (hw.stay (hn0.trans h)))
  rw [hE] at HCK
  clear hW0 hbox hn0 hl hw hE
  go_enter Tryz.func5, Tryz.ntmps5
  go_wp2_with fail
  rw [HAL.out]
  refine (HA.out _).mono ?_
  rintro e wA ⟨rfl, hna⟩
  have HNA := Lib.hid hna
  clear hna HA HAL
  obtain ⟨c0, c1, c2⟩ := HC.out _ HNA.out
  go_wp2_with fail
  refine (HAIM.out _ HNA.out).mono ?_
  rintro e wB ⟨rfl, hn⟩
  have HNB := Lib.hid (HNA.out.trans hn)
  clear hn c0 c1 c2
  obtain ⟨c0, c1, c2⟩ := HC.out _ HNB.out
  go_wp2_with fail
  refine (HCK.out _ HNB.out).mono ?_
  rintro e wC ⟨rfl, hn⟩
  have HNC := Lib.hid (HNB.out.trans hn)
  clear hn c0 c1 c2
  go_wp2
  go_ret
  exact ⟨rfl, HN0.out.trans HNC.out⟩
set_option maxHeartbeats 4000000 in
theorem aims_none (W : World) (a : Option Addr) (nl ca : Nat) (l : List (BitVec 64)) (hl : QRow W a nl ca l) (k b : Int) (aw : Option Addr) (n cw : Nat) (ws : List (BitVec 64)) (hw : QRow W aw n cw ws) (hs : ¬ (400 : Int) < (nl : Int)) (hE : chF k b ws = 0) (hd : sdS (wkK k) l n = none) : Calls Tryz.prog 5 #[.slice a nl ca, .agg (sdc k b aw n cw)] W fun e w' => e = .returned (.bool true) ∧ New W w' := by
  obtain ⟨w0, hW0, hbox, hn0⟩ := seed_box W k b aw n cw
  have HAL := Lib.hid hW0
  have HB0 := Lib.hid hbox
  have HN0 := Lib.hid hn0
  have HL := Lib.hid (fun (w' : World) (h : New w0 w') => hl.stay (hn0.trans h))
  have HW := Lib.hid (fun (w' : World) (h : New w0 w') => hw.stay (hn0.trans h))
  have HC : Hid (∀ w' : World, New w0 w' → w'.cell? ⟨W.heap.size, 0, none⟩ = some (.int .i64 k) ∧ w'.cell? ⟨W.heap.size, 1, none⟩ = some (.int .i64 b) ∧ w'.cell? ⟨W.heap.size, 2, none⟩ = some (.slice aw n cw)) := Lib.hid (fun (w' : World) (h : New w0 w') => And.intro (cell_of_row _ _ 0 _ _ _ (zb_stay hbox h)) (And.intro (cell_of_row _ _ 1 _ _ _ (zb_stay hbox h)) (cell_of_row _ _ 2 _ _ _ (zb_stay hbox h))))
  have HA := Lib.hid awake44
  have HNL := Lib.hid hl.len_eq
  have HNW := Lib.hid hw.len_eq
  have HAIM := Lib.hid (fun (w' : World) (h : New w0 w') => aim_none44 k b a nl ca l aw n cw ws hE hd w' (hl.stay (hn0.trans h)) (hw.stay (hn0.trans h)))
  have HCK := Lib.hid (fun (w' : World) (h : New w0 w') => rcheck_27 k b aw n cw ws w' (hw.stay (hn0.trans h)))
  rw [hE] at HCK
  obtain ⟨hck, _⟩ := ck_of_ch hE
  rw [hw.len_eq] at hck
  obtain ⟨_, n', en, hn1, hn320, _⟩ := ckS_ok hck
  have hnn : 1 ≤ n ∧ n ≤ 320 := by omega
  have HRT := Lib.hid (fun (w' : World) (h : New w0 w') => rtake_44 k b n hnn a nl ca l (by omega) w' (hl.stay (hn0.trans h)))
  have HD := Lib.hid hd
  clear hW0 hbox hn0 hl hw hE hd hck en hnn hn1 hn320
  go_enter Tryz.func5, Tryz.ntmps5
  go_wp2_with fail
  rw [HAL.out]
  refine (HA.out _).mono ?_
  rintro e wA ⟨rfl, hna⟩
  have HNA := Lib.hid hna
  clear hna HA HAL
  obtain ⟨c0, c1, c2⟩ := HC.out _ HNA.out
  go_wp2_with fail
  refine (HAIM.out _ HNA.out).mono ?_
  rintro e wB ⟨rfl, hn⟩
  have HNB := Lib.hid (HNA.out.trans hn)
  clear hn c0 c1 c2
  obtain ⟨c0, c1, c2⟩ := HC.out _ HNB.out
  go_wp2_with fail
  refine (HCK.out _ HNB.out).mono ?_
  rintro e wC ⟨rfl, hn⟩
  have HNC := Lib.hid (HNB.out.trans hn)
  clear hn c0 c1 c2
  obtain ⟨c0, c1, c2⟩ := HC.out _ HNC.out
  go_wp2_with fail
  refine (HRT.out _ HNC.out).mono ?_
  rintro e wD ⟨⟨ds', kk', a1, q1, a2, q2, hd', _⟩ | ⟨hd', rfl⟩, hn⟩
  · rw [HD.out] at hd'; cases hd'
  · have HND := Lib.hid (HNC.out.trans hn)
    clear hn c0 c1 c2 hd'
    go_wp2
    go_ret
    exact ⟨rfl, HN0.out.trans (HND.out.alloc _)⟩
set_option maxHeartbeats 4000000 in
theorem aims_some (W : World) (a : Option Addr) (nl ca : Nat) (l : List (BitVec 64)) (hl : QRow W a nl ca l) (k b : Int) (aw : Option Addr) (n cw : Nat) (ws : List (BitVec 64)) (hw : QRow W aw n cw ws) (hs : ¬ (400 : Int) < (nl : Int)) (hE : chF k b ws = 0) (ds : List Drw) (kk : Nat) (hd : sdS (wkK k) l n = some (ds, kk)) : Calls Tryz.prog 5 #[.slice a nl ca, .agg (sdc k b aw n cw)] W fun e w' => e = .returned (.bool true) ∧ New W w' := by
  obtain ⟨w0, hW0, hbox, hn0⟩ := seed_box W k b aw n cw
  have HAL := Lib.hid hW0
  have HB0 := Lib.hid hbox
  have HN0 := Lib.hid hn0
  have HL := Lib.hid (fun (w' : World) (h : New w0 w') => hl.stay (hn0.trans h))
  have HW := Lib.hid (fun (w' : World) (h : New w0 w') => hw.stay (hn0.trans h))
  have HC : Hid (∀ w' : World, New w0 w' → w'.cell? ⟨W.heap.size, 0, none⟩ = some (.int .i64 k) ∧ w'.cell? ⟨W.heap.size, 1, none⟩ = some (.int .i64 b) ∧ w'.cell? ⟨W.heap.size, 2, none⟩ = some (.slice aw n cw)) := Lib.hid (fun (w' : World) (h : New w0 w') => And.intro (cell_of_row _ _ 0 _ _ _ (zb_stay hbox h)) (And.intro (cell_of_row _ _ 1 _ _ _ (zb_stay hbox h)) (cell_of_row _ _ 2 _ _ _ (zb_stay hbox h))))
  have HA := Lib.hid awake44
  have HNL := Lib.hid hl.len_eq
  have HNW := Lib.hid hw.len_eq
  have HAIM := Lib.hid (fun (w' : World) (h : New w0 w') => aim_44 k b a nl ca l aw n cw ws hE ds kk hd w' (hl.stay (hn0.trans h)) (hw.stay (hn0.trans h)))
  have HCK := Lib.hid (fun (w' : World) (h : New w0 w') => rcheck_27 k b aw n cw ws w' (hw.stay (hn0.trans h)))
  rw [hE] at HCK
  obtain ⟨hck, _⟩ := ck_of_ch hE
  rw [hw.len_eq] at hck
  obtain ⟨_, n', en, hn1, hn320, _⟩ := ckS_ok hck
  have hnn : 1 ≤ n ∧ n ≤ 320 := by omega
  have HRT := Lib.hid (fun (w' : World) (h : New w0 w') => rtake_44 k b n hnn a nl ca l (by omega) w' (hl.stay (hn0.trans h)))
  have HD := Lib.hid hd
  obtain ⟨t1, t2, t3, t4, t5⟩ := aimR_all hE hw.len_eq hd
  have T1 := Lib.hid t1
  have T2 := Lib.hid t2
  have T3 := Lib.hid t3
  have T4 := Lib.hid t4
  have T5 := Lib.hid t5
  have HRM := Lib.hid (fun (w' : World) v c' (h : QRow w' v nl c' (aimR (wkK k) l ws ds n)) => rtake_44 k b n hnn v nl c' _ (by omega) w' h)
  have HAB := Lib.hid (fun (w' : World) v c' a1 q1 (h : QRow w' v nl c' (aimR (wkK k) l ws ds n)) (h2 : QRow w' a1 n q1 (ds.map fun d => d.1)) => aim_44 k b v nl c' _ a1 n q1 _ t3 _ kk t1 w' h h2)
  rw [t4] at HAB
  clear hW0 hbox hn0 hl hw hE hd hck en hnn hn1 hn320 t1 t2 t3 t4 t5
  go_enter Tryz.func5, Tryz.ntmps5
  go_wp2_with fail
  rw [HAL.out]
  refine (HA.out _).mono ?_
  rintro e wA ⟨rfl, hna⟩
  have HNA := Lib.hid hna
  clear hna HA HAL
  obtain ⟨c0, c1, c2⟩ := HC.out _ HNA.out
  go_wp2_with fail
  refine (HAIM.out _ HNA.out).mono ?_
  rintro e wB ⟨⟨v, c', rfl, hm⟩, hn⟩
  have HNB := Lib.hid (HNA.out.trans hn)
  have HM := Lib.hid hm
  clear hn c0 c1 c2 hm
  obtain ⟨c0, c1, c2⟩ := HC.out _ HNB.out
  go_wp2_with fail
  refine (HCK.out _ HNB.out).mono ?_
  rintro e wC ⟨rfl, hn⟩
  have HNC := Lib.hid (HNB.out.trans hn)
  have HMC := Lib.hid (HM.out.stay hn)
  clear hn c0 c1 c2
  obtain ⟨c0, c1, c2⟩ := HC.out _ HNC.out
  go_wp2_with fail
  refine (HRT.out _ HNC.out).mono ?_
  rintro e wD ⟨⟨ds', kk', a1, q1, a2, q2, hd', rfl, hq', hk'⟩ | ⟨hd', _⟩, hn⟩
  · have he : (ds, kk) = (ds', kk') := Option.some.inj (HD.out.symm.trans hd')
    cases he
    obtain ⟨wE, hWE, hbox, hne⟩ := seed_box wD k b a1 n q1
    have HAL8 := Lib.hid hWE
    have HNE := Lib.hid ((HNC.out.trans hn).trans hne)
    have HME := Lib.hid (HMC.out.stay (hn.trans hne))
    have HB8 := Lib.hid hbox
    have HQ8 := Lib.hid (hq'.stay hne)
    have HK8 := Lib.hid (hk'.stay hne)
    clear hn hne hWE hbox hq' hk' hd' c0 c1 c2
    obtain ⟨c0, c1, c2⟩ := HC.out _ HNE.out
    rw [← HAL8.out] at c0 c1 c2
    obtain ⟨p8, hp8⟩ : ∃ p, wD.heap.size = p := ⟨_, rfl⟩
    go_wp2_with fail
    rw [HAL8.out]
    rw [hp8] at HB8
    clear hp8
    refine (HRM.out _ _ _ HME.out).mono ?_
    rintro e wF ⟨⟨ds', kk', a3, q3, a4, q4, hd', rfl, hq', hk'⟩ | ⟨hd', _⟩, hn⟩
    · have he : (nmS (fun i => ws.getD i 0) ds, kk) = (ds', kk') := Option.some.inj (T1.out.symm.trans hd')
      cases he
      rw [T2.out] at hq'
      obtain ⟨wG, hWG, hbox, hng⟩ := seed_box wF k b a3 n q3
      have HAL12 := Lib.hid hWG
      have hnn := hn.trans hng
      have HNG := Lib.hid (HNE.out.trans hnn)
      have HMG := Lib.hid (HME.out.stay hnn)
      have HQ8G := Lib.hid (HQ8.out.stay hnn)
      have HK8G := Lib.hid (HK8.out.stay hnn)
      have hb8 := zb_stay HB8.out hnn
      have e0 := cell_of_row _ _ 0 _ _ _ hb8
      have e1 := cell_of_row _ _ 1 _ _ _ hb8
      have e2 := cell_of_row _ _ 2 _ _ _ hb8
      have HB12 := Lib.hid hbox
      have HQ12 := Lib.hid (hq'.stay hng)
      have HK12 := Lib.hid (hk'.stay hng)
      clear hn hng hnn hWG hbox hq' hk' hd' c0 c1 c2 hb8 HME HQ8 HK8
      rw [← HAL12.out] at e0 e1 e2
      obtain ⟨p12, hp12⟩ : ∃ p, wF.heap.size = p := ⟨_, rfl⟩
      go_wp2_with fail
      rw [HAL12.out]
      rw [hp12] at HB12
      clear hp12
      refine (HAB.out _ _ _ _ _ HMG.out HQ8G.out).mono ?_
      rintro e wH ⟨⟨v2, c2', rfl, hbk⟩, hn⟩
      have HNH := Lib.hid (HNG.out.trans hn)
      have hb12 := zb_stay HB12.out hn
      have HBK := Lib.hid hbk
      have HQH := Lib.hid (HQ12.out.stay hn)
      have HK1 := Lib.hid (HK8G.out.stay hn)
      have HK2 := Lib.hid (HK12.out.stay hn)
      clear e0 e1 e2 hbk hn
      have e0 := cell_of_row _ _ 0 _ _ _ hb12
      have e1 := cell_of_row _ _ 1 _ _ _ hb12
      have e2 := cell_of_row _ _ 2 _ _ _ hb12
      obtain ⟨c0, c1, c2⟩ := HC.out _ HNH.out
      clear hb12
      go_wp2_with fail
      refine (same_27 k b a3 aw n q3 cw ws _ HQH.out (HW.out _ HNH.out)).mono ?_
      rintro e wI ⟨rfl, hni⟩
      clear e0 e1 e2 c0 c1 c2
      go_wp2_with fail
      refine (ranks_40 _ _ n q2 q4 ds _ _ (HK1.out.stay hni) (HK2.out.stay hni) T5.out).mono ?_
      rintro e wJ ⟨rfl, hnj⟩
      have HNJ := Lib.hid (HNH.out.trans (hni.trans hnj))
      have HWD := Lib.hid (words_ref v2 a nl c2' nl ca l l wJ wJ (HBK.out.stay (hni.trans hnj)) (HL.out _ HNJ.out) (New.refl _))
      clear hni hnj
      go_wp2_with fail
      refine HWD.out.mono ?_
      rintro e wK ⟨rfl, hnk, _⟩
      rw [beq_self_eq_true]
      have HNK := Lib.hid (HNJ.out.trans hnk)
      clear hnk
      go_wp2
      go_ret
      exact ⟨rfl, HN0.out.trans HNK.out⟩
    · rw [T1.out] at hd'; cases hd'
  · rw [HD.out] at hd'; cases hd'
theorem SeedsAims_walk (W : World) (a0 : Option Addr) (n0 m0 : Nat) (z0 : List Int) (w0 : IRow .u64 W a0 n0 m0 z0) (r0 : m0 * 8 ≤ 140737488351232) (sk1 sb1 : Int) (rk1 : -9223372036854775808 ≤ sk1 ∧ sk1 ≤ 9223372036854775807) (rb1 : -9223372036854775808 ≤ sb1 ∧ sb1 ≤ 9223372036854775807) (a1 : Option Addr) (n1 m1 : Nat) (sl1 : List (BitVec 64)) (w1 : QRow W a1 n1 m1 sl1) :
    Calls Tryz.prog 5 #[.slice a0 n0 m0, .agg #[.int .i64 sk1, .int .i64 sb1, .slice a1 n1 m1]] W fun e w' => e = .returned (.bool true) ∧ Below W.heap.size W w' := by
  obtain ⟨l, hl⟩ := w0.words r0
  by_cases hs : (400 : Int) < (n0 : Int)
  · exact aims_long W a0 n0 m0 l hl sk1 sb1 a1 n1 m1 sl1 w1 hs
  · by_cases hE : chF sk1 sb1 sl1 = 0
    · rcases hd : sdS (wkK sk1) l n1 with _ | ⟨ds, kk⟩
      · exact aims_none W a0 n0 m0 l hl sk1 sb1 a1 n1 m1 sl1 w1 hs hE hd
      · exact aims_some W a0 n0 m0 l hl sk1 sb1 a1 n1 m1 sl1 w1 hs hE ds kk hd
    · exact aims_bad W a0 n0 m0 l hl sk1 sb1 a1 n1 m1 sl1 w1 hs _ rfl (beq_eq_false_iff_ne.2 hE)
end Go.Proofs.YtdjlbpgjbgepdaaGreat
end
