/- gcode.Read of a right line; the law GcodeBack. -/
import Derived.Test.YtjmnhooenampkaaGreatDoorBakA
namespace Go.Proofs.YtjmnhooenampkaaGreatDoor
open Go Go.RowKit Go.Bv
set_option linter.unusedVariables false
set_option maxRecDepth 100000
def MaxL (w : World) : Prop := ∃ m, w.cell? ⟨5, 0, none⟩ = some (.int .i64 m)
theorem MaxL.stay {w w' : World} (h : MaxL w) (hn : New w w') : MaxL w' := by
  obtain ⟨m, h⟩ := h
  exact ⟨m, (hn.cell (World.block_lt_of_cell? _ _ h)).trans h⟩
theorem maxl_of (W : World) (h : W.ShapedOpen Tryz.prog) : MaxL W := Tryz.laysM146.s1_3 W h
set_option maxHeartbeats 1000000 in
theorem read_ok (k : Int) (q : W4) (hck : chkK k q = 0) (w : World) (hm : MaxL w) : Calls Tryz.prog 11 #[.string (tG k q (nK k))] w fun e w' => e = .returned (.tuple #[.agg (stc k q), .int .i64 0]) ∧ New w w' := by
  obtain ⟨w0, hw0, hb0, hn0⟩ := box5 w zStc
  have HAL := Lib.hid hw0
  have HB := Lib.hid hb0
  have H0 := Lib.hid hn0
  have HF' : Hid (∀ w2, New w w2 → Calls Tryz.prog 24 #[.string (tG k q (nK k))] w2 fun e w3 => e = .returned (.tuple #[.agg (stc k q), .nilIface]) ∧ New w2 w3) := Lib.hid (fun w2 h2 => by
    obtain ⟨m, hm'⟩ := hm.stay h2
    exact fl_ok k q hck m w2 hm')
  clear hw0 hb0 hn0 hck hm
  generalize tG k q (nK k) = t at *
  go_enter Tryz.func11, Tryz.ntmps11
  go_wp2_with fail
  rw [HAL.out]
  refine (HF'.out _ H0.out).mono ?_
  rintro e w1 ⟨rfl, hn1⟩
  have HB1 := Lib.hid ((hn1.block _ (lt_of_block HB.out)).trans HB.out)
  have HN1 := Lib.hid (H0.out.trans hn1)
  clear hn1 HAL HB
  go_wp2_with fail
  refine (told_nil k q _).mono ?_
  rintro e w2 ⟨rfl, hn2⟩
  have hb := (hn2.block _ (lt_of_block HB1.out)).trans HB1.out
  have k0 := cell_of_row _ _ 0 _ _ _ hb
  have k1 := cell_of_row _ _ 1 _ _ _ hb
  have k2 := cell_of_row _ _ 2 _ _ _ hb
  have k3 := cell_of_row _ _ 3 _ _ _ hb
  have k4 := cell_of_row _ _ 4 _ _ _ hb
  have kf := fun i => frozen_of_row _ _ i _ _ hb
  have HN2 := Lib.hid (HN1.out.trans hn2)
  clear hb hn2 HB1
  go_wp2_with fail
  refine bodyPost_ret (by simp [results, Tryz.results11, go_sem, k0, k1, k2, k3, k4]; try rfl) rfl ?_
  exact ⟨rfl, set5 HN2.out (by exact Nat.le_refl _) _ _ _ _ _⟩
set_option maxHeartbeats 2000000 in
theorem back_walk (W : World) (k : Int) (q : W4) (S F L K : Addr) (hs : SenD S F L K W) (hg : EtD 8 45 155 W) (hm : MaxL W) : Calls Tryz.prog 5 #[.agg (stc k q)] W fun e w' => e = .returned (.bool true) ∧ New W w' := by
  have HA := Lib.hid awake17
  obtain ⟨w0, hw0, hb0, hn0⟩ := box5 W (stc k q)
  have HAL := Lib.hid hw0
  have HN0 := Lib.hid hn0
  have HC := Lib.hid (fun (w' : World) (h : New w0 w') => (h.block _ (lt_of_block hb0)).trans hb0)
  have HEQ := Lib.hid (fun w => eqSt_selfr w k q)
  have HUN := Lib.hid (fun (w' : World) (h : New W w') a n c l (hl : BRow w' a n c l) (hn : n ≤ 300) => unm_17 S F L K a n c l w' hl (hs.stay h) (hg.stay h) hn)
  have HMX := Lib.hid hm
  clear hw0 hb0 hn0 hs hg hm
  by_cases hck : chkK k q = 0
  · obtain ⟨r1, r2, r3⟩ := rd_of17 hck
    have hk := chk_ok hck
    obtain ⟨z1, z2, z3, z4, z5⟩ := szK_n hk
    have HM := Lib.hid (fun w => marshal_yes k q w hck)
    have HLY := Lib.hid (fun w => line_yes k q w hck)
    have HRD := Lib.hid (fun w (h : MaxL w) => read_ok k q hck w h)
    have HU2 : Hid (∀ (w' : World), New W w' → ∀ a c, BRow w' a (6 + 8 * nK k) c (seal16 (bG k q (nK k))) → Calls Tryz.prog 7 #[.slice a (6 + 8 * nK k) c] w' fun e w2 => e = .returned (.tuple #[.agg (stc k q), .int .i64 0]) ∧ New w' w2) := Lib.hid (fun w' h a c hl => by
      have h9 := HUN.out w' h a _ c _ hl (by omega)
      unfold rdK17 rdQ17 at h9
      rw [r1, if_pos rfl, if_pos rfl, r2, r3] at h9
      exact h9)
    have HRC := Lib.hid (fun w => rcheck_any k q w)
    rw [hck] at HRC
    have hee := HEQ.out
    clear HUN r1 r2 r3 hk z1 z2 z3 z4 z5 hck
    generalize seal16 (bG k q (nK k)) = sl at *
    generalize 6 + 8 * nK k = N at *
    generalize tG k q (nK k) = t at *
    go_enter Tryz.func5, Tryz.ntmps5
    go_wp2_with fail
    rw [HAL.out]
    refine (HA.out _).mono ?_
    rintro e wA ⟨rfl, hna⟩
    have HNA := Lib.hid hna
    clear hna HA HAL
    have hb := HC.out _ HNA.out
    have c0 := cell_of_row _ _ 0 _ _ _ hb
    have c1 := cell_of_row _ _ 1 _ _ _ hb
    have c2 := cell_of_row _ _ 2 _ _ _ hb
    have c3 := cell_of_row _ _ 3 _ _ _ hb
    have c4 := cell_of_row _ _ 4 _ _ _ hb
    clear hb
    go_wp2_with fail
    refine (HRC.out _).mono ?_
    rintro e wB ⟨rfl, hn⟩
    have HNB := Lib.hid (HNA.out.trans hn)
    clear hn c0 c1 c2 c3 c4
    have hb := HC.out _ HNB.out
    have c0 := cell_of_row _ _ 0 _ _ _ hb
    have c1 := cell_of_row _ _ 1 _ _ _ hb
    have c2 := cell_of_row _ _ 2 _ _ _ hb
    have c3 := cell_of_row _ _ 3 _ _ _ hb
    have c4 := cell_of_row _ _ 4 _ _ _ hb
    clear hb
    go_wp2_with fail
    refine (HM.out _).mono ?_
    rintro e wC ⟨⟨a9, c9, rfl, hrow⟩, hn⟩
    have HNC := Lib.hid (HNB.out.trans hn)
    have HU3 := Lib.hid (HU2.out wC (HN0.out.trans HNC.out) a9 c9 hrow)
    clear hn hrow c0 c1 c2 c3 c4
    go_wp2_with fail
    refine HU3.out.mono ?_
    rintro e wD ⟨rfl, hn⟩
    obtain ⟨wE, hE, hbE, hnE⟩ := box5 wD (stc k q)
    have HALE := Lib.hid hE
    have HBE := Lib.hid hbE
    have HNE := Lib.hid ((HNC.out.trans hn).trans hnE)
    have hb := HC.out _ HNE.out
    rw [← HALE.out] at hb
    have c0 := cell_of_row _ _ 0 _ _ _ hb
    have c1 := cell_of_row _ _ 1 _ _ _ hb
    have c2 := cell_of_row _ _ 2 _ _ _ hb
    have c3 := cell_of_row _ _ 3 _ _ _ hb
    have c4 := cell_of_row _ _ 4 _ _ _ hb
    clear hb hE hbE hnE hn
    obtain ⟨p5, hp5⟩ : ∃ p, wD.heap.size = p := ⟨_, rfl⟩
    have HP5 := Lib.hid hp5
    clear hp5
    go_wp2_with fail
    rw [HALE.out]
    rw [HP5.out] at HBE ⊢
    refine (HLY.out _).mono ?_
    rintro e wF ⟨rfl, hn⟩
    have HNF := Lib.hid (HNE.out.trans hn)
    have HBF := Lib.hid ((hn.block _ (lt_of_block HBE.out)).trans HBE.out)
    clear hn c0 c1 c2 c3 c4 HBE HALE
    go_wp2_with fail
    refine (HRD.out _ (HMX.out.stay (HN0.out.trans HNF.out))).mono ?_
    rintro e wG ⟨rfl, hn⟩
    obtain ⟨wH, hH, hbH, hnH⟩ := box5 wG (stc k q)
    have HALH := Lib.hid hH
    have hnn := hn.trans hnH
    have HNH := Lib.hid (HNF.out.trans hnn)
    have hb1 := HC.out _ HNH.out
    have hb2 := (hnn.block _ (lt_of_block HBF.out)).trans HBF.out
    have hb3 := hbH
    rw [← HALH.out] at hb1 hb2 hb3
    have c0 := cell_of_row _ _ 0 _ _ _ hb1
    have c1 := cell_of_row _ _ 1 _ _ _ hb1
    have c2 := cell_of_row _ _ 2 _ _ _ hb1
    have c3 := cell_of_row _ _ 3 _ _ _ hb1
    have c4 := cell_of_row _ _ 4 _ _ _ hb1
    have d0 := cell_of_row _ _ 0 _ _ _ hb2
    have d1 := cell_of_row _ _ 1 _ _ _ hb2
    have d2 := cell_of_row _ _ 2 _ _ _ hb2
    have d3 := cell_of_row _ _ 3 _ _ _ hb2
    have d4 := cell_of_row _ _ 4 _ _ _ hb2
    have e0 := cell_of_row _ _ 0 _ _ _ hb3
    have e1 := cell_of_row _ _ 1 _ _ _ hb3
    have e2 := cell_of_row _ _ 2 _ _ _ hb3
    have e3 := cell_of_row _ _ 3 _ _ _ hb3
    have e4 := cell_of_row _ _ 4 _ _ _ hb3
    clear hb1 hb2 hb3 hH hbH hnH hn hnn HBF
    have HNZ : Hid (New w0 (wG.alloc (.cells (stc k q) 27))) := Lib.hid (by rw [HALH.out]; exact HNH.out)
    clear HALH HNH
    go_wp2
    go_ret
    exact ⟨rfl, HN0.out.trans HNZ.out⟩
  · have hb : (chkK k q != 0) = true := by rw [bne_iff_ne]; exact hck
    have HRC := Lib.hid (fun w => rcheck_any k q w)
    clear HUN HEQ hck
    generalize chkK k q = ck at *
    go_enter Tryz.func5, Tryz.ntmps5
    go_wp2_with fail
    rw [HAL.out]
    refine (HA.out _).mono ?_
    rintro e wA ⟨rfl, hna⟩
    have HNA := Lib.hid hna
    clear hna HA HAL
    have hb := HC.out _ HNA.out
    have c0 := cell_of_row _ _ 0 _ _ _ hb
    have c1 := cell_of_row _ _ 1 _ _ _ hb
    have c2 := cell_of_row _ _ 2 _ _ _ hb
    have c3 := cell_of_row _ _ 3 _ _ _ hb
    have c4 := cell_of_row _ _ 4 _ _ _ hb
    clear hb
    go_wp2_with fail
    refine (HRC.out _).mono ?_
    rintro e wB ⟨rfl, hn⟩
    have HNB := Lib.hid (HNA.out.trans hn)
    clear hn c0 c1 c2 c3 c4
    go_wp2
    go_ret
    exact ⟨rfl, HN0.out.trans HNB.out⟩
theorem GcodeBack_walk (W : World) (x0_0 : Int) (b0_0 : -9223372036854775808 ≤ x0_0 ∧ x0_0 ≤ 9223372036854775807) (x0_1 : BitVec 64) (x0_2 : BitVec 64) (x0_3 : BitVec 64) (x0_4 : BitVec 64) (hE : EtD 8 45 155 W) (hS : ∃ S F L K, SenD S F L K W) (hM : MaxL W) :
    Calls Tryz.prog 5 #[.agg #[.int .i64 x0_0, .int .u64 (W64 x0_1), .int .u64 (W64 x0_2), .int .u64 (W64 x0_3), .int .u64 (W64 x0_4)]] W fun e w' => e = .returned (.bool true) ∧ Below W.heap.size W w' := by
  obtain ⟨S, F, L, K, hs⟩ := hS
  exact back_walk W x0_0 ⟨x0_1, x0_2, x0_3, x0_4⟩ S F L K hs hE hM
end Go.Proofs.YtjmnhooenampkaaGreatDoor
