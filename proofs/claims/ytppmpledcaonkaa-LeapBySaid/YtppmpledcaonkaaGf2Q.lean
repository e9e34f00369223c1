/- The law Gf2Powers. -/
import Derived.Test.YtppmpledcaonkaaGf2P
namespace Go.Proofs.Ytppmpledcaonkaa
open Go Go.RowKit Go.Bv Go.G2
set_option linter.unusedVariables false
theorem four_of (X : Nat) (h : X < 2 ^ 256) : four (BitVec.ofNat 64 X) (BitVec.ofNat 64 (X / 2 ^ 64)) (BitVec.ofNat 64 (X / 2 ^ 128)) (BitVec.ofNat 64 (X / 2 ^ 192)) = X := by
  obtain ⟨e1, e2, e3, _⟩ := div64s X
  rw [p256] at h
  unfold four
  rw [e1, e2, e3, BitVec.toNat_ofNat, BitVec.toNat_ofNat, BitVec.toNat_ofNat, BitVec.toNat_ofNat, p64]
  omega
theorem four_low (x : BitVec 64) : four x 0#64 0#64 0#64 = x.toNat := by unfold four; simp
set_option maxRecDepth 100000 in
set_option maxHeartbeats 8000000 in
theorem Gf2Powers_walk (W : World) (a0 : Option Addr) (n0 m0 : Nat) (z0 : List Int) (w0 : IRow .u64 W a0 n0 m0 z0) (r0 : m0 * 8 ≤ 140737488351232) (x1_0 : BitVec 64) (x1_1 : BitVec 64) (x1_2 : BitVec 64) (x1_3 : BitVec 64) (x2_0 : BitVec 64) (x2_1 : BitVec 64) (x2_2 : BitVec 64) (x2_3 : BitVec 64) (a3 : Int) (w3 : (Lit.int .i64 a3).wf = true) :
    Calls Try.prog 7 #[.slice a0 n0 m0, .agg #[.int .u64 (W64 x1_0), .int .u64 (W64 x1_1), .int .u64 (W64 x1_2), .int .u64 (W64 x1_3)], .agg #[.int .u64 (W64 x2_0), .int .u64 (W64 x2_1), .int .u64 (W64 x2_2), .int .u64 (W64 x2_3)], .int .i64 a3] W fun e w' => e = .returned (.bool true) ∧ Below W.heap.size W w' := by
  obtain ⟨l, hl⟩ := w0.words r0
  have HL := Lib.hid hl
  have HA := Lib.hid awake06
  clear w0 r0 w3 hl
  have b1 := heap_alloc_new W (.cells #[.int .u64 (W64 x1_0), .int .u64 (W64 x1_1), .int .u64 (W64 x1_2), .int .u64 (W64 x1_3)] 45)
  have n1 : New W (W.alloc (.cells #[.int .u64 (W64 x1_0), .int .u64 (W64 x1_1), .int .u64 (W64 x1_2), .int .u64 (W64 x1_3)] 45)) := (New.refl W).alloc _
  obtain ⟨W1, hW1⟩ : ∃ z, W.alloc (.cells #[.int .u64 (W64 x1_0), .int .u64 (W64 x1_1), .int .u64 (W64 x1_2), .int .u64 (W64 x1_3)] 45) = z := ⟨_, rfl⟩
  rw [hW1] at b1 n1
  have hs1 : W1.heap.size = W.heap.size + 1 := by rw [← hW1]; simp
  have b2 := heap_alloc_new W1 (.cells #[.int .u64 (W64 x2_0), .int .u64 (W64 x2_1), .int .u64 (W64 x2_2), .int .u64 (W64 x2_3)] 45)
  have n2 : New W1 (W1.alloc (.cells #[.int .u64 (W64 x2_0), .int .u64 (W64 x2_1), .int .u64 (W64 x2_2), .int .u64 (W64 x2_3)] 45)) := (New.refl W1).alloc _
  obtain ⟨W2, hW2⟩ : ∃ z, W1.alloc (.cells #[.int .u64 (W64 x2_0), .int .u64 (W64 x2_1), .int .u64 (W64 x2_2), .int .u64 (W64 x2_3)] 45) = z := ⟨_, rfl⟩
  rw [hW2] at b2 n2
  rw [hs1] at b2
  have b12 := (n2.block _ (lt_of_block b1)).trans b1
  have HB := Lib.hid (fun w' (hn' : New W2 w') => And.intro ((hn'.block _ (lt_of_block b12)).trans b12) ((hn'.block _ (lt_of_block b2)).trans b2))
  have HN0 := Lib.hid (n1.trans n2)
  have HW1 := Lib.hid hW1
  have HW2 := Lib.hid hW2
  replace HL := Lib.hid (HL.out.stay HN0.out)
  clear b1 n1 hs1 b2 n2 b12 hW1 hW2
  by_cases s0 : (3 : Int) < (n0 : Int)
  · go_enter Try.func7, Try.ntmps7
    go_wp2_with fail
    rw [HW1.out, HW2.out]
    refine (HA.out _).mono ?_
    rintro e wA ⟨rfl, hn⟩
    have HN9 := Lib.hid hn
    clear hn HA HW1 HW2
    go_wp2
    go_ret
    exact ⟨rfl, HN0.out.trans HN9.out⟩
  have hM : vW l < 2 ^ (64 * n0) := by have := vW_lt l; rwa [HL.out.len_eq] at this
  have HOM := Lib.hid (fun w' (hn' : New W2 w') => of_r a0 n0 m0 l w' (HL.out.stay hn') (by omega))
  have HDG := Lib.hid (fun w' a c (hr : LRow w' a (64 * n0) c (bO (vW l) (64 * n0))) => deg_r a (64 * n0) c _ w' hr (by omega))
  rw [vB_bO_all hM] at HDG
  by_cases hz : vW l = 0
  · have HPX := Lib.hid (fun w' (hn' : New W2 w') => powx_z x1_0 x1_1 x1_2 x1_3 a0 n0 m0 l w' (HL.out.stay hn') (by omega) hz)
    rw [hz] at HDG HOM
    rw [show (((bl 0 : Nat) : Int) - 1) = -1 from rfl] at HDG
    obtain ⟨L, hL⟩ : ∃ L, 64 * n0 = L := ⟨_, rfl⟩
    rw [hL] at HDG HOM
    clear hM hz hL
    go_enter Try.func7, Try.ntmps7
    go_wp2_with fail
    rw [HW1.out, HW2.out]
    refine (HA.out _).mono ?_
    rintro e wA ⟨rfl, hn⟩
    have HN9 := Lib.hid hn
    clear hn HA HW1 HW2
    have ch := (HB.out _ HN9.out).1
    have c0 : wA.cell? ⟨W.heap.size, 0, none⟩ = some (.int .u64 (W64 x1_0)) := cell_of_row _ _ 0 _ _ _ ch
    have c1 : wA.cell? ⟨W.heap.size, 1, none⟩ = some (.int .u64 (W64 x1_1)) := cell_of_row _ _ 1 _ _ _ ch
    have c2 : wA.cell? ⟨W.heap.size, 2, none⟩ = some (.int .u64 (W64 x1_2)) := cell_of_row _ _ 2 _ _ _ ch
    have c3 : wA.cell? ⟨W.heap.size, 3, none⟩ = some (.int .u64 (W64 x1_3)) := cell_of_row _ _ 3 _ _ _ ch
    go_wp2_with fail
    refine (HPX.out _ HN9.out).mono ?_
    rintro e wB ⟨rfl, hn⟩
    replace HN9 := Lib.hid (HN9.out.trans hn)
    clear hn
    clear ch c0 c1 c2 c3
    go_wp2_with fail
    refine (HOM.out _ HN9.out).mono ?_
    rintro e wC ⟨a2, c2, rfl, hr, hn⟩
    replace HN9 := Lib.hid (HN9.out.trans hn)
    have HR := Lib.hid hr
    clear hr
    clear hn
    go_wp2_with fail
    refine (HDG.out _ _ _ HR.out).mono ?_
    rintro e w' ⟨rfl, hw⟩
    replace hw := hw.symm
    subst hw
    go_wp2
    go_ret
    exact ⟨rfl, HN0.out.trans HN9.out⟩
  obtain ⟨lo, hlo, _, _⟩ := bl_pos hz
  rw [hlo, show ((lo + 1 : Nat) : Int) - 1 = (lo : Int) by omega] at HDG
  have HPX := Lib.hid (fun y0 y1 y2 y3 w' (hn' : New W2 w') => powx_q y0 y1 y2 y3 a0 n0 m0 l w' (HL.out.stay hn') (by omega) hz)
  have HLN : Hid (∀ k, (tW (xpG k (vW l))).length ≤ 20000) := Lib.hid (fun k => by
    have h9 := rm_lt (a := 2 ^ k) hz
    have h8 := bl_le.2 hM
    rw [tW_len]
    unfold xpG
    omega)
  have HMM := Lib.hid (fun j k a c b c9 w' (h1 : QRow w' a (tW (xpG j (vW l))).length c (tW (xpG j (vW l)))) (h2 : QRow w' b (tW (xpG k (vW l))).length c9 (tW (xpG k (vW l)))) (hn' : New W2 w') => mulmod_q a b a0 _ c _ c9 n0 m0 _ _ l w' h1 h2 (HL.out.stay hn') (HLN.out j) (HLN.out k) (by omega) hz)
  have hmm : ∀ j k, rmG (mulG (vW (tW (xpG j (vW l)))) (vW (tW (xpG k (vW l))))) (vW l) = xpG (j + k) (vW l) := fun j k => by rw [vW_tW, vW_tW]; exact xp_add hz
  simp only [hmm] at HMM
  have hvm : vB (bO (vW l) (64 * n0)) ≠ 0 := by rw [vB_bO_all hM]; exact hz
  have HDV := Lib.hid (fun w' a n c b c9 bs (hr : LRow w' a n c bs) (hr2 : LRow w' b (64 * n0) c9 (bO (vW l) (64 * n0))) (hn9 : n ≤ 400000) => divide_r a b n c (64 * n0) c9 bs _ w' hr hr2 hn9 (by omega) hvm)
  rw [vB_bO_all hM] at HDV
  have HWD := Lib.hid (fun w' k a c b n c9 (h1 : QRow w' a (tW (xpG k (vW l))).length c (tW (xpG k (vW l)))) (h2 : LRow w' b n c9 (bO (xpG k (vW l)) n)) (hn9 : n ≤ 1000000) => words06 a b _ c n c9 _ _ w' h1 h2 hn9)
  have HAD := Lib.hid (fun w' => wadd4 x1_0 x1_1 x1_2 x1_3 x2_0 x2_1 x2_2 x2_3 w')
  obtain ⟨C, hC⟩ : ∃ C, four x1_0 x1_1 x1_2 x1_3 = C := ⟨_, rfl⟩
  obtain ⟨D, hD⟩ : ∃ D, four x2_0 x2_1 x2_2 x2_3 = D := ⟨_, rfl⟩
  have HP1 := Lib.hid (HPX.out x1_0 x1_1 x1_2 x1_3)
  have HP2 := Lib.hid (HPX.out x2_0 x2_1 x2_2 x2_3)
  rw [hC] at HP1 HAD
  rw [hD] at HP2 HAD
  obtain ⟨ov, hove⟩ : ∃ ov, decide (2 ^ 256 ≤ C + D) = ov := ⟨_, rfl⟩
  rw [hove] at HAD
  have HOVE := Lib.hid hove
  obtain ⟨M, hMe⟩ : ∃ M, vW l = M := ⟨_, rfl⟩
  rw [hMe] at HPX HOM HDG HMM HDV HWD HP1 HP2 HLN
  obtain ⟨L, hL⟩ : ∃ L, 64 * n0 = L := ⟨_, rfl⟩
  rw [hL] at HOM HDG HDV
  have hlo0 : ¬ (lo : Int) < 0 := by omega
  clear hM hz hlo hmm hvm hC hD hMe hL hove
  go_enter Try.func7, Try.ntmps7
  go_wp2_with fail
  rw [HW1.out, HW2.out]
  refine (HA.out _).mono ?_
  rintro e wA ⟨rfl, hn⟩
  have HN9 := Lib.hid hn
  clear hn HA HW1 HW2
  have ch := (HB.out _ HN9.out).1
  have c0 : wA.cell? ⟨W.heap.size, 0, none⟩ = some (.int .u64 (W64 x1_0)) := cell_of_row _ _ 0 _ _ _ ch
  have c1 : wA.cell? ⟨W.heap.size, 1, none⟩ = some (.int .u64 (W64 x1_1)) := cell_of_row _ _ 1 _ _ _ ch
  have c2 : wA.cell? ⟨W.heap.size, 2, none⟩ = some (.int .u64 (W64 x1_2)) := cell_of_row _ _ 2 _ _ _ ch
  have c3 : wA.cell? ⟨W.heap.size, 3, none⟩ = some (.int .u64 (W64 x1_3)) := cell_of_row _ _ 3 _ _ _ ch
  go_wp2_with fail
  refine (HP1.out _ HN9.out).mono ?_
  rintro e wB ⟨bp, dp, rfl, hq, hn⟩
  replace HN9 := Lib.hid (HN9.out.trans hn)
  have HP := Lib.hid hq
  clear hq HP1
  clear hn
  clear ch c0 c1 c2 c3
  go_wp2_with fail
  refine (HOM.out _ HN9.out).mono ?_
  rintro e wC ⟨a2, c2, rfl, hr, hn⟩
  replace HP := Lib.hid (HP.out.stay hn)
  replace HN9 := Lib.hid (HN9.out.trans hn)
  have HR := Lib.hid hr
  clear hr
  clear hn
  go_wp2_with fail
  refine (HDG.out _ _ _ HR.out).mono ?_
  rintro e w' ⟨rfl, hw⟩
  replace hw := hw.symm
  subst hw
  clear HR
  have dh := (HB.out _ HN9.out).2
  have d0 : wC.cell? ⟨W.heap.size + 1, 0, none⟩ = some (.int .u64 (W64 x2_0)) := cell_of_row _ _ 0 _ _ _ dh
  have d1 : wC.cell? ⟨W.heap.size + 1, 1, none⟩ = some (.int .u64 (W64 x2_1)) := cell_of_row _ _ 1 _ _ _ dh
  have d2 : wC.cell? ⟨W.heap.size + 1, 2, none⟩ = some (.int .u64 (W64 x2_2)) := cell_of_row _ _ 2 _ _ _ dh
  have d3 : wC.cell? ⟨W.heap.size + 1, 3, none⟩ = some (.int .u64 (W64 x2_3)) := cell_of_row _ _ 3 _ _ _ dh
  go_wp2_with fail
  refine (HP2.out _ HN9.out).mono ?_
  rintro e wD ⟨bq, dq, rfl, hq, hn⟩
  replace HP := Lib.hid (HP.out.stay hn)
  replace HN9 := Lib.hid (HN9.out.trans hn)
  have HQ := Lib.hid hq
  clear hq HP2
  clear hn
  clear dh d0 d1 d2 d3
  have ch := (HB.out _ HN9.out).1
  have c0 : wD.cell? ⟨W.heap.size, 0, none⟩ = some (.int .u64 (W64 x1_0)) := cell_of_row _ _ 0 _ _ _ ch
  have c1 : wD.cell? ⟨W.heap.size, 1, none⟩ = some (.int .u64 (W64 x1_1)) := cell_of_row _ _ 1 _ _ _ ch
  have c2 : wD.cell? ⟨W.heap.size, 2, none⟩ = some (.int .u64 (W64 x1_2)) := cell_of_row _ _ 2 _ _ _ ch
  have c3 : wD.cell? ⟨W.heap.size, 3, none⟩ = some (.int .u64 (W64 x1_3)) := cell_of_row _ _ 3 _ _ _ ch
  have dh := (HB.out _ HN9.out).2
  have d0 : wD.cell? ⟨W.heap.size + 1, 0, none⟩ = some (.int .u64 (W64 x2_0)) := cell_of_row _ _ 0 _ _ _ dh
  have d1 : wD.cell? ⟨W.heap.size + 1, 1, none⟩ = some (.int .u64 (W64 x2_1)) := cell_of_row _ _ 1 _ _ _ dh
  have d2 : wD.cell? ⟨W.heap.size + 1, 2, none⟩ = some (.int .u64 (W64 x2_2)) := cell_of_row _ _ 2 _ _ _ dh
  have d3 : wD.cell? ⟨W.heap.size + 1, 3, none⟩ = some (.int .u64 (W64 x2_3)) := cell_of_row _ _ 3 _ _ _ dh
  go_wp2_with fail
  refine (HAD.out _).mono ?_
  rintro e wE ⟨s0, s1, s2, s3, rfl, hss, hn⟩
  replace HP := Lib.hid (HP.out.stay hn)
  replace HQ := Lib.hid (HQ.out.stay hn)
  replace HN9 := Lib.hid (HN9.out.trans hn)
  have HSS := Lib.hid hss
  clear hn hss HAD
  clear ch c0 c1 c2 c3
  clear dh d0 d1 d2 d3
  have sb := heap_alloc_new wE (.cells #[.int .u64 (W64 s0), .int .u64 (W64 s1), .int .u64 (W64 s2), .int .u64 (W64 s3)] 45)
  have nE : New wE (wE.alloc (.cells #[.int .u64 (W64 s0), .int .u64 (W64 s1), .int .u64 (W64 s2), .int .u64 (W64 s3)] 45)) := (New.refl wE).alloc _
  obtain ⟨wF, hwF⟩ : ∃ z, wE.alloc (.cells #[.int .u64 (W64 s0), .int .u64 (W64 s1), .int .u64 (W64 s2), .int .u64 (W64 s3)] 45) = z := ⟨_, rfl⟩
  rw [hwF] at sb nE
  have HSB := Lib.hid (fun w' (hn' : New wF w') => (hn'.block _ (lt_of_block sb)).trans sb)
  replace HP := Lib.hid (HP.out.stay nE)
  replace HQ := Lib.hid (HQ.out.stay nE)
  replace HN9 := Lib.hid (HN9.out.trans nE)
  have HWF := Lib.hid hwF
  clear sb nE hwF
  replace HMM := Lib.hid (HMM.out C D _ _ _ _ wF HP.out HQ.out HN9.out)
  go_wp2_with fail
  rw [HWF.out]
  refine HMM.out.mono ?_
  rintro e wG ⟨bb, db, rfl, hq, hn⟩
  have HBO := Lib.hid hq
  replace HN9 := Lib.hid (HN9.out.trans hn)
  have sh := HSB.out _ hn
  have k0 : wG.cell? ⟨wE.heap.size, 0, none⟩ = some (.int .u64 (W64 s0)) := cell_of_row _ _ 0 _ _ _ sh
  have k1 : wG.cell? ⟨wE.heap.size, 1, none⟩ = some (.int .u64 (W64 s1)) := cell_of_row _ _ 1 _ _ _ sh
  have k2 : wG.cell? ⟨wE.heap.size, 2, none⟩ = some (.int .u64 (W64 s2)) := cell_of_row _ _ 2 _ _ _ sh
  have k3 : wG.cell? ⟨wE.heap.size, 3, none⟩ = some (.int .u64 (W64 s3)) := cell_of_row _ _ 3 _ _ _ sh
  clear hq hn HMM HSB HWF sh HP HQ
  go_wp2_with fail
  refine (HPX.out s0 s1 s2 s3 _ HN9.out).mono ?_
  rintro e wH ⟨br, dr, rfl, hq, hn⟩
  replace HBO := Lib.hid (HBO.out.stay hn)
  replace HN9 := Lib.hid (HN9.out.trans hn)
  have HRR := Lib.hid hq
  clear hq
  clear hn
  clear k0 k1 k2 k3
  have HW := Lib.hid (words_ref _ _ _ _ _ _ _ _ W2 wH HBO.out HRR.out HN9.out)
  have HOV : Hid (ov = false → (tW (xpG (C + D) M) == tW (xpG (four s0 s1 s2 s3) M)) = true) := Lib.hid (fun h => by
    have h0 := HOVE.out
    rw [h] at h0
    have h1 := of_decide_eq_false h0
    obtain ⟨e0, e1, e2, e3⟩ := HSS.out
    rw [e0, e1, e2, e3, four_of _ (by omega), beq_self_eq_true])
  clear HSS HOVE
  have hnn : a3 < 0 ∨ (0 ≤ a3 ∧ 150 < a3) ∨ (0 ≤ a3 ∧ a3 ≤ 150) := by omega
  rcases ov with _ | _
  · have hwe := HOV.out rfl
    rw [hwe] at HW
    clear hwe
    go_wp2_with fail
    refine HW.out.mono ?_
    rintro e wH2 ⟨rfl, hn, hn2⟩
    replace HN9 := Lib.hid hn2
    replace HBO := Lib.hid (HBO.out.stay hn)
    replace HRR := Lib.hid (HRR.out.stay hn)
    have HW := ()
    clear hn hn2
    rcases hnn with hnn | ⟨hnn, hn2⟩ | ⟨hnn, hn2⟩
    · go_wp2
      go_ret
      exact ⟨rfl, HN0.out.trans HN9.out⟩
    · have hn3 : ¬ a3 < 0 := by omega
      go_wp2
      go_ret
      exact ⟨rfl, HN0.out.trans HN9.out⟩
    · obtain ⟨n, rfl⟩ : ∃ n : Nat, a3 = (n : Int) := ⟨a3.toNat, by omega⟩
      have hn3 : ¬ (n : Int) < 0 := by omega
      have hn4 : ¬ (150 : Int) < (n : Int) := by omega
      obtain ⟨x, hx⟩ : ∃ x : BitVec 64, BitVec.ofNat 64 n = x := ⟨_, rfl⟩
      have hxn : x.toNat = n := by rw [← hx, BitVec.toNat_ofNat]; omega
      have hwx : IntKind.u64.wrap (n : Int) = W64 x := by rw [wrap_u64, BitVec.ofInt_natCast, hx]
      have HO4 := Lib.hid (wof4 x)
      have HPN := Lib.hid (HPX.out x 0#64 0#64 0#64)
      rw [four_low, hxn, lo_zero] at HPN
      have htt := lit_true
      have HUP := Lib.hid (fun w' a c (hr : LRow w' a 1 c [true]) => up_r a 1 c [true] n w' hr (by omega) (by omega))
      rw [vB_true, Nat.mul_one] at HUP
      have HN1 : Hid (n + 1 ≤ 400000) := Lib.hid (by omega)
      have HVB : Hid (vB (bO (2 ^ n) (n + 1)) = 2 ^ n) := Lib.hid (vB_bO_all (Nat.pow_lt_pow_right (by decide) (Nat.lt_succ_self n)))
      have HTT := Lib.hid htt
      clear hx hxn htt HOV HBO HRR HLN
      go_wp2_with fail
      refine (HO4.out _).mono ?_
      rintro e wI ⟨rfl, hn⟩
      replace HN9 := Lib.hid (HN9.out.trans hn)
      clear hn HO4
      go_wp2_with fail
      refine (HPN.out _ HN9.out).mono ?_
      rintro e wJ ⟨bs, ds, rfl, hq, hn⟩
      replace HN9 := Lib.hid (HN9.out.trans hn)
      have HS := Lib.hid hq
      clear hq HPN
      clear hn
      have ht := HTT.out wJ
      have nJ : New wJ (wJ.alloc (.cells #[.bool true] 4)) := (New.refl wJ).alloc _
      obtain ⟨wK, hwK⟩ : ∃ z, wJ.alloc (.cells #[.bool true] 4) = z := ⟨_, rfl⟩
      rw [hwK] at ht nJ
      replace HS := Lib.hid (HS.out.stay nJ)
      replace HN9 := Lib.hid (HN9.out.trans nJ)
      replace HUP := Lib.hid (HUP.out _ _ _ ht)
      have HWK := Lib.hid hwK
      clear ht nJ hwK HTT
      go_wp2_with fail
      rw [HWK.out]
      refine HUP.out.mono ?_
      rintro e wL ⟨bu, du, rfl, hr, hn⟩
      have HU := Lib.hid hr
      replace HS := Lib.hid (HS.out.stay hn)
      replace HN9 := Lib.hid (HN9.out.trans hn)
      clear hr hn HUP HWK
      go_wp2_with fail
      refine (HOM.out _ HN9.out).mono ?_
      rintro e wM ⟨bo, dO, rfl, hr, hn⟩
      replace HS := Lib.hid (HS.out.stay hn)
      replace HU := Lib.hid (HU.out.stay hn)
      replace HN9 := Lib.hid (HN9.out.trans hn)
      have HR := Lib.hid hr
      clear hr
      clear hn
      have HDX := HDV.out _ _ _ _ _ _ _ HU.out HR.out HN1.out
      rw [HVB.out] at HDX
      replace HDV := Lib.hid HDX
      clear HDX
      go_wp2_with fail
      refine (HDV.out).mono ?_
      rintro e wN ⟨q1, L1, e1, b1, d1, rfl, _, hr, _, _, hrl, hn⟩
      replace HS := Lib.hid (HS.out.stay hn)
      replace HN9 := Lib.hid (HN9.out.trans hn)
      have HX := Lib.hid hr
      have HRL := Lib.hid hrl
      clear hr hrl
      clear hn
      have HWX := HWD.out wN n _ _ _ _ _ HS.out HX.out (Nat.le_trans HN1.out (by decide))
      rw [vB_bO_all (show xpG n M < 2 ^ (n + 1) from HRL.out), beq_self_eq_true] at HWX
      have HWY := Lib.hid HWX
      clear HWX
      go_wp2_with fail
      refine (HWY.out).mono ?_
      rintro e wO ⟨rfl, hn⟩
      replace HN9 := Lib.hid (HN9.out.trans hn)
      clear hn
      go_wp2
      go_ret
      exact ⟨rfl, HN0.out.trans HN9.out⟩
  · rcases hnn with hnn | ⟨hnn, hn2⟩ | ⟨hnn, hn2⟩
    · go_wp2
      go_ret
      exact ⟨rfl, HN0.out.trans HN9.out⟩
    · have hn3 : ¬ a3 < 0 := by omega
      go_wp2
      go_ret
      exact ⟨rfl, HN0.out.trans HN9.out⟩
    · obtain ⟨n, rfl⟩ : ∃ n : Nat, a3 = (n : Int) := ⟨a3.toNat, by omega⟩
      have hn3 : ¬ (n : Int) < 0 := by omega
      have hn4 : ¬ (150 : Int) < (n : Int) := by omega
      obtain ⟨x, hx⟩ : ∃ x : BitVec 64, BitVec.ofNat 64 n = x := ⟨_, rfl⟩
      have hxn : x.toNat = n := by rw [← hx, BitVec.toNat_ofNat]; omega
      have hwx : IntKind.u64.wrap (n : Int) = W64 x := by rw [wrap_u64, BitVec.ofInt_natCast, hx]
      have HO4 := Lib.hid (wof4 x)
      have HPN := Lib.hid (HPX.out x 0#64 0#64 0#64)
      rw [four_low, hxn, lo_zero] at HPN
      have htt := lit_true
      have HUP := Lib.hid (fun w' a c (hr : LRow w' a 1 c [true]) => up_r a 1 c [true] n w' hr (by omega) (by omega))
      rw [vB_true, Nat.mul_one] at HUP
      have HN1 : Hid (n + 1 ≤ 400000) := Lib.hid (by omega)
      have HVB : Hid (vB (bO (2 ^ n) (n + 1)) = 2 ^ n) := Lib.hid (vB_bO_all (Nat.pow_lt_pow_right (by decide) (Nat.lt_succ_self n)))
      have HTT := Lib.hid htt
      clear hx hxn htt HW HOV HBO HRR HLN
      go_wp2_with fail
      refine (HO4.out _).mono ?_
      rintro e wI ⟨rfl, hn⟩
      replace HN9 := Lib.hid (HN9.out.trans hn)
      clear hn HO4
      go_wp2_with fail
      refine (HPN.out _ HN9.out).mono ?_
      rintro e wJ ⟨bs, ds, rfl, hq, hn⟩
      replace HN9 := Lib.hid (HN9.out.trans hn)
      have HS := Lib.hid hq
      clear hq HPN
      clear hn
      have ht := HTT.out wJ
      have nJ : New wJ (wJ.alloc (.cells #[.bool true] 4)) := (New.refl wJ).alloc _
      obtain ⟨wK, hwK⟩ : ∃ z, wJ.alloc (.cells #[.bool true] 4) = z := ⟨_, rfl⟩
      rw [hwK] at ht nJ
      replace HS := Lib.hid (HS.out.stay nJ)
      replace HN9 := Lib.hid (HN9.out.trans nJ)
      replace HUP := Lib.hid (HUP.out _ _ _ ht)
      have HWK := Lib.hid hwK
      clear ht nJ hwK HTT
      go_wp2_with fail
      rw [HWK.out]
      refine HUP.out.mono ?_
      rintro e wL ⟨bu, du, rfl, hr, hn⟩
      have HU := Lib.hid hr
      replace HS := Lib.hid (HS.out.stay hn)
      replace HN9 := Lib.hid (HN9.out.trans hn)
      clear hr hn HUP HWK
      go_wp2_with fail
      refine (HOM.out _ HN9.out).mono ?_
      rintro e wM ⟨bo, dO, rfl, hr, hn⟩
      replace HS := Lib.hid (HS.out.stay hn)
      replace HU := Lib.hid (HU.out.stay hn)
      replace HN9 := Lib.hid (HN9.out.trans hn)
      have HR := Lib.hid hr
      clear hr
      clear hn
      have HDX := HDV.out _ _ _ _ _ _ _ HU.out HR.out HN1.out
      rw [HVB.out] at HDX
      replace HDV := Lib.hid HDX
      clear HDX
      go_wp2_with fail
      refine (HDV.out).mono ?_
      rintro e wN ⟨q1, L1, e1, b1, d1, rfl, _, hr, _, _, hrl, hn⟩
      replace HS := Lib.hid (HS.out.stay hn)
      replace HN9 := Lib.hid (HN9.out.trans hn)
      have HX := Lib.hid hr
      have HRL := Lib.hid hrl
      clear hr hrl
      clear hn
      have HWX := HWD.out wN n _ _ _ _ _ HS.out HX.out (Nat.le_trans HN1.out (by decide))
      rw [vB_bO_all (show xpG n M < 2 ^ (n + 1) from HRL.out), beq_self_eq_true] at HWX
      have HWY := Lib.hid HWX
      clear HWX
      go_wp2_with fail
      refine (HWY.out).mono ?_
      rintro e wO ⟨rfl, hn⟩
      replace HN9 := Lib.hid (HN9.out.trans hn)
      clear hn
      go_wp2
      go_ret
      exact ⟨rfl, HN0.out.trans HN9.out⟩
end Go.Proofs.Ytppmpledcaonkaa
