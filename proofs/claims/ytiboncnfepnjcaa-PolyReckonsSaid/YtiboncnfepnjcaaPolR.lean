/- The law PolyReckons. -/
import Derived.Test.YtiboncnfepnjcaaPolW
namespace Go.Proofs.Ytiboncnfepnjcaa
open Go.RowKit Go.Bv
set_option linter.unusedVariables false
set_option maxRecDepth 100000 in
set_option maxHeartbeats 4000000 in
theorem PolyReckons_walk (W : World) (a0 : Option Addr) (n0 m0 : Nat) (z0 : List Int) (w0 : IRow .u64 W a0 n0 m0 z0) (r0 : m0 * 8 ≤ 140737488351232) (a1 : Option Addr) (n1 m1 : Nat) (z1 : List Int) (w1 : IRow .u64 W a1 n1 m1 z1) (r1 : m1 * 8 ≤ 140737488351232) (a2 : Int) (w2 : (Lit.int .u64 a2).wf = true) :
    Calls Try.prog 4 #[.slice a0 n0 m0, .slice a1 n1 m1, .int .u64 a2] W fun e w' => e = .returned (.bool true) ∧ Below W.heap.size W w' := by
  obtain ⟨x, rfl⟩ := ex64 a2 (by simp [Lit.wf, IntKind.min, IntKind.max, IntKind.signed, IntKind.bits] at w2; omega)
  obtain ⟨l, hl⟩ := w0.words r0
  obtain ⟨m, hm⟩ := w1.words r1
  have H0 := Lib.hid hl
  have H1 := Lib.hid hm
  clear w0 w1 w2 r0 r1 hl hm
  have HA := Lib.hid awake18
  go_enter Try.func4, Try.ntmps4
  go_wp2_with fail
  refine (HA.out _).mono ?_
  rintro e w9 ⟨rfl, hn⟩
  replace H0 := Lib.hid (H0.out.stay hn)
  replace H1 := Lib.hid (H1.out.stay hn)
  have HN := Lib.hid hn
  clear hn HA
  by_cases hs1 : (10 : Int) < (n0 : Int)
  · go_wp2
    go_ret
    exact ⟨rfl, HN.out⟩
  by_cases hs2 : (10 : Int) < (n1 : Int)
  · go_wp2
    go_ret
    exact ⟨rfl, HN.out⟩
  have HLE : Hid (n0 ≤ 10 ∧ n1 ≤ 10) := Lib.hid ⟨by omega, by omega⟩
  have HSV := Lib.hid (sum_value l m x)
  have HMV := Lib.hid (mul_value l m x)
  go_wp2_with fail
  clear hs1 hs2
  refine (padd_q _ _ _ _ _ _ _ _ _ H0.out H1.out).mono ?_
  rintro e w9 ⟨aHS, cHS, rfl, hq, hn⟩
  replace H0 := Lib.hid (H0.out.stay hn)
  replace H1 := Lib.hid (H1.out.stay hn)
  have HS := Lib.hid hq
  replace HN := Lib.hid (HN.out.trans hn)
  clear hq hn
  go_wp2_with fail
  refine (pmul_q _ _ _ _ _ _ _ _ _ H0.out H1.out (by have := HLE.out; omega)).mono ?_
  rintro e w9 ⟨aHP, cHP, rfl, hq, hn⟩
  replace H0 := Lib.hid (H0.out.stay hn)
  replace H1 := Lib.hid (H1.out.stay hn)
  replace HS := Lib.hid (HS.out.stay hn)
  have HP := Lib.hid hq
  replace HN := Lib.hid (HN.out.trans hn)
  clear hq hn
  go_wp2_with fail
  refine (radd_q _ _ _ _ _ _ _ _ _ H0.out H1.out).mono ?_
  rintro e w9 ⟨aHX, cHX, rfl, hq, hn⟩
  replace H0 := Lib.hid (H0.out.stay hn)
  replace H1 := Lib.hid (H1.out.stay hn)
  replace HS := Lib.hid (HS.out.stay hn)
  replace HP := Lib.hid (HP.out.stay hn)
  have HX := Lib.hid hq
  replace HN := Lib.hid (HN.out.trans hn)
  clear hq hn
  go_wp2_with fail
  refine (words_ref _ _ _ _ _ _ _ _ _ _ HS.out HX.out HN.out).mono ?_
  rintro e w9 ⟨rfl, hn, hW⟩
  rw [beq_self_eq_true]
  replace H0 := Lib.hid (H0.out.stay hn)
  replace H1 := Lib.hid (H1.out.stay hn)
  replace HS := Lib.hid (HS.out.stay hn)
  replace HP := Lib.hid (HP.out.stay hn)
  replace HN := Lib.hid hW
  clear hn hW
  clear HX
  go_wp2_with fail
  refine (rmul_q _ _ _ _ _ _ _ _ _ H0.out H1.out (by have := HLE.out; omega)).mono ?_
  rintro e w9 ⟨aHX, cHX, rfl, hq, hn⟩
  replace H0 := Lib.hid (H0.out.stay hn)
  replace H1 := Lib.hid (H1.out.stay hn)
  replace HS := Lib.hid (HS.out.stay hn)
  replace HP := Lib.hid (HP.out.stay hn)
  have HX := Lib.hid hq
  replace HN := Lib.hid (HN.out.trans hn)
  clear hq hn
  go_wp2_with fail
  refine (words_ref _ _ _ _ _ _ _ _ _ _ HP.out HX.out HN.out).mono ?_
  rintro e w9 ⟨rfl, hn, hW⟩
  rw [beq_self_eq_true]
  replace H0 := Lib.hid (H0.out.stay hn)
  replace H1 := Lib.hid (H1.out.stay hn)
  replace HS := Lib.hid (HS.out.stay hn)
  replace HP := Lib.hid (HP.out.stay hn)
  replace HN := Lib.hid hW
  clear hn hW
  clear HX
  go_wp2_with fail
  refine (trim_q _ _ _ _ _ H0.out).mono ?_
  rintro e w9 ⟨aHY, cHY, rfl, hq, hn⟩
  replace H0 := Lib.hid (H0.out.stay hn)
  replace H1 := Lib.hid (H1.out.stay hn)
  replace HS := Lib.hid (HS.out.stay hn)
  replace HP := Lib.hid (HP.out.stay hn)
  have HY := Lib.hid hq
  replace HN := Lib.hid (HN.out.trans hn)
  clear hq hn
  go_wp2_with fail
  refine (rtrim_q _ _ _ _ _ H0.out).mono ?_
  rintro e w9 ⟨aHX, cHX, rfl, hq, hn⟩
  replace H0 := Lib.hid (H0.out.stay hn)
  replace H1 := Lib.hid (H1.out.stay hn)
  replace HS := Lib.hid (HS.out.stay hn)
  replace HP := Lib.hid (HP.out.stay hn)
  replace HY := Lib.hid (HY.out.stay hn)
  have HX := Lib.hid hq
  replace HN := Lib.hid (HN.out.trans hn)
  clear hq hn
  go_wp2_with fail
  refine (words_ref _ _ _ _ _ _ _ _ _ _ HY.out HX.out HN.out).mono ?_
  rintro e w9 ⟨rfl, hn, hW⟩
  rw [beq_self_eq_true]
  replace H0 := Lib.hid (H0.out.stay hn)
  replace H1 := Lib.hid (H1.out.stay hn)
  replace HS := Lib.hid (HS.out.stay hn)
  replace HP := Lib.hid (HP.out.stay hn)
  replace HN := Lib.hid hW
  clear hn hW
  clear HX HY
  have HV1 := Lib.hid (fun w (h : QRow w a0 n0 m0 l) => value_q _ _ _ _ x w h)
  have HV2 := Lib.hid (fun w (h : QRow w a1 n1 m1 m) => value_q _ _ _ _ x w h)
  obtain ⟨u, hu⟩ : ∃ z, mp (nv l x) = z := ⟨_, rfl⟩
  obtain ⟨v, hv⟩ : ∃ z, mp (nv m x) = z := ⟨_, rfl⟩
  rw [hu] at HV1
  rw [hv] at HV2
  rw [hu, hv] at HSV HMV
  clear hu hv
  go_wp2_with fail
  refine (HV1.out _ H0.out).mono ?_
  rintro e w8 ⟨rfl, hw8⟩
  replace hw8 := hw8.symm
  subst hw8
  have hru := Lib.hid (qrow1 w9 u)
  have hnu := Lib.hid ((New.refl w9).alloc (.cells #[.int .u64 (W64 u)] 23))
  go_wp2_with fail
  refine (HV2.out _ (H1.out.stay hnu.out)).mono ?_
  rintro e w8 ⟨rfl, hw8⟩
  replace hw8 := hw8.symm
  subst hw8
  have hrv := Lib.hid (qrow1 (w9.alloc (.cells #[.int .u64 (W64 u)] 23)) v)
  have hnv := Lib.hid ((New.refl (w9.alloc (.cells #[.int .u64 (W64 u)] 23))).alloc (.cells #[.int .u64 (W64 v)] 23))
  have hsz : (w9.alloc (.cells #[.int .u64 (W64 u)] 23)).heap.size = w9.heap.size + 1 := by simp
  rw [hsz] at hrv
  clear hsz
  replace hru := Lib.hid (hru.out.stay hnv.out)
  have HNB := Lib.hid (hnu.out.trans hnv.out)
  have HVS := Lib.hid (fun w (h : QRow w aHS (trimL (addL l m)).length cHS (trimL (addL l m))) => value_q _ _ _ _ x w h)
  have HVP := Lib.hid (fun w (h : QRow w aHP (trimL (mulL l m)).length cHP (trimL (mulL l m))) => value_q _ _ _ _ x w h)
  rw [HSV.out] at HVS
  rw [HMV.out] at HVP
  replace HS := Lib.hid (HS.out.stay HNB.out)
  replace HP := Lib.hid (HP.out.stay HNB.out)
  replace HN := Lib.hid (HN.out.trans HNB.out)
  clear hnu hnv HNB HV1 HV2 H0 H1
  go_wp2_with fail
  generalize (w9.alloc (.cells #[.int .u64 (W64 u)] 23)).alloc (.cells #[.int .u64 (W64 v)] 23) = w7 at *
  refine (HVS.out _ HS.out).mono ?_
  rintro e w8 ⟨rfl, hw8⟩
  replace hw8 := hw8.symm
  subst hw8
  go_wp2_with fail
  refine (radd_q _ _ _ _ _ _ _ _ _ hru.out hrv.out).mono ?_
  rintro e w9 ⟨aHX, cHX, rfl, hq, hn⟩
  replace hru := Lib.hid (hru.out.stay hn)
  replace hrv := Lib.hid (hrv.out.stay hn)
  replace HP := Lib.hid (HP.out.stay hn)
  have HX := Lib.hid hq
  replace HN := Lib.hid (HN.out.trans hn)
  clear hq hn
  have HZ := Lib.hid (fun w (h : QRow w aHX (trimL (addL [u] [v])).length cHX (trimL (addL [u] [v]))) => value_q _ _ _ _ 0#64 w h)
  rw [lo_zero] at HZ
  obtain ⟨r1, hr1⟩ : ∃ z, mp (nv (trimL (addL [u] [v])) 0#64) = z := ⟨_, rfl⟩
  rw [hr1] at HZ ⊢
  clear hr1
  go_wp2_with fail
  refine (HZ.out _ HX.out).mono ?_
  rintro e w8 ⟨rfl, hw8⟩
  replace hw8 := hw8.symm
  subst hw8
  clear HX HZ
  go_wp2_with fail
  refine (HVP.out _ HP.out).mono ?_
  rintro e w8 ⟨rfl, hw8⟩
  replace hw8 := hw8.symm
  subst hw8
  go_wp2_with fail
  refine (rmul_q _ _ _ _ _ _ _ _ _ hru.out hrv.out (by omega)).mono ?_
  rintro e w9 ⟨aHX, cHX, rfl, hq, hn⟩
  have HX := Lib.hid hq
  replace HN := Lib.hid (HN.out.trans hn)
  clear hq hn
  have HZ := Lib.hid (fun w (h : QRow w aHX (trimL (mulL [u] [v])).length cHX (trimL (mulL [u] [v]))) => value_q _ _ _ _ 0#64 w h)
  rw [lo_zero] at HZ
  obtain ⟨r2, hr2⟩ : ∃ z, mp (nv (trimL (mulL [u] [v])) 0#64) = z := ⟨_, rfl⟩
  rw [hr2] at HZ ⊢
  clear hr2
  go_wp2_with fail
  refine (HZ.out _ HX.out).mono ?_
  rintro e w8 ⟨rfl, hw8⟩
  replace hw8 := hw8.symm
  subst hw8
  go_wp2
  go_ret
  exact ⟨rfl, HN.out⟩
end Go.Proofs.Ytiboncnfepnjcaa
