/- The law StrpolyChunks. -/
import Derived.Test.YtiboncnfepnjcaaStrN
namespace Go.Proofs.Ytiboncnfepnjcaa
open Go Go.RowKit Go.Bv
set_option linter.unusedVariables false
theorem outB_ok {l : List (BitVec 64)} (h : okB l = true) : outB l = unB l := by unfold outB; rw [h]; rfl
theorem outB_no {l : List (BitVec 64)} (h : okB l = false) : outB l = [] := by unfold outB; rw [h]; rfl
theorem beq_chL (b c : List (BitVec 8)) : (chL b == chL c) = (b == c) := by
  rw [Bool.eq_iff_iff, beq_iff_eq, beq_iff_eq]
  exact ⟨chL_inj, fun h => by rw [h]⟩
theorem unB_len {l : List (BitVec 64)} (h : okB l = true) : (unB l).length / 7 + 1 = l.length := by
  have := congrArg List.length (chL_unB h)
  rwa [chL_len] at this
set_option maxRecDepth 100000 in
set_option maxHeartbeats 4000000 in
theorem StrpolyChunks_walk (W : World) (a0 : Option Addr) (n0 m0 : Nat) (z0 : List Int) (w0 : IRow .u8 W a0 n0 m0 z0) (r0 : m0 * 1 ≤ 140737488351232) (a1 : Option Addr) (n1 m1 : Nat) (z1 : List Int) (w1 : IRow .u8 W a1 n1 m1 z1) (r1 : m1 * 1 ≤ 140737488351232) (a2 : Option Addr) (n2 m2 : Nat) (z2 : List Int) (w2 : IRow .u64 W a2 n2 m2 z2) (r2 : m2 * 8 ≤ 140737488351232) :
    Calls Try.prog 11 #[.slice a0 n0 m0, .slice a1 n1 m1, .slice a2 n2 m2] W fun e w' => e = .returned (.bool true) ∧ Below W.heap.size W w' := by
  obtain ⟨b, hb⟩ := w0.bytes r0
  obtain ⟨c, hc⟩ := w1.bytes r1
  obtain ⟨l, hl⟩ := w2.words r2
  have H0 := Lib.hid hb
  have H1 := Lib.hid hc
  have H2 := Lib.hid hl
  clear w0 w1 w2 r0 r1 r2 hb hc hl
  have HA := Lib.hid awake25
  go_enter Try.func11, Try.ntmps11
  go_wp2_with fail
  refine (HA.out _).mono ?_
  rintro e w9 ⟨rfl, hn⟩
  replace H0 := Lib.hid (H0.out.stay hn)
  replace H1 := Lib.hid (H1.out.stay hn)
  replace H2 := Lib.hid (H2.out.stay hn)
  have HN := Lib.hid hn
  clear hn HA
  by_cases hs0 : (300 : Int) < (n0 : Int)
  · go_wp2
    go_ret
    exact ⟨rfl, HN.out⟩
  by_cases hs1 : (300 : Int) < (n1 : Int)
  · go_wp2
    go_ret
    exact ⟨rfl, HN.out⟩
  by_cases hs2 : (40 : Int) < (n2 : Int)
  · go_wp2
    go_ret
    exact ⟨rfl, HN.out⟩
  have HCH := Lib.hid (fun w (h : BRow w a0 n0 m0 b) => schunks_q a0 n0 m0 b w h (by omega))
  have HBY := Lib.hid (fun w a k (h : QRow w a (n0 / 7 + 1) k (chL b)) => sbytes_q a (n0 / 7 + 1) k _ w h (by omega))
  rw [outB_ok (okB_chL b), unB_chL b, okB_chL b] at HBY
  have HRC := Lib.hid (fun w (h : BRow w a0 n0 m0 b) => rchunks_q a0 n0 m0 b w h (by omega))
  have HCC := Lib.hid (fun w (h : BRow w a1 n1 m1 c) => schunks_q a1 n1 m1 c w h (by omega))
  have HRD := Lib.hid (fun w (h : BRow w a1 n1 m1 c) => rchunks_q a1 n1 m1 c w h (by omega))
  have HWW := Lib.hid (fun w a k a' k' (h : QRow w a (n0 / 7 + 1) k (chL b)) (h' : QRow w a' (n0 / 7 + 1) k' (chL b)) => words_ref a a' _ k _ k' _ _ w w h h' (New.refl w))
  rw [beq_self_eq_true] at HWW
  have HWC := Lib.hid (fun w a k a' k' (h : QRow w a (n0 / 7 + 1) k (chL b)) (h' : QRow w a' (n1 / 7 + 1) k' (chL c)) => words_ref a a' _ k _ k' _ _ w w h h' (New.refl w))
  rw [beq_chL] at HWC
  have HSB := Lib.hid (fun w a k (h : BRow w a b.length k b) (h' : BRow w a0 n0 m0 b) => same_any a a0 _ k n0 m0 b b w h h')
  rw [beq_self_eq_true] at HSB
  have HSC := Lib.hid (fun w (h : BRow w a0 n0 m0 b) (h' : BRow w a1 n1 m1 c) => same_any a0 a1 n0 m0 n1 m1 b c w h h')
  have HBL := Lib.hid (fun w (h : QRow w a2 n2 m2 l) => sbytes_q a2 n2 m2 l w h (by omega))
  have HL2 := Lib.hid (fun h : okB l = true => unB_len h)
  have HLE := Lib.hid H2.out.len_eq
  have HCU := Lib.hid (fun h : okB l = true => chL_unB h)
  have HCD : Hid (okB l = false → (chL c == l) = false) := Lib.hid (fun h => by
    rw [beq_eq_false_iff_ne]; intro e; rw [← e, okB_chL] at h; cases h)
  have HWL := Lib.hid (fun w a k (h : QRow w a (n1 / 7 + 1) k (chL c)) (h' : QRow w a2 n2 m2 l) => words_ref a a2 _ k _ m2 _ _ w w h h' (New.refl w))
  have HRU := Lib.hid (fun (ho : okB l = true) w a k (h : BRow w a (unB l).length k (unB l)) => rchunks_q a _ k (unB l) w h (by have := unB_len ho; have := H2.out.len_eq; omega))
  have HWU := Lib.hid (fun w a k a' k' n n' (q q' : List (BitVec 64)) (h : QRow w a n k q) (h' : QRow w a' n' k' q') => words_ref a a' _ k _ k' _ _ w w h h' (New.refl w))
  obtain ⟨p0, hp0⟩ : ∃ z, n0 / 7 + 1 = z := ⟨_, rfl⟩
  obtain ⟨p1, hp1⟩ : ∃ z, n1 / 7 + 1 = z := ⟨_, rfl⟩
  rw [hp0] at HCH HBY HRC HWW HWC
  rw [hp1] at HCC HRD HWC HWL
  clear hp0 hp1
  obtain ⟨cb, hcb⟩ : ∃ z, chL b = z := ⟨_, rfl⟩
  obtain ⟨cc, hcc⟩ : ∃ z, chL c = z := ⟨_, rfl⟩
  rw [hcb] at HCH HBY HRC HWW HWC
  rw [hcc] at HCC HRD HWC HWL HCD
  clear hcb hcc
  obtain ⟨nb, hnb⟩ : ∃ z, b.length = z := ⟨_, rfl⟩
  rw [hnb] at HBY HSB
  clear hnb
  obtain ⟨sm, hsm⟩ : ∃ z, (b == c) = z := ⟨_, rfl⟩
  rw [hsm] at HWC HSC
  clear hsm
  go_wp2_with fail
  refine (HCH.out _ H0.out).mono ?_
  rintro e w9 ⟨ar, cr, rfl, hq, hn⟩
  have HQ := Lib.hid hq
  replace H0 := Lib.hid (H0.out.stay hn)
  replace H1 := Lib.hid (H1.out.stay hn)
  replace H2 := Lib.hid (H2.out.stay hn)
  replace HN := Lib.hid (HN.out.trans hn)
  clear hq hn HCH
  go_wp2_with fail
  refine (HBY.out _ _ _ HQ.out).mono ?_
  rintro e w9 ⟨ab, kb, rfl, hq, hn⟩
  have HB := Lib.hid hq
  replace HQ := Lib.hid (HQ.out.stay hn)
  replace H0 := Lib.hid (H0.out.stay hn)
  replace H1 := Lib.hid (H1.out.stay hn)
  replace H2 := Lib.hid (H2.out.stay hn)
  replace HN := Lib.hid (HN.out.trans hn)
  clear hq hn HBY
  go_wp2_with fail
  refine (HRC.out _ H0.out).mono ?_
  rintro e w9 ⟨ac, kc, rfl, hq, hn⟩
  have HQ2 := Lib.hid hq
  replace HQ := Lib.hid (HQ.out.stay hn)
  replace HB := Lib.hid (HB.out.stay hn)
  replace H0 := Lib.hid (H0.out.stay hn)
  replace H1 := Lib.hid (H1.out.stay hn)
  replace H2 := Lib.hid (H2.out.stay hn)
  replace HN := Lib.hid (HN.out.trans hn)
  clear hq hn HRC
  go_wp2_with fail
  refine (HWW.out _ _ _ _ _ HQ.out HQ2.out).mono ?_
  rintro e w9 ⟨rfl, hn, _⟩
  replace HQ := Lib.hid (HQ.out.stay hn)
  replace HB := Lib.hid (HB.out.stay hn)
  replace H0 := Lib.hid (H0.out.stay hn)
  replace H1 := Lib.hid (H1.out.stay hn)
  replace H2 := Lib.hid (H2.out.stay hn)
  replace HN := Lib.hid (HN.out.trans hn)
  clear hn HWW HQ2
  go_wp2_with fail
  refine (HSB.out _ _ _ HB.out H0.out).mono ?_
  rintro e w' ⟨rfl, hw⟩
  replace hw := hw.symm
  subst hw
  clear HSB HB
  go_wp2_with fail
  refine (HCC.out _ H1.out).mono ?_
  rintro e w9 ⟨ac, kc, rfl, hq, hn⟩
  have HQ2 := Lib.hid hq
  replace HQ := Lib.hid (HQ.out.stay hn)
  replace H0 := Lib.hid (H0.out.stay hn)
  replace H1 := Lib.hid (H1.out.stay hn)
  replace H2 := Lib.hid (H2.out.stay hn)
  replace HN := Lib.hid (HN.out.trans hn)
  clear hq hn HCC
  go_wp2_with fail
  refine (HWC.out _ _ _ _ _ HQ.out HQ2.out).mono ?_
  rintro e w9 ⟨rfl, hn, _⟩
  replace H0 := Lib.hid (H0.out.stay hn)
  replace H1 := Lib.hid (H1.out.stay hn)
  replace H2 := Lib.hid (H2.out.stay hn)
  replace HN := Lib.hid (HN.out.trans hn)
  clear hn HWC HQ2 HQ
  go_wp2_with fail
  refine (HSC.out _ H0.out H1.out).mono ?_
  rintro e w' ⟨rfl, hw⟩
  replace hw := hw.symm
  subst hw
  clear HSC H0
  have hss : (sm != sm) = false := by simp
  go_wp2_with fail
  refine (HBL.out _ H2.out).mono ?_
  rintro e w9 ⟨au, ku, rfl, hq, hn⟩
  have HB := Lib.hid hq
  replace H1 := Lib.hid (H1.out.stay hn)
  replace H2 := Lib.hid (H2.out.stay hn)
  replace HN := Lib.hid (HN.out.trans hn)
  clear hq hn HBL hss
  rcases Bool.eq_false_or_eq_true (okB l) with hok | hok
  · have HOK := Lib.hid hok
    rw [hok]
    rw [outB_ok hok] at HB ⊢
    obtain ⟨un, hun⟩ : ∃ z, (unB l).length = z := ⟨_, rfl⟩
    have HR2 := Lib.hid (HRU.out hok _ _ _ HB.out)
    rw [HCU.out hok] at HR2
    rw [hun] at HR2 ⊢
    clear hok hun
    go_wp2_with fail
    refine (HR2.out).mono ?_
    rintro e w9 ⟨ac, kc, rfl, hq, hn⟩
    have HQ2 := Lib.hid hq
    replace H2 := Lib.hid (H2.out.stay hn)
    replace HN := Lib.hid (HN.out.trans hn)
    clear hq hn HR2
    go_wp2_with fail
    refine (HWU.out _ _ _ _ _ _ _ _ _ HQ2.out H2.out).mono ?_
    rintro e w9 ⟨rfl, hn, _⟩
    rw [beq_self_eq_true]
    replace HN := Lib.hid (HN.out.trans hn)
    go_wp2
    go_ret
    exact ⟨rfl, HN.out⟩
  · have HD := Lib.hid (HCD.out hok)
    rw [hok]
    rw [outB_no hok]
    clear hok
    rw [List.length_nil]
    go_wp2_with fail
    refine (HRD.out _ H1.out).mono ?_
    rintro e w9 ⟨ac, kc, rfl, hq, hn⟩
    have HQ2 := Lib.hid hq
    replace H2 := Lib.hid (H2.out.stay hn)
    replace HN := Lib.hid (HN.out.trans hn)
    clear hq hn HRD
    go_wp2_with fail
    refine (HWL.out _ _ _ HQ2.out H2.out).mono ?_
    rintro e w9 ⟨rfl, hn, _⟩
    rw [HD.out]
    replace HN := Lib.hid (HN.out.trans hn)
    go_wp2
    go_ret
    exact ⟨rfl, HN.out⟩
end Go.Proofs.Ytiboncnfepnjcaa
