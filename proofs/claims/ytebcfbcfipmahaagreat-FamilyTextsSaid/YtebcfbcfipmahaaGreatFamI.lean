/- Layer 27: what any seed brings any text to, if it is one of texts: the walk of the statement FamilyTexts. -/
import Derived.Test.YtebcfbcfipmahaaGreatFamG
import Derived.Test.YtebcfbcfipmahaaGreatFamH
import Derived.Test.YtebcfbcfipmahaaGreatStrG
import Derived.Test.YtebcfbcfipmahaaGreatStrB
import Derived.Test.YtebcfbcfipmahaaGreatSeeF
namespace Go.Proofs.YtebcfbcfipmahaaGreat
open Go.RowKit Go.Bv
set_option linter.unusedVariables false
/-- what is wrong with a seed that texts are to be brought with -/
def txE (k b : Int) (l : List (BitVec 64)) : Int := if chF k b l = 0 then (if k = 8 then 0 else 6) else chF k b l
theorem txt_bad (k b : Int) (a : Option Addr) (n c : Nat) (l : List (BitVec 64)) (u : Option Addr) (m d : Nat) (s : List (BitVec 8)) (w : World) (h : QRow w a n c l) (hu : BRow w u m d s) (hz : ¬ txE k b l = 0) : Calls Tryz.prog 21 #[.agg (sdc k b a n c), .slice u m d] w fun e w' => e = .returned (.tuple #[.int .u64 0, .int .i64 (txE k b l)]) ∧ New w w' := by
  generalize hW : w.alloc (.cells (sdc k b a n c) 30) = w0
  have HB : Hid (w0.heap[w.heap.size]? = some (.cells (sdc k b a n c) 30 (0, 0))) := Lib.hid (by rw [← hW]; exact heap_alloc_new w _)
  have HN : Hid (New w w0) := Lib.hid (by rw [← hW]; exact (New.refl w).alloc _)
  have HROW := Lib.hid (h.stay HN.out)
  have HC := Lib.hid (check_27 k b a n c l w0 HROW.out)
  by_cases hc : chF k b l = 0
  · have hk : ¬ k = 8 := fun e => hz (by unfold txE; rw [if_pos hc, if_pos e])
    have HV : Hid (txE k b l = 6) := Lib.hid (by unfold txE; rw [if_pos hc, if_neg hk])
    have hkb : (k != 8) = true := by rw [bne_iff_ne]; exact hk
    rw [hc] at HC
    clear hz hc hk
    have c0 := cell_of_row _ _ 0 _ _ _ HB.out
    have c1 := cell_of_row _ _ 1 _ _ _ HB.out
    have c2 := cell_of_row _ _ 2 _ _ _ HB.out
    go_enter Tryz.func21, Tryz.ntmps21
    go_wp2_with fail
    refine HC.out.mono ?_
    rintro e w1 ⟨rfl, hn⟩
    have hb := (hn.block _ (lt_of_block HB.out)).trans HB.out
    have HN1 := Lib.hid (HN.out.trans hn)
    clear c0 c1 c2 hn HC
    have c0 := cell_of_row _ _ 0 _ _ _ hb
    have c1 := cell_of_row _ _ 1 _ _ _ hb
    have c2 := cell_of_row _ _ 2 _ _ _ hb
    clear hb
    go_wp2
    go_ret2
    exact ⟨by rw [HV.out]; rfl, HN1.out⟩
  · have HV : Hid (txE k b l = chF k b l) := Lib.hid (by unfold txE; rw [if_neg hc])
    have hzb : (chF k b l != 0) = true := by rw [bne_iff_ne]; exact hc
    clear hz hc
    have c0 := cell_of_row _ _ 0 _ _ _ HB.out
    have c1 := cell_of_row _ _ 1 _ _ _ HB.out
    have c2 := cell_of_row _ _ 2 _ _ _ HB.out
    go_enter Tryz.func21, Tryz.ntmps21
    go_wp2_with fail
    refine HC.out.mono ?_
    rintro e w1 ⟨rfl, hn⟩
    have HN1 := Lib.hid (HN.out.trans hn)
    clear c0 c1 c2 hn HC
    go_wp2
    go_ret2
    exact ⟨by rw [HV.out]; rfl, HN1.out⟩
theorem tx_len {b : Int} {l : List (BitVec 64)} {n : Nat} (hl : l.length = n) (hz : chF 8 b l = 0) : 0 < n := by
  have h := (chF_ok hl hz).2.1
  have e : lsF 8 = 1 := rfl
  omega
theorem txE_ok {k b : Int} {l : List (BitVec 64)} (hz : txE k b l = 0) : k = 8 ∧ chF 8 b l = 0 := by
  unfold txE at hz
  by_cases hc : chF k b l = 0
  · rw [if_pos hc] at hz
    by_cases hk : k = 8
    · exact ⟨hk, by rw [← hk]; exact hc⟩
    · rw [if_neg hk] at hz; omega
  · rw [if_neg hc] at hz; exact absurd hz hc
theorem txt_ok (b : Int) (g off : Nat) (n c : Nat) (l : List (BitVec 64)) (u : Option Addr) (m d : Nat) (s : List (BitVec 8)) (w : World) (h : QRow w (some ⟨g, off, none⟩) n c l) (hu : BRow w u m d s) (hz : chF 8 b l = 0) (hn0 : 0 < n) :
    Calls Tryz.prog 21 #[.agg (sdc 8 b (some ⟨g, off, none⟩) n c), .slice u m d] w fun e w' => e = .returned (.tuple #[.int .u64 (W64 (seV (l.getD 0 0#64) s)), .int .i64 (seE (l.getD 0 0#64) m)]) ∧ New w w' := by
  generalize hW : w.alloc (.cells (sdc 8 b (some ⟨g, off, none⟩) n c) 30) = w0
  have HB : Hid (w0.heap[w.heap.size]? = some (.cells (sdc 8 b (some ⟨g, off, none⟩) n c) 30 (0, 0))) := Lib.hid (by rw [← hW]; exact heap_alloc_new w _)
  have HN : Hid (New w w0) := Lib.hid (by rw [← hW]; exact (New.refl w).alloc _)
  have HROW := Lib.hid (h.stay HN.out)
  have HC := Lib.hid (check_27 8 b (some ⟨g, off, none⟩) n c l w0 HROW.out)
  rw [hz] at HC
  have HZ : Hid (∀ w' : World, New w0 w' → w'.cell? ⟨g, off, none⟩ = some (.int .u64 (W64 (l.getD 0 0#64)))) := Lib.hid (fun w' hn => (HROW.out.stay hn).cell g off rfl 0 hn0)
  have HS := Lib.hid (fun (w' : World) (hn : New w0 w') => seval_any (l.getD 0 0#64) u m d s w' ((hu.stay HN.out).stay hn))
  have hpos : ¬ (n : Int) ≤ 0 := by omega
  clear hz h hu HROW
  generalize l.getD 0 0#64 = x at *
  obtain ⟨sv, hsv⟩ : ∃ z, seV x s = z := ⟨_, rfl⟩
  obtain ⟨se, hse⟩ : ∃ z, seE x m = z := ⟨_, rfl⟩
  rw [hsv, hse] at HS ⊢
  clear hsv hse
  have c0 := cell_of_row _ _ 0 _ _ _ HB.out
  have c1 := cell_of_row _ _ 1 _ _ _ HB.out
  have c2 := cell_of_row _ _ 2 _ _ _ HB.out
  go_enter Tryz.func21, Tryz.ntmps21
  go_wp2_with fail
  refine HC.out.mono ?_
  rintro e w1 ⟨rfl, hn⟩
  have hb := (hn.block _ (lt_of_block HB.out)).trans HB.out
  have HN1 := Lib.hid hn
  clear c0 c1 c2 hn HC
  have c0 := cell_of_row _ _ 0 _ _ _ hb
  have c1 := cell_of_row _ _ 1 _ _ _ hb
  have c2 := cell_of_row _ _ 2 _ _ _ hb
  have z0 := HZ.out w1 HN1.out
  clear hb
  go_wp2_with fail
  refine (HS.out _ HN1.out).mono ?_
  rintro e w2 ⟨rfl, hn⟩
  replace HN1 := Lib.hid (HN.out.trans (HN1.out.trans hn))
  clear hn z0 c0 c1 c2
  go_wp2
  go_ret2
  exact ⟨rfl, HN1.out⟩
set_option maxRecDepth 100000 in
set_option maxHeartbeats 4000000 in
theorem FamilyTexts_walk (W : World) (k0 b0 : Int) (rk0 : -9223372036854775808 ≤ k0 ∧ k0 ≤ 9223372036854775807) (rb0 : -9223372036854775808 ≤ b0 ∧ b0 ≤ 9223372036854775807) (a0 : Option Addr) (n0 m0 : Nat) (l0 : List (BitVec 64)) (w0 : QRow W a0 n0 m0 l0) (a1 : Option Addr) (n1 m1 : Nat) (z1 : List Int) (w1 : IRow .u8 W a1 n1 m1 z1) (r1 : m1 * 1 ≤ 140737488351232) :
    Calls Tryz.prog 5 #[.agg #[.int .i64 k0, .int .i64 b0, .slice a0 n0 m0], .slice a1 n1 m1] W fun e w' => e = .returned (.bool true) ∧ Below W.heap.size W w' := by
  obtain ⟨s, hs⟩ := w1.bytes r1
  have HBY := Lib.hid hs
  clear w1 r1 hs rk0 rb0
  have HA := Lib.hid (fun w => awake27 w)
  generalize hW : W.alloc (.cells (sdc k0 b0 a0 n0 m0) 30) = wa
  have HB : Hid (wa.heap[W.heap.size]? = some (.cells (sdc k0 b0 a0 n0 m0) 30 (0, 0))) := Lib.hid (by rw [← hW]; exact heap_alloc_new W _)
  have HN : Hid (New W wa) := Lib.hid (by rw [← hW]; exact (New.refl W).alloc _)
  have HROW := Lib.hid (w0.stay HN.out)
  replace HBY := Lib.hid (HBY.out.stay HN.out)
  have HCK := Lib.hid (fun (w' : World) (hn : New wa w') => rcheck_27 k0 b0 a0 n0 m0 l0 w' (HROW.out.stay hn))
  have HCS := Lib.hid (fun (w' : World) (hn : New wa w') => (hn.block _ (lt_of_block HB.out)).trans HB.out)
  by_cases hlen : (300 : Int) < (n1 : Int)
  · clear w0
    go_enter Tryz.func5, Tryz.ntmps5
    go_wp2_with fail
    refine (HA.out _).mono ?_
    rintro e w2 ⟨rfl, hn⟩
    go_wp2
    go_ret
    exact ⟨rfl, HN.out.trans hn⟩
  by_cases hz : txE k0 b0 l0 = 0
  · obtain ⟨rfl, hc⟩ := txE_ok hz
    have hn0 := tx_len w0.len_eq hc
    obtain ⟨g, off, rfl, _⟩ := w0.addr hn0
    have HT := Lib.hid (fun (w' : World) (hn : New wa w') => txt_ok b0 g off n0 m0 l0 a1 n1 m1 s w' (HROW.out.stay hn) (HBY.out.stay hn) hc hn0)
    have HR := Lib.hid (fun (w' : World) (hn : New wa w') => reval25_q (l0.getD 0 0#64) a1 n1 m1 s w' (HBY.out.stay hn))
    have HZ : Hid (∀ w' : World, New wa w' → w'.cell? ⟨g, off, none⟩ = some (.int .u64 (W64 (l0.getD 0 0#64)))) := Lib.hid (fun w' hn => (HROW.out.stay hn).cell g off rfl 0 hn0)
    have hpos : ¬ (n0 : Int) ≤ 0 := by omega
    rw [hc] at HCK
    clear hz hc w0 HROW HBY
    generalize l0.getD 0 0#64 = x at *
    obtain ⟨sv, hsv⟩ : ∃ z, seV x s = z := ⟨_, rfl⟩
    obtain ⟨se, hse⟩ : ∃ z, seE x n1 = z := ⟨_, rfl⟩
    rw [hsv, hse] at HT HR
    clear hsv hse
    have e1 : (sv == sv) = true := beq_self_eq_true _
    have e2 : (se == se) = true := beq_self_eq_true _
    go_enter Tryz.func5, Tryz.ntmps5
    go_wp2_with fail
    refine (HA.out _).mono ?_
    rintro e w2 ⟨rfl, hn⟩
    have HN1 := Lib.hid hn
    clear hn
    have c0 := cell_of_row _ _ 0 _ _ _ (HCS.out w2 HN1.out)
    have c1 := cell_of_row _ _ 1 _ _ _ (HCS.out w2 HN1.out)
    have c2 := cell_of_row _ _ 2 _ _ _ (HCS.out w2 HN1.out)
    go_wp2_with fail
    refine (HT.out _ HN1.out).mono ?_
    rintro e w3 ⟨rfl, hn⟩
    replace HN1 := Lib.hid (HN1.out.trans hn)
    clear hn c0 c1 c2
    have c0 := cell_of_row _ _ 0 _ _ _ (HCS.out w3 HN1.out)
    have c1 := cell_of_row _ _ 1 _ _ _ (HCS.out w3 HN1.out)
    have c2 := cell_of_row _ _ 2 _ _ _ (HCS.out w3 HN1.out)
    go_wp2_with fail
    refine (HCK.out _ HN1.out).mono ?_
    rintro e w4 ⟨rfl, hn⟩
    replace HN1 := Lib.hid (HN1.out.trans hn)
    clear hn c0 c1 c2
    have c0 := cell_of_row _ _ 0 _ _ _ (HCS.out w4 HN1.out)
    have c1 := cell_of_row _ _ 1 _ _ _ (HCS.out w4 HN1.out)
    have c2 := cell_of_row _ _ 2 _ _ _ (HCS.out w4 HN1.out)
    have z0 := HZ.out w4 HN1.out
    go_wp2_with fail
    refine (HR.out _ HN1.out).mono ?_
    rintro e w5 ⟨rfl, hn⟩
    replace HN1 := Lib.hid (HN.out.trans (HN1.out.trans hn))
    clear hn c0 c1 c2 z0
    go_wp2
    go_ret
    exact ⟨rfl, HN1.out⟩
  · have HT := Lib.hid (fun (w' : World) (hn : New wa w') => txt_bad k0 b0 a0 n0 m0 l0 a1 n1 m1 s w' (HROW.out.stay hn) (HBY.out.stay hn) hz)
    by_cases hc : chF k0 b0 l0 = 0
    · have hk : ¬ k0 = 8 := fun e => hz (by unfold txE; rw [if_pos hc, if_pos e])
      have hV : txE k0 b0 l0 = 6 := by unfold txE; rw [if_pos hc, if_neg hk]
      have hkb : (k0 != 8) = true := by rw [bne_iff_ne]; exact hk
      rw [hc] at HCK
      rw [hV] at HT
      clear hz hc hk hV w0 HROW HBY
      go_enter Tryz.func5, Tryz.ntmps5
      go_wp2_with fail
      refine (HA.out _).mono ?_
      rintro e w2 ⟨rfl, hn⟩
      have HN1 := Lib.hid hn
      clear hn
      have c0 := cell_of_row _ _ 0 _ _ _ (HCS.out w2 HN1.out)
      have c1 := cell_of_row _ _ 1 _ _ _ (HCS.out w2 HN1.out)
      have c2 := cell_of_row _ _ 2 _ _ _ (HCS.out w2 HN1.out)
      go_wp2_with fail
      refine (HT.out _ HN1.out).mono ?_
      rintro e w3 ⟨rfl, hn⟩
      replace HN1 := Lib.hid (HN1.out.trans hn)
      clear hn c0 c1 c2
      have c0 := cell_of_row _ _ 0 _ _ _ (HCS.out w3 HN1.out)
      have c1 := cell_of_row _ _ 1 _ _ _ (HCS.out w3 HN1.out)
      have c2 := cell_of_row _ _ 2 _ _ _ (HCS.out w3 HN1.out)
      go_wp2_with fail
      refine (HCK.out _ HN1.out).mono ?_
      rintro e w4 ⟨rfl, hn⟩
      replace HN1 := Lib.hid (HN1.out.trans hn)
      clear hn c0 c1 c2
      have c0 := cell_of_row _ _ 0 _ _ _ (HCS.out w4 HN1.out)
      have c1 := cell_of_row _ _ 1 _ _ _ (HCS.out w4 HN1.out)
      have c2 := cell_of_row _ _ 2 _ _ _ (HCS.out w4 HN1.out)
      go_wp2
      go_ret
      exact ⟨rfl, HN.out.trans HN1.out⟩
    · have hV : txE k0 b0 l0 = chF k0 b0 l0 := by unfold txE; rw [if_neg hc]
      rw [hV] at HT
      have f1 : (chF k0 b0 l0 == 0) = false := by rw [beq_eq_false_iff_ne]; exact hc
      have f2 : (chF k0 b0 l0 != 0) = true := by rw [bne_iff_ne]; exact hc
      have f3 : (chF k0 b0 l0 == chF k0 b0 l0) = true := beq_self_eq_true _
      clear hz hc hV w0 HROW HBY
      go_enter Tryz.func5, Tryz.ntmps5
      go_wp2_with fail
      refine (HA.out _).mono ?_
      rintro e w2 ⟨rfl, hn⟩
      have HN1 := Lib.hid hn
      clear hn
      have c0 := cell_of_row _ _ 0 _ _ _ (HCS.out w2 HN1.out)
      have c1 := cell_of_row _ _ 1 _ _ _ (HCS.out w2 HN1.out)
      have c2 := cell_of_row _ _ 2 _ _ _ (HCS.out w2 HN1.out)
      go_wp2_with fail
      refine (HT.out _ HN1.out).mono ?_
      rintro e w3 ⟨rfl, hn⟩
      replace HN1 := Lib.hid (HN1.out.trans hn)
      clear hn c0 c1 c2
      have c0 := cell_of_row _ _ 0 _ _ _ (HCS.out w3 HN1.out)
      have c1 := cell_of_row _ _ 1 _ _ _ (HCS.out w3 HN1.out)
      have c2 := cell_of_row _ _ 2 _ _ _ (HCS.out w3 HN1.out)
      go_wp2_with fail
      refine (HCK.out _ HN1.out).mono ?_
      rintro e w4 ⟨rfl, hn⟩
      replace HN1 := Lib.hid (HN1.out.trans hn)
      clear hn c0 c1 c2
      go_wp2
      go_ret
      exact ⟨rfl, HN.out.trans HN1.out⟩
end Go.Proofs.YtebcfbcfipmahaaGreat
