/- subset.Aim. -/
import Derived.Test.YtaajphopnmdmcaaSubH
import Derived.Test.YtaajphopnmdmcaaSubF
import Derived.Test.YtaajphopnmdmcaaRdwM
namespace Go.Proofs.Ytaajphopnmdmcaa
open Go Go.RowKit Go.Bv
set_option linter.unusedVariables false
theorem chc41_size (n : Int) (a : Option Addr) (m c : Nat) (w : World) (h : szE n (m : Int) = 1) :
    Calls Try.prog 14 #[.int .i64 n, .slice a m c] w fun e w' => e = .returned (.tuple #[.slice none 0 0, .int .i64 1]) ∧ w' = w := by
  have HSZ := Lib.hid (sizes_41 n (m : Int) w)
  rw [h] at HSZ
  clear h
  go_enter Try.func14, Try.ntmps14
  go_wp2_with fail
  refine HSZ.out.mono ?_
  rintro e w' ⟨rfl, hw⟩
  replace hw := hw.symm
  subst hw
  go_wp2
  go_ret2
  exact ⟨rfl, rfl⟩
theorem chc41_bad (n : Nat) (hn : n ≤ 256) (a : Option Addr) (m c : Nat) (l : List Int) (w : World) (h : ZRow w a m c l) (hm : m ≤ n) (hb : ¬ ipP n l) :
    Calls Try.prog 14 #[.int .i64 (n : Int), .slice a m c] w fun e w' => e = .returned (.tuple #[.slice none 0 0, .int .i64 2]) ∧ New w w' := by
  have HSZ := Lib.hid (sizes_41 (n : Int) (m : Int) w)
  rw [show szE (n : Int) (m : Int) = 0 from if_neg (by omega)] at HSZ
  have HI := Lib.hid (ispick_any n (by omega) a m c l w h (by omega))
  rw [ipB_no hb] at HI
  clear h hb
  go_enter Try.func14, Try.ntmps14
  go_wp2_with fail
  refine HSZ.out.mono ?_
  rintro e w' ⟨rfl, hw⟩
  replace hw := hw.symm
  subst hw
  go_wp2_with fail
  refine HI.out.mono ?_
  rintro e w9 ⟨rfl, hn9⟩
  have HN := Lib.hid hn9
  clear hn9
  go_wp2
  go_ret2
  exact ⟨rfl, HN.out⟩
/-- the limits that are laid so far -/
def lzI (n K k : Nat) : List Int := liI (fun x => if x < k then n - x else 0) K
theorem lzI_zero (n K : Nat) : (List.replicate K (Value.int .i64 0)) = (lzI n K 0).map fun x => .int .i64 x := by
  rw [zeros_li]
  unfold lzI
  rw [liI_ext (fun x _ => if_neg (by omega))]
theorem lzI_all (n K : Nat) : lzI n K K = liI (fun x => n - x) K := liI_ext fun x hx => by rw [if_pos hx]
theorem lzI_set (n K k : Nat) (h : k < K) : (lzI n K k).set k ((n - k : Nat) : Int) = lzI n K (k + 1) := by
  unfold lzI
  rw [liI_set _ _ h]
  apply liI_ext
  intro x hx
  by_cases e : x = k
  · subst e; rw [if_pos rfl, if_pos (by omega)]
  · rw [if_neg e]
    by_cases e2 : x < k
    · rw [if_pos e2, if_pos (by omega)]
    · rw [if_neg e2, if_neg (by omega)]
theorem aim41_size (n : Int) (a a2 : Option Addr) (nl c m c2 : Nat) (w : World) (h : szE n (m : Int) = 1) :
    Calls Try.prog 23 #[.slice a nl c, .int .i64 n, .slice a2 m c2] w fun e w' => e = .returned (.tuple #[.slice none 0 0, .int .i64 1]) ∧ w' = w := by
  have HC := Lib.hid (chc41_size n a2 m c2 w h)
  clear h
  go_enter Try.func23, Try.ntmps23
  go_wp2_with fail
  refine HC.out.mono ?_
  rintro e w' ⟨rfl, hw⟩
  replace hw := hw.symm
  subst hw
  go_wp2
  go_ret2
  exact ⟨rfl, rfl⟩
theorem aim41_bad (n : Nat) (hn : n ≤ 256) (a a2 : Option Addr) (nl c m c2 : Nat) (l : List Int) (w : World) (h : ZRow w a2 m c2 l) (hm : m ≤ n) (hb : ¬ ipP n l) :
    Calls Try.prog 23 #[.slice a nl c, .int .i64 (n : Int), .slice a2 m c2] w fun e w' => e = .returned (.tuple #[.slice none 0 0, .int .i64 2]) ∧ New w w' := by
  have HC := Lib.hid (chc41_bad n hn a2 m c2 l w h hm hb)
  clear h hb
  go_enter Try.func23, Try.ntmps23
  go_wp2_with fail
  refine HC.out.mono ?_
  rintro e w9 ⟨rfl, hn9⟩
  have HN := Lib.hid hn9
  clear hn9
  go_wp2
  go_ret2
  exact ⟨rfl, HN.out⟩
set_option maxRecDepth 100000 in
set_option maxHeartbeats 4000000 in
theorem aim41_no (n : Nat) (hn : n ≤ 256) (a a2 : Option Addr) (nl c K c2 : Nat) (l : List (BitVec 64)) (cl : List Int) (w : World) (hl : QRow w a nl c l) (hz : ZRow w a2 K c2 (pkI cl)) (hr : rp2 n cl) (hK : cl.length = K) (hd : drS l (lmP n K) K = none) :
    Calls Try.prog 23 #[.slice a nl c, .int .i64 (n : Int), .slice a2 K c2] w fun e w' => e = .returned (.tuple #[.slice none 0 0, .int .i64 7]) ∧ New w w' := by
  have hKn : K ≤ n := by rw [← hK]; exact hr.1
  have HL := Lib.hid hl
  have HD := Lib.hid hd
  have HCH := Lib.hid (chc_41 n hn a2 K c2 cl w hz hr hK)
  clear hl hz hd hr hK
  go_enter Try.func23, Try.ntmps23
  go_wp2_with fail
  refine HCH.out.mono ?_
  rintro e w1 ⟨a3, c3, rfl, hz, hn1⟩
  have HN := Lib.hid hn1
  replace HL := Lib.hid (HL.out.stay hn1)
  clear hz hn1 HCH
  go_wp2_with fail
  refine (new_t _ _ _ _ _ HL.out).mono ?_
  rintro e wB ⟨b, rfl, hb, ht, hn2⟩
  have HT := Lib.hid ht
  have HNB := Lib.hid hn2
  have HBB := Lib.hid hb
  clear ht hn2 hb
  go_wp2_with fail
  refine (take41_q b b n K l _ HT.out hn hKn).mono ?_
  rintro e wC (⟨ds2, k2, p1, p2, p3, p4, hd2, _⟩ | ⟨hd2, rfl, g, ht, hb2, _⟩)
  · rw [HD.out] at hd2; cases hd2
  have hnc : New w1 wC := hb2.new w1 HNB.out HBB.out HBB.out
  replace HN := Lib.hid (HN.out.trans hnc)
  clear ht hb2 hnc HT HNB HBB hd2
  go_wp2
  go_ret2
  exact ⟨rfl, HN.out⟩
set_option maxRecDepth 100000 in
set_option maxHeartbeats 4000000 in
theorem aim41_ok (n : Nat) (hn : n ≤ 256) (a a2 : Option Addr) (nl c K c2 : Nat) (l : List (BitVec 64)) (cl : List Int) (ds : List Drw) (k : Nat) (w : World) (hl : QRow w a nl c l) (hz : ZRow w a2 K c2 (pkI cl)) (hr : rp2 n cl) (hK : cl.length = K) (hd : drS l (lmP n K) K = some (ds, k)) :
    Calls Try.prog 23 #[.slice a nl c, .int .i64 (n : Int), .slice a2 K c2] w fun e w' => ∃ v' c', e = .returned (.tuple #[.slice v' nl c', .int .i64 0]) ∧ QRow w' v' nl c' (amS l (lmP n K) (fun i => BitVec.ofNat 64 (fnI cl i)) ds K) ∧ New w w' := by
  have hKn : K ≤ n := by rw [← hK]; exact hr.1
  have HL := Lib.hid hl
  have HD := Lib.hid hd
  have HR := Lib.hid hr
  have HKL := Lib.hid hK
  have HCH := Lib.hid (chc_41 n hn a2 K c2 cl w hz hr hK)
  have HMK := Lib.hid (make_int K (by omega))
  clear hl hz hd hr hK
  go_enter Try.func23, Try.ntmps23
  go_wp2_with fail
  refine HCH.out.mono ?_
  rintro e w1 ⟨a3, c3, rfl, hz, hn1⟩
  have HZ := Lib.hid hz
  have HN := Lib.hid hn1
  replace HL := Lib.hid (HL.out.stay hn1)
  clear hz hn1 HCH
  go_wp2_with fail
  refine (new_t _ _ _ _ _ HL.out).mono ?_
  rintro e wB ⟨b, rfl, hb, ht, hn2⟩
  have HT := Lib.hid ht
  have HNB := Lib.hid hn2
  have HBB := Lib.hid hb
  clear ht hn2 hb
  go_wp2_with fail
  refine (take41_q b b n K l _ HT.out hn hKn).mono ?_
  rintro e wC (⟨ds2, k2, p1, p2, p3, p4, hd2, rfl, hz2, hk, g, ht, hb2, _⟩ | ⟨hd2, _⟩)
  case inr => rw [HD.out] at hd2; cases hd2
  rw [HD.out] at hd2
  cases hd2
  have HK := Lib.hid hk
  have hnc : New w1 wC := hb2.new w1 HNB.out HBB.out HBB.out
  replace HL := Lib.hid (HL.out.stay hnc)
  replace HZ := Lib.hid (HZ.out.stay hnc)
  replace HN := Lib.hid (HN.out.trans hnc)
  clear hz2 hk ht hb2 hnc HT HNB HBB
  go_wp2_with fail
  rw [HMK.out _ _ rfl]
  go_wp2_with fail
  go_loopw [41] (fun iv wr => ∃ q : Nat, q ≤ K ∧ iv = .int .i64 (q : Int) ∧ wr.ownsRow wC.heap.size 3 1 (.slice (some ⟨wC.heap.size, 0, none⟩) K K) K ((lzI n K q).map fun x => .int .i64 x) ∧ New wC wr) (fun iv _ => K - (intOf iv).toNat)
  case atStart => exact ⟨0, Nat.zero_le _, rfl, ow_made wC _ _ _ K _ (Nat.le_refl _) (by omega) (by rw [made_toList, lzI_zero]) (by rw [List.length_map, lzI, liI_len]), (New.refl wC).alloc _⟩
  case round =>
    obtain ⟨q, hq, rfl, hown, hnew⟩ := hrel
    by_cases hlt : (q : Int) < (K : Int)
    · have hq0 : (0 : Int) ≤ (q : Int) := by omega
      obtain ⟨r, hr⟩ : ∃ r, n - q = r := ⟨_, rfl⟩
      have hri : (n : Int) - (q : Int) = (r : Int) := by omega
      obtain ⟨hc1, hf1⟩ := ow_int hown (k := q) (by omega)
      have HO2 : Hid ((wr.setCell ⟨wC.heap.size, q, none⟩ (.int .i64 (r : Int))).ownsRow wC.heap.size 3 1 (.slice (some ⟨wC.heap.size, 0, none⟩) K K) K ((lzI n K (q + 1)).map fun x => .int .i64 x)) := Lib.hid (by
        rw [← lzI_set n K q (by omega), List.map_set, hr]; exact ow_set hown q _)
      have HN2 : Hid (New wC (wr.setCell ⟨wC.heap.size, q, none⟩ (.int .i64 (r : Int)))) := Lib.hid (hnew.setCell (Nat.le_refl _) _)
      clear hown hnew
      go_wp2
      exact ⟨⟨q + 1, by omega, by go_num, HO2.out, HN2.out⟩, by simp [intOf]; omega⟩
    · obtain rfl : q = K := by omega
      rw [lzI_all] at hown
      obtain ⟨a5, c5, he, hq5⟩ := ZRow.of_owns hown (by omega) (in64_li _ (fun x hx => by omega))
      cases he
      have hcl : liI (fnI cl) q = cl := by
        have h := li_fn (p := cl) (fun j hj => (HR.out.2 j hj).1)
        rwa [HKL.out] at h
      have hz6 := HZ.out.stay hnew
      rw [← hcl] at hz6
      have HRD := Lib.hid (redraw_q a p3 _ a3 nl c q p4 _ c3 l (lmP n q) ds k (fun j => n - j) (fnI cl) wr (HL.out.stay hnew) (HK.out.stay hnew) hq5 hz6 HD.out (fun i hi => lmP_get hi) (fun i hi => by omega) (fun i hi => by
        have h := HR.out.2 i (by rw [HKL.out]; exact hi)
        unfold fnI
        omega))
      have HNW := Lib.hid (HN.out.trans hnew)
      clear hown hq5 hz6 hnew hcl
      go_wp2_with fail
      refine HRD.out.mono ?_
      rintro e w9 ⟨v', c', rfl, hq, hn9⟩
      have HQ := Lib.hid hq
      replace HNW := Lib.hid (HNW.out.trans hn9)
      clear hq hn9 HRD
      go_wp2
      go_ret2
      exact ⟨_, _, rfl, HQ.out, HNW.out⟩
end Go.Proofs.Ytaajphopnmdmcaa
