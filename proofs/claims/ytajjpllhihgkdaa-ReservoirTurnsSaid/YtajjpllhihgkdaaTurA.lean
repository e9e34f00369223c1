/- reservoir.Turn. -/
import Derived.Test.YtajjpllhihgkdaaTurM
import Derived.Test.YtajjpllhihgkdaaShfH
namespace Go.Proofs.Ytajjpllhihgkdaa
open Go Go.RowKit Go.Bv
set_option linter.unusedVariables false
theorem turn_err (n k : Int) (a b : Option Addr) (m c m2 c2 : Nat) (w : World) (h : ¬ ckE n k = 0) :
    Calls Try.prog 26 #[.int .i64 n, .int .i64 k, .slice a m c, .slice b m2 c2] w fun e w' => e = .returned (.tuple #[.slice none 0 0, .int .i64 (ckE n k)]) ∧ New w w' := by
  have HC := Lib.hid (order_err n k a m c w h)
  obtain ⟨z, hz⟩ : ∃ z, ckE n k = z := ⟨_, rfl⟩
  rw [hz] at HC h ⊢
  clear hz
  have hb : (z != 0) = true := by simpa using h
  go_enter Try.func26, Try.ntmps26
  go_wp2_with fail
  refine HC.out.mono ?_
  rintro e w9 ⟨rfl, hn⟩
  have HN := Lib.hid hn
  clear hn
  go_wp2
  go_ret2
  exact ⟨rfl, HN.out⟩
theorem turn_bad (n k : Nat) (hk : k ≤ n) (hn : n ≤ 256) (a b : Option Addr) (m c m2 c2 : Nat) (d : List Int) (w : World) (h : ZRow w a m c d) (hb : rdB n k d = false) :
    Calls Try.prog 26 #[.int .i64 (n : Int), .int .i64 (k : Int), .slice a m c, .slice b m2 c2] w fun e w' => e = .returned (.tuple #[.slice none 0 0, .int .i64 2]) ∧ New w w' := by
  have HC := Lib.hid (order_bad n k hk hn a m c d w h hb)
  clear h hb
  go_enter Try.func26, Try.ntmps26
  go_wp2_with fail
  refine HC.out.mono ?_
  rintro e w9 ⟨rfl, hn⟩
  have HN := Lib.hid hn
  clear hn
  go_wp2
  go_ret2
  exact ⟨rfl, HN.out⟩
theorem turn_bad2 (n k : Nat) (hk : k ≤ n) (hn : n ≤ 256) (a b : Option Addr) (m c m2 c2 : Nat) (d p : List Int) (w : World) (h : ZRow w a m c d) (hd : rdI n k d) (h2 : ZRow w b m2 c2 p) (hb : ¬ (m2 = n ∧ isO p)) :
    Calls Try.prog 26 #[.int .i64 (n : Int), .int .i64 (k : Int), .slice a m c, .slice b m2 c2] w fun e w' => e = .returned (.tuple #[.slice none 0 0, .int .i64 2]) ∧ New w w' := by
  have HC := Lib.hid (order_q n k hk hn a m c d w h hd)
  by_cases hm : m2 = n
  · subst hm
    have HI := Lib.hid (fun w' (hn' : New w w') => is_40 b m2 c2 p w' (h2.stay hn') (by omega))
    rw [isB_no (fun h3 => hb ⟨rfl, h3⟩)] at HI
    have hb2 : ((m2 : Int) != (m2 : Int)) = false := by simp
    clear h h2 hb hd
    go_enter Try.func26, Try.ntmps26
    go_wp2_with fail
    refine HC.out.mono ?_
    rintro e w9 ⟨a9, c9, rfl, hz, hn9⟩
    have HN := Lib.hid hn9
    replace HI := Lib.hid (HI.out _ hn9)
    clear hn9 hz
    go_wp2_with fail
    refine HI.out.mono ?_
    rintro e w8 ⟨rfl, hn8⟩
    replace HN := Lib.hid (HN.out.trans hn8)
    clear hn8
    go_wp2
    go_ret2
    exact ⟨rfl, HN.out⟩
  · have hb2 : ((m2 : Int) != (n : Int)) = true := by simp; omega
    clear h h2 hb hd
    go_enter Try.func26, Try.ntmps26
    go_wp2_with fail
    refine HC.out.mono ?_
    rintro e w9 ⟨a9, c9, rfl, hz, hn9⟩
    have HN := Lib.hid hn9
    clear hn9 hz
    go_wp2
    go_ret2
    exact ⟨rfl, HN.out⟩
/-- the decisions turned so far -/
def tuP (n k : Nat) (q : List Int) (j : Nat) : List Int := liI (fun i => if i < j then (if unD (fnI q) n k i < k then unF (fnI q) n (n - k) (unD (fnI q) n k i) else unD (fnI q) n k i) else unD (fnI q) n k i) (n - k)
theorem tuP_zero (n k : Nat) (q : List Int) : tuP n k q 0 = udI n k q := liI_ext (fun x _ => if_neg (by omega))
theorem tuP_all (n k : Nat) (q : List Int) : tuP n k q (n - k) = tuI n k q := liI_ext (fun x hx => if_pos hx)
theorem tuP_yes {n k : Nat} {q : List Int} {j : Nat} (hj : j < n - k) (h : unD (fnI q) n k j < k) : (tuP n k q j).set j ((unF (fnI q) n (n - k) (unD (fnI q) n k j) : Nat) : Int) = tuP n k q (j + 1) := by
  unfold tuP
  rw [liI_set _ _ hj]
  apply liI_ext
  intro x hx
  by_cases e : x = j
  · subst e; rw [if_pos rfl, if_pos (by omega), if_pos h]
  · rw [if_neg e]
    by_cases e2 : x < j
    · rw [if_pos e2, if_pos (show x < j + 1 by omega)]
    · rw [if_neg e2, if_neg (show ¬ x < j + 1 by omega)]
theorem tuP_no {n k : Nat} {q : List Int} {j : Nat} (h : ¬ unD (fnI q) n k j < k) : tuP n k q j = tuP n k q (j + 1) := liI_ext (fun x hx => by
  by_cases e : x = j
  · subst e; rw [if_neg (by omega), if_pos (by omega), if_neg h]
  · by_cases e2 : x < j
    · rw [if_pos e2, if_pos (show x < j + 1 by omega)]
    · rw [if_neg e2, if_neg (show ¬ x < j + 1 by omega)])
set_option maxRecDepth 100000 in
set_option maxHeartbeats 4000000 in
theorem turn_q (n k : Nat) (hk : k ≤ n) (hn : n ≤ 256) (a b : Option Addr) (m c c2 : Nat) (d p : List Int) (w : World) (h : ZRow w a m c d) (hd : rdI n k d) (h2 : ZRow w b n c2 p) (hp : isO p) :
    Calls Try.prog 26 #[.int .i64 (n : Int), .int .i64 (k : Int), .slice a m c, .slice b n c2] w fun e w' => ∃ a' c', e = .returned (.tuple #[.slice a' (n - k : Nat) c', .int .i64 0]) ∧ ZRow w' a' (n - k) c' (tuI n k (thI p (odI n k d))) ∧ New w w' := by
  have hpn := h2.len_eq
  have hod := odI_or hk hd
  have hq := th_or hp hod (by rw [odI_len, hpn])
  have hqn : (thI p (odI n k d)).length = n := by rw [thI_len, hpn]
  have HC := Lib.hid (order_q n k hk hn a m c d w h hd)
  have HI := Lib.hid (fun w' (hn' : New w w') => is_40 b n c2 p w' (h2.stay hn') (by omega))
  rw [isB_iff.2 hp] at HI
  have hb2 : ((n : Int) != (n : Int)) = false := by simp
  have HTH := Lib.hid (fun w' a9 c9 (hn' : New w w') (hz : ZRow w' a9 n c9 (odI n k d)) => then_40 b a9 n c2 n c9 p (odI n k d) w' (h2.stay hn') hz (by omega) (by omega))
  rw [thR_yes (by rw [odI_len, hpn]) hp hod, hqn] at HTH
  obtain ⟨q, hqq⟩ : ∃ q, thI p (odI n k d) = q := ⟨_, rfl⟩
  rw [hqq] at HTH hq hqn ⊢
  have HUN := Lib.hid (fun w' a9 c9 (hz : ZRow w' a9 n c9 q) => undo_qo n k hk hn a9 c9 q w' hz hq)
  have hF := tu_F hq hqn hk
  have HF1 : Hid (∀ x, x < k → unF (fnI q) n (n - k) x < k) := Lib.hid hF.1
  obtain ⟨K, hK⟩ : ∃ K, n - k = K := ⟨_, rfl⟩
  have HUD : Hid (∀ i, i < K → unD (fnI q) n k i ≤ k + i) := Lib.hid (fun i hi => unD_rt (k := k) (n := n) (by have := fnI_or hq; rwa [hqn] at this) i (by omega))
  have HKK := Lib.hid hK
  rw [hK] at HUN ⊢
  have hkK : k + K ≤ 256 := by omega
  clear h h2 hd hp hpn hod hq hqn hqq hF hK
  go_enter Try.func26, Try.ntmps26
  go_wp2_with fail
  refine HC.out.mono ?_
  rintro e w9 ⟨a9, c9, rfl, hz9, hn9⟩
  have HN := Lib.hid hn9
  have HZ9 := Lib.hid hz9
  clear hn9 hz9 HC
  go_wp2_with fail
  refine (HI.out _ HN.out).mono ?_
  rintro e w8 ⟨rfl, hn8⟩
  replace HN := Lib.hid (HN.out.trans hn8)
  replace HZ9 := Lib.hid (HZ9.out.stay hn8)
  clear hn8 HI
  go_wp2_with fail
  refine (HTH.out _ _ _ HN.out HZ9.out).mono ?_
  rintro e w7 ⟨a7, c7, rfl, hz7, hn7⟩
  replace HN := Lib.hid (HN.out.trans hn7)
  have HZ7 := Lib.hid hz7
  clear hn7 hz7 HTH HZ9
  go_wp2_with fail
  refine (HUN.out _ _ _ HZ7.out).mono ?_
  rintro e w6 ⟨g2, a2, c6, B2, rfl, h1, h2, h3, h4, h5, hn6⟩
  have HO1 := Lib.hid (ow_base h1 HN.out.le)
  have HO2 := Lib.hid h4
  have HG : Hid (g2 < B2) := Lib.hid h3
  replace HN := Lib.hid (HN.out.trans hn6)
  clear h1 h2 h3 h4 h5 hn6 HUN HZ7
  go_wp2_with fail
  go_loopw [50] (fun iv wr => ∃ j : Nat, j ≤ K ∧ iv = .int .i64 (j : Int) ∧ wr.ownsRow w.heap.size 3 1 (.slice (some ⟨g2, 0, none⟩) K K) K ((tuP n k q j).map fun x => .int .i64 x) ∧ wr.ownsRow B2 3 1 (.slice a2 (k : Nat) c6) k ((ufI n k q).map fun x => .int .i64 x) ∧ New w wr) (fun iv _ => K - (intOf iv).toNat)
  case atStart => exact ⟨0, Nat.zero_le _, rfl, by rw [tuP_zero]; exact HO1.out, HO2.out, HN.out⟩
  case round =>
    clear HO1 HO2 HN
    obtain ⟨j, hj, rfl, h1, h2, hnew⟩ := hrel
    by_cases hlt : (j : Int) < (K : Int)
    · have hj0 : (0 : Int) ≤ (j : Int) := by omega
      have hjn : j < n - k := by have := HKK.out; omega
      obtain ⟨d1, e1⟩ := ow_int h1 (k := j) (by omega)
      have hgd : (tuP n k q j).getD j 0 = ((unD (fnI q) n k j : Nat) : Int) := by
        unfold tuP
        rw [liI_get _ hjn, if_neg (by omega)]
      rw [hgd] at d1
      have hud := HUD.out j (by omega)
      by_cases hc : unD (fnI q) n k j < k
      · have HS := Lib.hid (tuP_yes hjn hc)
        have hx := HF1.out _ hc
        obtain ⟨g, cap, he, hg, hgs, hgc, hgc2⟩ := ow_shape h2 (by omega)
        cases he
        obtain ⟨d2, e2⟩ := ow_int h2 (k := unD (fnI q) n k j) hc
        have hgd2 : (ufI n k q).getD (unD (fnI q) n k j) 0 = ((unF (fnI q) n (n - k) (unD (fnI q) n k j) : Nat) : Int) := by
          unfold ufI
          rw [liI_get _ hc]
        rw [hgd2] at d2
        have hne : ¬ g = g2 := by have := HG.out; omega
        obtain ⟨x, hxx⟩ : ∃ x, unF (fnI q) n (n - k) (unD (fnI q) n k j) = x := ⟨_, rfl⟩
        rw [hxx] at HS d2 hx
        obtain ⟨y, hyy⟩ : ∃ y, unD (fnI q) n k j = y := ⟨_, rfl⟩
        rw [hyy] at d1 d2 e2 hc hud
        have hgw := (ow_in h1).1
        have hv : (Value.slice (some ⟨g, 0, none⟩) (k : Nat) c6).ownBlock ≠ some g2 := by simp [Value.ownBlock]; exact hne
        have HR1 : Hid ((wr.setCell ⟨g2, j, none⟩ (.int .i64 (x : Nat))).ownsRow w.heap.size 3 1 (.slice (some ⟨g2, 0, none⟩) K K) K ((tuP n k q (j + 1)).map fun x => .int .i64 x)) := Lib.hid (by
          rw [← HS.out, List.map_set]; exact ow_set h1 j _)
        have HR2 := Lib.hid (ow_far h2 (a := ⟨g2, j, none⟩) hv (.int .i64 (x : Nat)))
        have HNN : Hid (New w (wr.setCell ⟨g2, j, none⟩ (.int .i64 (x : Nat)))) := Lib.hid (hnew.setCell (p := ⟨g2, j, none⟩) hgw _)
        have hy0 : (0 : Int) ≤ (y : Int) := by omega
        have hyk : (y : Int) < (k : Int) := by omega
        clear h1 h2 hnew hgd hgd2 hxx hyy hgs HS hjn
        go_wp2
        exact ⟨⟨j + 1, by omega, by go_num, HR1.out, HR2.out, HNN.out⟩, by simp [intOf]; omega⟩
      · have HS := Lib.hid (tuP_no (n := n) (j := j) hc)
        rw [HS.out] at h1
        obtain ⟨y, hyy⟩ : ∃ y, unD (fnI q) n k j = y := ⟨_, rfl⟩
        rw [hyy] at d1 hc hud
        have hyk : ¬ (y : Int) < (k : Int) := by omega
        clear hgd hyy hjn HS
        go_wp2
        exact ⟨⟨j + 1, by omega, by go_num, h1, h2, hnew⟩, by simp [intOf]; omega⟩
    · obtain rfl : j = K := by omega
      have hta : tuP n k q j = tuI n k q := by rw [← HKK.out]; exact tuP_all _ _ _
      rw [hta] at h1
      obtain ⟨a', c', he, hz⟩ := ZRow.of_owns h1 (by omega) (by
        rw [← hta]
        unfold tuP
        rw [HKK.out]
        exact in64_li _ (fun x hx => by
          have h8 := HUD.out x hx
          by_cases e1 : x < j
          · rw [if_pos e1]
            by_cases e2 : unD (fnI q) n k x < k
            · rw [if_pos e2]
              have h9 := HF1.out _ e2
              rw [HKK.out] at h9
              omega
            · rw [if_neg e2]; omega
          · omega))
      cases he
      have HZ := Lib.hid hz
      have HN := Lib.hid hnew
      clear h1 h2 hnew hz hta
      go_wp2
      go_ret2
      exact ⟨_, _, rfl, HZ.out, HN.out⟩
end Go.Proofs.Ytajjpllhihgkdaa
