/- gcode.Unmarshal. -/
import Derived.Test.YtjmnhooenampkaaGreatDoorRdsF
namespace Go.Proofs.YtjmnhooenampkaaGreatDoor
open Go.RowKit Go.Bv
set_option linter.unusedVariables false
set_option maxRecDepth 100000
set_option maxHeartbeats 1000000 in
theorem unm_of (a : Option Addr) (n c : Nat) (w : World) (st st2 : Array Value) (V : Value) (E : Int) (h5 : ∃ k q, st2 = stc k q)
    (HF : ∀ w2, New w w2 → Calls Tryz.prog 16 #[.slice a n c] w2 fun e w3 => e = .returned (.tuple #[.agg st, V]) ∧ New w2 w3)
    (HT : ∀ w2, New w w2 → Calls Tryz.prog 15 #[.agg st, V] w2 fun e w3 => e = .returned (.tuple #[.agg st2, .int .i64 E]) ∧ New w2 w3) :
    Calls Tryz.prog 7 #[.slice a n c] w fun e w' => e = .returned (.tuple #[.agg st2, .int .i64 E]) ∧ New w w' := by
  obtain ⟨w0, hw0, hb0, hn0⟩ := box5 w zStc
  have HAL := Lib.hid hw0
  have HB := Lib.hid hb0
  have H0 := Lib.hid hn0
  have HF' := Lib.hid HF
  have HT' := Lib.hid HT
  obtain ⟨k, q, rfl⟩ := h5
  clear hw0 hb0 hn0 HF HT
  go_enter Tryz.func7, Tryz.ntmps7
  go_wp2_with fail
  rw [HAL.out]
  refine (HF'.out _ H0.out).mono ?_
  rintro e w1 ⟨rfl, hn1⟩
  have HB1 := Lib.hid ((hn1.block _ (lt_of_block HB.out)).trans HB.out)
  have HN1 := Lib.hid (H0.out.trans hn1)
  clear hn1 HAL HB
  go_wp2_with fail
  refine (HT'.out _ HN1.out).mono ?_
  rintro e w2 ⟨rfl, hn2⟩
  have hb := (hn2.block _ (lt_of_block HB1.out)).trans HB1.out
  have k0 := cell_of_row _ _ 0 _ _ _ hb
  have k1 := cell_of_row _ _ 1 _ _ _ hb
  have k2 := cell_of_row _ _ 2 _ _ _ hb
  have k3 := cell_of_row _ _ 3 _ _ _ hb
  have k4 := cell_of_row _ _ 4 _ _ _ hb
  have kf := fun i => frozen_of_row _ _ i _ _ hb
  have HN2 := Lib.hid (HN1.out.trans hn2)
  clear hb hn2 HB1
  go_wp2_with fail
  refine bodyPost_ret (by simp [results, Tryz.results7, go_sem, k0, k1, k2, k3, k4]; try rfl) rfl ?_
  exact ⟨rfl, set5 HN2.out (by exact Nat.le_refl _) _ _ _ _ _⟩
/-- the state that bytes tell -/
def rdK17 (l : List (BitVec 8)) : Int := if rdE17 l = 0 then kd17 l else 0
def rdQ17 (l : List (BitVec 8)) : W4 := if rdE17 l = 0 then qd17 l (nK (kd17 l)) else zW4
theorem unm_bad (a : Option Addr) (n c : Nat) (l : List (BitVec 8)) (w : World) (k : Int) (q : W4) (t : TypeId) (v : Value) (E : Int) (hE : rdE17 l = E) (h0 : ¬ E = 0)
    (HF : ∀ w2, New w w2 → Calls Tryz.prog 16 #[.slice a n c] w2 fun e w3 => e = .returned (.tuple #[.agg (stc k q), .iface t v]) ∧ New w2 w3)
    (HN : ∀ w2, New w w2 → Calls Tryz.prog 30 #[.iface t v] w2 fun e w3 => e = .returned (.int .i64 E) ∧ New w2 w3) :
    Calls Tryz.prog 7 #[.slice a n c] w fun e w' => e = .returned (.tuple #[.agg (stc (rdK17 l) (rdQ17 l)), .int .i64 (rdE17 l)]) ∧ New w w' := by
  unfold rdK17 rdQ17
  rw [hE, if_neg h0, if_neg h0, ← zStc_is]
  exact unm_of a n c w (stc k q) zStc (.iface t v) E ⟨_, _, zStc_is⟩ HF (fun w2 h2 => told_err k q t v E w2 (fun w3 h3 => HN w3 (h2.trans h3)))
theorem unm_17 (S F L K : Addr) (a : Option Addr) (n c : Nat) (l : List (BitVec 8)) (w : World) (hl : BRow w a n c l) (hs : SenD S F L K w) (hg : EtD 8 45 155 w) (hsm : n ≤ 300) :
    Calls Tryz.prog 7 #[.slice a n c] w fun e w' => e = .returned (.tuple #[.agg (stc (rdK17 l) (rdQ17 l)), .int .i64 (rdE17 l)]) ∧ New w w' := by
  have hln := hl.len_eq
  obtain ⟨n1, n2, n3, n4, n5, n6⟩ := hs.ne
  have sS : senN S F L K S = 3 := by unfold senN; rw [if_pos rfl]
  have sL : senN S F L K L = 4 := by unfold senN; rw [if_neg (fun e => n2 e.symm), if_pos rfl]
  have sK : senN S F L K K = 6 := by unfold senN; rw [if_neg (fun e => n3 e.symm), if_neg (fun e => n6 e.symm), if_pos rfl]
  have sF : senN S F L K F = 5 := by unfold senN; rw [if_neg (fun e => n1 e.symm), if_neg n4, if_neg n5]
  have num : ∀ (p : ByteArray) (x : Addr) (E : Int), (x = S ∨ x = F ∨ x = L ∨ x = K) → senN S F L K x = E → ∀ w2, New w w2 → Calls Tryz.prog 30 #[inV p (senV x)] w2 fun e w3 => e = .returned (.int .i64 E) ∧ New w2 w3 := fun p x E hx hE w2 h2 => by
    rw [← hE]; exact numE_in p S F L K x w2 (hg.stay h2) (hs.stay h2) hx
  have hE0 : rdE17 l = rdE17 l := rfl
  by_cases h1 : n < 2
  · have hE : rdE17 l = 3 := by unfold rdE17; rw [if_pos (by omega)]
    exact unm_bad a n c l w 0 zW4 _ _ 3 hE (by decide) (fun w2 h2 => by
      rw [← zStc_is]; exact fb_head a n c w2 (by omega) S (fun w3 h3 => head_short S F L K a n c l w3 (hl.stay (h2.trans h3)) (hs.stay (h2.trans h3)) h1)) (num sHead S 3 (.inl rfl) sS)
  by_cases h2 : l.getD 0 0 = 103#8
  case neg =>
    have hE : rdE17 l = 5 := by unfold rdE17; rw [if_neg (by omega), if_pos h2]
    exact unm_bad a n c l w 0 zW4 _ _ 5 hE (by decide) (fun w2 h2' => by
      rw [← zStc_is]; exact fb_head a n c w2 (by omega) F (fun w3 h3 => head_form S F L K a n c l w3 (hl.stay (h2'.trans h3)) (hs.stay (h2'.trans h3)) (by omega) h2)) (num sHead F 5 (.inr (.inl rfl)) sF)
  cases h3 : okK (kd17 l)
  · have hE : rdE17 l = 6 := by unfold rdE17; rw [if_neg (by omega), if_neg (not_not_intro h2), if_pos h3]
    exact unm_bad a n c l w 0 zW4 _ _ 6 hE (by decide) (fun w2 h2' => by
      rw [← zStc_is]; exact fb_head a n c w2 (by omega) K (fun w3 h3' => head_kind S F L K a n c l w3 (hl.stay (h2'.trans h3')) (hs.stay (h2'.trans h3')) (by omega) h2 h3)) (num sHead K 6 (.inr (.inr (.inr rfl))) sK)
  have h3' : ¬ okK (kd17 l) = false := by rw [h3]; decide
  obtain ⟨z1, z2, z3, z4, z5⟩ := szK_n h3
  have HH : ∀ w2, New w w2 → Calls Tryz.prog 31 #[.slice a n c] w2 fun e w3 => e = .returned (.tuple #[.int .i64 (kd17 l), .nilIface]) ∧ New w2 w3 := fun w2 h2' => head_ok S F L K a n c l w2 (hl.stay h2') (hs.stay h2') (by omega) h2 h3
  by_cases h4 : n < 6 + 8 * nK (kd17 l)
  · have hE : rdE17 l = 3 := by unfold rdE17; rw [if_neg (by omega), if_neg (not_not_intro h2), if_neg h3', if_pos (by omega)]
    exact unm_bad a n c l w 0 zW4 _ _ 3 hE (by decide) (fun w2 h2' => by
      rw [← zStc_is]; exact fb_len a n c w2 (by omega) (kd17 l) _ z1 (by omega) (by omega) S (fun w3 h3 => HH w3 (h2'.trans h3)) (fun w3 h3 => fits_less S F L K _ _ w3 (hs.stay (h2'.trans h3)) (by omega))) (num sLen S 3 (.inl rfl) sS)
  by_cases h5 : 6 + 8 * nK (kd17 l) < n
  · have hE : rdE17 l = 4 := by unfold rdE17; rw [if_neg (by omega), if_neg (not_not_intro h2), if_neg h3', if_neg (by omega), if_pos (by omega)]
    exact unm_bad a n c l w 0 zW4 _ _ 4 hE (by decide) (fun w2 h2' => by
      rw [← zStc_is]; exact fb_len a n c w2 (by omega) (kd17 l) _ z1 (by omega) (by omega) L (fun w3 h3 => HH w3 (h2'.trans h3)) (fun w3 h3 => fits_more S F L K _ _ w3 (hs.stay (h2'.trans h3)) (by omega))) (num sLen L 4 (.inr (.inr (.inl rfl))) sL)
  have hn : n = 6 + 8 * nK (kd17 l) := by omega
  have HFY : ∀ w2, New w w2 → Calls Tryz.prog 32 #[.int .i64 (n : Int), .int .i64 (2 + 8 * (nK (kd17 l) : Int) + 4)] w2 fun e w3 => e = .returned .nilIface ∧ w3 = w2 := fun w2 _ => by
    rw [show (n : Int) = 2 + 8 * (nK (kd17 l) : Int) + 4 by omega]; exact fits_yes _ w2
  obtain ⟨b, off, rfl, _⟩ := hl.addr (by omega)
  cases h6 : ok16 l
  · have hE : rdE17 l = 14 := by unfold rdE17; rw [if_neg (by omega), if_neg (not_not_intro h2), if_neg h3', if_neg (by omega), if_neg (by omega), if_pos h6]
    exact unm_bad _ n c l w 0 zW4 _ _ 14 hE (by decide) (fun w2 h2' => by
      rw [← zStc_is]; exact fb_sum _ n c w2 (by omega) (kd17 l) _ z1 (by omega) (by omega) (fun w3 h3 => HH w3 (h2'.trans h3)) (fun w3 h3 => HFY w3 (h2'.trans h3)) (fun w3 h3 => open_no b off n c l w3 (hl.stay (h2'.trans h3)) (by omega) h6)) (fun w2 h2' => numE_ref sSum 14 w2 (hg.stay h2'))
  have hE : rdE17 l = chkK (kd17 l) (qd17 l (nK (kd17 l))) := by unfold rdE17; rw [if_neg (by omega), if_neg (not_not_intro h2), if_neg h3', if_neg (by omega), if_neg (by omega), if_neg (by rw [h6]; decide)]
  have HB : ∀ w2, New w w2 → Calls Tryz.prog 16 #[.slice (some ⟨b, off, none⟩) n c] w2 fun e w3 => e = .returned (.tuple #[.agg (stc (kd17 l) (qd17 l (nK (kd17 l)))), if chkK (kd17 l) (qd17 l (nK (kd17 l))) = 0 then .nilIface else inV sState (refV (chkK (kd17 l) (qd17 l (nK (kd17 l)))))]) ∧ New w2 w3 := fun w2 h2' =>
    fb_end (kd17 l) (nK (kd17 l)) z1 (by omega) _ n c l w2 hn hln (fun w3 h3 => HH w3 (h2'.trans h3)) (fun w3 h3 => HFY w3 (h2'.trans h3)) (fun w3 h3 => open_yes b off n c l w3 (hl.stay (h2'.trans h3)) (by omega) h6)
  by_cases h7 : chkK (kd17 l) (qd17 l (nK (kd17 l))) = 0
  · rw [if_pos h7] at HB
    rw [h7] at hE
    unfold rdK17 rdQ17
    rw [hE, if_pos rfl, if_pos rfl]
    exact unm_of _ n c w _ _ .nilIface 0 ⟨_, _, rfl⟩ HB (fun w2 _ => told_nil _ _ w2)
  · rw [if_neg h7] at HB
    exact unm_bad _ n c l w _ _ _ _ _ hE h7 HB (fun w2 h2' => numE_ref sState _ w2 (hg.stay h2'))
end Go.Proofs.YtjmnhooenampkaaGreatDoor
