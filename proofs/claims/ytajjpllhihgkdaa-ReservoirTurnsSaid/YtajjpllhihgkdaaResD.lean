/- The law ReservoirSlots. -/
import Derived.Test.YtajjpllhihgkdaaResC
namespace Go.Proofs.Ytajjpllhihgkdaa
open Go Go.RowKit Go.Bv
set_option linter.unusedVariables false
set_option maxRecDepth 100000 in
set_option maxHeartbeats 2000000 in
theorem awake42 (w : World) : Calls Try.prog 8 #[] w fun e w' => e = .returned (.bool true) ∧ New w w' := by
  have hrd : rdI 3 1 [0, 2] := by
    refine ⟨rfl, fun i hi => ?_⟩
    match i, hi with
    | 0, _ => decide
    | 1, _ => decide
  have hsl : slI 3 1 [0, 2] = [1] := by decide +kernel
  obtain ⟨_, _, he, hz⟩ := ZRow.of_owns (l := [0, 2]) (ow_made w w.heap.size 3 #[.int .i64 0, .int .i64 2] 2 _ (Nat.le_refl _) (by omega) rfl rfl) (by omega) (by intro z hz; simp at hz; unfold In64; omega)
  cases he
  have hpc := slots_q 3 1 (by omega) (by omega) _ _ _ _ _ hz hrd
  rw [hsl] at hpc
  have HPC := Lib.hid hpc
  clear hrd hsl hz hpc
  go_enter Try.func8, Try.ntmps8
  go_wp2_with fail
  refine (HPC.out).mono ?_
  rintro e w9 ⟨a', c', rfl, hq, hn⟩
  have HN := Lib.hid (((New.refl w).alloc (.cells #[.int .i64 0, .int .i64 2] 3)).trans hn)
  obtain ⟨b, off, rfl, hc⟩ := hq.addr (by omega)
  have c0 := hc 0 (by omega)
  rw [Nat.add_zero] at c0
  rw [show ([1] : List Int).getD 0 0 = 1 from rfl] at c0
  clear hn hq hc HPC
  go_wp2
  go_ret
  exact ⟨rfl, HN.out⟩
theorem zrow_head {w : World} {a : Option Addr} {len cap k : Nat} {l : List Int} (h : ZRow w a len cap l) (hk : k ≤ len) : ZRow w a k cap (l.take k) where
  len_eq := by rw [List.length_take, h.len_eq]; omega
  le := Nat.le_trans hk h.le
  most := Nat.le_trans hk h.most
  room := h.room
  none := fun e => by have := h.none e; omega
  cell := fun b off e i hi => by
    rw [List.getD_eq_getElem?_getD, List.getElem?_take, if_pos hi, ← List.getD_eq_getElem?_getD]
    exact h.cell b off e i (by omega)
  spot := fun x e h0 => h.spot x e (by omega)
  old := fun x e h0 => h.old x e (by omega)
  wf := fun z hz => h.wf z (List.mem_of_mem_take hz)
theorem sl_take {n k : Nat} (hk : k ≤ n) (d : List Int) : (odI n k d).take k = slI n k d := by
  unfold odI slI
  apply ints_eq (n := k) (by rw [List.length_take, liI_len]; omega) (liI_len _ _)
  intro i hi
  rw [List.getD_eq_getElem?_getD, List.getElem?_take, if_pos hi, ← List.getD_eq_getElem?_getD, liI_get _ (show i < n by omega), liI_get _ hi]
set_option maxRecDepth 100000 in
set_option maxHeartbeats 8000000 in
theorem ReservoirSlots_walk (W : World) (a0 : Int) (w0 : (Lit.int .i64 a0).wf = true) (a1 : Int) (w1 : (Lit.int .i64 a1).wf = true) (a2 : Option Addr) (n2 m2 : Nat) (z2 : List Int) (w2 : IRow .i64 W a2 n2 m2 z2) (r2 : m2 * 8 ≤ 140737488351232) :
    Calls Try.prog 3 #[.int .i64 a0, .int .i64 a1, .slice a2 n2 m2] W fun e w' => e = .returned (.bool true) ∧ Below W.heap.size W w' := by
  obtain ⟨d, hd⟩ := w2.ints r2
  have H2 := Lib.hid hd
  have HL2 := Lib.hid hd.len_eq
  clear w2 r2 hd
  have hn0 := wfi64 w0
  have hn1 := wfi64 w1
  clear w0 w1
  have HA := Lib.hid awake42
  go_enter Try.func3, Try.ntmps3
  go_wp2_with fail
  refine (HA.out _).mono ?_
  rintro e wA ⟨rfl, hn⟩
  replace H2 := Lib.hid (H2.out.stay hn)
  have HN := Lib.hid hn
  clear hn HA
  by_cases g0 : 60 < a0 ∧ a0 ≤ 256
  · obtain ⟨ga, gb⟩ := g0
    go_wp2
    go_ret
    exact ⟨rfl, HN.out⟩
  have e0 : ¬ 60 < a0 ∨ (60 < a0 ∧ ¬ a0 ≤ 256) := by omega
  have HC := Lib.hid (fun w => check_42 a0 a1 w)
  have HCR := Lib.hid (fun w => checkr_42 a0 a1 w)
  by_cases hk : ckE a0 a1 = 0
  case neg =>
    have HS := Lib.hid (fun w => slots_err a0 a1 a2 n2 m2 w hk)
    have HO := Lib.hid (fun w => order_err a0 a1 a2 n2 m2 w hk)
    obtain ⟨z, hz⟩ : ∃ z, ckE a0 a1 = z := ⟨_, rfl⟩
    rw [hz] at HC HCR HS HO hk
    have hz1 : (z != z) = false := by simp
    have hz2 : (z == 0) = false := by rw [beq_eq_false_iff_ne]; exact hk
    have hz3 : (z != 0) = true := by simpa using hk
    have hz4 : (z == z) = true := by simp
    clear hz
    rcases e0 with e0 | ⟨e0, e0'⟩
    all_goals (
      go_wp2_with fail
      refine (HS.out _).mono ?_
      rintro e wN ⟨rfl, hn⟩
      replace H2 := Lib.hid (H2.out.stay hn)
      replace HN := Lib.hid (HN.out.trans hn)
      clear hn
      go_wp2_with fail
      refine (HO.out _).mono ?_
      rintro e wN ⟨rfl, hn⟩
      replace H2 := Lib.hid (H2.out.stay hn)
      replace HN := Lib.hid (HN.out.trans hn)
      clear hn
      go_wp2_with fail
      refine (HCR.out _).mono ?_
      rintro e w' ⟨rfl, hw⟩
      replace hw := hw.symm
      subst hw
      go_wp2_with fail
      refine (HC.out _).mono ?_
      rintro e w' ⟨rfl, hw⟩
      replace hw := hw.symm
      subst hw
      go_wp2
      go_ret
      exact ⟨rfl, HN.out⟩)
  have hk2 : 0 ≤ a0 ∧ 0 ≤ a1 ∧ a1 ≤ a0 ∧ a0 ≤ 256 := by
    unfold ckE at hk
    by_cases h1 : a0 < 0 ∨ a1 < 0 ∨ a0 < a1
    · rw [if_pos h1] at hk; omega
    · rw [if_neg h1] at hk
      by_cases h2 : 256 < a0
      · rw [if_pos h2] at hk; omega
      · omega
  have e0' : ¬ 60 < a0 := by omega
  rw [hk] at HC HCR
  obtain ⟨n, rfl⟩ : ∃ n : Nat, a0 = (n : Int) := ⟨a0.toNat, by omega⟩
  obtain ⟨k, rfl⟩ : ∃ k : Nat, a1 = (k : Int) := ⟨a1.toNat, by omega⟩
  have hkn : k ≤ n := by omega
  have hn256 : n ≤ 256 := by omega
  clear hk g0 e0 hk2
  have HRI := Lib.hid (fun w (h : ZRow w a2 n2 m2 d) => right_42 n k hkn (by omega) a2 n2 m2 d w h)
  by_cases hrd : rdI n k d
  case neg =>
    have HS := Lib.hid (fun w (h : ZRow w a2 n2 m2 d) => slots_bad n k hkn hn256 a2 n2 m2 d w h (rdB_no hrd))
    have HO := Lib.hid (fun w (h : ZRow w a2 n2 m2 d) => order_bad n k hkn hn256 a2 n2 m2 d w h (rdB_no hrd))
    rw [rdB_no hrd] at HRI
    clear hrd
    go_wp2_with fail
    refine (HS.out _ H2.out).mono ?_
    rintro e wN ⟨rfl, hn⟩
    replace H2 := Lib.hid (H2.out.stay hn)
    replace HN := Lib.hid (HN.out.trans hn)
    clear hn
    go_wp2_with fail
    refine (HO.out _ H2.out).mono ?_
    rintro e wN ⟨rfl, hn⟩
    replace H2 := Lib.hid (H2.out.stay hn)
    replace HN := Lib.hid (HN.out.trans hn)
    clear hn
    go_wp2_with fail
    refine (HCR.out _).mono ?_
    rintro e w' ⟨rfl, hw⟩
    replace hw := hw.symm
    subst hw
    go_wp2_with fail
    refine (HC.out _).mono ?_
    rintro e w' ⟨rfl, hw⟩
    replace hw := hw.symm
    subst hw
    go_wp2_with fail
    refine (HRI.out _ H2.out).mono ?_
    rintro e w' ⟨rfl, hw⟩
    replace hw := hw.symm
    subst hw
    go_wp2
    go_ret
    exact ⟨rfl, HN.out⟩
  have HS := Lib.hid (fun w (h : ZRow w a2 n2 m2 d) => slots_q n k hkn hn256 a2 n2 m2 d w h hrd)
  have HO := Lib.hid (fun w (h : ZRow w a2 n2 m2 d) => order_q n k hkn hn256 a2 n2 m2 d w h hrd)
  have HSR := Lib.hid (fun w (h : ZRow w a2 n2 m2 d) => slotsr_42 n k hkn hn256 a2 n2 m2 d w h hrd)
  have HOR := Lib.hid (fun w (h : ZRow w a2 n2 m2 d) => orderr_42 n k hkn hn256 a2 n2 m2 d w h hrd)
  have HTK := Lib.hid (sl_take hkn d)
  rw [rdB_iff.2 hrd] at HRI
  clear hrd
  go_wp2_with fail
  refine (HS.out _ H2.out).mono ?_
  rintro e wN ⟨a4, c4, rfl, hz4, hn⟩
  replace H2 := Lib.hid (H2.out.stay hn)
  replace HN := Lib.hid (HN.out.trans hn)
  have HQ4 := Lib.hid hz4
  clear hz4
  clear hn
  go_wp2_with fail
  refine (HO.out _ H2.out).mono ?_
  rintro e wN ⟨a5, c5, rfl, hz5, hn⟩
  replace H2 := Lib.hid (H2.out.stay hn)
  replace HQ4 := Lib.hid (HQ4.out.stay hn)
  replace HN := Lib.hid (HN.out.trans hn)
  have HQ5 := Lib.hid hz5
  clear hz5
  clear hn
  go_wp2_with fail
  refine (HCR.out _).mono ?_
  rintro e w' ⟨rfl, hw⟩
  replace hw := hw.symm
  subst hw
  go_wp2_with fail
  refine (HC.out _).mono ?_
  rintro e w' ⟨rfl, hw⟩
  replace hw := hw.symm
  subst hw
  go_wp2_with fail
  refine (HRI.out _ H2.out).mono ?_
  rintro e w' ⟨rfl, hw⟩
  replace hw := hw.symm
  subst hw
  go_wp2_with fail
  refine (HSR.out _ H2.out).mono ?_
  rintro e wN ⟨a6, c6, rfl, hz6, hn⟩
  replace H2 := Lib.hid (H2.out.stay hn)
  replace HQ4 := Lib.hid (HQ4.out.stay hn)
  replace HQ5 := Lib.hid (HQ5.out.stay hn)
  replace HN := Lib.hid (HN.out.trans hn)
  have HQ6 := Lib.hid hz6
  clear hz6
  clear hn
  go_wp2_with fail
  refine (ints_ref _ _ _ _ _ _ _ _ _ HQ4.out HQ6.out).mono ?_
  rintro e wN ⟨rfl, hn⟩
  replace H2 := Lib.hid (H2.out.stay hn)
  replace HQ4 := Lib.hid (HQ4.out.stay hn)
  replace HQ5 := Lib.hid (HQ5.out.stay hn)
  replace HN := Lib.hid (HN.out.trans hn)
  clear hn
  rw [beq_self_eq_true]
  go_wp2_with fail
  refine (HOR.out _ H2.out).mono ?_
  rintro e wN ⟨a7, c7, rfl, hz7, hn⟩
  replace HQ4 := Lib.hid (HQ4.out.stay hn)
  replace HQ5 := Lib.hid (HQ5.out.stay hn)
  replace HN := Lib.hid (HN.out.trans hn)
  have HQ7 := Lib.hid hz7
  clear hz7
  clear hn
  go_wp2_with fail
  refine (ints_ref _ _ _ _ _ _ _ _ _ HQ5.out HQ7.out).mono ?_
  rintro e wN ⟨rfl, hn⟩
  replace HQ4 := Lib.hid (HQ4.out.stay hn)
  replace HQ5 := Lib.hid (HQ5.out.stay hn)
  replace HN := Lib.hid (HN.out.trans hn)
  clear hn
  rw [beq_self_eq_true]
  have hkz : (k : Int) ≤ (n : Int) := by omega
  have hk0 : (0 : Int) ≤ (k : Int) := by omega
  have hnc : (n : Int) ≤ (c5 : Int) := by have := HQ5.out.le; omega
  have hkc : (k : Int) ≤ (c5 : Int) := by omega
  have hq8 := zrow_head HQ5.out hkn
  rw [HTK.out] at hq8
  have HQ8 := Lib.hid hq8
  clear hq8
  go_wp2_with fail
  refine (ints_ref _ _ _ _ _ _ _ _ _ HQ8.out HQ4.out).mono ?_
  rintro e wN ⟨rfl, hn⟩
  replace HN := Lib.hid (HN.out.trans hn)
  rw [beq_self_eq_true]
  clear hn
  go_wp2
  go_ret
  exact ⟨rfl, HN.out⟩
end Go.Proofs.Ytajjpllhihgkdaa
