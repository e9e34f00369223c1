/- through.Check. -/
import Derived.Test.YtiboncnfepnjcaaThrA
import Derived.Deep.QuietTactic
import Derived.BigQuiet
namespace Go.Proofs.Ytiboncnfepnjcaa
open Go.RowKit Go.Bv
set_option linter.unusedVariables false
set_option maxRecDepth 100000 in
set_option maxHeartbeats 4000000 in
theorem pchk_q (a b2 : Option Addr) (n c n2 cc2 : Nat) (xs ys : List (BitVec 64)) (w : World) (hx : QRow w a n c xs) (hy : QRow w b2 n2 cc2 ys) :
    Calls Try.prog 35 #[.slice a n c, .slice b2 n2 cc2] w fun e w' => e = .returned (.int .i64 (chkT xs ys)) ∧ New w w' := by
  have hmx := hx.most
  have hmy := hy.most
  have HX := Lib.hid hx
  have HY := Lib.hid hy
  have hlx := hx.len_eq
  have hly := hy.len_eq
  clear hx hy
  by_cases h1 : (n : Int) = 0
  · have HE : Hid (chkT xs ys = 1) := Lib.hid (by unfold chkT; rw [if_pos (by omega)])
    go_enter Try.func35, Try.ntmps35
    go_wp2
    go_ret
    rw [HE.out]; exact ⟨rfl, New.refl w⟩
  by_cases h2 : 64 < (n : Int)
  · have HE : Hid (chkT xs ys = 1) := Lib.hid (by unfold chkT; rw [if_pos (by omega)])
    go_enter Try.func35, Try.ntmps35
    go_wp2
    go_ret
    rw [HE.out]; exact ⟨rfl, New.refl w⟩
  by_cases h3 : n = n2
  rotate_left
  · have hne : ((n2 : Int) != (n : Int)) = true := by rw [bne_iff_ne]; omega
    have HE : Hid (chkT xs ys = 1) := Lib.hid (by unfold chkT; rw [if_pos (by omega)])
    clear h3
    go_enter Try.func35, Try.ntmps35
    go_wp2
    go_ret
    rw [HE.out]; exact ⟨rfl, New.refl w⟩
  subst h3
  have HL := Lib.hid hlx
  have HL2 := Lib.hid hly
  have HC0 : Hid (chkT xs ys = if (blw xs && blw ys) = true then (if unl xs then 0 else 15) else 2) := Lib.hid (by unfold chkT; rw [if_neg (by omega)])
  clear hlx hly
  have HBX := Lib.hid (fun w' (hn : New w w') => inf_q _ _ _ _ w' (HX.out.stay hn))
  have HBY := Lib.hid (fun w' (hn : New w w') => inf_q _ _ _ _ w' (HY.out.stay hn))
  cases hbx : blw xs with
  | false =>
    have HE : Hid (chkT xs ys = 2) := Lib.hid (by rw [HC0.out, hbx]; rfl)
    rw [hbx] at HBX
    go_enter Try.func35, Try.ntmps35
    go_wp2_with fail
    refine (HBX.out _ (New.refl w)).mono ?_
    rintro e w' ⟨rfl, rfl⟩
    go_wp2
    go_ret
    rw [HE.out]; exact ⟨rfl, New.refl _⟩
  | true =>
  cases hby : blw ys with
  | false =>
    have HE : Hid (chkT xs ys = 2) := Lib.hid (by rw [HC0.out, hbx, hby]; rfl)
    rw [hbx] at HBX
    rw [hby] at HBY
    go_enter Try.func35, Try.ntmps35
    go_wp2_with fail
    refine (HBX.out _ (New.refl w)).mono ?_
    rintro e w' ⟨rfl, hw⟩
    replace hw := hw.symm
    subst hw
    go_wp2_with fail
    refine (HBY.out _ (New.refl w)).mono ?_
    rintro e w' ⟨rfl, hw⟩
    replace hw := hw.symm
    subst hw
    go_wp2
    go_ret
    rw [HE.out]; exact ⟨rfl, New.refl _⟩
  | true =>
  have HC : Hid (chkT xs ys = if unl xs then 0 else 15) := Lib.hid (by rw [HC0.out, hbx, hby]; rfl)
  rw [hbx] at HBX
  rw [hby] at HBY
  clear hbx hby HC0
  go_enter Try.func35, Try.ntmps35
  go_wp2_with fail
  refine (HBX.out _ (New.refl w)).mono ?_
  rintro e w' ⟨rfl, hw⟩
  replace hw := hw.symm
  subst hw
  go_wp2_with fail
  refine (HBY.out _ (New.refl w)).mono ?_
  rintro e w' ⟨rfl, hw⟩
  replace hw := hw.symm
  subst hw
  go_wp2_with fail
  clear HBX HBY
  go_loopw [34] (fun iv wr => ∃ i : Nat, i ≤ n ∧ iv = .int .i64 (i : Int) ∧ Hid (∀ i', i' < i → ∀ k, k < i' → xs.getD k 0 ≠ xs.getD i' 0) ∧ New w wr) (fun iv _ => n - (intOf iv).toNat)
  case atStart => exact ⟨0, Nat.zero_le _, rfl, Lib.hid (fun i hi => by omega), New.refl w⟩
  case round =>
    obtain ⟨i, hi, rfl, H, hnw⟩ := hrel
    have HN := Lib.hid hnw
    obtain ⟨wq, hwq⟩ : ∃ z, z = wr := ⟨_, rfl⟩
    rw [← hwq] at HN ⊢
    clear hnw hwq
    by_cases hlt : (i : Int) < (n : Int)
    · obtain ⟨b, off, rfl, hc⟩ := (HX.out.stay HN.out).addr (by omega)
      have c1 := hc i (by omega)
      have HCC := Lib.hid hc
      have HXI := Lib.hid (show xs.getD i 0 = xs.getD i 0 from rfl)
      obtain ⟨x, hx⟩ : ∃ z, xs.getD i 0 = z := ⟨_, rfl⟩
      rw [hx] at c1 HXI
      have HXE := Lib.hid hx
      clear hx hc
      have hi0 : (0 : Int) ≤ (i : Int) := by omega
      have hic : (i : Int) ≤ (c : Int) := by have := HX.out.le; omega
      go_wp2_with fail
      clear c1
      go_loopw [43] (fun jv wr => ∃ j : Nat, j ≤ i ∧ jv = .int .i64 (j : Int) ∧ Hid (∀ k, k < j → xs.getD k 0 ≠ x) ∧ New w wr) (fun jv _ => i - (intOf jv).toNat)
      case atStart => exact ⟨0, Nat.zero_le _, rfl, Lib.hid (fun k hk => by omega), HN.out⟩
      case round =>
        clear HN HCC
        obtain ⟨j, hj, rfl, HJ, hnw⟩ := hrel
        have HN := Lib.hid hnw
        obtain ⟨wq, hwq⟩ : ∃ z, z = wr := ⟨_, rfl⟩
        rw [← hwq] at HN ⊢
        clear hnw hwq
        by_cases hlt2 : (j : Int) < (i : Int)
        · have c2 := (HX.out.stay HN.out).cell b off rfl j (by omega)
          have hj0 : (0 : Int) ≤ (j : Int) := by omega
          by_cases he : xs.getD j 0 = x
          · have HE : Hid (chkT xs ys = 15) := Lib.hid (by rw [HC.out, if_neg (fun hh => hh i (by rw [HL.out]; omega) j (by omega) (by rw [he, HXE.out]))])
            rw [he] at c2
            clear he
            go_wp2
            go_ret
            rw [HE.out]; exact ⟨rfl, HN.out⟩
          · have HE : Hid (xs.getD j 0 ≠ x) := Lib.hid he
            have hne : (xs.getD j 0 == x) = false := by rw [beq_eq_false_iff_ne]; exact he
            clear he
            obtain ⟨y, hy⟩ : ∃ z, xs.getD j 0 = z := ⟨_, rfl⟩
            rw [hy] at c2 hne
            clear hy
            go_wp2
            refine ⟨⟨j + 1, by omega, by go_num, Lib.hid (fun k hk => ?_), HN.out⟩, by simp [intOf]; omega⟩
            by_cases e : k = j
            · subst e; exact HE.out
            · exact HJ.out k (by omega)
        · obtain rfl : j = i := by omega
          go_wp2
          refine ⟨⟨j + 1, by omega, by go_num, Lib.hid (fun i' hi' k hk => ?_), HN.out⟩, by simp [intOf]; omega⟩
          by_cases e : i' = j
          · subst e; rw [HXE.out]; exact HJ.out k hk
          · exact H.out i' (by omega) k hk
    · obtain rfl : i = n := by omega
      have HE : Hid (chkT xs ys = 0) := Lib.hid (by rw [HC.out, if_pos (by unfold unl; rw [HL.out]; exact H.out)])
      clear H
      go_wp2
      go_ret
      rw [HE.out]; exact ⟨rfl, HN.out⟩
end Go.Proofs.Ytiboncnfepnjcaa
