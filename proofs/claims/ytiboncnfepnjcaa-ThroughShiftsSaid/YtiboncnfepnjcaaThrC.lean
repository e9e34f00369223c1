/- The document's own Check of points. -/
import Derived.Test.YtiboncnfepnjcaaThrA
import Derived.Deep.QuietTactic
import Derived.BigQuiet
namespace Go.Proofs.Ytiboncnfepnjcaa
open Go.RowKit Go.Bv
set_option linter.unusedVariables false
set_option maxRecDepth 100000 in
set_option maxHeartbeats 4000000 in
theorem rchk_q (a b2 : Option Addr) (n c n2 cc2 : Nat) (xs ys : List (BitVec 64)) (w : World) (hx : QRow w a n c xs) (hy : QRow w b2 n2 cc2 ys) :
    Calls Try.prog 34 #[.slice a n c, .slice b2 n2 cc2] w fun e w' => e = .returned (.int .i64 (chkT xs ys)) ∧ New w w' := by
  have hmx := hx.most
  have hmy := hy.most
  have HX := Lib.hid hx
  have HY := Lib.hid hy
  have hlx := hx.len_eq
  have hly := hy.len_eq
  clear hx hy
  by_cases h1 : (n : Int) < 1
  · have HE : Hid (chkT xs ys = 1) := Lib.hid (by unfold chkT; rw [if_pos (by omega)])
    go_enter Try.func34, Try.ntmps34
    go_wp2
    go_ret
    rw [HE.out]; exact ⟨rfl, New.refl w⟩
  by_cases h2 : 64 < (n : Int)
  · have HE : Hid (chkT xs ys = 1) := Lib.hid (by unfold chkT; rw [if_pos (by omega)])
    go_enter Try.func34, Try.ntmps34
    go_wp2
    go_ret
    rw [HE.out]; exact ⟨rfl, New.refl w⟩
  by_cases h3 : n = n2
  rotate_left
  · have hne : ((n : Int) != (n2 : Int)) = true := by rw [bne_iff_ne]; omega
    have HE : Hid (chkT xs ys = 1) := Lib.hid (by unfold chkT; rw [if_pos (by omega)])
    clear h3
    go_enter Try.func34, Try.ntmps34
    go_wp2
    go_ret
    rw [HE.out]; exact ⟨rfl, New.refl w⟩
  subst h3
  have HL := Lib.hid hlx
  have HL2 := Lib.hid hly
  have HC0 : Hid (chkT xs ys = if (blw xs && blw ys) = true then (if unl xs then 0 else 15) else 2) := Lib.hid (by unfold chkT; rw [if_neg (by omega)])
  clear hlx hly
  go_enter Try.func34, Try.ntmps34
  go_wp2
  go_loop [25] (fun iv => ∃ k : Nat, k ≤ n ∧ iv = .int .i64 (k : Int) ∧ Hid (∀ j, j < k → (xs.getD j 0).toNat < PP ∧ (ys.getD j 0).toNat < PP)) (fun iv => n - (intOf iv).toNat)
  case atStart => exact ⟨0, Nat.zero_le _, rfl, Lib.hid (fun j hj => by omega)⟩
  case round =>
    obtain ⟨k, hk, rfl, H⟩ := hrel
    by_cases hlt : (k : Int) < (n : Int)
    · obtain ⟨b, off, rfl, hc⟩ := HX.out.addr (by omega)
      have c1 := hc k (by omega)
      clear hc
      obtain ⟨b3, off3, rfl, hc⟩ := HY.out.addr (by omega)
      have c2 := hc k (by omega)
      clear hc
      have hk0 : (0 : Int) ≤ (k : Int) := by omega
      by_cases hp : (xs.getD k 0).toNat < PP
      · have hg : decide (2305843009213693951 ≤ W64 (xs.getD k 0)) = false := decide_eq_false (by unfold PP at hp; unfold W64; omega)
        by_cases hp2 : (ys.getD k 0).toNat < PP
        · have HP : Hid ((xs.getD k 0).toNat < PP ∧ (ys.getD k 0).toNat < PP) := Lib.hid ⟨hp, hp2⟩
          have hg2 : decide (2305843009213693951 ≤ W64 (ys.getD k 0)) = false := decide_eq_false (by unfold PP at hp2; unfold W64; omega)
          clear hp hp2
          obtain ⟨y, hy⟩ : ∃ z, xs.getD k 0 = z := ⟨_, rfl⟩
          rw [hy] at c1 hg
          clear hy
          obtain ⟨y2, hy⟩ : ∃ z, ys.getD k 0 = z := ⟨_, rfl⟩
          rw [hy] at c2 hg2
          clear hy
          go_wp2
          refine ⟨⟨k + 1, by omega, by go_num, Lib.hid (fun j hj => ?_)⟩, by simp [intOf]; omega⟩
          by_cases e : j = k
          · subst e; exact HP.out
          · exact H.out j (by omega)
        · have HE : Hid (chkT xs ys = 2) := Lib.hid (by rw [HC0.out, blw_no (by rw [HL2.out]; omega) hp2, Bool.and_false]; rfl)
          have hg2 : decide (2305843009213693951 ≤ W64 (ys.getD k 0)) = true := decide_eq_true (by unfold PP at hp2; unfold W64; omega)
          clear hp hp2
          obtain ⟨y, hy⟩ : ∃ z, xs.getD k 0 = z := ⟨_, rfl⟩
          rw [hy] at c1 hg
          clear hy
          obtain ⟨y2, hy⟩ : ∃ z, ys.getD k 0 = z := ⟨_, rfl⟩
          rw [hy] at c2 hg2
          clear hy
          go_wp2
          go_ret
          rw [HE.out]; exact ⟨rfl, New.refl w⟩
      · have HE : Hid (chkT xs ys = 2) := Lib.hid (by rw [HC0.out, blw_no (by rw [HL.out]; omega) hp]; rfl)
        have hg : decide (2305843009213693951 ≤ W64 (xs.getD k 0)) = true := decide_eq_true (by unfold PP at hp; unfold W64; omega)
        clear hp
        obtain ⟨y, hy⟩ : ∃ z, xs.getD k 0 = z := ⟨_, rfl⟩
        rw [hy] at c1 hg
        clear hy c2
        go_wp2
        go_ret
        rw [HE.out]; exact ⟨rfl, New.refl w⟩
    · have hkn : k = n := by omega
      have HC : Hid (chkT xs ys = if unl xs then 0 else 15) := Lib.hid (by rw [HC0.out, blw_yes (by rw [HL.out, ← hkn]; exact fun j hj => (H.out j hj).1), blw_yes (by rw [HL2.out, ← hkn]; exact fun j hj => (H.out j hj).2)]; rfl)
      clear H HC0
      go_wp2
      go_loopw [43] (fun iv wr => ∃ i : Nat, i ≤ n ∧ iv = .int .i64 (i : Int) ∧ Hid (∀ i', i' < i → ∀ k, k < i' → xs.getD k 0 ≠ xs.getD i' 0) ∧ New w wr) (fun iv _ => n - (intOf iv).toNat)
      case atStart => exact ⟨0, Nat.zero_le _, rfl, Lib.hid (fun i hi => by omega), New.refl w⟩
      case round =>
        obtain ⟨i, hi, rfl, H, hnw⟩ := hrel
        have HN := Lib.hid hnw
        obtain ⟨wq, hwq⟩ : ∃ z, z = wr := ⟨_, rfl⟩
        rw [← hwq] at HN ⊢
        clear hnw hwq
        by_cases hlt : (i : Int) < (n : Int)
        · obtain ⟨b, off, rfl, hc⟩ := (HX.out.stay HN.out).addr (by omega)
          have c1 := hc i (by omega)
          have HCC := Lib.hid hc
          have HXI := Lib.hid (show xs.getD i 0 = xs.getD i 0 from rfl)
          obtain ⟨x, hx⟩ : ∃ z, xs.getD i 0 = z := ⟨_, rfl⟩
          rw [hx] at c1 HXI
          have HXE := Lib.hid hx
          clear hx hc
          have hi0 : (0 : Int) ≤ (i : Int) := by omega
          have hic : (i : Int) ≤ (c : Int) := by have := HX.out.le; omega
          go_wp2_with fail
          
          go_loopw [7] (fun jv wr => ∃ j : Nat, j ≤ i ∧ jv = .int .i64 (j : Int) ∧ Hid (∀ k, k < j → xs.getD k 0 ≠ x) ∧ New w wr) (fun jv _ => i - (intOf jv).toNat)
          case atStart => exact ⟨0, Nat.zero_le _, rfl, Lib.hid (fun k hk => by omega), HN.out⟩
          case round =>
            clear HN HCC
            obtain ⟨j, hj, rfl, HJ, hnw⟩ := hrel
            have HN := Lib.hid hnw
            obtain ⟨wq, hwq⟩ : ∃ z, z = wr := ⟨_, rfl⟩
            rw [← hwq] at HN ⊢
            clear hnw hwq c1
            by_cases hlt2 : (j : Int) < (i : Int)
            · have c2 := (HX.out.stay HN.out).cell b off rfl j (by omega)
              have hj0 : (0 : Int) ≤ (j : Int) := by omega
              have c1 := (HX.out.stay HN.out).cell b off rfl i (by omega)
              rw [HXE.out] at c1
              have hjn : (j : Int) < (n : Int) := by omega
              by_cases he : xs.getD j 0 = x
              · have HE : Hid (chkT xs ys = 15) := Lib.hid (by rw [HC.out, if_neg (fun hh => hh i (by rw [HL.out]; omega) j (by omega) (by rw [he, HXE.out]))])
                rw [he] at c2
                clear he
                go_wp2
                go_quiet (fail)
                go_wp2
                go_ret
                rw [HE.out]; exact ⟨rfl, (HN.out.drewN nq)⟩
              · have HE : Hid (xs.getD j 0 ≠ x) := Lib.hid he
                have hne : (xs.getD j 0 == x) = false := by rw [beq_eq_false_iff_ne]; exact he
                clear he
                obtain ⟨y, hy⟩ : ∃ z, xs.getD j 0 = z := ⟨_, rfl⟩
                rw [hy] at c2 hne
                clear hy
                go_wp2
                go_quiet (fail)
                go_wp2
                refine ⟨⟨j + 1, by omega, by go_num, Lib.hid (fun k hk => ?_), (HN.out.drewN nq)⟩, by simp [intOf]; omega⟩
                by_cases e : k = j
                · subst e; exact HE.out
                · exact HJ.out k (by omega)
            · obtain rfl : j = i := by omega
              go_wp2
              refine ⟨⟨j + 1, by omega, by go_num, Lib.hid (fun i' hi' k hk => ?_), HN.out⟩, by simp [intOf]; omega⟩
              by_cases e : i' = j
              · subst e; rw [HXE.out]; exact HJ.out k hk
              · exact H.out i' (by omega) k hk
        · obtain rfl : i = n := by omega
          have HE : Hid (chkT xs ys = 0) := Lib.hid (by rw [HC.out, if_pos (by unfold unl; rw [HL.out]; exact H.out)])
          clear H
          go_wp2
          go_ret
          rw [HE.out]; exact ⟨rfl, HN.out⟩
end Go.Proofs.Ytiboncnfepnjcaa
