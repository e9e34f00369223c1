/- Contracts of the document's own Mul and To4: for all lists of bits. -/
import Derived.Test.YtajjpllhihgkdaaBitB
import Derived.Test.YtajjpllhihgkdaaBitO
namespace Go.Bv
theorem mul_bit0 (A B k : Nat) (h : B / 2 ^ k % 2 = 0) : A * (B % 2 ^ (k + 1)) = A * (B % 2 ^ k) := by
  rw [mod_bit, h, Nat.mul_zero, Nat.add_zero]
theorem mul_bit1 (A B k : Nat) (h : B / 2 ^ k % 2 = 1) : A * (B % 2 ^ (k + 1)) = A * (B % 2 ^ k) + A * 2 ^ k := by
  rw [mod_bit, h, Nat.mul_one, Nat.mul_add]
theorem bits_mod_add (X Y m : Nat) : bitsOf (X % 2 ^ m + Y % 2 ^ m) m = bitsOf (X + Y) m := by
  rw [← bitsOf_mod (X % 2 ^ m + Y % 2 ^ m), ← Nat.add_mod, bitsOf_mod]
end Go.Bv
namespace Go.Proofs.Ytajjpllhihgkdaa
open Go.RowKit Go.Bv
set_option linter.unusedVariables false
set_option maxHeartbeats 1000000 in
theorem bmul_own (A B na nb ca cb : Nat) (a b : Option Addr) (n : Int) (m : Nat) (hnm : n = (m : Int)) (hm : m ≤ 4096) (hnb : nb ≤ 4096) (w : World) (ha : ZRow w a na ca (bitsOf A na)) (hA : A < 2 ^ na) (hb : ZRow w b nb cb (bitsOf B nb)) (hB : B < 2 ^ nb) :
    Calls Try.prog 99 #[.slice a na ca, .slice b nb cb, .int .i64 n] w fun e w' =>
      ∃ v, e = .returned v ∧ w'.ownsRow w.heap.size 3 1 v m ((bitsOf (A * B) m).map fun y => .int .i64 y) ∧ New w w' := by
  subst hnm
  have cOf := fun w => of_own 0#64 (m : Int) m hm rfl w
  rw [lo_zero, show (0#64).toNat = 0 from rfl] at cOf
  have HOf := Lib.hid cOf
  have HB0 := Lib.hid hb.addr
  have HEND := Lib.hid (Nat.mod_eq_of_lt hB)
  have HZ := Lib.hid (show A * (B % 2 ^ 0) = 0 by rw [Nat.pow_zero, Nat.mod_one, Nat.mul_zero])
  have HA := Lib.hid hA
  clear cOf hA hB
  go_enter Try.func99, Try.ntmps99
  go_wp2_with fail
  refine (HOf.out _).mono ?_
  rintro e w1 ⟨v1, rfl, hown1, hn1⟩
  go_wp2
  go_loopw [7, 8] (fun v i wr => ∃ k : Nat, k ≤ nb ∧ i = .int .i64 k ∧ wr.ownsRow w.heap.size 3 1 v m ((bitsOf (A * (B % 2 ^ k)) m).map fun y => .int .i64 y) ∧ New w wr) (fun _ i _ => nb - (intOf i).toNat)
  case atStart => exact ⟨0, by omega, rfl, by rw [HZ.out]; exact hown1, hn1⟩
  case round =>
    obtain ⟨k, hk, rfl, hown, hnew⟩ := hrel
    by_cases hlt : (k : Int) < nb
    · obtain ⟨bb, boff, rfl, hc⟩ := HB0.out (by omega)
      have c1 := (hb.stay hnew).cell bb boff rfl k (by omega)
      rw [bitsOf_at (by omega)] at c1
      clear hc
      by_cases hbit : B / 2 ^ k % 2 = 1
      · have e1 : bt B k = 1 := by unfold bt; rw [hbit]; rfl
        rw [e1] at c1
        have HS := Lib.hid (mul_bit1 A B k hbit)
        obtain ⟨av, cv, rfl, hz⟩ := bits_row hown (by omega)
        have ha' := ha.stay hnew
        clear hbit e1
        go_wp2_with fail
        refine (bshl_own A na ca k a (m : Int) m rfl hm (by omega) _ ha' HA.out).mono ?_
        rintro e w2 ⟨v2, rfl, hown2, hn2⟩
        obtain ⟨av2, cv2, rfl, hz2⟩ := bits_row hown2 (by omega)
        have hz' := hz.stay hn2
        rw [← bitsOf_mod] at hz' hz2
        go_wp2_with fail
        refine (badd_own _ _ m m cv cv2 av av2 (m : Int) m rfl hm _ hz' (Nat.mod_lt _ (Nat.two_pow_pos _)) hz2 (Nat.mod_lt _ (Nat.two_pow_pos _))).mono ?_
        rintro e w3 ⟨v3, rfl, hown3, hn3⟩
        rw [bits_mod_add, ← HS.out] at hown3
        have hn13 := hn2.trans hn3
        have how := own_low hown3 (show w.heap.size ≤ w2.heap.size from (hnew.trans hn2).le)
        have hnn := hnew.trans hn13
        clear hown3 hown2 hown hz hz2 hz' hn3 hn2 HS
        generalize cy _ _ m = q
        go_wp2
        exact ⟨⟨k + 1, by omega, by go_num, how, hnn⟩, by simp [intOf]; omega⟩
      · have e0 : B / 2 ^ k % 2 = 0 := by omega
        have e1 : bt B k = 0 := by unfold bt; rw [e0]; rfl
        rw [e1] at c1
        rw [← mul_bit0 A B k e0] at hown
        clear hbit e0 e1
        go_wp2
        exact ⟨⟨k + 1, by omega, by go_num, hown, hnew⟩, by simp [intOf]; omega⟩
    · obtain rfl : k = nb := by omega
      rw [HEND.out] at hown
      go_wp2
      go_ret
      exact ⟨_, rfl, hown, hnew⟩
end Go.Proofs.Ytajjpllhihgkdaa
