/- Rows of draws: Ranks. -/
import Derived.Test.YtopepchfaomdoaaRdwN
namespace Go.Proofs.Ytopepchfaomdoaa
open Go Go.RowKit Go.Bv
set_option linter.unusedVariables false
set_option maxRecDepth 100000 in
set_option maxHeartbeats 2000000 in
theorem ranks_40 (a b : Option Addr) (n ca cb : Nat) (ds ds2 : List Drw) (w : World) (ha : KRow w a n ca ds) (hb : KRow w b n cb ds2) (hs : ∀ i, i < n → (ds2.getD i dz).2 = (ds.getD i dz).2) :
    Calls Try.prog 26 #[.slice a n ca, .slice b n cb] w fun e w' => e = .returned (.bool true) ∧ New w w' := by
  have hm := ha.most
  have HA := Lib.hid ha
  have HB := Lib.hid hb
  have HS := Lib.hid hs
  clear ha hb hs
  go_enter Try.func26, Try.ntmps26
  go_wp2_with fail
  go_loopw [13] (fun iv wr => ∃ k : Nat, k ≤ n ∧ iv = .int .i64 (k : Int) ∧ New w wr) (fun iv _ => n - (intOf iv).toNat)
  case atStart => exact ⟨0, Nat.zero_le _, rfl, New.refl _⟩
  case round =>
    obtain ⟨k, hk, rfl, hnew⟩ := hrel
    by_cases hlt : (k : Int) < (n : Int)
    · have hk0 : (0 : Int) ≤ (k : Int) := by omega
      obtain ⟨b1, o1, rfl, h1⟩ := (HA.out.stay hnew).addr (by omega)
      obtain ⟨b2, o2, rfl, h2⟩ := (HB.out.stay hnew).addr (by omega)
      obtain ⟨p0, p1, p2⟩ := h1 k (by omega)
      obtain ⟨q0, q1, q2⟩ := h2 k (by omega)
      rw [HS.out k (by omega)] at q1 q2
      clear h1 h2 p0 q0
      obtain ⟨⟨x, y, u⟩, hd⟩ : ∃ d, ds.getD k dz = d := ⟨_, rfl⟩
      rw [hd] at p1 p2 q1 q2
      clear hd
      simp only at p1 p2 q1 q2
      have z1 : (W64 y != W64 y) = false := by simp
      have z2 : ((u : Int) != (u : Int)) = false := by simp
      go_wp2
      go_quiet (fail)
      go_wp2
      exact ⟨⟨k + 1, by omega, by go_num, hnew.drewN nq⟩, by simp [intOf]; omega⟩
    · obtain rfl : k = n := by omega
      go_wp2
      go_ret
      exact ⟨rfl, hnew⟩
end Go.Proofs.Ytopepchfaomdoaa
