/- Contract of layer 37: Put. -/
import Derived.Test.YtipfkegpiimefaaTapH
import Derived.Test.YtipfkegpiimefaaBitD
namespace Go.Proofs.Ytipfkegpiimefaa
open Go.RowKit Go.Bv
set_option linter.unusedVariables false
set_option maxHeartbeats 1000000 in
theorem put_q (a : Option Addr) (len cap : Nat) (l : List (BitVec 64)) (k : Nat) (hk : k < len) (x : BitVec 64) (w : World) (h : QRow w a len cap l) :
    Calls Try.prog 63 #[.slice a len cap, .int .i64 (k : Int), .int .u64 (W64 x)] w fun e w' => ∃ v c, e = .returned (.tuple #[.slice v len c, .int .i64 0]) ∧ QRow w' v len c (l.set k x) ∧ New w w' := by
  have hmost := h.most
  have z1 : decide ((k : Int) < 0) = false := by rw [decide_eq_false_iff_not]; omega
  have z2 : decide ((len : Int) ≤ (k : Int)) = false := by rw [decide_eq_false_iff_not]; omega
  have z3 : decide ((k : Int) < (len : Int)) = true := by rw [decide_eq_true_eq]; omega
  have HC := Lib.hid (clone_q a len cap l w h)
  have hk2 : k < len := hk
  clear h hk
  go_enter Try.func63, Try.ntmps63
  go_wp2_with fail
  refine HC.out.mono ?_
  rintro e w1 ⟨v, rfl, how, hn⟩
  obtain ⟨g, c, rfl, hg, hgw⟩ := own_shape how (by omega)
  obtain ⟨⟨u, k0⟩, kf⟩ := own_cell' how hk2
  have hs := own_set how k (.int .u64 (W64 x))
  rw [← List.map_set] at hs
  obtain ⟨a2, c2, e2, hq⟩ := QRow.of_owns hs (by omega)
  injection e2 with e3 e4 e5
  subst e3 e5
  have HQ := Lib.hid hq
  have HN := Lib.hid (hn.setCell (show w.heap.size ≤ (⟨g, k, none⟩ : Addr).block from hg) (.int .u64 (W64 x)))
  have hk3 : (k : Int) < (len : Int) := by omega
  clear hs hq hn how hg hgw
  go_wp2
  go_returns
  exact ⟨_, _, rfl, HQ.out, HN.out⟩
end Go.Proofs.Ytipfkegpiimefaa
