/- The law TapeTells, walked. -/
import Derived.Test.YtipfkegpiimefaaTapF
namespace Go.Proofs.Ytipfkegpiimefaa
open Go.RowKit Go.Bv
set_option linter.unusedVariables false
set_option maxHeartbeats 1000000 in
theorem TapeTells_walk (W : World) (a0 : Option Addr) (n0 m0 : Nat) (z0 : List Int) (w0 : IRow .u64 W a0 n0 m0 z0) (r0 : m0 * 8 ≤ 140737488351232) :
    Calls Try.prog 3 #[.slice a0 n0 m0] W fun e w' => e = .returned (.bool true) ∧ Below W.heap.size W w' := by
  obtain ⟨l, hq⟩ := w0.words r0
  have hmost := hq.most
  have HQ := Lib.hid hq
  clear hq w0
  go_enter Try.func3, Try.ntmps3
  go_wp2_with fail
  refine (awake_37 W).mono ?_
  rintro e w1 ⟨rfl, hn1⟩
  have HN1 := Lib.hid hn1
  clear hn1
  by_cases hlt : (200 : Int) < (n0 : Int)
  · go_wp2
    go_ret
    exact ⟨rfl, HN1.out⟩
  · go_wp2_with fail
    refine (new_t _ _ _ _ _ (HQ.out.stay HN1.out)).mono ?_
    rintro e w2 ⟨b, rfl, hb, ht, hn2⟩
    have HT := Lib.hid ht
    have HN2 := Lib.hid (HN1.out.trans hn2)
    have hb2 : W.heap.size ≤ b := by have := HN1.out.le; omega
    clear ht hn2 hb
    go_wp2_with fail
    refine (taken_37 b a0 n0 m0 l W w2 HT.out HQ.out HN2.out hb2).mono ?_
    rintro e w3 ⟨rfl, hn3⟩
    have HN3 := Lib.hid hn3
    clear hn3
    go_wp2
    go_ret
    exact ⟨rfl, HN3.out⟩
end Go.Proofs.Ytipfkegpiimefaa
