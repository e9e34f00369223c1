/- strpoly: the example; the law StrpolyEvals. -/
import Derived.Test.YtiboncnfepnjcaaStrG
import Derived.Test.YtiboncnfepnjcaaModC
namespace Go.Proofs.Ytiboncnfepnjcaa
open Go Go.RowKit Go.Bv
set_option linter.unusedVariables false
theorem nil_brow (w : World) : BRow w none 0 0 [] := ⟨rfl, Nat.le_refl _, by omega, by omega, (fun _ => ⟨rfl, rfl⟩), (fun b off e => by cases e), (fun x e => by cases e), (fun x e => by cases e)⟩
set_option maxRecDepth 100000 in
set_option maxHeartbeats 2000000 in
theorem awake25 (w : World) : Calls Try.prog 42 #[] w fun e w' => e = .returned (.bool true) ∧ New w w' := by
  have HC := Lib.hid (schunks_q none 0 0 [] w (nil_brow w) (by omega))
  have HCL : Hid (chL [] = [1#64]) := Lib.hid (by decide +kernel)
  rw [HCL.out] at HC
  have HE := Lib.hid (fun w => seval_any 41#64 none 0 0 [] w (nil_brow w))
  have hV : seV 41#64 [] = 42#64 := by decide +kernel
  have hE : seE 41#64 0 = 0 := by decide +kernel
  rw [hV, hE, show W64 41#64 = 41 by decide, show W64 42#64 = 42 by decide] at HE
  clear hV hE HCL
  go_enter Try.func42, Try.ntmps42
  go_wp2_with fail
  refine (HC.out).mono ?_
  rintro e w9 ⟨a, c, rfl, hq, hn⟩
  have HN := Lib.hid hn
  have HQ := Lib.hid hq
  clear hq hn HC
  go_wp2_with fail
  refine (HE.out _).mono ?_
  rintro e w8 ⟨rfl, hn⟩
  obtain ⟨b, off, rfl, hc⟩ := (HQ.out.stay hn).addr (by omega)
  have c0 := hc 0 (by omega)
  rw [show ([1#64] : List (BitVec 64)).getD 0 0 = 1#64 from rfl, show W64 1#64 = 1 by decide, Nat.add_zero] at c0
  replace HN := Lib.hid (HN.out.trans hn)
  clear hc hn HE HQ
  go_wp2
  go_ret
  exact ⟨rfl, HN.out⟩
theorem goes_q (a h x : BitVec 64) (w : World) :
    Calls Try.prog 50 #[.int .u64 (W64 a), .int .u64 (W64 h), .int .u64 (W64 x)] w fun e w' => e = .returned (.int .u64 (W64 (mp (h.toNat * a.toNat + x.toNat)))) ∧ w' = w := by
  have hm := fun w => rmul_any a h 2305843009213693951#64 w
  have ha := fun w => radd_any (mp (a.toNat * h.toNat)) x 2305843009213693951#64 w
  rw [md_mp] at hm ha
  have HM := Lib.hid hm
  have HA := Lib.hid ha
  rw [show W64 2305843009213693951#64 = 2305843009213693951 by decide] at HM HA
  have HE : Hid (mp ((mp (a.toNat * h.toNat)).toNat + x.toNat) = mp (h.toNat * a.toNat + x.toNat)) := Lib.hid (by
    apply mp_congr; rw [mp_toNat, Nat.mod_add_mod, Nat.mul_comm])
  rw [HE.out] at HA
  clear hm ha
  go_enter Try.func50, Try.ntmps50
  go_wp2_with fail
  refine (HM.out _).mono ?_
  rintro e w9 ⟨rfl, hw⟩
  replace hw := hw.symm
  subst hw
  go_wp2_with fail
  refine (HA.out _).mono ?_
  rintro e w9 ⟨rfl, hw⟩
  replace hw := hw.symm
  subst hw
  go_wp2
  go_ret
  exact ⟨rfl, rfl⟩
end Go.Proofs.Ytiboncnfepnjcaa
