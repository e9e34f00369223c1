/- The example of poly's chapter. -/
import Derived.Test.YtiboncnfepnjcaaPolE
import Derived.Test.YtiboncnfepnjcaaPolF
import Derived.Test.YtiboncnfepnjcaaPolD
import Derived.Test.YtiboncnfepnjcaaPolN
import Derived.Test.YtiboncnfepnjcaaWords
namespace Go.Proofs.Ytiboncnfepnjcaa
open Go.RowKit Go.Bv
set_option linter.unusedVariables false
theorem qrow1 (w : World) (x : BitVec 64) : QRow (w.alloc (.cells #[.int .u64 (W64 x)] 23)) (some ⟨w.heap.size, 0, none⟩) 1 1 [x] := by
  have hb := heap_alloc_new w (.cells #[.int .u64 (W64 x)] 23)
  refine ⟨rfl, Nat.le_refl _, by omega, by omega, (fun e => by cases e), ?_, ?_, ?_⟩
  · intro b off e i hi
    cases e
    obtain rfl : i = 0 := by omega
    rw [cell_of_row _ _ _ _ _ _ hb]; rfl
  · intro x e h; cases e; rfl
  · intro x e h; cases e; exact lt_of_block hb
theorem qrow2 (w : World) (x y : BitVec 64) : QRow (w.alloc (.cells #[.int .u64 (W64 x), .int .u64 (W64 y)] 23)) (some ⟨w.heap.size, 0, none⟩) 2 2 [x, y] := by
  have hb := heap_alloc_new w (.cells #[.int .u64 (W64 x), .int .u64 (W64 y)] 23)
  refine ⟨rfl, Nat.le_refl _, by omega, by omega, (fun e => by cases e), ?_, ?_, ?_⟩
  · intro b off e i hi
    cases e
    rcases (show i = 0 ∨ i = 1 by omega) with rfl | rfl
    · rw [cell_of_row _ _ _ _ _ _ hb]; rfl
    · rw [cell_of_row _ _ _ _ _ _ hb]; rfl
  · intro x e h; cases e; rfl
  · intro x e h; cases e; exact lt_of_block hb
set_option maxRecDepth 100000 in
set_option maxHeartbeats 2000000 in
theorem awake18 (w : World) : Calls Try.prog 15 #[] w fun e w' => e = .returned (.bool true) ∧ New w w' := by
  have h12 := fun w => qrow2 w 1#64 2#64
  have h11 := fun w => qrow2 w 1#64 1#64
  rw [show W64 1#64 = 1 by decide, show W64 2#64 = 2 by decide] at h12
  rw [show W64 1#64 = 1 by decide] at h11
  have HE1 := Lib.hid (fun w' (h : QRow w' (some ⟨w.heap.size, 0, none⟩) 2 2 [1#64, 2#64]) => peval_q _ _ _ _ 3#64 w' h)
  rw [show evP [1#64, 2#64] 3#64 = 7#64 by decide +kernel, show evC [1#64, 2#64] 3#64 = 0 by decide +kernel, show W64 7#64 = 7 by decide, show W64 3#64 = 3 by decide] at HE1
  have HML := Lib.hid (show (trimL (mulL [1#64, 1#64] [1#64, 1#64])).length = 3 by decide +kernel)
  have H12 := Lib.hid h12
  have H11 := Lib.hid h11
  clear h12 h11
  go_enter Try.func15, Try.ntmps15
  go_wp2_with fail
  refine (HE1.out _ (H12.out w)).mono ?_
  rintro e w9 ⟨rfl, hn⟩
  have HN := Lib.hid (((New.refl w).alloc (.cells #[.int .u64 1, .int .u64 2] 23)).trans hn)
  clear hn HE1 H12
  go_wp2_with fail
  have hr1 := H11.out w9
  have hn1 := (New.refl w9).alloc (.cells #[.int .u64 1, .int .u64 1] 23)
  have hr2 := H11.out (w9.alloc (.cells #[.int .u64 1, .int .u64 1] 23))
  have hn2 := (New.refl (w9.alloc (.cells #[.int .u64 1, .int .u64 1] 23))).alloc (.cells #[.int .u64 1, .int .u64 1] 23)
  have hsz : (w9.alloc (.cells #[.int .u64 1, .int .u64 1] 23)).heap.size = w9.heap.size + 1 := by simp
  rw [hsz] at hr2
  refine (pmul_q _ _ _ _ _ _ _ _ _ (hr1.stay hn2) hr2 (by omega)).mono ?_
  rintro e w8 ⟨a2, c2, rfl, hq, hn⟩
  replace HN := Lib.hid (((HN.out.trans hn1).trans hn2).trans hn)
  clear hq hn hr1 hr2 hn1 hn2 hsz
  rw [HML.out]
  go_wp2
  go_ret
  exact ⟨rfl, HN.out⟩
set_option maxHeartbeats 2000000 in
theorem PolyEvals_walk (W : World) (a0 : Option Addr) (n0 m0 : Nat) (z0 : List Int) (w0 : IRow .u64 W a0 n0 m0 z0) (r0 : m0 * 8 ≤ 140737488351232) (a1 : Int) (w1 : (Lit.int .u64 a1).wf = true) :
    Calls Try.prog 3 #[.slice a0 n0 m0, .int .u64 a1] W fun e w' => e = .returned (.bool true) ∧ Below W.heap.size W w' := by
  obtain ⟨x, rfl⟩ := ex64 a1 (by simp [Lit.wf, IntKind.min, IntKind.max, IntKind.signed, IntKind.bits] at w1; omega)
  obtain ⟨l, hl⟩ := w0.words r0
  have H0 := Lib.hid hl
  clear w0 w1 r0 hl
  have HA := Lib.hid awake18
  have HP := Lib.hid (fun w (h : QRow w a0 n0 m0 l) => peval_q _ _ _ _ x w h)
  have HR := Lib.hid (fun w (h : QRow w a0 n0 m0 l) => reval_q _ _ _ _ x w h)
  have HC := Lib.hid (fun w (h : QRow w a0 n0 m0 l) => check_q _ _ _ _ w h)
  have HD := Lib.hid (fun w (h : QRow w a0 n0 m0 l) => rcheck_q _ _ _ _ w h)
  obtain ⟨y, hnm⟩ : ∃ z, evP l x = z := ⟨_, rfl⟩
  rw [hnm] at HP HR
  clear hnm
  obtain ⟨e1, hnm⟩ : ∃ z, evC l x = z := ⟨_, rfl⟩
  rw [hnm] at HP HR
  clear hnm
  obtain ⟨k1, hnm⟩ : ∃ z, chkC l = z := ⟨_, rfl⟩
  rw [hnm] at HC HD
  clear hnm
  go_enter Try.func3, Try.ntmps3
  go_wp2_with fail
  refine (HA.out _).mono ?_
  rintro e w9 ⟨rfl, hn⟩
  replace H0 := Lib.hid (H0.out.stay hn)
  have HN := Lib.hid hn
  clear hn HA
  go_wp2_with fail
  refine (HP.out _ H0.out).mono ?_
  rintro e w9 ⟨rfl, hn⟩
  replace H0 := Lib.hid (H0.out.stay hn)
  replace HN := Lib.hid (HN.out.trans hn)
  clear hn
  go_wp2_with fail
  refine (HR.out _ H0.out).mono ?_
  rintro e w9 ⟨rfl, hn⟩
  replace H0 := Lib.hid (H0.out.stay hn)
  replace HN := Lib.hid (HN.out.trans hn)
  clear hn
  go_wp2_with fail
  refine (HC.out _ H0.out).mono ?_
  rintro e w8 ⟨rfl, hw8⟩
  replace hw8 := hw8.symm
  subst hw8
  go_wp2_with fail
  refine (HD.out _ H0.out).mono ?_
  rintro e w8 ⟨rfl, hw8⟩
  replace hw8 := hw8.symm
  subst hw8
  go_wp2
  go_ret
  exact ⟨rfl, HN.out⟩
end Go.Proofs.Ytiboncnfepnjcaa
