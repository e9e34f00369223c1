/- Contracts of modn.Odd and modn.Odd2. -/
import Derived.Test.YtfaobdmoifnglaaPkA
import Derived.Deep.RegionLaw
import Derived.Deep.RegionWith
import Derived.Handy
namespace Go.Bv
open Go Go.RowKit
theorem drew_left {w X : World} (h : New w X) : New w.drew X := by
  obtain ⟨a, b, c, d, e⟩ := h
  exact ⟨a, b, c, d, e⟩
end Go.Bv
namespace Go.Proofs.Ytfaobdmoifnglaa
open Go.RowKit Go.Bv
set_option linter.unusedVariables false
/-- an odd number's inverse, round by round -/
def inv5 (a : BitVec 64) : Nat → BitVec 64
  | 0 => a
  | k + 1 => inv5 a k * (2#64 - a * inv5 a k)
set_option maxHeartbeats 1000000 in
theorem odd_any (a : BitVec 64) (h : (a &&& 1#64 == 0#64) = false) (w : World) :
    Calls Try.prog 44 #[.int .u64 (W64 a)] w fun e w' => e = .returned (.tuple #[.int .u64 (W64 (inv5 a 5)), .bool true]) ∧ w' = w := by
  have HST : Hid (inv5 a 0 = a) := Lib.hid rfl
  go_enter Try.func44, Try.ntmps44
  go_wp2
  go_loop [4, 9] (fun X I => ∃ k : Nat, k ≤ 5 ∧ I = .int .i64 k ∧ X = .int .u64 (W64 (inv5 a k))) (fun _ I => 5 - (intOf I).toNat)
  case atStart => exact ⟨0, by omega, rfl, rfl⟩
  case round =>
    obtain ⟨k, hk, rfl, rfl⟩ := hrel
    by_cases hlt : (k : Int) < 5
    · have HX : Hid (inv5 a k * (2#64 - a * inv5 a k) = inv5 a (k + 1)) := Lib.hid rfl
      go_wp2
      exact ⟨⟨k + 1, by omega, by go_num, by rw [← HX.out]⟩, by simp [intOf]; omega⟩
    · obtain rfl : k = 5 := by omega
      go_wp2
      go_ret2
      exact ⟨rfl, rfl⟩
/-- an odd number's inverse modulo 2^128 -/
def j128 (x : BitVec 128) : BitVec 128 := join128 0#64 (inv5 (lo128 x) 5)
def inv128 (x : BitVec 128) : BitVec 128 := j128 x * (2#128 - x * j128 x)
theorem two_hi128 : W64 (hi128 2#128) = 0 := by unfold W64; decide +kernel
theorem two_lo128 : W64 (lo128 2#128) = 2 := by unfold W64; decide +kernel
set_option maxHeartbeats 1000000 in
theorem odd2_any (x : BitVec 128) (h : (lo128 x &&& 1#64 == 0#64) = false) (w : World) :
    Calls Try.prog 29 #[.agg #[.int .u64 (W64 (hi128 x)), .int .u64 (W64 (lo128 x))]] w fun e w' => e = .returned (.tuple #[.agg #[.int .u64 (W64 (hi128 (inv128 x))), .int .u64 (W64 (lo128 (inv128 x)))], .bool true]) ∧ New w w' := by
  have HO := Lib.hid (fun w => odd_any (lo128 x) h w)
  have hJ : hi128 (j128 x) = 0#64 := hi_join _ _
  have hL : lo128 (j128 x) = inv5 (lo128 x) 5 := lo_join _ _
  have ht := fun w => wtimes_x x (j128 x) w
  have hs := fun w => wsub_x 2#128 (x * j128 x) w
  have hf := fun w => wtimes_x (j128 x) (2#128 - x * j128 x) w
  have hI : j128 x * (2#128 - x * j128 x) = inv128 x := rfl
  rw [hI] at hf
  rw [hJ, hL, lo_zero] at ht hf
  rw [two_hi128, two_lo128] at hs
  have HT := Lib.hid ht
  have HS := Lib.hid hs
  have HF := Lib.hid hf
  clear h hJ hL ht hs hf hI
  generalize inv128 x = I at *
  generalize 2#128 - x * j128 x = f at *
  generalize x * j128 x = y at *
  generalize inv5 (lo128 x) 5 = l at *
  generalize decide ((2#128).toNat < y.toNat) = ov at *
  go_enter Try.func29, Try.ntmps29
  go_wp2_with fail
  refine (HO.out _).mono ?_
  rintro e w1 ⟨rfl, rfl⟩
  obtain ⟨h1, h2, h3, h4⟩ := three_blocks w (.cells #[.int .u64 (W64 (hi128 x)), .int .u64 (W64 (lo128 x))] 24) (.cells #[.int .u64 0, .int .u64 0] 24) (.cells #[.int .u64 0, .int .u64 (W64 l)] 24)
  go_wp2_with fail
  have x0 := (show B2 _ _ _ x from h1).c0
  have x1 := (show B2 _ _ _ x from h1).c1
  generalize ((w.alloc (.cells #[.int .u64 (W64 (hi128 x)), .int .u64 (W64 (lo128 x))] 24)).alloc (.cells #[.int .u64 0, .int .u64 0] 24)).alloc (.cells #[.int .u64 0, .int .u64 (W64 l)] 24) = w0 at h1 h2 h3 h4 x0 x1 ⊢
  have H2 := Lib.hid (show Z2 _ _ _ from h2)
  have H3 := Lib.hid h3
  have H4 := Lib.hid h4
  clear h1 h2 h3 h4
  refine (HT.out _).mono ?_
  rintro e w3 ⟨rfl, hn3⟩
  go_wp2_with fail
  refine (HS.out _).mono ?_
  rintro e w4 ⟨rfl, hn4⟩
  have hn5 := (hn3.trans hn4).alloc (.cells #[.int .u64 (W64 (hi128 f)), .int .u64 (W64 (lo128 f))] 24)
  have hc := (hn5.block _ (lt_of_block H3.out)).trans H3.out
  have l0 : (w4.alloc (.cells #[.int .u64 (W64 (hi128 f)), .int .u64 (W64 (lo128 f))] 24)).cell? ⟨w.heap.size + 1 + 1, 0, none⟩ = some (.int .u64 0) := by rw [cell_of_row _ _ _ _ _ _ hc]; rfl
  have l1 : (w4.alloc (.cells #[.int .u64 (W64 (hi128 f)), .int .u64 (W64 (lo128 f))] 24)).cell? ⟨w.heap.size + 1 + 1, 1, none⟩ = some (.int .u64 (W64 l)) := by rw [cell_of_row _ _ _ _ _ _ hc]; rfl
  clear hc x0 x1
  go_wp2_with fail
  refine (HF.out _).mono ?_
  rintro e w6 ⟨rfl, hn6⟩
  have hn6 := hn5.trans hn6
  have hz := H2.out.stay hn6
  have k0 := hz.c0
  have k1 := hz.c1
  have kf := hz.free
  have HN6 := Lib.hid (H4.out.trans hn6)
  clear hz hn6 hn5 hn4 hn3 l0 l1
  go_wp2
  refine bodyPost_ret (by simp [results, Try.results29, go_sem, k0, k1]; try rfl) rfl ?_
  exact ⟨rfl, put2_new _ HN6.out (by omega)⟩
theorem T14_odd : (lo128 T14 &&& 1#64 == 0#64) = false := by decide +kernel
theorem T14_inv : T14 * inv128 T14 = 1#128 := by decide +kernel
/-- the state before -/
def bk14 (s x : BitVec 128) : BitVec 128 := (s - (x ||| 1#128)) * inv128 T14
theorem bk_step (s x : BitVec 128) : bk14 (s * T14 + (x ||| 1#128)) x = s := by
  unfold bk14
  rw [BitVec.add_sub_cancel, BitVec.mul_assoc, T14_inv, BitVec.mul_one]
theorem step_bk (s x : BitVec 128) : bk14 s x * T14 + (x ||| 1#128) = s := by
  unfold bk14
  rw [BitVec.mul_assoc, BitVec.mul_comm (inv128 T14), T14_inv, BitVec.mul_one, BitVec.sub_add_cancel]
set_option maxHeartbeats 1000000 in
theorem back14 (s x : BitVec 128) (w : World) : Calls Try.prog 14 #[.agg #[.int .u64 (W64 (hi128 s)), .int .u64 (W64 (lo128 s))], .agg #[.int .u64 (W64 (hi128 x)), .int .u64 (W64 (lo128 x))]] w fun e w' =>
    e = .returned (.agg #[.int .u64 (W64 (hi128 (bk14 s x))), .int .u64 (W64 (lo128 (bk14 s x)))]) ∧ New w w' := by
  obtain ⟨h1, h2, h3, h4⟩ := three_blocks w (.cells #[.int .u64 (W64 (hi128 s)), .int .u64 (W64 (lo128 s))] 24) (.cells #[.int .u64 (W64 (hi128 x)), .int .u64 (W64 (lo128 x))] 24) (.cells #[.int .u64 0, .int .u64 0] 24)
  have H1 := Lib.hid (show B2 _ _ _ s from h1)
  have H2 := Lib.hid (show B2 _ _ _ x from h2)
  have H3 := Lib.hid (show Z2 _ _ _ from h3)
  have H4 := Lib.hid h4
  clear h1 h2 h3 h4
  have HO := Lib.hid (fun w => odd2_any T14 T14_odd w)
  have hf := fun w => wtimes_x (s - (x ||| 1#128)) (inv128 T14) w
  have hI : (s - (x ||| 1#128)) * inv128 T14 = bk14 s x := rfl
  rw [hI] at hf
  have HF := Lib.hid hf
  have HS := Lib.hid (fun w => wsub_x s (x ||| 1#128) w)
  have HX := Lib.hid (fun w => odd14 x w)
  clear hI hf
  generalize bk14 s x = r at *
  generalize inv128 T14 = I at *
  generalize decide (s.toNat < (x ||| 1#128).toNat) = ov at *
  generalize s - (x ||| 1#128) = d at *
  go_enter Try.func14, Try.ntmps14
  go_wp2_with fail
  generalize ((w.alloc (.cells #[.int .u64 (W64 (hi128 s)), .int .u64 (W64 (lo128 s))] 24)).alloc (.cells #[.int .u64 (W64 (hi128 x)), .int .u64 (W64 (lo128 x))] 24)).alloc (.cells #[.int .u64 0, .int .u64 0] 24) = w0 at H1 H2 H3 H4 ⊢
  refine (times14 _).mono ?_
  rintro e w1 ⟨rfl, hn1⟩
  go_wp2_with fail
  refine (HO.out _).mono ?_
  rintro e w2 ⟨rfl, hn2⟩
  have hB := heap_alloc_new w2 (.cells #[.int .u64 (W64 (hi128 I)), .int .u64 (W64 (lo128 I))] 24)
  have hn3 := (hn1.trans hn2).alloc (.cells #[.int .u64 (W64 (hi128 I)), .int .u64 (W64 (lo128 I))] 24)
  go_wp2_with fail
  generalize w2.heap.size = b5 at *
  generalize w2.alloc (.cells #[.int .u64 (W64 (hi128 I)), .int .u64 (W64 (lo128 I))] 24) = w3 at *
  have H1 := Lib.hid ((H1.out.stay hn3).stay (New.refl _).drew)
  have H2 := Lib.hid ((H2.out.stay hn3).stay (New.refl _).drew)
  have H3 := Lib.hid ((H3.out.stay hn3).stay (New.refl _).drew)
  have H4 := Lib.hid (H4.out.trans hn3).drew
  have H5 := Lib.hid ((show B2 _ _ _ I from hB).stay (New.refl _).drew)
  clear hB hn1 hn2 hn3
  have s0 := H1.out.c0
  have s1 := H1.out.c1
  have x0 := H2.out.c0
  have x1 := H2.out.c1
  have hnb : New w3.drew (w3.alloc (.cells #[.int .u64 0, .int .u64 0] 24)).drew := drew_left ((New.refl w3).alloc (.cells #[.int .u64 0, .int .u64 0] 24)).drew
  have HNB := Lib.hid hnb
  have q0 := (H1.out.stay hnb).c0
  have q1 := (H1.out.stay hnb).c1
  have z0 := (H2.out.stay hnb).c0
  have z1 := (H2.out.stay hnb).c1
  clear hnb
  have HLT : Hid (w.heap.size + 1 + 1 < w3.heap.size ∧ b5 < w3.heap.size) := Lib.hid ⟨lt_of_block H3.out, lt_of_block H5.out⟩
  go_region_law (first
    | (go_simp
       go_at_call 31
       refine (HX.out _).mono ?_
       rintro e w4 ⟨rfl, hn4⟩
       have HA : Hid (New w3.drew w4) := Lib.hid hn4
       have s0 := (H1.out.stay hn4).c0
       have s1 := (H1.out.stay hn4).c1
       have r0 := (H1.out.stay (hn4.alloc (.cells #[.int .u64 0, .int .u64 0] 24))).c0
       have r1 := (H1.out.stay (hn4.alloc (.cells #[.int .u64 0, .int .u64 0] 24))).c1
       clear hn4)
    | (go_simp
       go_at_call 31
       refine (HX.out _).mono ?_
       rintro e w4 ⟨rfl, hn4⟩
       have HB7 : Hid (Z2 w4 w3.heap.size 24) := Lib.hid (((show Z2 (w3.alloc (.cells #[.int .u64 0, .int .u64 0] 24)) w3.heap.size 24 from heap_alloc_new _ _).stay (New.refl _).drew).stay hn4)
       have hn4 := HNB.out.trans hn4
       have HA : Hid (New w3.drew w4) := Lib.hid hn4
       have s0 := (H1.out.stay hn4).c0
       have s1 := (H1.out.stay hn4).c1
       clear hn4)
    | (go_simp
       go_at_call 30
       refine (HS.out _).mono ?_
       rintro e w5 ⟨rfl, hn5⟩
       have HC7 := Lib.hid (HB7.out.stay hn5)
       have HG7 : Hid (w.heap.size + 1 + 1 + 1 ≤ w3.heap.size) := Lib.hid HLT.out.1
       have HG5 : Hid (b5 < w3.heap.size) := Lib.hid HLT.out.2
       have k0 := HC7.out.c0
       have k1 := HC7.out.c1
       have kf := HC7.out.free
       have HN5 := Lib.hid (HA.out.trans hn5)
       clear hn5)
    | (go_simp
       go_at_call 30
       refine (HS.out _).mono ?_
       rintro e w5 ⟨rfl, hn5⟩
       have HC7 : Hid (Z2 w5 w4.heap.size 24) := Lib.hid ((show Z2 (w4.alloc (.cells #[.int .u64 0, .int .u64 0] 24)) w4.heap.size 24 from heap_alloc_new _ _).stay hn5)
       have HG7 : Hid (w.heap.size + 1 + 1 + 1 ≤ w4.heap.size) := Lib.hid (Nat.le_trans HLT.out.1 HA.out.le)
       have HG5 : Hid (b5 < w4.heap.size) := Lib.hid (Nat.lt_of_lt_of_le HLT.out.2 HA.out.le)
       have k0 := HC7.out.c0
       have k1 := HC7.out.c1
       have kf := HC7.out.free
       have HN5 := Lib.hid ((HA.out.alloc (.cells #[.int .u64 0, .int .u64 0] 24)).trans hn5)
       clear hn5)
    | (go_simp
       go_at_call 30
       refine (HS.out _).mono ?_
       rintro e w5 ⟨rfl, hn5⟩
       have HN5 := Lib.hid (HA.out.trans hn5)
       clear hn5))
  all_goals (first
    | (
    have hz7 : Z2 w5 (w3.heap.size) 24 := HC7.out
    have hge : w.heap.size + 1 + 1 + 1 ≤ w3.heap.size := HG7.out
    have hge5 : b5 < w3.heap.size := HG5.out
    have hD : B2 ((w5.setCell ⟨w3.heap.size, 0, none⟩ (.int .u64 (W64 (hi128 d)))).setCell ⟨w3.heap.size, 1, none⟩ (.int .u64 (W64 (lo128 d)))) (w3.heap.size) 24 d := B2.put d hz7
    have hI : B2 ((w5.setCell ⟨w3.heap.size, 0, none⟩ (.int .u64 (W64 (hi128 d)))).setCell ⟨w3.heap.size, 1, none⟩ (.int .u64 (W64 (lo128 d)))) b5 24 I := (put2_other d (by omega)).trans (H5.out.stay HN5.out)
    have hR : Z2 ((w5.setCell ⟨w3.heap.size, 0, none⟩ (.int .u64 (W64 (hi128 d)))).setCell ⟨w3.heap.size, 1, none⟩ (.int .u64 (W64 (lo128 d)))) (w.heap.size + 1 + 1) 24 := (put2_other d (by omega)).trans (H3.out.stay HN5.out)
    have hNN : New w ((w5.setCell ⟨w3.heap.size, 0, none⟩ (.int .u64 (W64 (hi128 d)))).setCell ⟨w3.heap.size, 1, none⟩ (.int .u64 (W64 (lo128 d)))) := put2_new d (H4.out.trans HN5.out) (by omega)
    clear hz7 k0 k1 kf
    generalize ((w5.setCell ⟨w3.heap.size, 0, none⟩ (.int .u64 (W64 (hi128 d)))).setCell ⟨w3.heap.size, 1, none⟩ (.int .u64 (W64 (lo128 d)))) = W7 at hD hI hR hNN ⊢
    clear HC7 HG7 HG5 HN5 s0 s1 x0 x1 q0 q1 z0 z1
    have d0 := hD.c0
    have d1 := hD.c1
    have i0 := hI.c0
    have i1 := hI.c1
    have HR := Lib.hid hR
    have HNN := Lib.hid hNN
    clear hD hI hR hNN
    go_wp2_with fail
    refine (HF.out _).mono ?_
    rintro e w8 ⟨rfl, hn8⟩
    have hz := HR.out.stay hn8
    have k0 := hz.c0
    have k1 := hz.c1
    have kf := hz.free
    have HN8 := Lib.hid (HNN.out.trans hn8)
    clear hz hn8 d0 d1 i0 i1
    go_wp2
    refine bodyPost_ret (by simp [results, Try.results14, go_sem, k0, k1]; try rfl) rfl ?_
    exact ⟨rfl, put2_new _ HN8.out (by omega)⟩)
    | (
    have hz7 : Z2 w5 (w4.heap.size) 24 := HC7.out
    have hge : w.heap.size + 1 + 1 + 1 ≤ w4.heap.size := HG7.out
    have hge5 : b5 < w4.heap.size := HG5.out
    have hD : B2 ((w5.setCell ⟨w4.heap.size, 0, none⟩ (.int .u64 (W64 (hi128 d)))).setCell ⟨w4.heap.size, 1, none⟩ (.int .u64 (W64 (lo128 d)))) (w4.heap.size) 24 d := B2.put d hz7
    have hI : B2 ((w5.setCell ⟨w4.heap.size, 0, none⟩ (.int .u64 (W64 (hi128 d)))).setCell ⟨w4.heap.size, 1, none⟩ (.int .u64 (W64 (lo128 d)))) b5 24 I := (put2_other d (by omega)).trans (H5.out.stay HN5.out)
    have hR : Z2 ((w5.setCell ⟨w4.heap.size, 0, none⟩ (.int .u64 (W64 (hi128 d)))).setCell ⟨w4.heap.size, 1, none⟩ (.int .u64 (W64 (lo128 d)))) (w.heap.size + 1 + 1) 24 := (put2_other d (by omega)).trans (H3.out.stay HN5.out)
    have hNN : New w ((w5.setCell ⟨w4.heap.size, 0, none⟩ (.int .u64 (W64 (hi128 d)))).setCell ⟨w4.heap.size, 1, none⟩ (.int .u64 (W64 (lo128 d)))) := put2_new d (H4.out.trans HN5.out) (by omega)
    clear hz7 k0 k1 kf
    generalize ((w5.setCell ⟨w4.heap.size, 0, none⟩ (.int .u64 (W64 (hi128 d)))).setCell ⟨w4.heap.size, 1, none⟩ (.int .u64 (W64 (lo128 d)))) = W7 at hD hI hR hNN ⊢
    clear HC7 HG7 HG5 HN5 s0 s1 x0 x1 q0 q1 z0 z1
    have d0 := hD.c0
    have d1 := hD.c1
    have i0 := hI.c0
    have i1 := hI.c1
    have HR := Lib.hid hR
    have HNN := Lib.hid hNN
    clear hD hI hR hNN
    go_wp2_with fail
    refine (HF.out _).mono ?_
    rintro e w8 ⟨rfl, hn8⟩
    have hz := HR.out.stay hn8
    have k0 := hz.c0
    have k1 := hz.c1
    have kf := hz.free
    have HN8 := Lib.hid (HNN.out.trans hn8)
    clear hz hn8 d0 d1 i0 i1
    go_wp2
    refine bodyPost_ret (by simp [results, Try.results14, go_sem, k0, k1]; try rfl) rfl ?_
    exact ⟨rfl, put2_new _ HN8.out (by omega)⟩)
    | (
    have hn9 := HN5.out.alloc (.cells #[.int .u64 (W64 (hi128 d)), .int .u64 (W64 (lo128 d))] 24)
    have hD : B2 (w5.alloc (.cells #[.int .u64 (W64 (hi128 d)), .int .u64 (W64 (lo128 d))] 24)) w5.heap.size 24 d := heap_alloc_new _ _
    have hI := H5.out.stay hn9
    have hR := H3.out.stay hn9
    have hNN := H4.out.trans hn9
    generalize w5.heap.size = b7 at hD ⊢
    generalize w5.alloc (.cells #[.int .u64 (W64 (hi128 d)), .int .u64 (W64 (lo128 d))] 24) = W7 at hD hI hR hNN hn9 ⊢
    clear hn9 HN5 s0 s1 x0 x1 q0 q1 z0 z1
    have d0 := hD.c0
    have d1 := hD.c1
    have i0 := hI.c0
    have i1 := hI.c1
    have HR := Lib.hid hR
    have HNN := Lib.hid hNN
    clear hD hI hR hNN
    go_wp2_with fail
    refine (HF.out _).mono ?_
    rintro e w8 ⟨rfl, hn8⟩
    have hz := HR.out.stay hn8
    have k0 := hz.c0
    have k1 := hz.c1
    have kf := hz.free
    have HN8 := Lib.hid (HNN.out.trans hn8)
    clear hz hn8 d0 d1 i0 i1
    go_wp2
    refine bodyPost_ret (by simp [results, Try.results14, go_sem, k0, k1]; try rfl) rfl ?_
    exact ⟨rfl, put2_new _ HN8.out (by omega)⟩))
end Go.Proofs.Ytfaobdmoifnglaa
