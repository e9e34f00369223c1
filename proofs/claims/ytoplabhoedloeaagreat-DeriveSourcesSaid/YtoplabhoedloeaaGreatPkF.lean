/- Next, Seed of pcg64, the document's own Seed, the example; the walks of the statements Pcg64Seeds and Pcg64Tells. -/
import Derived.Test.YtoplabhoedloeaaGreatPkD
import Derived.Test.YtoplabhoedloeaaGreatClass
import Derived.Deep.RegionLaw
import Derived.Deep.RegionWith
import Derived.Handy
set_option maxRecDepth 100000
namespace Go.Proofs.YtoplabhoedloeaaGreat
open Go.RowKit Go.Bv
set_option linter.unusedVariables false
def stp14 (s x : BitVec 128) : BitVec 128 := s * T14 + (x ||| 1#128)
theorem step_s (s x : BitVec 128) (w : World) : Calls Tryz.prog 107 #[.agg #[.int .u64 (W64 (hi128 s)), .int .u64 (W64 (lo128 s))], .agg #[.int .u64 (W64 (hi128 x)), .int .u64 (W64 (lo128 x))]] w fun e w' => e = .returned (.agg #[.int .u64 (W64 (hi128 (stp14 s x))), .int .u64 (W64 (lo128 (stp14 s x)))]) ∧ New w w' := step14 s x w
theorem step_r (s x : BitVec 128) (w : World) : Calls Tryz.prog 29 #[.agg #[.int .u64 (W64 (hi128 s)), .int .u64 (W64 (lo128 s))], .agg #[.int .u64 (W64 (hi128 x)), .int .u64 (W64 (lo128 x))]] w fun e w' => e = .returned (.agg #[.int .u64 (W64 (hi128 (stp14 s x))), .int .u64 (W64 (lo128 (stp14 s x)))]) ∧ New w w' := stepr14 s x w
theorem zero_hi : W64 (hi128 0#128) = 0 := by unfold W64; decide +kernel
theorem zero_lo : W64 (lo128 0#128) = 0 := by unfold W64; decide +kernel
theorem one_hi : W64 (hi128 1#128) = 0 := by unfold W64; decide +kernel
theorem one_lo : W64 (lo128 1#128) = 1 := by unfold W64; decide +kernel
theorem seven_hi : W64 (hi128 7#128) = 0 := by unfold W64; decide +kernel
theorem seven_lo : W64 (lo128 7#128) = 7 := by unfold W64; decide +kernel
set_option maxHeartbeats 1000000 in
theorem next14 (s x : BitVec 128) (w : World) : Calls Tryz.prog 109 #[.agg #[.int .u64 (W64 (hi128 s)), .int .u64 (W64 (lo128 s))], .agg #[.int .u64 (W64 (hi128 x)), .int .u64 (W64 (lo128 x))]] w fun e w' => e = .returned (.tuple #[.int .u64 (W64 (out14 (stp14 s x))), .agg #[.int .u64 (W64 (hi128 (stp14 s x))), .int .u64 (W64 (lo128 (stp14 s x)))]]) ∧ New w w' := by
  obtain ⟨h1, h2, h3, h4⟩ := three_blocks w (.cells #[.int .u64 (W64 (hi128 s)), .int .u64 (W64 (lo128 s))] 24) (.cells #[.int .u64 (W64 (hi128 x)), .int .u64 (W64 (lo128 x))] 24) (.cells #[.int .u64 0, .int .u64 0] 24)
  have H1 := Lib.hid (show B2 _ _ _ s from h1)
  have H2 := Lib.hid (show B2 _ _ _ x from h2)
  have H3 := Lib.hid (show Z2 _ _ _ from h3)
  have H4 := Lib.hid h4
  clear h1 h2 h3 h4
  have HS := Lib.hid (fun w => step_s s x w)
  have HO := Lib.hid (fun w => outp14 (stp14 s x) w)
  generalize stp14 s x = y at *
  go_enter Tryz.func109, Tryz.ntmps109
  go_wp2_with fail
  generalize ((w.alloc (.cells #[.int .u64 (W64 (hi128 s)), .int .u64 (W64 (lo128 s))] 24)).alloc (.cells #[.int .u64 (W64 (hi128 x)), .int .u64 (W64 (lo128 x))] 24)).alloc (.cells #[.int .u64 0, .int .u64 0] 24) = w0 at H1 H2 H3 H4 ⊢
  refine (HS.out _).mono ?_
  rintro e w1 ⟨rfl, hn1⟩
  have hB := heap_alloc_new w1 (.cells #[.int .u64 (W64 (hi128 y)), .int .u64 (W64 (lo128 y))] 24)
  have hn3 := hn1.alloc (.cells #[.int .u64 (W64 (hi128 y)), .int .u64 (W64 (lo128 y))] 24)
  go_wp2_with fail
  generalize w1.heap.size = b5 at *
  generalize w1.alloc (.cells #[.int .u64 (W64 (hi128 y)), .int .u64 (W64 (lo128 y))] 24) = w3 at *
  have H3 := Lib.hid ((H3.out.stay hn3).stay (New.refl _).drew)
  have H4 := Lib.hid (H4.out.trans hn3).drew
  have H5 := Lib.hid ((show B2 _ _ _ y from hB).stay (New.refl _).drew)
  clear hB hn1 hn3
  have y0 := H5.out.c0
  have y1 := H5.out.c1
  go_region_law (first
    | (go_simp
       go_at_call 148
       refine (HO.out _).mono ?_
       rintro e w4 ⟨rfl, hn4⟩
       have y0 := (H5.out.stay hn4).c0
       have y1 := (H5.out.stay hn4).c1
       have hz := H3.out.stay hn4
       have k0 := hz.c0
       have k1 := hz.c1
       have kf := hz.free
       have HN4 := Lib.hid (H4.out.trans hn4)
       clear hn4 hz))
  all_goals (
    go_wp2
    refine bodyPost_ret (by simp [results, Tryz.results109, go_sem, k0, k1]; try rfl) rfl ?_
    exact ⟨rfl, put2_new _ HN4.out (by omega)⟩)
end Go.Proofs.YtoplabhoedloeaaGreat
