/- Contracts of Seed of pcg64 and of the document's own Seed; the walk of the statement Pcg64Seeds. -/
import Derived.Test.YtoplabhoedloeaaGreatPkF
import Derived.Deep.RegionHeld3
set_option maxRecDepth 100000
namespace Go.Bv
open Go Go.RowKit
theorem seed_sum (t : BitVec 128) : t + t + 1#128 = t <<< 1 ||| 1#128 := by
  have h : t <<< 1 + 1#128 = t <<< 1 ||| 1#128 := BitVec.add_eq_or_of_and_eq_zero _ _ (by
    apply BitVec.eq_of_getLsbD_eq
    intro i hi
    rw [BitVec.getLsbD_and, BitVec.getLsbD_shiftLeft, BitVec.getLsbD_zero]
    by_cases h : i = 0
    · subst h; simp
    · rw [one_bit i h, Bool.and_false])
  rw [← h]
  congr 1
  apply BitVec.eq_of_toNat_eq
  rw [BitVec.toNat_add, BitVec.toNat_shiftLeft, Nat.shiftLeft_eq]
  congr 1
  omega
theorem seed_odd (t : BitVec 128) : (t <<< 1 ||| 1#128) ||| 1#128 = t <<< 1 ||| 1#128 := by
  rw [BitVec.or_assoc, BitVec.or_self]
theorem seed_bit (t : BitVec 128) : lo128 (t <<< 1 ||| 1#128) % 2#64 = 1#64 := by
  apply BitVec.eq_of_toNat_eq
  rw [← seed_sum]
  unfold lo128
  rw [BitVec.toNat_umod, BitVec.toNat_setWidth, BitVec.toNat_add, BitVec.toNat_add]
  show (((t.toNat + t.toNat) % 2 ^ 128 + 1) % 2 ^ 128 % 2 ^ 64) % 2 = 1
  omega
theorem four_blocks (w : World) (A B C D : Obj) : let v := (((w.alloc A).alloc B).alloc C).alloc D
    v.heap[w.heap.size]? = some A ∧ v.heap[w.heap.size + 1]? = some B ∧ v.heap[w.heap.size + 1 + 1]? = some C ∧ v.heap[w.heap.size + 1 + 1 + 1]? = some D ∧ New w v := by
  obtain ⟨h1, h2, h3, h4⟩ := three_blocks w A B C
  have e3 : (((w.alloc A).alloc B).alloc C).heap.size = w.heap.size + 1 + 1 + 1 := by simp
  have hk := (New.refl (((w.alloc A).alloc B).alloc C)).alloc D
  refine ⟨(hk.block _ (lt_of_block h1)).trans h1, (hk.block _ (lt_of_block h2)).trans h2, (hk.block _ (lt_of_block h3)).trans h3, ?_, h4.trans hk⟩
  rw [← e3]; exact heap_alloc_new _ _
end Go.Bv
namespace Go.Proofs.YtoplabhoedloeaaGreat
open Go.RowKit Go.Bv
set_option linter.unusedVariables false
theorem seed_zero (t : BitVec 128) : 0#128 * T14 + ((t <<< 1 ||| 1#128) ||| 1#128) = t <<< 1 ||| 1#128 := by
  rw [BitVec.zero_mul, BitVec.zero_add, seed_odd]
set_option maxHeartbeats 2000000 in
theorem seed14 (a t : BitVec 128) (w : World) : Calls Tryz.prog 74 #[.agg #[.int .u64 (W64 (hi128 a)), .int .u64 (W64 (lo128 a))], .agg #[.int .u64 (W64 (hi128 t)), .int .u64 (W64 (lo128 t))]] w fun e w' =>
    e = .returned (.tuple #[.agg #[.int .u64 (W64 (hi128 (stp14 ((t <<< 1 ||| 1#128) + a) (t <<< 1 ||| 1#128)))), .int .u64 (W64 (lo128 (stp14 ((t <<< 1 ||| 1#128) + a) (t <<< 1 ||| 1#128))))], .agg #[.int .u64 (W64 (hi128 (t <<< 1 ||| 1#128))), .int .u64 (W64 (lo128 (t <<< 1 ||| 1#128)))]]) ∧ New w w' := by
  have h1 := fun w => wshl_x t 1 (by omega) 1 rfl w
  have h2 := fun w => odd14 (t <<< 1) w
  have h3 := fun w => step14 0#128 (t <<< 1 ||| 1#128) w
  rw [zero_hi, zero_lo, seed_zero] at h3
  have h4 := fun w => add14 (t <<< 1 ||| 1#128) a w
  have h5 := fun w => step_s ((t <<< 1 ||| 1#128) + a) (t <<< 1 ||| 1#128) w
  have C1 := Lib.hid h1
  have C2 := Lib.hid h2
  have C3 := Lib.hid h3
  have C4 := Lib.hid h4
  have C5 := Lib.hid h5
  clear h1 h2 h3 h4 h5
  generalize stp14 ((t <<< 1 ||| 1#128) + a) (t <<< 1 ||| 1#128) = r at *
  generalize (t <<< 1 ||| 1#128) + a = u at *
  generalize t <<< 1 ||| 1#128 = i at *
  obtain ⟨h1, h2, h3, h4, h5⟩ := four_blocks w (.cells #[.int .u64 (W64 (hi128 a)), .int .u64 (W64 (lo128 a))] 24) (.cells #[.int .u64 (W64 (hi128 t)), .int .u64 (W64 (lo128 t))] 24) (.cells #[.int .u64 0, .int .u64 0] 24) (.cells #[.int .u64 0, .int .u64 0] 24)
  have H1 := Lib.hid (show B2 _ _ _ a from h1)
  have H2 := Lib.hid (show B2 _ _ _ t from h2)
  have H3 := Lib.hid (show Z2 _ _ _ from h3)
  have H4 := Lib.hid (show Z2 _ _ _ from h4)
  have H5 := Lib.hid h5
  clear h1 h2 h3 h4 h5
  go_enter Tryz.func74, Tryz.ntmps74
  go_wp2_with fail
  generalize (((w.alloc (.cells #[.int .u64 (W64 (hi128 a)), .int .u64 (W64 (lo128 a))] 24)).alloc (.cells #[.int .u64 (W64 (hi128 t)), .int .u64 (W64 (lo128 t))] 24)).alloc (.cells #[.int .u64 0, .int .u64 0] 24)).alloc (.cells #[.int .u64 0, .int .u64 0] 24) = w0 at H1 H2 H3 H4 H5 ⊢
  have t0 := H2.out.c0
  have t1 := H2.out.c1
  go_wp2_with fail
  refine (C1.out _).mono ?_
  rintro e w1 ⟨rfl, hn1⟩
  go_wp2_with fail
  refine (C2.out _).mono ?_
  rintro e w2 ⟨rfl, hn2⟩
  have hB := heap_alloc_new w2 (.cells #[.int .u64 (W64 (hi128 i)), .int .u64 (W64 (lo128 i))] 24)
  have hn3 := (hn1.trans hn2).alloc (.cells #[.int .u64 (W64 (hi128 i)), .int .u64 (W64 (lo128 i))] 24)
  go_wp2_with fail
  have hlt : w.heap.size + 1 + 1 + 1 < w2.heap.size := Nat.lt_of_lt_of_le (lt_of_block H4.out) (hn1.trans hn2).le
  have n1 : ¬ (w.heap.size + 1 + 1 = w2.heap.size) := by omega
  have n2 : ¬ (w2.heap.size = w.heap.size + 1 + 1) := by omega
  have n3 : ¬ (w.heap.size + 1 + 1 + 1 = w2.heap.size) := by omega
  have n4 : ¬ (w2.heap.size = w.heap.size + 1 + 1 + 1) := by omega
  have m1 : ¬ (w.heap.size + 1 + 1 = w.heap.size) := by omega
  have m2 : ¬ (w.heap.size = w.heap.size + 1 + 1) := by omega
  have m3 : ¬ (w.heap.size + 1 + 1 + 1 = w.heap.size) := by omega
  have m4 : ¬ (w.heap.size = w.heap.size + 1 + 1 + 1) := by omega
  clear hlt
  generalize w2.heap.size = b6 at *
  generalize w2.alloc (.cells #[.int .u64 (W64 (hi128 i)), .int .u64 (W64 (lo128 i))] 24) = w3 at *
  have H1 := Lib.hid ((H1.out.stay hn3).stay (New.refl _).drew)
  have H3 := Lib.hid ((H3.out.stay hn3).stay (New.refl _).drew)
  have H4 := Lib.hid ((H4.out.stay hn3).stay (New.refl _).drew)
  have H5 := Lib.hid (H5.out.trans hn3).drew
  have H6 := Lib.hid ((show B2 _ _ _ i from hB).stay (New.refl _).drew)
  clear hB hn1 hn2 hn3 t0 t1
  have a0 := H1.out.c0
  have a1 := H1.out.c1
  have i0 := H6.out.c0
  have i1 := H6.out.c1
  go_region_held3 (fun w' => w'.cell? ⟨w.heap.size, 0, none⟩ = some (.int .u64 (W64 (hi128 a))) ∧ w'.cell? ⟨w.heap.size, 1, none⟩ = some (.int .u64 (W64 (lo128 a))) ∧ w'.cell? ⟨b6, 0, none⟩ = some (.int .u64 (W64 (hi128 i))) ∧ w'.cell? ⟨b6, 1, none⟩ = some (.int .u64 (W64 (lo128 i)))) (first | exact ⟨a0, a1, i0, i1⟩ | go_keep) (first
    | (go_simp
       go_at_call_of 107 (Value.int IntKind.u64 0)
       refine (C3.out _).mono ?_
       rintro e w4 ⟨rfl, hn⟩
       have a0 := (H1.out.stay hn).c0
       have a1 := (H1.out.stay hn).c1
       have i0 := (H6.out.stay hn).c0
       have i1 := (H6.out.stay hn).c1
       have HM := Lib.hid hn
       clear hn)
    | (go_simp
       go_at_call 108
       refine (C4.out _).mono ?_
       rintro e w5 ⟨rfl, hn⟩
       have hn := HM.out.trans hn
       clear HM
       have a0 := (H1.out.stay hn).c0
       have a1 := (H1.out.stay hn).c1
       have i0 := (H6.out.stay hn).c0
       have i1 := (H6.out.stay hn).c1
       have HM := Lib.hid hn
       clear hn)
    | (go_simp
       go_at_call_of 107 (Value.int IntKind.u64 (W64 (hi128 u)))
       refine (C5.out _).mono ?_
       rintro e w6 ⟨rfl, hn⟩
       have hn := HM.out.trans hn
       have a0 := (H1.out.stay hn).c0
       have a1 := (H1.out.stay hn).c1
       have i0 := (H6.out.stay hn).c0
       have i1 := (H6.out.stay hn).c1
       have hz := H3.out.stay hn
       have k0 := hz.c0
       have k1 := hz.c1
       have kf := hz.free
       have hy := H4.out.stay hn
       have j0 := hy.c0
       have j1 := hy.c1
       have jf := hy.free
       have HNN := Lib.hid (H5.out.trans hn)
       clear hz hy hn))
  all_goals (
    go_wp2
    refine bodyPost_ret (by simp [results, Tryz.results74, go_sem, k0, k1, j0, j1]; try rfl) rfl ?_
    exact ⟨rfl, put2_new _ (put2_new _ HNN.out (by omega)) (by omega)⟩)
set_option maxHeartbeats 2000000 in
theorem seedr14 (a t : BitVec 128) (w : World) : Calls Tryz.prog 18 #[.agg #[.int .u64 (W64 (hi128 a)), .int .u64 (W64 (lo128 a))], .agg #[.int .u64 (W64 (hi128 t)), .int .u64 (W64 (lo128 t))]] w fun e w' =>
    e = .returned (.tuple #[.agg #[.int .u64 (W64 (hi128 (stp14 ((t <<< 1 ||| 1#128) + a) (t <<< 1 ||| 1#128)))), .int .u64 (W64 (lo128 (stp14 ((t <<< 1 ||| 1#128) + a) (t <<< 1 ||| 1#128))))], .agg #[.int .u64 (W64 (hi128 (t <<< 1 ||| 1#128))), .int .u64 (W64 (lo128 (t <<< 1 ||| 1#128)))]]) ∧ New w w' := by
  have h1 := fun w => sumr14 t t w
  have h2 := fun w => sumr14 (t + t) 1#128 w
  rw [one_hi, one_lo, seed_sum] at h2
  have h3 : True := trivial
  have h4 := fun w => sumr14 (t <<< 1 ||| 1#128) a w
  have h5 := fun w => step_r ((t <<< 1 ||| 1#128) + a) (t <<< 1 ||| 1#128) w
  have C1 := Lib.hid h1
  have C2 := Lib.hid h2
  have C3 := Lib.hid h3
  have C4 := Lib.hid h4
  have C5 := Lib.hid h5
  clear h1 h2 h3 h4 h5
  generalize stp14 ((t <<< 1 ||| 1#128) + a) (t <<< 1 ||| 1#128) = r at *
  generalize (t <<< 1 ||| 1#128) + a = u at *
  generalize t <<< 1 ||| 1#128 = i at *
  obtain ⟨h1, h2, h3, h4, h5⟩ := four_blocks w (.cells #[.int .u64 (W64 (hi128 a)), .int .u64 (W64 (lo128 a))] 24) (.cells #[.int .u64 (W64 (hi128 t)), .int .u64 (W64 (lo128 t))] 24) (.cells #[.int .u64 0, .int .u64 0] 24) (.cells #[.int .u64 0, .int .u64 0] 24)
  have H1 := Lib.hid (show B2 _ _ _ a from h1)
  have H2 := Lib.hid (show B2 _ _ _ t from h2)
  have H3 := Lib.hid (show Z2 _ _ _ from h3)
  have H4 := Lib.hid (show Z2 _ _ _ from h4)
  have H5 := Lib.hid h5
  clear h1 h2 h3 h4 h5
  go_enter Tryz.func18, Tryz.ntmps18
  go_wp2_with fail
  generalize (((w.alloc (.cells #[.int .u64 (W64 (hi128 a)), .int .u64 (W64 (lo128 a))] 24)).alloc (.cells #[.int .u64 (W64 (hi128 t)), .int .u64 (W64 (lo128 t))] 24)).alloc (.cells #[.int .u64 0, .int .u64 0] 24)).alloc (.cells #[.int .u64 0, .int .u64 0] 24) = w0 at H1 H2 H3 H4 H5 ⊢
  have t0 := H2.out.c0
  have t1 := H2.out.c1
  go_wp2_with fail
  refine (C1.out _).mono ?_
  rintro e w1 ⟨rfl, hn1⟩
  go_wp2_with fail
  refine (C2.out _).mono ?_
  rintro e w2 ⟨rfl, hn2⟩
  have hB := heap_alloc_new w2 (.cells #[.int .u64 (W64 (hi128 i)), .int .u64 (W64 (lo128 i))] 24)
  have hn3 := (hn1.trans hn2).alloc (.cells #[.int .u64 (W64 (hi128 i)), .int .u64 (W64 (lo128 i))] 24)
  go_wp2_with fail
  have hlt : w.heap.size + 1 + 1 + 1 < w2.heap.size := Nat.lt_of_lt_of_le (lt_of_block H4.out) (hn1.trans hn2).le
  have n1 : ¬ (w.heap.size + 1 + 1 = w2.heap.size) := by omega
  have n2 : ¬ (w2.heap.size = w.heap.size + 1 + 1) := by omega
  have n3 : ¬ (w.heap.size + 1 + 1 + 1 = w2.heap.size) := by omega
  have n4 : ¬ (w2.heap.size = w.heap.size + 1 + 1 + 1) := by omega
  have m1 : ¬ (w.heap.size + 1 + 1 = w.heap.size) := by omega
  have m2 : ¬ (w.heap.size = w.heap.size + 1 + 1) := by omega
  have m3 : ¬ (w.heap.size + 1 + 1 + 1 = w.heap.size) := by omega
  have m4 : ¬ (w.heap.size = w.heap.size + 1 + 1 + 1) := by omega
  clear hlt
  generalize w2.heap.size = b6 at *
  generalize w2.alloc (.cells #[.int .u64 (W64 (hi128 i)), .int .u64 (W64 (lo128 i))] 24) = w3 at *
  have H1 := Lib.hid ((H1.out.stay hn3).stay (New.refl _).drew)
  have H3 := Lib.hid ((H3.out.stay hn3).stay (New.refl _).drew)
  have H4 := Lib.hid ((H4.out.stay hn3).stay (New.refl _).drew)
  have H5 := Lib.hid (H5.out.trans hn3).drew
  have H6 := Lib.hid ((show B2 _ _ _ i from hB).stay (New.refl _).drew)
  clear hB hn1 hn2 hn3 t0 t1
  have a0 := H1.out.c0
  have a1 := H1.out.c1
  have i0 := H6.out.c0
  have i1 := H6.out.c1
  go_region_held3 (fun w' => w'.cell? ⟨w.heap.size, 0, none⟩ = some (.int .u64 (W64 (hi128 a))) ∧ w'.cell? ⟨w.heap.size, 1, none⟩ = some (.int .u64 (W64 (lo128 a))) ∧ w'.cell? ⟨b6, 0, none⟩ = some (.int .u64 (W64 (hi128 i))) ∧ w'.cell? ⟨b6, 1, none⟩ = some (.int .u64 (W64 (lo128 i)))) (first | exact ⟨a0, a1, i0, i1⟩ | go_keep) (first
    | (go_simp
       go_at_call 28
       refine (C4.out _).mono ?_
       rintro e w5 ⟨rfl, hn⟩
       have a0 := (H1.out.stay hn).c0
       have a1 := (H1.out.stay hn).c1
       have i0 := (H6.out.stay hn).c0
       have i1 := (H6.out.stay hn).c1
       have HM := Lib.hid hn
       clear hn)
    | (go_simp
       go_at_call_of 29 (Value.int IntKind.u64 (W64 (hi128 u)))
       refine (C5.out _).mono ?_
       rintro e w6 ⟨rfl, hn⟩
       have hn := HM.out.trans hn
       have a0 := (H1.out.stay hn).c0
       have a1 := (H1.out.stay hn).c1
       have i0 := (H6.out.stay hn).c0
       have i1 := (H6.out.stay hn).c1
       have hz := H3.out.stay hn
       have k0 := hz.c0
       have k1 := hz.c1
       have kf := hz.free
       have hy := H4.out.stay hn
       have j0 := hy.c0
       have j1 := hy.c1
       have jf := hy.free
       have HNN := Lib.hid (H5.out.trans hn)
       clear hz hy hn))
  all_goals (
    go_wp2
    refine bodyPost_ret (by simp [results, Tryz.results18, go_sem, k0, k1, j0, j1]; try rfl) rfl ?_
    exact ⟨rfl, put2_new _ (put2_new _ HNN.out (by omega)) (by omega)⟩)
end Go.Proofs.YtoplabhoedloeaaGreat
