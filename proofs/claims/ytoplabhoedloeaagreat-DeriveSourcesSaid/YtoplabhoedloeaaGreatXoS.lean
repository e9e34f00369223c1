/- Contracts of xoshiro.Seed and of the document's own Seed. -/
import Derived.Test.YtoplabhoedloeaaGreatXoU
import Derived.Test.YtoplabhoedloeaaGreatSplW
import Derived.Laws.CopyOwn
import Derived.StillTailTactics
namespace Go.Proofs.YtoplabhoedloeaaGreat
open Go.RowKit Go.Bv
set_option linter.unusedVariables false
set_option maxRecDepth 100000
def sd9 (n : BitVec 64) : Q4 := ⟨split (n + BitVec.ofNat 64 1 * Gm), split (n + BitVec.ofNat 64 2 * Gm), split (n + BitVec.ofNat 64 3 * Gm), split (n + BitVec.ofNat 64 4 * Gm)⟩
theorem sd9_cells (n : BitVec 64) : ((told8 n 4).map fun x => Value.int .u64 (W64 x)) = (cs4 (sd9 n)).toList := rfl
theorem size_u64 : (Tryz.prog.info? 22).map (·.size) = some 1 := by kernel_rfl
set_option maxHeartbeats 1000000 in
theorem seed_any9 (n : BitVec 64) (w : World) :
    Calls Tryz.prog 50 #[.int .u64 (W64 n)] w fun e w' => e = .returned (.agg #[.int .u64 (W64 (sd9 n).a), .int .u64 (W64 (sd9 n).b), .int .u64 (W64 (sd9 n).c), .int .u64 (W64 (sd9 n).d)]) ∧ New w w' := by
  go_enter Tryz.func50, Tryz.ntmps50
  go_wp2_with fail
  have hz0 : ((w.alloc (.cells zs4 26)).alloc (.cells zs4 26)).heap[w.heap.size + 1]? = some (.cells zs4 26 (0, 0)) := heap_alloc2_new w _ _
  have hr0 : ((w.alloc (.cells zs4 26)).alloc (.cells zs4 26)).heap[w.heap.size]? = some (.cells zs4 26 (0, 0)) := heap_alloc2_old w _ _
  have hN0 : New w ((w.alloc (.cells zs4 26)).alloc (.cells zs4 26)) := ((New.refl w).alloc _).alloc _
  unfold zs4 at hz0 hr0 hN0
  generalize (w.alloc (.cells #[.int .u64 0, .int .u64 0, .int .u64 0, .int .u64 0] 26)).alloc (.cells #[.int .u64 0, .int .u64 0, .int .u64 0, .int .u64 0] 26) = w2 at hz0 hr0 hN0 ⊢
  have HZ := Lib.hid hz0
  have HR := Lib.hid hr0
  have HN := Lib.hid hN0
  have z0 : w2.cell? ⟨w.heap.size + 1, 0, none⟩ = some (.int .u64 0) := row4z hz0 0 (by omega)
  clear hz0 hr0 hN0
  go_region_law (first
    | (refine step_copy_splice rfl (.tmp 4) (.tmp 6) 54 54 rfl 22 Tryz.underlying54 size_u64 _ _ _ _ _ _ rfl rfl (w.heap.size + 1) 0 (zs4.toList) 26 hz3 ((told8 n 4).map fun x => Value.int .u64 (W64 x)) rfl (fun _ => ⟨rfl, hsrc⟩) (Nat.le_refl 4) (by intro v hv; obtain ⟨x, _, rfl⟩ := List.mem_map.1 hv; rfl) (w.heap.size + 1) w3 (Below.refl _ _) (Nat.le_refl _) ?_
       intro w4 hg4 hb4)
    | (go_simp
       go_at_call 66
       refine (words_at _ _ 4 (by omega) (Or.inr rfl) (b64 _) _ _ (New.refl _)).mono ?_
       rintro e w3 ⟨a, cap, rfl, hrow, hn, hn0⟩
       rw [ofInt_W64] at hrow
       have hz3 : w3.heap[w.heap.size + 1]? = some (.cells zs4.toList.toArray 26 (0, 0)) := by rw [hn.block _ (lt_of_block HZ.out)]; exact HZ.out
       have hr3 : w3.heap[w.heap.size]? = some (.cells zs4 26 (0, 0)) := by rw [hn.block _ (lt_of_block HR.out)]; exact HR.out
       have hn3 : New w w3 := (HN.out.drew).trans hn
       have hsrc : ∃ ad, a = some ad ∧ ∀ j v, ((told8 n 4).map fun x => Value.int .u64 (W64 x))[j]? = some v → w3.cell? (ad.add j) = some v := by
         obtain ⟨b, off, rfl, _⟩ := hrow.addr (by omega)
         exact ⟨_, rfl, fun j v hj => hrow.olds _ rfl j v hj⟩))
  have hg : w4.heap[w.heap.size + 1]? = some (.cells (cs4 (sd9 n)) 26 (0, 0)) := hg4
  have hr4 : w4.heap[w.heap.size]? = some (.cells zs4 26 (0, 0)) := by rw [hb4.block _ (by omega)]; exact hr3
  have hN4 : New w w4 := Below.trans hn3 (Below.mono hb4 (Nat.le_succ _))
  clear hg4 hb4 hn hn0 hn3 hz3 hr3 hsrc hrow
  obtain ⟨c0, c1, c2, c3⟩ := row4 hg
  have y0 := row4z hr4 0 (by omega)
  have y1 := row4z hr4 1 (by omega)
  have y2 := row4z hr4 2 (by omega)
  have y3 := row4z hr4 3 (by omega)
  have yf := fun i => frozen_of_row w4 w.heap.size i _ _ hr4
  have HN4 := Lib.hid hN4
  clear hg hr4 hN4 z0
  go_wp2
  refine bodyPost_ret (by simp [results, Tryz.results50, go_sem, y0, y1, y2, y3]; try rfl) rfl ?_
  exact ⟨rfl, set4_new _ HN4.out (Nat.le_refl _)⟩
set_option maxHeartbeats 1000000 in
theorem seed_ref9 (n : BitVec 64) (w : World) :
    Calls Tryz.prog 16 #[.int .u64 (W64 n)] w fun e w' => e = .returned (.agg #[.int .u64 (W64 (sd9 n).a), .int .u64 (W64 (sd9 n).b), .int .u64 (W64 (sd9 n).c), .int .u64 (W64 (sd9 n).d)]) ∧ New w w' := by
  go_enter Tryz.func16, Tryz.ntmps16
  go_wp2_with fail
  refine (words8_ref _ _ 4 (by omega) (Or.inr rfl) (b64 _) _ _ (New.refl _)).mono ?_
  rintro e w1 ⟨a, cap, rfl, hrow, hn, _⟩
  rw [ofInt_W64] at hrow
  obtain ⟨b, off, rfl, hc⟩ := hrow.addr (by omega)
  have hcap := hrow.le
  have c0 : w1.drew.cell? ⟨b, off, none⟩ = some (.int .u64 (W64 (sd9 n).a)) := hc 0 (by omega)
  have c1 : w1.drew.cell? ⟨b, off + 1, none⟩ = some (.int .u64 (W64 (sd9 n).b)) := hc 1 (by omega)
  have c2 : w1.drew.cell? ⟨b, off + 2, none⟩ = some (.int .u64 (W64 (sd9 n).c)) := hc 2 (by omega)
  have c3 : w1.drew.cell? ⟨b, off + 3, none⟩ = some (.int .u64 (W64 (sd9 n).d)) := hc 3 (by omega)
  have hr : w1.drew.heap[w.heap.size]? = some (.cells zs4 26 (0, 0)) := by
    show w1.heap[w.heap.size]? = _
    rw [hn.block _ (by simp)]
    exact heap_alloc_new w _
  have hN : New w w1.drew := (((New.refl w).alloc _).trans hn).drew
  have y0 := row4z hr 0 (by omega)
  have y1 := row4z hr 1 (by omega)
  have y2 := row4z hr 2 (by omega)
  have y3 := row4z hr 3 (by omega)
  have yf := fun i => frozen_of_row w1.drew w.heap.size i _ _ hr
  have HN := Lib.hid hN
  clear hc hrow hr hN hn
  go_wp2_with fail
  refine wp_region_still_tail 13 (by kernel_rfl) (by kernel_rfl) ?_
  change wpStill _ _ w1.drew (fun a' => wpList _ _ _ _ a' w1.drew) _ _
  generalize w1.drew = w2 at c0 c1 c2 c3 y0 y1 y2 y3 yf HN ⊢
  simp only [List.take_succ_cons, List.take_zero, List.drop_succ_cons, List.drop_zero]
  repeat still_step
  refine wpStill_nil ?_
  go_wp2
  refine bodyPost_ret (by simp [results, Tryz.results16, go_sem, y0, y1, y2, y3]; try rfl) rfl ?_
  exact ⟨rfl, set4_new _ HN.out (Nat.le_refl _)⟩
theorem gm_ne (a : BitVec 64) : ¬ a + BitVec.ofNat 64 1 * Gm = a + BitVec.ofNat 64 2 * Gm := by
  intro h
  have h2 : BitVec.ofNat 64 1 * Gm = BitVec.ofNat 64 2 * Gm := by
    have := congrArg (fun x => x - a) h
    simpa [BitVec.add_comm a, BitVec.add_sub_cancel] using this
  exact absurd h2 (by decide)
theorem sd9_nz (a : BitVec 64) : zr (sd9 a) = false := by
  rw [← Bool.not_eq_true, zr_iff]
  intro h
  have ha : split (a + BitVec.ofNat 64 1 * Gm) = 0#64 := congrArg Q4.a h
  have hb : split (a + BitVec.ofNat 64 2 * Gm) = 0#64 := congrArg Q4.b h
  exact gm_ne a (split_inj.1 (ha.trans hb.symm))
theorem sd9_inj {a b : BitVec 64} (h : (sd9 a).a = (sd9 b).a) : a = b := by
  have h2 : a + BitVec.ofNat 64 1 * Gm = b + BitVec.ofNat 64 1 * Gm := split_inj.1 h
  have h3 := congrArg (fun x => x - BitVec.ofNat 64 1 * Gm) h2
  simpa [BitVec.add_sub_cancel] using h3
theorem sd9_eq (a b : BitVec 64) : ((sd9 a).a == (sd9 b).a && ((sd9 a).b == (sd9 b).b && ((sd9 a).c == (sd9 b).c && (sd9 a).d == (sd9 b).d))) = (a == b) := by
  rcases h : a == b
  · have hn : ((sd9 a).a == (sd9 b).a) = false := by
      rw [beq_eq_false_iff_ne] at h ⊢
      exact fun e => h (sd9_inj e)
    rw [hn, Bool.false_and]
  · have e := eq_of_beq h
    subst e
    simp
end Go.Proofs.YtoplabhoedloeaaGreat
