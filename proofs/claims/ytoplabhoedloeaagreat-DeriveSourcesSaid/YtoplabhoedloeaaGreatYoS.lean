/- Contracts of xoroshiro.Seed and of the document's own Seed. -/
import Derived.Test.YtoplabhoedloeaaGreatYoN
import Derived.Test.YtoplabhoedloeaaGreatXoS
namespace Go.Proofs.YtoplabhoedloeaaGreat
open Go.RowKit Go.Bv
set_option linter.unusedVariables false
set_option maxRecDepth 100000
def sd10 (n : BitVec 64) : Q2 := ⟨split (n + BitVec.ofNat 64 1 * Gm), split (n + BitVec.ofNat 64 2 * Gm)⟩
set_option maxHeartbeats 1000000 in
theorem seed_any10 (n : BitVec 64) (w : World) :
    Calls Tryz.prog 59 #[.int .u64 (W64 n)] w fun e w' => e = .returned (.agg #[.int .u64 (W64 (sd10 n).a), .int .u64 (W64 (sd10 n).b)]) ∧ New w w' := by
  go_enter Tryz.func59, Tryz.ntmps59
  go_wp2_with fail
  have hz0 : ((w.alloc (.cells zs2 90)).alloc (.cells zs2 90)).heap[w.heap.size + 1]? = some (.cells zs2 90 (0, 0)) := heap_alloc2_new w _ _
  have hr0 : ((w.alloc (.cells zs2 90)).alloc (.cells zs2 90)).heap[w.heap.size]? = some (.cells zs2 90 (0, 0)) := heap_alloc2_old w _ _
  have hN0 : New w ((w.alloc (.cells zs2 90)).alloc (.cells zs2 90)) := ((New.refl w).alloc _).alloc _
  unfold zs2 at hz0 hr0 hN0
  generalize (w.alloc (.cells #[.int .u64 0, .int .u64 0] 90)).alloc (.cells #[.int .u64 0, .int .u64 0] 90) = w2 at hz0 hr0 hN0 ⊢
  have HZ := Lib.hid hz0
  have HR := Lib.hid hr0
  have HN := Lib.hid hN0
  have z0 : w2.cell? ⟨w.heap.size + 1, 0, none⟩ = some (.int .u64 0) := row2z hz0 0 (by omega)
  clear hz0 hr0 hN0
  go_region_law (first
    | (refine step_copy_splice rfl (.tmp 4) (.tmp 6) 54 54 rfl 22 Tryz.underlying54 size_u64 _ _ _ _ _ _ rfl rfl (w.heap.size + 1) 0 (zs2.toList) 90 hz3 ((told8 n 2).map fun x => Value.int .u64 (W64 x)) rfl (fun _ => ⟨rfl, hsrc⟩) (Nat.le_refl 2) (by intro v hv; obtain ⟨x, _, rfl⟩ := List.mem_map.1 hv; rfl) (w.heap.size + 1) w3 (Below.refl _ _) (Nat.le_refl _) ?_
       intro w4 hg4 hb4)
    | (go_simp
       go_at_call 66
       refine (words_at _ _ 2 (by omega) (Or.inr rfl) (b64 _) _ _ (New.refl _)).mono ?_
       rintro e w3 ⟨a, cap, rfl, hrow, hn, hn0⟩
       rw [ofInt_W64] at hrow
       have hz3 : w3.heap[w.heap.size + 1]? = some (.cells zs2.toList.toArray 90 (0, 0)) := by rw [hn.block _ (lt_of_block HZ.out)]; exact HZ.out
       have hr3 : w3.heap[w.heap.size]? = some (.cells zs2 90 (0, 0)) := by rw [hn.block _ (lt_of_block HR.out)]; exact HR.out
       have hn3 : New w w3 := (HN.out.drew).trans hn
       have hsrc : ∃ ad, a = some ad ∧ ∀ j v, ((told8 n 2).map fun x => Value.int .u64 (W64 x))[j]? = some v → w3.cell? (ad.add j) = some v := by
         obtain ⟨b, off, rfl, _⟩ := hrow.addr (by omega)
         exact ⟨_, rfl, fun j v hj => hrow.olds _ rfl j v hj⟩))
  have hg : w4.heap[w.heap.size + 1]? = some (.cells (cs2 (sd10 n)) 90 (0, 0)) := hg4
  have hr4 : w4.heap[w.heap.size]? = some (.cells zs2 90 (0, 0)) := by rw [hb4.block _ (by omega)]; exact hr3
  have hN4 : New w w4 := Below.trans hn3 (Below.mono hb4 (Nat.le_succ _))
  clear hg4 hb4 hn hn0 hn3 hz3 hr3 hsrc hrow
  obtain ⟨c0, c1⟩ := row2 hg
  have y0 := row2z hr4 0 (by omega)
  have y1 := row2z hr4 1 (by omega)
  have yf := fun i => frozen_of_row w4 w.heap.size i _ _ hr4
  have HN4 := Lib.hid hN4
  clear hg hr4 hN4 z0
  go_wp2
  refine bodyPost_ret (by simp [results, Tryz.results59, go_sem, y0, y1]; try rfl) rfl ?_
  exact ⟨rfl, set2_new _ HN4.out (Nat.le_refl _)⟩
theorem sd10_nz (a : BitVec 64) : zr2 (sd10 a) = false := by
  rw [← Bool.not_eq_true, zr2_iff]
  intro h
  have ha : split (a + BitVec.ofNat 64 1 * Gm) = 0#64 := congrArg Q2.a h
  have hb : split (a + BitVec.ofNat 64 2 * Gm) = 0#64 := congrArg Q2.b h
  exact gm_ne a (split_inj.1 (ha.trans hb.symm))
theorem sd10_eq (a b : BitVec 64) : ((sd10 a).a == (sd10 b).a && (sd10 a).b == (sd10 b).b) = (a == b) := by
  rcases h : a == b
  · have hn : ((sd10 a).a == (sd10 b).a) = false := by
      rw [beq_eq_false_iff_ne] at h ⊢
      exact fun e => h (sd9_inj e)
    rw [hn, Bool.false_and]
  · have e := eq_of_beq h
    subst e
    simp
end Go.Proofs.YtoplabhoedloeaaGreat
