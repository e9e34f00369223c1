/- All generators: the seeds of kinds 7 and 8. · All generators: the seed of kind 8. -/
import Derived.Test.YtoplabhoedloeaaGreatGsJ
import Derived.Test.YtoplabhoedloeaaGreatPkH
namespace Go.Proofs.YtoplabhoedloeaaGreat
open Go.RowKit Go.Bv
set_option linter.unusedVariables false
set_option maxRecDepth 100000
def l15 (n : BitVec 64) (i : Nat) : BitVec 64 := split (n + BitVec.ofNat 64 i * Gm)
def inc7 (n : BitVec 64) : BitVec 64 := 2 * l15 n 2 + 1
def w7 (n : BitVec 64) : W4 := ⟨step13 (step13 0 (inc7 n) + l15 n 1) (inc7 n), inc7 n, 0#64, 0#64⟩
theorem w7_cells (n : BitVec 64) : (w7 n).cells = #[.int .u64 (W64 (w7 n).a), .int .u64 (W64 (w7 n).b), .int .u64 0, .int .u64 0] := by
  show #[Value.int .u64 (W64 (w7 n).a), .int .u64 (W64 (w7 n).b), .int .u64 (W64 0#64), .int .u64 (W64 0#64)] = _
  rw [W64z]
set_option maxHeartbeats 1000000 in
theorem sdP_any (n : BitVec 64) (w : World) : Calls Tryz.prog 65 #[.int .u64 (W64 n)] w fun e w' => e = .returned (.agg (w7 n).cells) ∧ New w w' := by
  rw [w7_cells]
  have hb := heap_alloc_new w (.cells zw 53)
  have HB := Lib.hid hb
  clear hb
  go_enter Tryz.func65, Tryz.ntmps65
  go_wp2_with fail
  refine (words_at _ _ 2 (by omega) (Or.inr rfl) (b64 _) _ _ (New.refl _)).mono ?_
  rintro e w1 ⟨a, cap, rfl, hrow, hn, _⟩
  rw [ofInt_W64] at hrow
  obtain ⟨b, off, rfl, hc⟩ := hrow.addr (by omega)
  have hcap := hrow.le
  have c0 : w1.cell? ⟨b, off, none⟩ = some (.int .u64 (W64 (l15 n 1))) := hc 0 (by omega)
  have c1 : w1.cell? ⟨b, off + 1, none⟩ = some (.int .u64 (W64 (l15 n 2))) := hc 1 (by omega)
  have hr := (hn.block _ (lt_of_block HB.out)).trans HB.out
  have d0 := cell_of_row w1 w.heap.size 0 _ _ _ hr
  have d1 := cell_of_row w1 w.heap.size 1 _ _ _ hr
  have d2 := cell_of_row w1 w.heap.size 2 _ _ _ hr
  have d3 := cell_of_row w1 w.heap.size 3 _ _ _ hr
  have df := fun i => frozen_of_row w1 w.heap.size i _ _ hr
  have HN := Lib.hid ((((New.refl w).alloc (.cells zw 53)).trans hn))
  have HS := Lib.hid (fun w => seed_any (W64 (l15 n 1)) (W64 (l15 n 2)) w)
  rw [ofInt_W64, ofInt_W64] at HS
  clear hrow hc hr hn HB
  go_wp2_with fail
  go_quiet (first | (go_at_call 67; refine Calls.quiet_of_same (HS.out _)))
  go_wp2
  refine bodyPost_ret (by simp [results, Tryz.results65, go_sem, d0, d1, d2, d3]; try rfl) rfl ?_
  exact ⟨rfl, ((((HN.out.drewN _).setCell (by show w.heap.size ≤ w.heap.size; omega) _).setCell (by show w.heap.size ≤ w.heap.size; omega) _).setCell (by show w.heap.size ≤ w.heap.size; omega) _).setCell (by show w.heap.size ≤ w.heap.size; omega) _⟩
theorem sdP (n : BitVec 64) : SdC 7 n (w7 n) := by
  intro w g h
  cases h with
  | xosh k hk b h => omega
  | xoro k hk b b4 b5 b6 h h4 h5 h6 => omega
  | pcg32 => exact sdP_any n w
set_option maxHeartbeats 2000000 in
theorem parts_any (q : W4) (w : World) : Calls Tryz.prog 75 #[.agg q.cells] w fun e w' => e = .returned (.tuple #[.agg #[.int .u64 (W64 q.b), .int .u64 (W64 q.a)], .agg #[.int .u64 (W64 q.d), .int .u64 (W64 q.c)]]) ∧ New w w' := by
  go_enter Tryz.func75, Tryz.ntmps75
  go_wp2_with fail
  go_region
  go_wp2
  go_returns
  exact ⟨rfl, ((((New.refl w).alloc _).alloc _).alloc _).drew⟩
end Go.Proofs.YtoplabhoedloeaaGreat
namespace Go.Proofs.YtoplabhoedloeaaGreat
open Go.RowKit Go.Bv
set_option linter.unusedVariables false
set_option maxRecDepth 100000
def i8 (n : BitVec 64) : BitVec 128 := join128 (l15 n 4) (l15 n 3) <<< 1 ||| 1#128
def s8 (n : BitVec 64) : BitVec 128 := stp14 (i8 n + join128 (l15 n 2) (l15 n 1)) (i8 n)
def w8 (n : BitVec 64) : W4 := ⟨lo128 (s8 n), hi128 (s8 n), lo128 (i8 n), hi128 (i8 n)⟩
def c8 (n : BitVec 64) : W4 := ⟨l15 n 1, l15 n 2, l15 n 3, l15 n 4⟩
theorem seed8 (n : BitVec 64) (w : World) : Calls Tryz.prog 74 #[.agg #[.int .u64 (W64 (l15 n 2)), .int .u64 (W64 (l15 n 1))], .agg #[.int .u64 (W64 (l15 n 4)), .int .u64 (W64 (l15 n 3))]] w fun e w' =>
    e = .returned (.tuple #[.agg #[.int .u64 (W64 (hi128 (s8 n))), .int .u64 (W64 (lo128 (s8 n)))], .agg #[.int .u64 (W64 (hi128 (i8 n))), .int .u64 (W64 (lo128 (i8 n)))]]) ∧ New w w' := by
  have h := seed14 (join128 (l15 n 2) (l15 n 1)) (join128 (l15 n 4) (l15 n 3)) w
  rw [hi_join, lo_join, hi_join, lo_join] at h
  exact h
set_option maxHeartbeats 2000000 in
theorem sdQ_any (n : BitVec 64) (w : World) : Calls Tryz.prog 73 #[.int .u64 (W64 n)] w fun e w' => e = .returned (.agg (w8 n).cells) ∧ New w w' := by
  go_enter Tryz.func73, Tryz.ntmps73
  go_wp2_with fail
  have hz0 : ((w.alloc (.cells zs4 53)).alloc (.cells zs4 53)).heap[w.heap.size + 1]? = some (.cells zs4 53 (0, 0)) := heap_alloc2_new w _ _
  have hr0 : ((w.alloc (.cells zs4 53)).alloc (.cells zs4 53)).heap[w.heap.size]? = some (.cells zs4 53 (0, 0)) := heap_alloc2_old w _ _
  have hN0 : New w ((w.alloc (.cells zs4 53)).alloc (.cells zs4 53)) := ((New.refl w).alloc _).alloc _
  unfold zs4 at hz0 hr0 hN0
  generalize (w.alloc (.cells #[.int .u64 0, .int .u64 0, .int .u64 0, .int .u64 0] 53)).alloc (.cells #[.int .u64 0, .int .u64 0, .int .u64 0, .int .u64 0] 53) = w2 at hz0 hr0 hN0 ⊢
  have HZ := Lib.hid hz0
  have HR := Lib.hid hr0
  have HN := Lib.hid hN0
  have z0 : w2.cell? ⟨w.heap.size + 1, 0, none⟩ = some (.int .u64 0) := row4z hz0 0 (by omega)
  clear hz0 hr0 hN0
  go_region_law (first
    | (refine step_copy_splice rfl (.tmp 6) (.tmp 8) 54 54 rfl 22 Tryz.underlying54 size_u64 _ _ _ _ _ _ rfl rfl (w.heap.size + 1) 0 (zs4.toList) 53 hz3 ((told8 n 4).map fun x => Value.int .u64 (W64 x)) rfl (fun _ => ⟨rfl, hsrc⟩) (Nat.le_refl 4) (by intro v hv; obtain ⟨x, _, rfl⟩ := List.mem_map.1 hv; rfl) (w.heap.size + 1) w3 (Below.refl _ _) (Nat.le_refl _) ?_
       intro w4 hg4 hb4)
    | (go_simp
       go_at_call 66
       refine (words_at _ _ 4 (by omega) (Or.inr rfl) (b64 _) _ _ (New.refl _)).mono ?_
       rintro e w3 ⟨a, cap, rfl, hrow, hn, hn0⟩
       rw [ofInt_W64] at hrow
       have hz3 : w3.heap[w.heap.size + 1]? = some (.cells zs4.toList.toArray 53 (0, 0)) := by rw [hn.block _ (lt_of_block HZ.out)]; exact HZ.out
       have hr3 : w3.heap[w.heap.size]? = some (.cells zs4 53 (0, 0)) := by rw [hn.block _ (lt_of_block HR.out)]; exact HR.out
       have hn3 : New w w3 := (HN.out.drew).trans hn
       have hsrc : ∃ ad, a = some ad ∧ ∀ j v, ((told8 n 4).map fun x => Value.int .u64 (W64 x))[j]? = some v → w3.cell? (ad.add j) = some v := by
         obtain ⟨b, off, rfl, _⟩ := hrow.addr (by omega)
         exact ⟨_, rfl, fun j v hj => hrow.olds _ rfl j v hj⟩))
  have hg : w4.heap[w.heap.size + 1]? = some (.cells (c8 n).cells 53 (0, 0)) := hg4
  have hr4 : w4.heap[w.heap.size]? = some (.cells zw 53 (0, 0)) := by rw [hb4.block _ (by omega)]; exact hr3
  have hN4 : New w w4 := Below.trans hn3 (Below.mono hb4 (Nat.le_succ _))
  clear hg4 hb4 hn hn0 hn3 hz3 hr3 hsrc hrow z0
  have c0 := cell_of_row _ _ 0 _ _ _ hg
  have c1 := cell_of_row _ _ 1 _ _ _ hg
  have c2 := cell_of_row _ _ 2 _ _ _ hg
  have c3 := cell_of_row _ _ 3 _ _ _ hg
  have HN4 := Lib.hid hN4
  have HR4 := Lib.hid hr4
  clear hg hr4 hN4
  go_wp2_with fail
  refine (parts_any (c8 n) _).mono ?_
  rintro e w5 ⟨rfl, h5⟩
  go_wp2_with fail
  refine (seed8 n _).mono ?_
  rintro e w6 ⟨rfl, h6⟩
  have n6 := ((h5.trans h6).alloc (.cells #[.int .u64 (W64 (hi128 (s8 n))), .int .u64 (W64 (lo128 (s8 n)))] 24)).alloc (.cells #[.int .u64 (W64 (hi128 (i8 n))), .int .u64 (W64 (lo128 (i8 n)))] 24)
  have hx := (n6.block _ (lt_of_block HR4.out)).trans HR4.out
  have y0 := cell_of_row _ _ 0 _ _ _ hx
  have y1 := cell_of_row _ _ 1 _ _ _ hx
  have y2 := cell_of_row _ _ 2 _ _ _ hx
  have y3 := cell_of_row _ _ 3 _ _ _ hx
  have yf := fun i => frozen_of_row _ _ i _ _ hx
  have HN6 := Lib.hid (HN4.out.trans n6)
  clear n6 hx h5 h6 c0 c1 c2 c3 HR4 HN4
  go_wp2_with fail
  refine bodyPost_ret (by simp [results, Tryz.results73, go_sem, y0, y1, y2, y3]; try rfl) rfl ?_
  exact ⟨rfl, (((HN6.out.setCell (by show w.heap.size ≤ w.heap.size; omega) _).setCell (by show w.heap.size ≤ w.heap.size; omega) _).setCell (by show w.heap.size ≤ w.heap.size; omega) _).setCell (by show w.heap.size ≤ w.heap.size; omega) _⟩
theorem sdQ (n : BitVec 64) : SdC 8 n (w8 n) := by
  intro w g h
  cases h with
  | xosh k hk b h => omega
  | xoro k hk b b4 b5 b6 h h4 h5 h6 => omega
  | pcg64 => exact sdQ_any n w
/-- the words of a kind that are made out of a number -/
def sdW (k : Int) (n : BitVec 64) : W4 := if k = 1 then q1 n else if k ≤ 4 then w9 (sd9 n) else if k ≤ 6 then w10 (sd10 n) else if k = 7 then w7 n else w8 n
theorem sd_all (k : Int) (hk : okK k = true) (n : BitVec 64) : SdC k n (sdW k n) := by
  unfold okK at hk; simp at hk
  have h8 : k = 1 ∨ k = 2 ∨ k = 3 ∨ k = 4 ∨ k = 5 ∨ k = 6 ∨ k = 7 ∨ k = 8 := by omega
  rcases h8 with rfl | rfl | rfl | rfl | rfl | rfl | rfl | rfl
  · exact sd1 n
  · exact sdX 2 (by simp) n
  · exact sdX 3 (by simp) n
  · exact sdX 4 (by simp) n
  · exact sdO 5 (by simp) n
  · exact sdO 6 (by simp) n
  · exact sdP n
  · exact sdQ n
end Go.Proofs.YtoplabhoedloeaaGreat
