/- strpoly.Chunks. -/
import Derived.Test.YtiboncnfepnjcaaStrF
import Derived.Maps.AppendAt
namespace Go.Proofs.Ytiboncnfepnjcaa
open Go Go.RowKit Go.Bv Go.Shelf
attribute [local go_sem] Oper.semAt_some
set_option linter.unusedVariables false
theorem count_q (a : Option Addr) (n c N : Nat) (hN : n / 7 + 1 = N) (hm : n ≤ 1000000) (w : World) :
    Calls Try.prog 70 #[.slice a n c] w fun e w' => e = .returned (.int .i64 (N : Int)) ∧ w' = w := by
  have h1 : Int.tdiv (n : Int) 7 = ((n / 7 : Nat) : Int) := by rw [Int.tdiv_eq_ediv_of_nonneg (by omega)]; omega
  obtain ⟨q, hq⟩ : ∃ q, n / 7 = q := ⟨_, rfl⟩
  have h2 : (n : Int) / 7 = (q : Int) := by omega
  rw [hq] at h1 hN
  have hqm : q ≤ 1000000 := by omega
  clear hq
  subst hN
  go_enter Try.func70, Try.ntmps70
  go_wp2
  go_ret
  exact ⟨by simp, rfl⟩
set_option maxRecDepth 100000 in
set_option maxHeartbeats 4000000 in
theorem schunks_q (a : Option Addr) (n c : Nat) (l : List (BitVec 8)) (w : World) (h : BRow w a n c l) (hlim : n ≤ 1000000) :
    Calls Try.prog 43 #[.slice a n c] w fun e w' => ∃ a' c', e = .returned (.slice a' (n / 7 + 1 : Nat) c') ∧ QRow w' a' (n / 7 + 1) c' (chL l) ∧ New w w' := by
  obtain ⟨i0, hi, hz0, hz1, hz2⟩ := info_parts info_u64q
  obtain ⟨N, hN⟩ : ∃ N, n / 7 + 1 = N := ⟨_, rfl⟩
  have hNm : N ≤ 1000000 := by omega
  have HC := Lib.hid (fun w => count_q a n c N hN hlim w)
  have HH := Lib.hid h
  have HE := Lib.hid (fun w => each_q a n c w)
  have hmk := run_make (P := Try.prog) w 22 23 i0 (.int .u64 0) Try.underlying22 hi hz0 .i64 .i64 0 N (Int.le_refl _) (by omega) (by rw [hz2]; omega) (by omega)
  simp only [Int.toNat_zero, Int.toNat_natCast] at hmk
  have HMK := Lib.hid hmk
  clear h hmk
  refine (callsIn_wide (n := 9)).1 ?_
  refine callsIn_of_wp_marks Try.func43 rfl trivial ?_ rfl
  simp only [Try.ntmps43, List.size_toArray, List.length_cons, List.length_nil, Nat.reduceAdd, Nat.reduceSub, Array.replicate_succ, Array.replicate_zero, List.push_toArray, List.append_toArray, List.nil_append, List.cons_append]
  gi_wp2
  refine ⟨trivial, ?_⟩
  refine (callsIn_wide.2 (HC.out _)).mono ?_
  rintro e w' ⟨rfl, hw⟩
  replace hw := hw.symm
  subst hw
  gi_wp2
  rw [HMK.out]
  gi_wp2
  refine ⟨trivial, ?_⟩
  refine (callsIn_wide.2 (HE.out _)).mono ?_
  rintro e w' ⟨rfl, hw⟩
  replace hw := hw.symm
  subst hw
  gi_wp2
  have hs1 : (w.alloc (.cells (madeCells #[.int .u64 0] N) 23)).heap.size = w.heap.size + 1 := by simp
  have hs2 : ((w.alloc (.cells (madeCells #[.int .u64 0] N) 23)).alloc (.cells #[.slice (some ⟨w.heap.size, 0, none⟩) 0 N] 22)).heap.size = w.heap.size + 1 + 1 := by simp
  have hbx := Boxed.new (w.alloc (.cells (madeCells #[.int .u64 0] N) 23)) 22 (.slice (some ⟨w.heap.size, 0, none⟩) 0 N)
  rw [hs1] at hbx
  have hbx3 := hbx.alloc (.cells #[.slice a n c] 48)
  have how : (w.alloc (.cells (madeCells #[.int .u64 0] N) 23)).ownsRow w.heap.size 23 1 (.slice (some ⟨w.heap.size, 0, none⟩) 0 N) 0 [] := World.ownsRow_made w _ N (Nat.le_refl _) (by unfold maxLen; omega) (by rw [size_madeCells, Nat.mul_one])
  have how3 := (how.alloc (.cells #[.slice (some ⟨w.heap.size, 0, none⟩) 0 N] 22)).alloc (.cells #[.slice a n c] 48)
  have hB := heap_alloc_new ((w.alloc (.cells (madeCells #[.int .u64 0] N) 23)).alloc (.cells #[.slice (some ⟨w.heap.size, 0, none⟩) 0 N] 22)) (.cells #[.slice a n c] 48)
  rw [hs2] at hB
  have hN3 : New w (((w.alloc (.cells (madeCells #[.int .u64 0] N) 23)).alloc (.cells #[.slice (some ⟨w.heap.size, 0, none⟩) 0 N] 22)).alloc (.cells #[.slice a n c] 48)) := (((New.refl w).alloc _).alloc _).alloc _
  have hs3 : (((w.alloc (.cells (madeCells #[.int .u64 0] N) 23)).alloc (.cells #[.slice (some ⟨w.heap.size, 0, none⟩) 0 N] 22)).alloc (.cells #[.slice a n c] 48)).heap.size = w.heap.size + 3 := by simp
  generalize ((w.alloc (.cells (madeCells #[.int .u64 0] N) 23)).alloc (.cells #[.slice (some ⟨w.heap.size, 0, none⟩) 0 N] 22)).alloc (.cells #[.slice a n c] 48) = w3 at *
  clear hs1 hs2 hbx how
  refine wpIn_rangeFunc_ownF (F := Fence.wide) (n := 9) rfl (by omega) (gf := 84) (lb := #[.pointer (some ⟨w.heap.size + 1 + 1, 0, none⟩)]) rfl trivial (enters_of Try.func84 (by kernel_rfl) rfl)
    (each_stops 8 (w.heap.size + 1 + 1) a n c l w w3 (by omega) hN3 hB HH.out (by omega)) belowK_t (belowK_b (by rw [hs3]; omega)) (Below.refl _ _) (fun _ => rfl)
    (fun pre W => (∃ v, Boxed W (w.heap.size + 1) 22 v ∧ W.ownsRow w.heap.size 23 1 v pre.length (pre.map fun y => .int .u64 (W64 y)) ∧ True) ∧ Below w.heap.size w W)
    (fun _ _ _ => False)
    (OwnFrom.and (Own.from (holdsRow_own w.heap.size (w.heap.size + 1) 22 23 1 (fun pre : List (BitVec 64) => pre.length) (fun pre => pre.map fun y => .int .u64 (W64 y)) (fun _ _ => True)) _) (ownFrom_below (Nat.le_refl _) (by rw [hs3]; omega)))
    (fun _ _ _ _ _ hs _ _ => hs)
    ⟨⟨_, hbx3, how3, trivial⟩, hN3⟩
    (fun y => { tmps := #[.slice a n c, undef, .slice none 0 0, .pointer (some ⟨w.heap.size + 1, 0, none⟩), .int .u64 (W64 y), .slice a n c, .int .i64 N, .slice (some ⟨w.heap.size, 0, none⟩) 0 N, .slice a n c, .func (.func 84) #[] #[.pointer (some ⟨w.heap.size + 1 + 1, 0, none⟩)], .int .u64 (W64 y), undef, undef, undef, undef, undef], defers := [] }) ?assign ?body ?done ?stop
  case assign =>
    intro l y W K hK
    gi_wp2
    exact hK
  case body =>
    rintro rl pre y W ⟨⟨v, hv, hrow, _⟩, hbw⟩ hlen
    have hvc := hv.cell
    have hle := hbw.size
    have hpl : pre.length ≤ 1000000 := by omega
    gi_wp2_with (gi_at_builtin; refine wpListIn_append_own _ rfl _ _ 22 rfl w.heap.size 23 i0 (.int .u64 0) 1 8 Try.underlying22 hi hz0 hz1 hz2 rfl (by decide) _ _ _ rfl (hrow.alloc _) ⟨W.heap.size, 0, none⟩ 1 1 [.int .u64 (W64 y)] rfl rfl (cell_one_new _ _ _) (by simp [Value.oneCell']) (by unfold maxLen; omega) (by omega) (by simp; omega) ?_; intro v' w1 hown' hgrow _; obtain ⟨g', cap', rfl⟩ := ownsRow_succ hown'; obtain ⟨hv1, hv2, hr2, hk2, hb2⟩ := hv.appended (by decide) hrow hle (Nat.le_succ _) hown' hgrow; have hc1 := hv1.cell; have hf1 := hv1.frozen)
    exact ⟨hk2, hb2, ⟨_, hv2, by rw [List.length_append, List.map_append]; exact hr2, trivial⟩, hbw.trans hb2⟩
  case done =>
    rintro D ys W hD rfl ⟨⟨v, hv, hrow, _⟩, hbw⟩ hK
    have hvc := hv.cell
    have hlc : (chL l).length = N := by rw [chL_len, HH.out.len_eq, hN]
    rw [hlc] at hrow
    have hro := ownsRow_putObj hrow (.deferred none) hK rfl
    obtain ⟨a', cap', rfl, hq⟩ := QRow.of_owns hro (by omega)
    have HQ := Lib.hid hq
    gi_wp2
    refine ⟨by simp, .inl ⟨_, _, rfl, run_takeDeferred hK, ?_⟩⟩
    subst hN
    exact ⟨_, results_tmp rfl _ _ _, a', cap', rfl, HQ.out, hbw.trans (belowK_b (Nat.le_refl _) W D _ _ (by omega) hK rfl rfl)⟩
  case stop =>
    rintro D c pre W hD _ h _
    exact h.elim
end Go.Proofs.Ytiboncnfepnjcaa
