/- strpoly.Eval. -/
import Derived.Test.YtiboncnfepnjcaaStrD
namespace Go.Proofs.Ytiboncnfepnjcaa
open Go Go.RowKit Go.Bv Go.Shelf
attribute [local go_sem] Oper.semAt_some
set_option linter.unusedVariables false
/-- one chunk more, whatever it is -/
def stp (x h y : BitVec 64) : BitVec 64 := if y.toNat < PP then mp (h.toNat * x.toNat + y.toNat) else 0#64
def fo (x : BitVec 64) (pre : List (BitVec 64)) : BitVec 64 := pre.foldl (stp x) 1#64
theorem fo_snoc (x : BitVec 64) (pre : List (BitVec 64)) (y : BitVec 64) : fo x (pre ++ [y]) = stp x (fo x pre) y := by unfold fo; rw [List.foldl_append]; rfl
theorem stp_lt (x h y : BitVec 64) : (stp x h y).toNat < PP := by
  unfold stp; split
  · exact mp_lt _
  · decide
theorem fo_lt (x : BitVec 64) (pre : List (BitVec 64)) : (fo x pre).toNat < PP := by
  rcases List.eq_nil_or_concat pre with rfl | ⟨l, y, rfl⟩
  · show (1#64 : BitVec 64).toNat < PP; decide
  · rw [List.concat_eq_append, fo_snoc]; exact stp_lt _ _ _
theorem sapp_any (a h x : BitVec 64) (ha : a.toNat < PP) (hh : h.toNat < PP) (w : World) :
    Calls Try.prog 49 #[.int .u64 (W64 a), .int .u64 (W64 h), .int .u64 (W64 x)] w fun e w' => ∃ er : Int, e = .returned (.tuple #[.int .u64 (W64 (stp a h x)), .int .i64 er]) ∧ New w w' := by
  unfold stp
  by_cases hx : x.toNat < PP
  · rw [if_pos hx]
    exact (sapp_ok a h x ha hh hx w).mono (fun e w' hh => ⟨0, hh⟩)
  · rw [if_neg hx, lo_zero]
    exact (sapp_no a h x ha hh hx w).mono (fun e w' hh => ⟨2, hh⟩)
theorem fo_hor (x : BitVec 64) : ∀ pre : List (BitVec 64), (∀ y ∈ pre, y.toNat < PP) → fo x pre = hor x pre := by
  intro pre h
  unfold fo hor
  have : ∀ (l : List (BitVec 64)) (h0 : BitVec 64), (∀ y ∈ l, y.toNat < PP) → l.foldl (stp x) h0 = l.foldl (fun h y => mp (h.toNat * x.toNat + y.toNat)) h0 := by
    intro l
    induction l with
    | nil => intro h0 _; rfl
    | cons y l ih =>
      intro h0 hl
      rw [List.foldl_cons, List.foldl_cons, ih _ (fun z hz => hl z (List.mem_cons_of_mem _ hz))]
      congr 1
      unfold stp; rw [if_pos (hl y List.mem_cons_self)]
  exact this pre _ h
theorem chL_lt (l : List (BitVec 8)) : ∀ y ∈ chL l, y.toNat < PP := by
  intro y hy
  unfold chL at hy
  rcases List.mem_append.1 hy with h | h
  · unfold chP at h
    obtain ⟨i, _, rfl⟩ := List.mem_map.1 h
    have := num_lt (fun j => l.getD (7 * i + j) 0) 7 (by omega)
    exact Nat.lt_trans (show (rd l (7 * i) 7).toNat < 256 ^ 7 from this) (by decide)
  · rw [List.mem_singleton] at h
    subst h
    unfold chZ
    have h1 : l.length % 7 ≤ 6 := by omega
    have h2 := num_lt (fun j => l.getD (7 * (l.length / 7) + j) 0) (l.length % 7) (by omega)
    have h3 : (rd l (7 * (l.length / 7)) (l.length % 7)).toNat < 256 ^ (l.length % 7) := h2
    have h4 : 256 ^ (l.length % 7) ≤ 256 ^ 6 := Nat.pow_le_pow_right (by omega) h1
    rw [BitVec.toNat_add, BitVec.toNat_ofNat]
    have h5 : (256 : Nat) ^ 6 = 281474976710656 := by decide
    show _ < 2305843009213693951
    omega
set_option maxRecDepth 100000 in
set_option maxHeartbeats 4000000 in
theorem seval_ok (x : BitVec 64) (a : Option Addr) (n c : Nat) (l : List (BitVec 8)) (w : World) (h : BRow w a n c l) (hlim : n ≤ 4096) (hx : x.toNat < PP) :
    Calls Try.prog 47 #[.int .u64 (W64 x), .slice a n c] w fun e w' => e = .returned (.tuple #[.int .u64 (W64 (hor x (chL l))), .int .i64 0]) ∧ New w w' := by
  have hg : decide (2305843009213693951 ≤ W64 x) = false := decide_eq_false (by unfold PP at hx; unfold W64; omega)
  have hle : ¬ (4096 : Int) < (n : Int) := by omega
  have HH := Lib.hid h
  have HE := Lib.hid (fun w => each_q a n c w)
  clear h
  refine (callsIn_wide (n := 9)).1 ?_
  refine callsIn_of_wp_marks Try.func47 rfl trivial ?_ rfl
  simp only [Try.ntmps47, List.size_toArray, List.length_cons, List.length_nil, Nat.reduceAdd, Nat.reduceSub, Array.replicate_succ, Array.replicate_zero, List.push_toArray, List.append_toArray, List.nil_append, List.cons_append]
  gi_wp2
  refine ⟨trivial, ?_⟩
  refine (callsIn_wide.2 (HE.out _)).mono ?_
  rintro e w' ⟨rfl, hw⟩
  replace hw := hw.symm
  subst hw
  gi_wp2
  have hb1 := heap_alloc_new w (.cells #[.int .u64 (W64 x)] 23)
  have hs1 : (w.alloc (.cells #[.int .u64 (W64 x)] 23)).heap.size = w.heap.size + 1 := by simp
  have hs2 : ((w.alloc (.cells #[.int .u64 (W64 x)] 23)).alloc (.cells #[.int .u64 1] 23)).heap.size = w.heap.size + 1 + 1 := by simp
  have hn2 := (New.refl (w.alloc (.cells #[.int .u64 (W64 x)] 23))).alloc (.cells #[.int .u64 1] 23)
  have hn3 := (New.refl ((w.alloc (.cells #[.int .u64 (W64 x)] 23)).alloc (.cells #[.int .u64 1] 23))).alloc (.cells #[.slice a n c] 48)
  have hX := (hn3.block _ (by rw [hs2]; omega)).trans ((hn2.block _ (by rw [hs1]; omega)).trans hb1)
  have hb2 := heap_alloc_new (w.alloc (.cells #[.int .u64 (W64 x)] 23)) (.cells #[.int .u64 1] 23)
  rw [hs1] at hb2
  have hH := (hn3.block _ (by rw [hs2]; omega)).trans hb2
  have hB := heap_alloc_new ((w.alloc (.cells #[.int .u64 (W64 x)] 23)).alloc (.cells #[.int .u64 1] 23)) (.cells #[.slice a n c] 48)
  rw [hs2] at hB
  have hN : New w (((w.alloc (.cells #[.int .u64 (W64 x)] 23)).alloc (.cells #[.int .u64 1] 23)).alloc (.cells #[.slice a n c] 48)) := (((New.refl w).alloc _).alloc _).alloc _
  have hs3 : (((w.alloc (.cells #[.int .u64 (W64 x)] 23)).alloc (.cells #[.int .u64 1] 23)).alloc (.cells #[.slice a n c] 48)).heap.size = w.heap.size + 3 := by simp
  generalize ((w.alloc (.cells #[.int .u64 (W64 x)] 23)).alloc (.cells #[.int .u64 1] 23)).alloc (.cells #[.slice a n c] 48) = w3 at *
  clear hb1 hs1 hs2 hn2 hn3 hb2
  have hcX : w3.cell? ⟨w.heap.size, 0, none⟩ = some (.int .u64 (W64 x)) := by rw [cell_of_row _ _ _ _ _ _ hX]; rfl
  have hcH : w3.cell? ⟨w.heap.size + 1, 0, none⟩ = some (.int .u64 (W64 (fo x []))) := by rw [cell_of_row _ _ _ _ _ _ hH]; rfl
  have hfH := frozen_of_row w3 (w.heap.size + 1) 0 _ _ hH
  refine wpIn_rangeFunc_ownF (F := Fence.wide) (n := 9) rfl (by omega) (gf := 84) (lb := #[.pointer (some ⟨w.heap.size + 1 + 1, 0, none⟩)]) rfl trivial (enters_of Try.func84 (by kernel_rfl) rfl)
    (each_stops 8 (w.heap.size + 1 + 1) a n c l w w3 (by omega) hN hB HH.out (by omega)) belowK_t (belowK_b (by rw [hs3]; omega)) (Below.refl _ _) (fun _ => rfl)
    (fun pre W => (W.cell? ⟨w.heap.size + 1, 0, none⟩ = some (.int .u64 (W64 (fo x pre))) ∧ W.frozen? ⟨w.heap.size + 1, 0, none⟩ = false ∧ W.cell? ⟨w.heap.size, 0, none⟩ = some (.int .u64 (W64 x))) ∧ Below w.heap.size w W)
    (fun _ _ _ => False)
    (OwnFrom.and (Own.from (fun s A B row hs hg hr => ⟨cell_kept hs.1 hg hr, (frozen_kept hs.1 hg hr).trans hs.2.1, cell_kept hs.2.2 hg hr⟩) _) (ownFrom_below (Nat.le_refl _) (by rw [hs3]; omega)))
    (fun _ _ _ _ _ hs _ _ => hs)
    ⟨⟨hcH, hfH, hcX⟩, hN⟩
    (fun y => { tmps := #[.int .u64 (W64 x), .slice a n c, .pointer (some ⟨w.heap.size, 0, none⟩), undef, .int .u64 0, .int .i64 0, .pointer (some ⟨w.heap.size + 1, 0, none⟩), .int .u64 (W64 y), .slice a n c, .int .i64 n, .bool false, .int .u64 (W64 x), .bool false, .slice a n c, .func (.func 84) #[] #[.pointer (some ⟨w.heap.size + 1 + 1, 0, none⟩)], .int .u64 (W64 y), undef, undef, undef, undef, undef, undef, undef, undef], defers := [] }) ?assign ?body ?done ?stop
  case assign =>
    intro l y W K hK
    gi_wp2
    exact hK
  case body =>
    rintro rl pre y W ⟨⟨hc, hf, hx0⟩, hbw⟩ _
    have HA := Lib.hid (sapp_any x (fo x pre) y hx (fo_lt x pre) W)
    gi_wp2
    refine ⟨trivial, ?_⟩
    refine (CallsIn.inRound rl (callsIn_wide.2 HA.out)).mono ?_
    rintro e W1 ⟨er, rfl, hn⟩
    have hlt := World.block_lt_of_cell? _ _ hc
    have hc1 := (hn.cell (a := ⟨w.heap.size + 1, 0, none⟩) hlt).trans hc
    have hf1 : W1.frozen? ⟨w.heap.size + 1, 0, none⟩ = false := (World.frozen?_of_block (hn.block _ hlt)).trans hf
    have hx1 := (hn.cell (a := ⟨w.heap.size, 0, none⟩) (World.block_lt_of_cell? _ _ hx0)).trans hx0
    have hg1 : W.grownBy W1 none := ⟨hn.1, hn.2, hn.3, hn.4, fun k hk _ => hn.5 k hk⟩
    have HB1 := Lib.hid (hbw.trans (hn.mono hbw.size))
    have HN1 := Lib.hid (hn.mono hbw.size)
    gi_wp2
    exact ⟨(KeepsOthers.of_grownBy hg1 (by simp)).trans (KeepsOthers.setCell _ _ _), HN1.out.trans ((Below.refl w.heap.size W1).setCell (p := ⟨w.heap.size + 1, 0, none⟩) (Nat.le_succ _) _), ⟨⟨by rw [fo_snoc]; exact World.cell?_setCell_same' _ _ _ (by rw [hc1]; rfl), by rw [World.frozen?_setCell]; exact hf1, (World.cell?_of_block (a := ⟨w.heap.size, 0, none⟩) (heap_setCell_other W1 ⟨w.heap.size + 1, 0, none⟩ w.heap.size _ (by show w.heap.size ≠ w.heap.size + 1; omega))).trans hx1⟩, HB1.out.setCell (p := ⟨w.heap.size + 1, 0, none⟩) (Nat.le_succ _) _⟩⟩
  case done =>
    rintro D ys W hD rfl ⟨⟨hc, hf, hx0⟩, hbw⟩ hK
    rw [fo_hor x _ (chL_lt l)] at hc
    gi_wp2
    refine ⟨by simp, .inl ⟨_, _, rfl, run_takeDeferred hK, ?_⟩⟩
    exact ⟨_, results_tmp2 rfl _ _ _, rfl, hbw.trans (belowK_b (Nat.le_refl _) W D _ _ (by omega) hK rfl rfl)⟩
  case stop =>
    rintro D c pre W hD _ h _
    exact h.elim
end Go.Proofs.Ytiboncnfepnjcaa
