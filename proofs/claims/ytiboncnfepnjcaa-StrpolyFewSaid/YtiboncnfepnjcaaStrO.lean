/- strpoly.coefficients. -/
import Derived.Test.YtiboncnfepnjcaaStrH
import Derived.Test.YtiboncnfepnjcaaPolG
namespace Go.Proofs.Ytiboncnfepnjcaa
open Go Go.RowKit Go.Bv Go.Shelf
attribute [local go_sem] Oper.semAt_some
set_option linter.unusedVariables false
theorem own_setS {w : World} {base g n cap : Nat} {e : TypeId} {xs : List Value} (h : w.ownsRow base e 1 (.slice (some ⟨g, 0, none⟩) n cap) n xs) (k : Nat) (u : Value) : (w.setCell ⟨g, k, none⟩ u).ownsRow base e 1 (.slice (some ⟨g, 0, none⟩) n cap) n (xs.set k u) := by
  obtain ⟨hl, h | ⟨g', cap', cur, hv, hb, hc, h1, h2, h3, h4⟩⟩ := h
  · cases h.1
  · injection hv with e1 e2 e3
    cases e1; subst e3
    refine ⟨by rw [List.length_set]; exact hl, Or.inr ⟨g, cap, cur.setIfInBounds k u, rfl, hb, heap_setCell_same _ _ _ _ _ _ hc, h1, h2, by rw [Array.size_setIfInBounds]; exact h3, ?_⟩⟩
    rw [Array.toList_setIfInBounds, List.take_set, h4]
theorem own_farS {w : World} {base n : Nat} {e : TypeId} {v : Value} {xs : List Value} (h : w.ownsRow base e 1 v n xs) {a : Addr} (hv : v.ownBlock ≠ some a.block) (u : Value) : (w.setCell a u).ownsRow base e 1 v n xs := by
  obtain ⟨hl, h | ⟨g', cap', cur, rfl, hb, hc, h2⟩⟩ := h
  · exact ⟨hl, Or.inl h⟩
  · exact ⟨hl, Or.inr ⟨g', cap', cur, rfl, hb, (heap_setCell_other _ _ _ _ (fun e => hv (by rw [← e]; rfl))).trans hc, h2⟩⟩
theorem own_cellS {w : World} {base g n cap : Nat} {e : TypeId} {xs : List Value} (h : w.ownsRow base e 1 (.slice (some ⟨g, 0, none⟩) n cap) n xs) {k : Nat} (hk : k < n) : (∃ u, w.cell? ⟨g, k, none⟩ = some u) ∧ w.frozen? ⟨g, k, none⟩ = false := by
  obtain ⟨hl, h | ⟨g', cap', cur, hv, hb, hc, h1, h2, h3, h4⟩⟩ := h
  · cases h.1
  · injection hv with e1 e2 e3
    cases e1
    refine ⟨?_, frozen_of_row _ _ _ _ _ hc⟩
    rw [cell_of_row _ _ _ _ _ _ hc]
    exact ⟨_, Array.getElem?_eq_getElem (by omega)⟩
theorem own_cellsT {w : World} {base : Nat} {e : TypeId} {g n cap : Nat} {l : List (BitVec 64)} (h : w.ownsRow base e 1 (.slice (some ⟨g, 0, none⟩) n cap) n (l.map fun x => .int .u64 (W64 x))) :
    n ≤ cap ∧ cap ≤ maxLen ∧ ∃ cs : Array Value, w.heap[g]? = some (.cells cs e (0, 0)) ∧ cs.size = cap ∧ ∀ k, k < n → cs[k]? = some (.int .u64 (W64 (l.getD k 0))) := by
  obtain ⟨hl, h2⟩ := h
  rcases h2 with ⟨h3, _⟩ | ⟨g', cap', cur, hv, _, hg, h4, h5, h6, h7⟩
  · cases h3
  · cases hv
    rw [Nat.mul_one] at h6 h7
    refine ⟨h4, h5, cur, hg, h6, fun k hk => ?_⟩
    have hl2 : l.length = n := by simpa using hl
    have h8 : (cur.toList.take n)[k]? = (l.map fun x => Value.int .u64 (W64 x))[k]? := by rw [h7]
    rw [List.getElem?_take_of_lt hk, Array.getElem?_toList, List.getElem?_map, List.getElem?_eq_getElem (by omega)] at h8
    rw [h8, List.getD_eq_getElem?_getD, List.getElem?_eq_getElem (by omega)]; rfl
theorem box_far {W : World} {B : Nat} {t : TypeId} {v : Value} (h : Boxed W B t v) {a : Addr} (hne : a.block ≠ B) (u : Value) : Boxed (W.setCell a u) B t v := (heap_setCell_other _ _ _ _ (fun e => hne e.symm)).trans h
/-- the coefficients while they are written, from the highest one down -/
def cfL (N : Nat) (pre : List (BitVec 64)) : List (BitVec 64) := List.replicate (N - pre.length) 0#64 ++ (pre.reverse ++ [1#64])
theorem cfL_len {N : Nat} {pre : List (BitVec 64)} (h : pre.length ≤ N) : (cfL N pre).length = N + 1 := by unfold cfL; simp; omega
theorem rep_set (j : Nat) (R : List (BitVec 64)) (y : BitVec 64) : (List.replicate (j + 1) 0#64 ++ R).set j y = List.replicate j 0#64 ++ (y :: R) := by
  rw [List.replicate_succ', List.append_assoc, List.set_append_right _ _ (by simp), List.length_replicate, Nat.sub_self]; rfl
theorem cfL_step {N j : Nat} {pre : List (BitVec 64)} {y : BitVec 64} (h : N - pre.length = j + 1) : cfL N (pre ++ [y]) = (cfL N pre).set j y := by
  unfold cfL
  rw [List.length_append, List.reverse_append, h, rep_set, show N - (pre.length + [y].length) = j by simp; omega]
  rfl
theorem cfL_first (N : Nat) : cfL N [] = (List.replicate (N + 1) 0#64).set N 1#64 := by
  have h := rep_set N [] 1#64
  rw [List.append_nil] at h
  rw [h]; rfl
theorem cfL_last {l : List (BitVec 8)} {N : Nat} (h : (chL l).length = N) : cfL N (chL l) = monL l := by
  unfold cfL monL; rw [h, Nat.sub_self]; rfl
def cfI (Q N M : Nat) (w : World) (ti tq tu : TypeId) (pre : List (BitVec 64)) (W : World) : Prop :=
  Boxed W Q ti (.int .i64 ((N - pre.length : Nat) : Int)) ∧ Boxed W (Q + 1 + 1) tq (.slice (some ⟨Q + 1, 0, none⟩) M M) ∧ W.ownsRow Q tu 1 (.slice (some ⟨Q + 1, 0, none⟩) M M) M ((cfL N pre).map fun y => .int .u64 (W64 y))
theorem cf_own (Q N M : Nat) (w : World) (ti tq tu : TypeId) : Own (cfI Q N M w ti tq tu) := by
  rintro s X Y row ⟨h1, h2, h3⟩ hg hrow
  have far : ∀ {B t v}, Boxed X B t v → Boxed Y B t v := fun {B t v} hv => hv.kept hg (fun e' => by
    obtain ⟨o, ho, hc⟩ := hrow B e'.symm
    rw [show X.heap[B]? = _ from hv] at ho; cases ho; cases hc)
  refine ⟨far h1, far h2, h3.kept hg ?_⟩
  rcases h3.2 with ⟨h, _⟩ | ⟨g, cap, cur, h, _, hgb, _⟩
  · cases h
  · injection h with e1
    cases e1
    refine .inr fun e' => ?_
    obtain ⟨o, ho, hc⟩ := hrow (Q + 1) (by simpa [Value.ownBlock] using e'.symm)
    rw [hgb] at ho; cases ho; cases hc
theorem made_list (M : Nat) : (madeCells #[Value.int .u64 0] M).toList = (List.replicate M 0#64).map fun y => Value.int .u64 (W64 y) := by
  obtain ⟨h1, h2⟩ := made_q M (fun _ => 0#64)
  apply List.ext_getElem?
  intro i
  rw [Array.getElem?_toList]
  by_cases h : i < M
  · rw [h2 i h, List.getElem?_map, List.getElem?_replicate, if_pos h]
    simp
  · rw [Array.getElem?_eq_none (by omega), List.getElem?_eq_none (by simp; omega)]
theorem cf_start (w : World) (base N M : Nat) (hM : N + 1 = M) (hm : M ≤ 1000001) (hb : base ≤ w.heap.size) (t : TypeId) : (w.alloc (.cells ((madeCells #[.int .u64 0] M).setIfInBounds N (.int .u64 1)) t)).ownsRow base t 1 (.slice (some ⟨w.heap.size, 0, none⟩) M M) M ((cfL N []).map fun y => .int .u64 (W64 y)) := by
  obtain ⟨h1, _⟩ := made_q M (fun _ => 0#64)
  refine ⟨by rw [List.length_map, cfL_len (by simp)]; omega, .inr ⟨w.heap.size, M, _, rfl, hb, heap_alloc_new _ _, Nat.le_refl _, by unfold maxLen; omega, by rw [Array.size_setIfInBounds, h1, Nat.mul_one], ?_⟩⟩
  rw [Nat.mul_one, Array.toList_setIfInBounds, made_list, List.take_of_length_le (by rw [List.length_set, List.length_map, List.length_replicate]; exact Nat.le_refl _), cfL_first, hM, List.map_set]
  rfl
set_option maxRecDepth 100000 in
set_option maxHeartbeats 4000000 in
theorem coefs_o (a : Option Addr) (n c : Nat) (l : List (BitVec 8)) (w : World) (h : BRow w a n c l) (hlim : n ≤ 1000000) :
    Calls Try.prog 76 #[.slice a n c] w fun e w' => ∃ g cap, e = .returned (.slice (some ⟨g, 0, none⟩) (n / 7 + 2 : Nat) cap) ∧ w'.ownsRow w.heap.size 23 1 (.slice (some ⟨g, 0, none⟩) (n / 7 + 2 : Nat) cap) (n / 7 + 2) ((monL l).map fun y => .int .u64 (W64 y)) ∧ New w w' := by
  obtain ⟨i0, hi, hz0, hz1, hz2⟩ := info_parts info_u64q
  obtain ⟨N, hN⟩ : ∃ N, n / 7 + 1 = N := ⟨_, rfl⟩
  have hNm : N ≤ 1000000 := by omega
  obtain ⟨M, hM⟩ : ∃ M, N + 1 = M := ⟨_, rfl⟩
  have HC := Lib.hid (fun w => count_q a n c N hN hlim w)
  have HH := Lib.hid h
  have HE := Lib.hid (fun w => each_q a n c w)
  have hmk := fun w => run_make (P := Try.prog) w 22 23 i0 (.int .u64 0) Try.underlying22 hi hz0 .i64 .i64 (M : Int) M (by omega) (by omega) (by rw [hz2]; omega) (by omega)
  simp only [Int.toNat_natCast] at hmk
  have HMK := Lib.hid hmk
  have hw1 : (N : Int) + 1 = (M : Int) := by omega
  have h0N : (0 : Int) ≤ (N : Int) := by omega
  have hNN : (N : Int) < (M : Int) := by omega
  have hcN : (madeCells #[Value.int .u64 0] M)[N]? = some (.int .u64 0) := by
    rw [(made_q M (fun _ => 0#64)).2 N (by omega)]; rfl
  clear h hmk
  refine (callsIn_wide (n := 9)).1 ?_
  refine callsIn_of_wp_marks Try.func76 rfl trivial ?_ rfl
  simp only [Try.ntmps76, List.size_toArray, List.length_cons, List.length_nil, Nat.reduceAdd, Nat.reduceSub, Array.replicate_succ, Array.replicate_zero, List.push_toArray, List.append_toArray, List.nil_append, List.cons_append]
  gi_wp2
  refine ⟨trivial, ?_⟩
  refine (callsIn_wide.2 (HC.out _)).mono ?_
  rintro e w' ⟨rfl, hw⟩
  replace hw := hw.symm
  subst hw
  gi_wp2
  rw [HMK.out]
  gi_wp2
  refine ⟨trivial, ?_⟩
  refine (callsIn_wide.2 (HE.out _)).mono ?_
  rintro e w' ⟨rfl, hw⟩
  replace hw := hw.symm
  subst hw
  gi_wp2
  obtain ⟨A0, hA0⟩ : ∃ z, w.alloc (.cells #[.int .i64 N] 3) = z := ⟨_, rfl⟩
  have hs0 : A0.heap.size = w.heap.size + 1 := by rw [← hA0]; simp
  have hb0 : Boxed A0 w.heap.size 3 (.int .i64 N) := by rw [← hA0]; exact Boxed.new w _ _
  have hn0 : New w A0 := by rw [← hA0]; exact (New.refl w).alloc _
  simp only [hA0]
  clear hA0
  obtain ⟨A1, hA1⟩ : ∃ z, A0.alloc (.cells ((madeCells #[.int .u64 0] M).setIfInBounds N (.int .u64 1)) 23) = z := ⟨_, rfl⟩
  have hs1 : A1.heap.size = w.heap.size + 2 := by rw [← hA1]; simp [hs0]
  have hr1 : A1.ownsRow w.heap.size 23 1 (.slice (some ⟨w.heap.size + 1, 0, none⟩) M M) M ((cfL N []).map fun y => .int .u64 (W64 y)) := by
    have := cf_start A0 w.heap.size N M hM (by omega) (by omega) 23
    rw [hs0] at this; rw [← hA1]; exact this
  have hb1 : Boxed A1 w.heap.size 3 (.int .i64 N) := by rw [← hA1]; exact hb0.alloc _
  have hn1 : New w A1 := by rw [← hA1]; exact hn0.alloc _
  simp only [hA1]
  clear hA1 hs0 hb0 hn0
  obtain ⟨A2, hA2⟩ : ∃ z, A1.alloc (.cells #[.slice (some ⟨w.heap.size + 1, 0, none⟩) M M] 22) = z := ⟨_, rfl⟩
  have hs2 : A2.heap.size = w.heap.size + 3 := by rw [← hA2]; simp [hs1]
  have hr2 : A2.ownsRow w.heap.size 23 1 (.slice (some ⟨w.heap.size + 1, 0, none⟩) M M) M ((cfL N []).map fun y => .int .u64 (W64 y)) := by rw [← hA2]; exact hr1.alloc _
  have hb2 : Boxed A2 w.heap.size 3 (.int .i64 N) := by rw [← hA2]; exact hb1.alloc _
  have ho2 : Boxed A2 (w.heap.size + 1 + 1) 22 (.slice (some ⟨w.heap.size + 1, 0, none⟩) M M) := by rw [← hA2, show w.heap.size + 1 + 1 = A1.heap.size by omega]; exact Boxed.new A1 _ _
  have hn2 : New w A2 := by rw [← hA2]; exact hn1.alloc _
  simp only [hA2]
  clear hA2 hs1 hb1 hn1 hr1
  have hs3 : (A2.alloc (.cells #[.slice a n c] 48)).heap.size = w.heap.size + 4 := by simp [hs2]
  have hB := heap_alloc_new A2 (.cells #[.slice a n c] 48)
  rw [hs2, show w.heap.size + 3 = w.heap.size + 1 + 1 + 1 by omega] at hB
  have hN3 : New w (A2.alloc (.cells #[.slice a n c] 48)) := hn2.alloc _
  have hI : cfI w.heap.size N M w 3 22 23 [] (A2.alloc (.cells #[.slice a n c] 48)) := ⟨hb2.alloc _, ho2.alloc _, hr2.alloc _⟩
  generalize A2.alloc (.cells #[.slice a n c] 48) = w3 at *
  clear hs2 hr2 hb2 ho2 hn2
  refine wpIn_rangeFunc_ownF (F := Fence.wide) (n := 9) rfl (by omega) (gf := 84) (lb := #[.pointer (some ⟨w.heap.size + 1 + 1 + 1, 0, none⟩)]) rfl trivial (enters_of Try.func84 (by kernel_rfl) rfl)
    (each_stops 8 (w.heap.size + 1 + 1 + 1) a n c l w w3 (by omega) hN3 hB HH.out (by omega)) belowK_t (belowK_b (by rw [hs3]; omega)) (Below.refl _ _) (fun _ => rfl)
    (fun pre W => cfI w.heap.size N M w 3 22 23 pre W ∧ Below w.heap.size w W)
    (fun _ _ _ => False)
    (OwnFrom.and (Own.from (cf_own w.heap.size N M w 3 22 23) _) (ownFrom_below (Nat.le_refl _) (by rw [hs3]; omega)))
    (fun _ _ _ _ _ hs _ _ => hs)
    ⟨hI, hN3⟩
    (fun y => { tmps := #[.slice a n c, undef, .slice none 0 0, .pointer (some ⟨w.heap.size, 0, none⟩), .pointer (some ⟨w.heap.size + 1 + 1, 0, none⟩), .int .u64 (W64 y), .slice a n c, .int .i64 N, .int .i64 N, .int .i64 M, .slice (some ⟨w.heap.size + 1, 0, none⟩) M M, .slice (some ⟨w.heap.size + 1, 0, none⟩) M M, .int .i64 N, .pointer (some ⟨w.heap.size + 1, N, none⟩), .slice a n c, .func (.func 84) #[] #[.pointer (some ⟨w.heap.size + 1 + 1 + 1, 0, none⟩)], .int .u64 (W64 y), undef, undef, undef, undef, undef, undef, undef], defers := [] }) ?assign ?body ?done ?stop
  case assign =>
    intro l y W K hK
    gi_wp2
    exact hK
  case body =>
    rintro rl pre y W ⟨⟨hn, ho, hr⟩, hbw⟩ hlen
    obtain ⟨j, hj⟩ : ∃ j, N - pre.length = j + 1 := ⟨N - pre.length - 1, by omega⟩
    have hcs := cfL_step (y := y) hj
    have hjm : j < M := by omega
    have hpl : N - (pre ++ [y]).length = j := by simp; omega
    rw [hj] at hn
    have hcn := hn.cell
    have hfn := hn.frozen
    have hw2 : wrap64 (((j + 1 : Nat) : Int) - 1) = (j : Int) := by unfold wrap64; omega
    have hn1 := hn.set (.int .i64 (j : Int))
    have ho1 := box_far ho (a := ⟨w.heap.size, 0, none⟩) (by show w.heap.size ≠ w.heap.size + 1 + 1; omega) (.int .i64 (j : Int))
    have hr1 := own_farS hr (a := ⟨w.heap.size, 0, none⟩) (by simp [Value.ownBlock]) (.int .i64 (j : Int))
    have hb1 : Below w.heap.size W (W.setCell ⟨w.heap.size, 0, none⟩ (.int .i64 (j : Int))) := (Below.refl w.heap.size W).setCell (p := ⟨w.heap.size, 0, none⟩) (Nat.le_refl _) _
    have hk1 := KeepsOthers.setCell W ⟨w.heap.size, 0, none⟩ (.int .i64 (j : Int))
    obtain ⟨W1, hW1⟩ : ∃ z, W.setCell ⟨w.heap.size, 0, none⟩ (.int .i64 (j : Int)) = z := ⟨_, rfl⟩
    rw [hW1] at hn1 ho1 hr1 hb1 hk1
    have hcn1 := hn1.cell
    have hco1 := ho1.cell
    obtain ⟨⟨u1, hcu1⟩, hfu1⟩ := own_cellS hr1 hjm
    have hj0 : (0 : Int) ≤ (j : Int) := by omega
    have hjM : (j : Int) < (M : Int) := by omega
    have HP : Hid (KeepsOthers W (W1.setCell ⟨w.heap.size + 1, j, none⟩ (.int .u64 (W64 y))) ∧ Below w.heap.size W (W1.setCell ⟨w.heap.size + 1, j, none⟩ (.int .u64 (W64 y))) ∧ cfI w.heap.size N M w 3 22 23 (pre ++ [y]) (W1.setCell ⟨w.heap.size + 1, j, none⟩ (.int .u64 (W64 y)))) := Lib.hid (by
      refine ⟨hk1.trans (KeepsOthers.setCell _ _ _), hb1.setCell (p := ⟨w.heap.size + 1, j, none⟩) (Nat.le_succ _) _, ?_, box_far ho1 (by show w.heap.size + 1 ≠ w.heap.size + 1 + 1; omega) _, ?_⟩
      · rw [hpl]; exact box_far hn1 (by show w.heap.size + 1 ≠ w.heap.size; omega) _
      · rw [hcs, List.map_set]; exact own_setS hr1 j _)
    have HB := Lib.hid hbw
    clear hn ho hr hbw hn1 ho1 hr1 hb1 hk1 hcs hpl hj
    gi_wp2
    exact ⟨HP.out.1, HP.out.2.1, HP.out.2.2, HB.out.trans HP.out.2.1⟩
  case done =>
    rintro D ys W hD rfl ⟨⟨hn, ho, hr⟩, hbw⟩ hK
    have hcs : cfL N (chL l) = monL l := cfL_last (by rw [chL_len, HH.out.len_eq, hN])
    rw [hcs] at hr
    have hco := ho.cell
    have hro := ownsRow_putObj hr (.deferred none) hK rfl
    have HQ := Lib.hid hro
    gi_wp2
    refine ⟨by simp, .inl ⟨_, _, rfl, run_takeDeferred hK, ?_⟩⟩
    obtain rfl : M = n / 7 + 2 := by omega
    exact ⟨_, results_tmp rfl _ _ _, _, _, rfl, HQ.out, hbw.trans (belowK_b (Nat.le_refl _) W D _ _ (by omega) hK rfl rfl)⟩
  case stop =>
    rintro D c pre W hD _ h _
    exact h.elim
theorem coefs_q (a : Option Addr) (n c : Nat) (l : List (BitVec 8)) (w : World) (h : BRow w a n c l) (hlim : n ≤ 1000000) :
    Calls Try.prog 76 #[.slice a n c] w fun e w' => ∃ a' c', e = .returned (.slice a' (n / 7 + 2 : Nat) c') ∧ QRow w' a' (n / 7 + 2) c' (monL l) ∧ New w w' :=
  (coefs_o a n c l w h hlim).mono (fun e w' ⟨g, cap, he, ho, hn⟩ => by
    obtain ⟨a', c', h1, h2⟩ := QRow.of_owns ho (by omega)
    rw [h1] at he
    exact ⟨a', c', he, h2, hn⟩)
end Go.Proofs.Ytiboncnfepnjcaa
