import Derived.Test.YtajjpllhihgkdaaSubC
import Derived.Test.YtajjpllhihgkdaaEvnD
import Derived.Maps.AppendAt
import Derived.Test.YtajjpllhihgkdaaMovM
/- subset: the example; the law SubsetOnly. -/
namespace Go.Proofs.Ytajjpllhihgkdaa
open Go Go.RowKit Go.Bv
set_option linter.unusedVariables false
end Go.Proofs.Ytajjpllhihgkdaa
/- subset: the draws; the document's Take. · subset.Take. -/
namespace Go.Proofs.Ytajjpllhihgkdaa
open Go Go.RowKit Go.Bv
set_option linter.unusedVariables false
theorem lmP_get {n m k : Nat} (h : m < k) : (lmP n k).getD m 0 = BitVec.ofNat 64 (n - m) := by
  unfold lmP
  rw [List.getD_eq_getElem?_getD, List.getElem?_map, List.getElem?_range h]; rfl
/-- the numbers of the first draws -/
def cdS (ds : List Drw) (k : Nat) : List Int := liI (fun i => ((ds.getD i dz).1).toNat) k
theorem cdS_len (ds : List Drw) (k : Nat) : (cdS ds k).length = k := liI_len _ _
theorem cdS_succ (ds : List Drw) (k : Nat) : cdS ds (k + 1) = cdS ds k ++ [((((ds.getD k dz).1).toNat : Nat) : Int)] := liI_succ _ _
theorem lmP_lt {l : List (BitVec 64)} {n m : Nat} {ds : List Drw} {k : Nat} (hn : n ≤ 1000000) (hm : m ≤ n) (h : drS l (lmP n m) m = some (ds, k)) : ∀ i, i < m → ((ds.getD i dz).1).toNat < n - i := by
  intro i hi
  have h1 := drS_lt (fun i hi => by rw [lmP_get hi]; exact (ofNat_pos (r := n - i) (by omega) (by omega)).1) h i hi
  rw [lmP_get hi, (ofNat_pos (r := n - i) (by omega) (by omega)).2] at h1
  exact h1
theorem cdS_rp {l : List (BitVec 64)} {n m : Nat} {ds : List Drw} {k : Nat} (hn : n ≤ 1000000) (hm : m ≤ n) (h : drS l (lmP n m) m = some (ds, k)) : rp2 n (cdS ds m) := by
  refine ⟨by rw [cdS_len]; exact hm, fun i hi => ?_⟩
  rw [cdS_len] at hi
  have h1 := lmP_lt hn hm h i hi
  unfold cdS
  rw [liI_get _ hi]
  omega
end Go.Proofs.Ytajjpllhihgkdaa
namespace Go.Bv
open Go Go.RowKit
set_option linter.unusedVariables false
theorem drCs_set : ∀ (l : List Drw) (k : Nat) (d : Drw), k < l.length → drCs (l.set k d) = (((drCs l).set (k * 3) (.int .u64 (W64 d.1))).set (k * 3 + 1) (.int .u64 (W64 d.2.1))).set (k * 3 + 2) (.int .i64 (d.2.2 : Int))
  | [], k, d, h => absurd h (by simp)
  | e :: l, 0, d, _ => rfl
  | e :: l, k + 1, d, h => by
    have ih := drCs_set l k d (by simpa using h)
    show drC e ++ drCs (l.set k d) = _
    rw [ih, show (k + 1) * 3 = k * 3 + 3 by omega]
    rfl
theorem made3 (K : Nat) : (madeCells #[.int .u64 0, .int .u64 0, .int .i64 0] (K * 3)).toList = drCs (List.replicate K dz) := by
  apply List.ext_getElem?
  intro m
  by_cases hm : m < K * 3
  · obtain ⟨i, j, hj, rfl⟩ : ∃ i j, j < 3 ∧ m = i * 3 + j := ⟨m / 3, m % 3, Nat.mod_lt _ (by omega), by omega⟩
    rw [drCs_get _ i j (by simp; omega) hj, List.getD_eq_getElem?_getD, List.getElem?_replicate, if_pos (by omega), Option.getD_some, Array.getElem?_toList]
    have e1 : (madeCells #[.int .u64 0, .int .u64 0, .int .i64 0] (K * 3))[i * 3 + j]? = some ((#[.int .u64 0, .int .u64 0, .int .i64 0] : Array Value)[(i * 3 + j) % 3]!) := by
      simp [madeCells, hm]
    rw [e1, show (i * 3 + j) % 3 = j by omega]
    obtain rfl | rfl | rfl : j = 0 ∨ j = 1 ∨ j = 2 := by omega
    · rfl
    · rfl
    · rfl
  · rw [List.getElem?_eq_none (by rw [Array.length_toList, size_madeCells]; omega), List.getElem?_eq_none (by rw [drCs_len]; simp; omega)]
theorem ow_made3 (w : World) (base : Nat) (e : TypeId) (K : Nat) (hb : base ≤ w.heap.size) (hK : K ≤ 1000000) : (w.alloc (.cells (madeCells #[.int .u64 0, .int .u64 0, .int .i64 0] (K * 3)) e)).ownsRow base e 3 (.slice (some ⟨w.heap.size, 0, none⟩) K K) K (drCs (List.replicate K dz)) := by
  have := World.ownsRow_lit (base := base) (e := e) (size := 3) w (madeCells #[.int .u64 0, .int .u64 0, .int .i64 0] (K * 3)) K hb (by unfold maxLen; omega) (size_madeCells _ _)
  rw [made3] at this
  exact this
/-- the draws so far, empty ones behind them -/
def dpL (ds : List Drw) (K : Nat) : List Drw := ds ++ List.replicate (K - ds.length) dz
theorem dpL_zero (K : Nat) : dpL [] K = List.replicate K dz := rfl
theorem dpL_all {ds : List Drw} {K : Nat} (h : ds.length = K) : dpL ds K = ds := by unfold dpL; rw [h, Nat.sub_self]; simp
theorem dpL_len {ds : List Drw} {K : Nat} (h : ds.length ≤ K) : (dpL ds K).length = K := by unfold dpL; simp; omega
theorem dpL_set {ds : List Drw} {K q : Nat} (hq : ds.length = q) (h : q < K) (d : Drw) : (dpL ds K).set q d = dpL (ds ++ [d]) K := by
  unfold dpL
  obtain ⟨r, hr⟩ : ∃ r, K - q = r + 1 := ⟨K - q - 1, by omega⟩
  rw [hq, hr, List.replicate_succ, List.length_append, hq, List.length_singleton, show K - (q + 1) = r by omega, List.append_assoc, List.set_append_right _ _ (by omega), hq, Nat.sub_self]
  rfl
/-- the numbers so far, zeros behind them -/
def cqL (ds : List Drw) (K : Nat) : List Int := liI (fun i => if i < ds.length then ((ds.getD i dz).1).toNat else 0) K
theorem cqL_zero (K : Nat) : cqL [] K = liI (fun _ => 0) K := liI_ext (fun x _ => by rw [if_neg (by simp)])
theorem cqL_set {ds : List Drw} {K q : Nat} (hq : ds.length = q) (h : q < K) (d : Drw) : cqL (ds ++ [d]) K = (cqL ds K).set q ((d.1.toNat : Nat) : Int) := by
  unfold cqL
  rw [liI_set _ _ h]
  apply liI_ext
  intro x hx
  rw [List.length_append, hq]
  by_cases e : x = q
  · subst e
    rw [if_pos rfl, if_pos (by simp), List.getD_eq_getElem?_getD, List.getElem?_append_right (by omega), hq, Nat.sub_self]
    rfl
  · rw [if_neg e]
    by_cases e2 : x < q
    · rw [if_pos e2, if_pos (by omega), List.getD_eq_getElem?_getD, List.getElem?_append_left (by omega), ← List.getD_eq_getElem?_getD]
    · rw [if_neg e2, if_neg (by simp; omega)]
theorem ow_three {w : World} {base g n cap : Nat} {e : TypeId} {ds : List Drw} (h : w.ownsRow base e 3 (.slice (some ⟨g, 0, none⟩) n cap) n (drCs ds)) {k : Nat} (hk : k < n) :
    (w.cell? ⟨g, k * 3, none⟩ = some (.int .u64 (W64 (ds.getD k dz).1)) ∧ w.cell? ⟨g, k * 3 + 1, none⟩ = some (.int .u64 (W64 (ds.getD k dz).2.1)) ∧ w.cell? ⟨g, k * 3 + 2, none⟩ = some (.int .i64 ((ds.getD k dz).2.2 : Int))) ∧ ∀ j, w.frozen? ⟨g, j, none⟩ = false := by
  have hl : ds.length = n := by have := h.1; rw [drCs_len] at this; omega
  have g0 := drCs_get ds k 0 (by omega) (by omega)
  have g1 := drCs_get ds k 1 (by omega) (by omega)
  have g2 := drCs_get ds k 2 (by omega) (by omega)
  exact ⟨⟨(h.cellAt (k * 3) (by omega)).trans g0, (h.cellAt (k * 3 + 1) (by omega)).trans g1, (h.cellAt (k * 3 + 2) (by omega)).trans g2⟩, fun j => h.frozenAt j⟩
theorem at_size {w : World} {base a b n cap size : Nat} {e : TypeId} {xs : List Value} (h : a = b) (k : w.ownsRow base e size (.slice (some ⟨a, 0, none⟩) n cap) n xs) : w.ownsRow base e size (.slice (some ⟨b, 0, none⟩) n cap) n xs := h ▸ k
theorem ow_lt3 {w : World} {base g n cap : Nat} {e : TypeId} {xs : List Value} (h : w.ownsRow base e 3 (.slice (some ⟨g, 0, none⟩) n cap) n xs) : base ≤ g ∧ g < w.heap.size ∧ n ≤ cap := by
  obtain ⟨hl, h | ⟨g', cap', cur, hv, hb, hc, h2, h3, _⟩⟩ := h
  · cases h.1
  · injection hv with e1 e2 e3
    cases e1; subst e3
    exact ⟨hb, lt_of_block hc, h2⟩
end Go.Bv
namespace Go.Proofs.Ytajjpllhihgkdaa
open Go Go.RowKit Go.Bv
set_option linter.unusedVariables false
theorem cqL_all {ds : List Drw} {K : Nat} (h : ds.length = K) : cqL ds K = cdS ds K := liI_ext (fun x hx => by rw [if_pos (by omega)])
theorem make_drw (n : Nat) (hn : n ≤ 1000000) (w : World) : (Instr.makeSlice 41 (.int .i64 (n : Int)) (.int .i64 (n : Int))).run Try.prog w = .ok (.slice (some ⟨w.heap.size, 0, none⟩) n n) (w.alloc (.cells (madeCells #[.int .u64 0, .int .u64 0, .int .i64 0] (n * 3)) 73)) := by
  obtain ⟨i0, hi, hz0, hz1, hz2⟩ := info_parts info_drw
  have hr := run_make (P := Try.prog) w 41 73 i0 (.agg #[.int .u64 0, .int .u64 0, .int .i64 0]) Try.underlying41 hi hz0 .i64 .i64 (n : Int) (n : Int) (by omega) (Int.le_refl _) (by rw [hz2]; omega) (by omega)
  rw [hz1] at hr
  exact hr
end Go.Proofs.Ytajjpllhihgkdaa
/- Plain lemmas: rows of words aimed at other numbers. · Words put in place of those that draws took: the contract of redraw.Words. · Rows of draws: Ranks. -/
namespace Go.Proofs.Ytajjpllhihgkdaa
open Go Go.RowKit Go.Bv
set_option linter.unusedVariables false
theorem fstG_spec {l : List (BitVec 64)} {n : BitVec 64} : ∀ {f k}, fstG l n f k < k + f → k ≤ fstG l n f k ∧ (∀ i, k ≤ i → i < fstG l n f k → takO (l.getD i 0) n = false) ∧ takO (l.getD (fstG l n f k) 0) n = true
  | 0, k, h => by
    have h' : k < k + 0 := h
    omega
  | f + 1, k, h => by
    by_cases e : takO (l.getD k 0) n = true
    · have e1 : fstG l n (f + 1) k = k := if_pos e
      rw [e1]
      exact ⟨Nat.le_refl _, fun i a b => by omega, e⟩
    · have e1 : fstG l n (f + 1) k = fstG l n f (k + 1) := if_neg e
      rw [e1] at h ⊢
      obtain ⟨h1, h2, h3⟩ := fstG_spec (l := l) (n := n) (f := f) (k := k + 1) (by omega)
      refine ⟨by omega, fun i a b => ?_, h3⟩
      by_cases e2 : i = k
      · subst e2; simpa using e
      · exact h2 i (by omega) b
theorem fstT_spec {l : List (BitVec 64)} {n : BitVec 64} {k : Nat} (hk : k ≤ l.length) (h : fstT l n k < l.length) : k ≤ fstT l n k ∧ (∀ i, k ≤ i → i < fstT l n k → takO (l.getD i 0) n = false) ∧ takO (l.getD (fstT l n k) 0) n = true := fstG_spec (by unfold fstT at h; omega)
/-- draws step by step -/
theorem drS_prev {l ls : List (BitVec 64)} {m : Nat} {ds : List Drw} {k : Nat} (h : drS l ls (m + 1) = some (ds, k)) : ∃ ds0 k0 j, drS l ls m = some (ds0, k0) ∧ ds0.length = m ∧ k0 ≤ j ∧ j < l.length ∧ (∀ i, k0 ≤ i → i < j → takO (l.getD i 0) (ls.getD m 0) = false) ∧ takO (l.getD j 0) (ls.getD m 0) = true ∧ ds = ds0 ++ [drw l (ls.getD m 0) k0 j] ∧ k = j + 1 := by
  have h' : (match drS l ls m with | none => none | some r => if fstT l (ls.getD m 0) r.2 < l.length then some (r.1 ++ [drw l (ls.getD m 0) r.2 (fstT l (ls.getD m 0) r.2)], fstT l (ls.getD m 0) r.2 + 1) else none) = some (ds, k) := h
  rcases hm : drS l ls m with _ | ⟨ds0, k0⟩
  · rw [hm] at h'; cases h'
  · rw [hm] at h'
    have h0 := drS_len hm
    by_cases hc : fstT l (ls.getD m 0) k0 < l.length
    · simp only [if_pos hc] at h'
      cases h'
      obtain ⟨h1, h2, h3⟩ := fstT_spec h0.2 hc
      exact ⟨ds0, k0, _, rfl, h0.1, h1, hc, h2, h3, rfl, rfl⟩
    · simp only [if_neg hc] at h'
      cases h'
/-- words behind the draws say nothing of them -/
theorem drS_set {l ls : List (BitVec 64)} {x : BitVec 64} : ∀ {m ds k j}, drS l ls m = some (ds, k) → k ≤ j → drS (l.set j x) ls m = some (ds, k)
  | 0, ds, k, j, h, _ => h
  | m + 1, ds, k, j, h, hk => by
    obtain ⟨ds0, k0, i, h0, hl, h1, h2, h3, h4, rfl, rfl⟩ := drS_prev h
    have hg : ∀ q, q < j → (l.set j x).getD q 0 = l.getD q 0 := fun q hq => by
      rw [List.getD_eq_getElem?_getD, List.getElem?_set, if_neg (by omega), ← List.getD_eq_getElem?_getD]
    have hn := drS_next (j := i) (drS_set (x := x) h0 (show k0 ≤ j by omega)) h1 (by rw [List.length_set]; exact h2) (fun q a b => by rw [hg q (by omega)]; exact h3 q a b) (by rw [hg i (by omega)]; exact h4)
    rw [hn]
    have e : drw (l.set j x) (ls.getD m 0) k0 i = drw l (ls.getD m 0) k0 i := by
      unfold drw; rw [hg i (by omega)]
    rw [e]
/-- how many words the first m draws took -/
def usS (ds : List Drw) : Nat → Nat
  | 0 => 0
  | m + 1 => usS ds m + (ds.getD m dz).2.2
theorem usS_app (ds : List Drw) (d : Drw) : ∀ m, m ≤ ds.length → usS (ds ++ [d]) m = usS ds m
  | 0, _ => rfl
  | m + 1, h => by
    show usS (ds ++ [d]) m + ((ds ++ [d]).getD m dz).2.2 = usS ds m + (ds.getD m dz).2.2
    rw [usS_app ds d m (by omega), List.getD_eq_getElem?_getD, List.getElem?_append_left (by omega), ← List.getD_eq_getElem?_getD]
theorem getD_last (ds : List Drw) (d : Drw) : (ds ++ [d]).getD ds.length dz = d := by
  rw [List.getD_eq_getElem?_getD, List.getElem?_append_right (Nat.le_refl _), Nat.sub_self]; rfl
theorem getD_app (ds : List Drw) (d : Drw) {i : Nat} (h : i < ds.length) : (ds ++ [d]).getD i dz = ds.getD i dz := by
  rw [List.getD_eq_getElem?_getD, List.getElem?_append_left h, ← List.getD_eq_getElem?_getD]
theorem drS_us {l ls : List (BitVec 64)} : ∀ {m ds k}, drS l ls m = some (ds, k) → usS ds m = k
  | 0, ds, k, h => by cases h; rfl
  | m + 1, ds, k, h => by
    obtain ⟨ds0, k0, i, h0, hl, h1, h2, h3, h4, rfl, rfl⟩ := drS_prev h
    subst hl
    show usS _ ds0.length + ((ds0 ++ [_]).getD ds0.length dz).2.2 = i + 1
    rw [usS_app _ _ _ (Nat.le_refl _), drS_us h0, getD_last]
    show k0 + (i + 1 - k0) = i + 1
    omega
/-- the row with the words of the first m draws put in place of those that were taken -/
def amS (o ls : List (BitVec 64)) (v : Nat → BitVec 64) (ds : List Drw) : Nat → List (BitVec 64)
  | 0 => o
  | m + 1 => (amS o ls v ds m).set (usS ds (m + 1) - 1) (wrdN (v m) (ds.getD m dz).2.1 (ls.getD m 0))
theorem amS_len (o ls : List (BitVec 64)) (v : Nat → BitVec 64) (ds : List Drw) : ∀ m, (amS o ls v ds m).length = o.length
  | 0 => rfl
  | m + 1 => by show (List.set _ _ _).length = _; rw [List.length_set, amS_len o ls v ds m]
theorem amS_app (o ls : List (BitVec 64)) (v : Nat → BitVec 64) (ds : List Drw) (d : Drw) : ∀ m, m ≤ ds.length → amS o ls v (ds ++ [d]) m = amS o ls v ds m
  | 0, _ => rfl
  | m + 1, h => by
    show (amS o ls v (ds ++ [d]) m).set (usS (ds ++ [d]) (m + 1) - 1) (wrdN (v m) ((ds ++ [d]).getD m dz).2.1 (ls.getD m 0)) = _
    rw [amS_app o ls v ds d m (by omega), usS_app ds d (m + 1) h, getD_app ds d (by omega)]
    rfl
/-- words behind the draws stay -/
theorem amS_get {l ls : List (BitVec 64)} {o : List (BitVec 64)} {v : Nat → BitVec 64} : ∀ {m ds k}, drS l ls m = some (ds, k) → ∀ i, k ≤ i → (amS o ls v ds m).getD i 0 = o.getD i 0
  | 0, ds, k, h, i, _ => rfl
  | m + 1, ds, k, h, i, hi => by
    obtain ⟨ds0, k0, j, h0, hl, h1, h2, h3, h4, rfl, rfl⟩ := drS_prev h
    have hu := drS_us h
    show (List.set _ _ _).getD i 0 = _
    rw [hu, List.getD_eq_getElem?_getD, List.getElem?_set, if_neg (by omega), ← List.getD_eq_getElem?_getD, amS_app _ _ _ _ _ _ (by omega)]
    exact amS_get h0 i (by omega)
/-- the same draws with other numbers -/
def nmS (v : Nat → BitVec 64) (ds : List Drw) : List Drw := (List.range ds.length).map fun i => (v i, (ds.getD i dz).2.1, (ds.getD i dz).2.2)
theorem nmS_len (v : Nat → BitVec 64) (ds : List Drw) : (nmS v ds).length = ds.length := by unfold nmS; simp
theorem nmS_get (v : Nat → BitVec 64) (ds : List Drw) {i : Nat} (h : i < ds.length) : (nmS v ds).getD i dz = (v i, (ds.getD i dz).2.1, (ds.getD i dz).2.2) := by
  unfold nmS; rw [List.getD_eq_getElem?_getD, List.getElem?_map, List.getElem?_range h]; rfl
theorem nmS_app (v : Nat → BitVec 64) (ds : List Drw) (d : Drw) : nmS v (ds ++ [d]) = nmS v ds ++ [(v ds.length, d.2.1, d.2.2)] := by
  unfold nmS
  rw [List.length_append, List.length_singleton, List.range_succ, List.map_append]
  congr 1
  · apply List.map_congr_left
    intro i hi
    rw [getD_app ds d (by simpa using hi)]
  · show [(v ds.length, ((ds ++ [d]).getD ds.length dz).2.1, ((ds ++ [d]).getD ds.length dz).2.2)] = [_]
    rw [getD_last]
/-- what an aimed row tells -/
theorem amS_tells {l ls : List (BitVec 64)} {v : Nat → BitVec 64} : ∀ {m ds k}, drS l ls m = some (ds, k) → (∀ i, i < m → (v i).toNat < (ls.getD i 0).toNat) → drS (amS l ls v ds m) ls m = some (nmS v ds, k)
  | 0, ds, k, h, _ => by cases h; rfl
  | m + 1, ds, k, h, hv => by
    obtain ⟨ds0, k0, j, h0, hl, h1, h2, h3, h4, rfl, rfl⟩ := drS_prev h
    have hu := drS_us h
    have ih := amS_tells (v := v) h0 (fun i hi => hv i (by omega))
    have hn0 := takO_ne h4
    have ht := takO_tak h4
    have hd : (ds0 ++ [drw l (ls.getD m 0) k0 j]).getD m dz = drw l (ls.getD m 0) k0 j := by rw [← hl]; exact getD_last _ _
    have hw := wrdN_all (v m) (rnkN (l.getD j 0) (ls.getD m 0)) (ls.getD m 0) hn0 (hv m (by omega)) (rnk_ltN _ _ hn0 ht)
    obtain ⟨y, hy⟩ : ∃ y, wrdN (v m) (rnkN (l.getD j 0) (ls.getD m 0)) (ls.getD m 0) = y := ⟨_, rfl⟩
    rw [hy] at hw
    have hA : amS l ls v (ds0 ++ [drw l (ls.getD m 0) k0 j]) (m + 1) = (amS l ls v ds0 m).set j y := by
      show (amS l ls v _ m).set (usS _ (m + 1) - 1) (wrdN (v m) _ (ls.getD m 0)) = _
      rw [hu, hd, amS_app _ _ _ _ _ _ (by omega), ← hy]
      rfl
    rw [hA]
    have hlen : j < (amS l ls v ds0 m).length := by rw [amS_len]; exact h2
    have hg : ∀ q, k0 ≤ q → q < j → ((amS l ls v ds0 m).set j y).getD q 0 = l.getD q 0 := fun q a b => by
      rw [List.getD_eq_getElem?_getD, List.getElem?_set, if_neg (by omega), ← List.getD_eq_getElem?_getD]
      exact amS_get h0 q a
    have hgj : ((amS l ls v ds0 m).set j y).getD j 0 = y := by
      rw [List.getD_eq_getElem?_getD, List.getElem?_set, if_pos rfl, if_pos hlen]; rfl
    have hn := drS_next (j := j) (drS_set (x := y) ih h1) h1 (by rw [List.length_set]; exact hlen) (fun q a b => by rw [hg q a b]; exact h3 q a b) (by
      rw [hgj]
      unfold takO
      rw [if_neg hn0]
      exact hw.1)
    rw [hn, nmS_app, hl]
    congr 3
    unfold drw
    rw [hgj, hw.2.1, hw.2.2]
/-- aimed back it is as it was -/
theorem amS_swap {ls : List (BitVec 64)} {v : Nat → BitVec 64} {j : Nat} {y : BitVec 64} : ∀ {l m ds k} (o : List (BitVec 64)), drS l ls m = some (ds, k) → k ≤ j → amS (o.set j y) ls v ds m = (amS o ls v ds m).set j y
  | l, 0, ds, k, o, h, _ => rfl
  | l, m + 1, ds, k, o, h, hk => by
    obtain ⟨ds0, k0, i, h0, hl, h1, h2, h3, h4, rfl, rfl⟩ := drS_prev h
    have hu := drS_us h
    show (amS (o.set j y) ls v _ m).set (usS _ (m + 1) - 1) _ = ((amS o ls v _ m).set (usS _ (m + 1) - 1) _).set j y
    rw [hu, amS_app _ _ _ _ _ _ (by omega), amS_app _ _ _ _ _ _ (by omega), amS_swap o h0 (by omega), List.set_comm _ _ (by omega)]
theorem amS_back {l ls : List (BitVec 64)} {v : Nat → BitVec 64} : ∀ {m ds k}, drS l ls m = some (ds, k) → ∀ {u : Nat → BitVec 64}, (∀ i, i < m → u i = (ds.getD i dz).1) → amS (amS l ls v ds m) ls u ds m = l
  | 0, ds, k, h, u, _ => rfl
  | m + 1, ds, k, h, u, hu2 => by
    obtain ⟨ds0, k0, j, h0, hl, h1, h2, h3, h4, rfl, rfl⟩ := drS_prev h
    have hu := drS_us h
    have hn0 := takO_ne h4
    have ht := takO_tak h4
    have hd : (ds0 ++ [drw l (ls.getD m 0) k0 j]).getD m dz = drw l (ls.getD m 0) k0 j := by rw [← hl]; exact getD_last _ _
    have hb := wrdN_back (l.getD j 0) (ls.getD m 0) hn0 ht
    have hum : u m = telN (l.getD j 0) (ls.getD m 0) := by rw [hu2 m (by omega), hd]; rfl
    show (amS ((amS l ls v _ m).set (usS _ (m + 1) - 1) _) ls u _ m).set (usS _ (m + 1) - 1) (wrdN (u m) _ (ls.getD m 0)) = l
    rw [hu, hd, hum, amS_app l _ _ _ _ _ (by omega), amS_app _ _ _ _ _ _ (by omega), show j + 1 - 1 = j by omega, amS_swap _ h0 h1, amS_back h0 (fun i hi => by rw [hu2 i (by omega), getD_app _ _ (by omega)])]
    show ((l.set j _).set j (wrdN (telN (l.getD j 0) (ls.getD m 0)) (rnkN (l.getD j 0) (ls.getD m 0)) (ls.getD m 0))) = l
    rw [List.set_set, hb]
    apply List.ext_getElem (by rw [List.length_set])
    intro i a b
    rw [List.getElem_set]
    by_cases e : j = i
    · subst e; rw [if_pos rfl, List.getD_eq_getElem?_getD, List.getElem?_eq_getElem h2]; rfl
    · rw [if_neg e]
/-- of the aimed row's draws: its ranks are as before -/
theorem amS_nm (o ls : List (BitVec 64)) (u v : Nat → BitVec 64) (ds : List Drw) : ∀ m, m ≤ ds.length → amS o ls u (nmS v ds) m = amS o ls u ds m ∧ usS (nmS v ds) m = usS ds m
  | 0, _ => ⟨rfl, rfl⟩
  | m + 1, h => by
    obtain ⟨h1, h2⟩ := amS_nm o ls u v ds m (by omega)
    have e : usS (nmS v ds) (m + 1) = usS ds (m + 1) := by
      show usS (nmS v ds) m + ((nmS v ds).getD m dz).2.2 = usS ds m + (ds.getD m dz).2.2
      rw [h2, nmS_get v ds (by omega)]
    refine ⟨?_, e⟩
    show (amS o ls u (nmS v ds) m).set (usS (nmS v ds) (m + 1) - 1) (wrdN (u m) ((nmS v ds).getD m dz).2.1 (ls.getD m 0)) = _
    rw [h1, e, nmS_get v ds (by omega)]
    rfl
end Go.Proofs.Ytajjpllhihgkdaa
namespace Go.Proofs.Ytajjpllhihgkdaa
open Go Go.RowKit Go.Bv
set_option linter.unusedVariables false
theorem drS_rank {l ls : List (BitVec 64)} : ∀ {m ds k}, drS l ls m = some (ds, k) → ∀ i, i < m → ¬ ls.getD i 0 = 0#64 ∧ ((ds.getD i dz).2.1).toNat < eachN (ls.getD i 0) ∧ 1 ≤ (ds.getD i dz).2.2 ∧ usS ds (i + 1) ≤ k
  | 0, ds, k, _, i, hi => by omega
  | m + 1, ds, k, h, i, hi => by
    have hu := drS_us h
    obtain ⟨ds0, k0, j, h0, hl, h1, h2, h3, h4, rfl, rfl⟩ := drS_prev h
    by_cases e : i = m
    · subst e
      have hn0 := takO_ne h4
      have ht := takO_tak h4
      rw [← hl, getD_last, hl]
      refine ⟨hn0, rnk_ltN _ _ hn0 ht, ?_, ?_⟩
      · show 1 ≤ j + 1 - k0
        omega
      · rw [← hl] at hu ⊢; omega
    · obtain ⟨a1, a2, a3, a4⟩ := drS_rank h0 i (by omega)
      rw [getD_app _ _ (by omega), usS_app _ _ _ (by omega)]
      exact ⟨a1, a2, a3, by omega⟩
theorem ow_q {w : World} {base g n cap : Nat} {e : TypeId} {l : List (BitVec 64)} (h : w.ownsRow base e 1 (.slice (some ⟨g, 0, none⟩) n cap) n (l.map fun x => .int .u64 (W64 x))) {k : Nat} (hk : k < n) : w.cell? ⟨g, k, none⟩ = some (.int .u64 (W64 (l.getD k 0))) ∧ w.frozen? ⟨g, k, none⟩ = false := by
  have hl : l.length = n := by have := h.1; rw [List.length_map] at this; omega
  refine ow_cell h ?_
  rw [List.getElem?_map, List.getD_eq_getElem?_getD, List.getElem?_eq_getElem (by omega)]
  rfl
set_option maxRecDepth 100000 in
set_option maxHeartbeats 4000000 in
theorem redraw_q (a b c d : Option Addr) (nl ca m cb cc cd : Nat) (l ls : List (BitVec 64)) (ds : List Drw) (k : Nat) (lv nv : Nat → Nat) (w : World) (hl : QRow w a nl ca l) (hk : KRow w b m cb ds) (h1 : ZRow w c m cc (liI lv m)) (h2 : ZRow w d m cd (liI nv m)) (hd : drS l ls m = some (ds, k)) (hls : ∀ i, i < m → ls.getD i 0 = BitVec.ofNat 64 (lv i)) (hlb : ∀ i, i < m → lv i ≤ 1000000) (hv : ∀ i, i < m → nv i < lv i) :
    Calls Try.prog 50 #[.slice a nl ca, .slice b m cb, .slice c m cc, .slice d m cd] w fun e w' => ∃ v' c', e = .returned (.tuple #[.slice v' nl c', .int .i64 0]) ∧ QRow w' v' nl c' (amS l ls (fun i => BitVec.ofNat 64 (nv i)) ds m) ∧ New w w' := by
  have HLL := Lib.hid hl.len_eq
  have HML := Lib.hid hl.most
  have hmm := hk.most
  have hnl := hl.most
  have HK := Lib.hid hk
  have H1 := Lib.hid h1
  have H2 := Lib.hid h2
  have HU := Lib.hid (drS_rank hd)
  have HKL := Lib.hid (drS_len hd).2
  have HLS := Lib.hid hls
  have HLB := Lib.hid hlb
  have HV := Lib.hid hv
  have HC := Lib.hid (clone_q a nl ca l w hl)
  clear hl hk h1 h2 hls hlb hv hd
  go_enter Try.func50, Try.ntmps50
  go_wp2_with fail
  refine HC.out.mono ?_
  rintro e w1 ⟨v, rfl, how, hn⟩
  have HO := Lib.hid how
  have HN := Lib.hid hn
  have HSZ : Hid (w.heap.size ≤ w1.heap.size) := Lib.hid hn.le
  clear how hn HC
  go_wp2_with fail
  go_loopw [11, 20] (fun av iv wr => ∃ (q : Nat) (z : Int), q ≤ m ∧ iv = .int .i64 (q : Int) ∧ av = .int .i64 z ∧ Hid (z = (usS ds q : Int) - 1) ∧ wr.ownsRow w.heap.size 62 1 v nl ((amS l ls (fun i => BitVec.ofNat 64 (nv i)) ds q).map fun x => .int .u64 (W64 x)) ∧ New w wr) (fun _ iv _ => m - (intOf iv).toNat)
  case atStart => exact ⟨0, _, Nat.zero_le _, rfl, rfl, Lib.hid rfl, HO.out, HN.out⟩
  case round =>
    obtain ⟨q, z, hq, rfl, rfl, HZ, hown, hnew⟩ := hrel
    obtain ⟨wq, hwq⟩ : ∃ z, z = wr := ⟨_, rfl⟩
    rw [← hwq] at hown hnew ⊢
    clear hwq
    by_cases hlt : (q : Int) < (m : Int)
    · have hq0 : (0 : Int) ≤ (q : Int) := by omega
      obtain ⟨b1, o1, rfl, h1⟩ := (HK.out.stay hnew).addr (by omega)
      obtain ⟨p0, p1, p2⟩ := h1 q (by omega)
      clear h1
      obtain ⟨b2, o2, rfl, h2⟩ := (H1.out.stay hnew).addr (by omega)
      obtain ⟨b3, o3, rfl, h3⟩ := (H2.out.stay hnew).addr (by omega)
      have c2 := h2 q (by omega)
      have c3 := h3 q (by omega)
      rw [liI_get _ (by omega)] at c2 c3
      clear h2 h3
      obtain ⟨hr0, hr1, hr2, hr3⟩ := HU.out q (by omega)
      have hls := HLS.out q (by omega)
      have hvv := HV.out q (by omega)
      have hlb := HLB.out q (by omega)
      have hkl := HKL.out
      have hll := HLL.out
      rw [hls] at hr0 hr1
      have HCW := Lib.hid (fun w => word_l (BitVec.ofNat 64 (nv q)) (ds.getD q dz).2.1 (BitVec.ofNat 64 (lv q)) hr0 (by rw [BitVec.toNat_ofNat, BitVec.toNat_ofNat]; omega) hr1 w)
      have hus : usS ds (q + 1) = usS ds q + (ds.getD q dz).2.2 := rfl
      have hz := HZ.out
      obtain ⟨A, hA⟩ : ∃ A, usS ds (q + 1) - 1 = A := ⟨_, rfl⟩
      have hSS : amS l ls (fun i => BitVec.ofNat 64 (nv i)) ds (q + 1) = (amS l ls (fun i => BitVec.ofNat 64 (nv i)) ds q).set A (wrdN (BitVec.ofNat 64 (nv q)) (ds.getD q dz).2.1 (BitVec.ofNat 64 (lv q))) := by
        rw [← hA, ← hls]; rfl
      have HSS := Lib.hid hSS
      have hzA : z + ((ds.getD q dz).2.2 : Int) = (A : Int) := by omega
      have HZA : Hid ((A : Int) = (usS ds (q + 1) : Int) - 1) := Lib.hid (by omega)
      have hAn : (A : Int) < (nl : Int) := by omega
      have hA0 : (0 : Int) ≤ (A : Int) := by omega
      have hAn2 : A < nl := by omega
      obtain ⟨g, cap, rfl, hg, hgs, hgc, hgc2⟩ := ow_shape hown (by omega)
      have HG := Lib.hid hg
      clear hr0 hr1 hr2 hr3 hls hlb hkl hll hus hz hA hSS
      obtain ⟨wd, hwd⟩ : ∃ z, wrdN (BitVec.ofNat 64 (nv q)) (ds.getD q dz).2.1 (BitVec.ofNat 64 (lv q)) = z := ⟨_, rfl⟩
      rw [hwd] at HCW HSS
      clear hwd
      obtain ⟨⟨x, y, u⟩, hd⟩ : ∃ d, ds.getD q dz = d := ⟨_, rfl⟩
      rw [hd] at p0 p1 p2 hzA HCW
      clear hd
      simp only at p0 p1 p2 hzA HCW
      obtain ⟨s, hs⟩ : ∃ s, nv q = s := ⟨_, rfl⟩
      obtain ⟨t, ht⟩ : ∃ t, lv q = t := ⟨_, rfl⟩
      rw [hs] at c3 HCW
      rw [ht] at c2 HCW
      clear hs ht hvv
      have hown2 := ow_new hown ((New.refl wq).alloc (.cells #[.int .u64 (W64 x), .int .u64 (W64 y), .int .i64 (u : Int)] 73))
      have hnew2 := hnew.alloc (.cells #[.int .u64 (W64 x), .int .u64 (W64 y), .int .i64 (u : Int)] 73)
      obtain ⟨WB, hWB⟩ : ∃ z, wq.alloc (.cells #[.int .u64 (W64 x), .int .u64 (W64 y), .int .i64 (u : Int)] 73) = z := ⟨_, rfl⟩
      have HWB := Lib.hid hWB
      have hb1 := heap_alloc_new wq (.cells #[.int .u64 (W64 x), .int .u64 (W64 y), .int .i64 (u : Int)] 73)
      rw [hWB] at hown2 hnew2 hb1
      have d1 : WB.cell? ⟨wq.heap.size, 1, none⟩ = some (.int .u64 (W64 y)) := cell_of_row _ _ 1 _ _ _ hb1
      have d2 : WB.cell? ⟨wq.heap.size, 2, none⟩ = some (.int .i64 (u : Int)) := cell_of_row _ _ 2 _ _ _ hb1
      have e2 : WB.cell? ⟨b2, o2 + q, none⟩ = some (.int .i64 (t : Int)) := by rw [← hWB]; exact Lib.cell?_alloc_some _ c2
      have e3 : WB.cell? ⟨b3, o3 + q, none⟩ = some (.int .i64 (s : Int)) := by rw [← hWB]; exact Lib.cell?_alloc_some _ c3
      clear hb1 hown hnew c2 c3 hWB
      go_wp2_with fail
      rw [HWB.out]
      obtain ⟨p, hp⟩ : ∃ p, wq.heap.size = p := ⟨_, rfl⟩
      rw [hp] at d1 d2 hgs ⊢
      have hltm : q < m := by omega
      have SK : Hid (∀ w', New WB w' → New WB w' ∧ w'.cell? ⟨p, 1, none⟩ = some (.int .u64 (W64 y)) ∧ w'.cell? ⟨b2, o2 + q, none⟩ = some (.int .i64 (t : Int)) ∧ w'.cell? ⟨b3, o3 + q, none⟩ = some (.int .i64 (s : Int))) := Lib.hid (fun w' hn => ⟨hn, (hn.cell (World.block_lt_of_cell? _ _ d1)).trans d1, (hn.cell (World.block_lt_of_cell? _ _ e2)).trans e2, (hn.cell (World.block_lt_of_cell? _ _ e3)).trans e3⟩)
      have HO2 := Lib.hid hown2
      have HN2 := Lib.hid hnew2
      clear hown2 hnew2 d2 p0 p1 p2 HWB hp
      go_cut [14, 15] (fun u e wx => u = .int .u64 (W64 wd) ∧ e = .int .i64 0 ∧ New WB wx)
      case first =>
        go_region_held3 (fun w' => New WB w' ∧ w'.cell? ⟨p, 1, none⟩ = some (.int .u64 (W64 y)) ∧ w'.cell? ⟨b2, o2 + q, none⟩ = some (.int .i64 (t : Int)) ∧ w'.cell? ⟨b3, o3 + q, none⟩ = some (.int .i64 (s : Int)))
          ((refine SK.out _ ?_; first | with_reducible assumption | with_reducible exact (New.refl _).drew | with_reducible exact New.drew (by assumption)))
          (first
          | (go_at_call 62
             refine (HCW.out _).mono ?_
             rintro e w4 ⟨rfl, hn4⟩
             have hn5 : New WB w4 := (New.refl WB).drew.trans hn4
             clear hn4))
        all_goals (
          go_wp2_with fail
          go_meet
          case rel => exact ⟨rfl, rfl, hn5⟩)
      case rest =>
        obtain ⟨rfl, rfl, hn⟩ := hcut
        have hown := ow_new HO2.out hn
        have hnew := HN2.out.trans hn
        obtain ⟨f1, f2⟩ := ow_q hown hAn2
        have HO3 := ow_set hown A (.int .u64 (W64 wd))
        rw [← List.map_set, ← HSS.out] at HO3
        have HO4 := Lib.hid HO3
        have HN4 := Lib.hid (hnew.setCell (show w.heap.size ≤ (⟨g, A, none⟩ : Addr).block from hg) (.int .u64 (W64 wd)))
        clear hown hnew hn HO3 SK d1 e2 e3
        go_wp2
        exact ⟨⟨q + 1, _, by omega, by go_num, rfl, HZA.out, HO4.out, HN4.out⟩, by simp [intOf]; omega⟩
    · obtain rfl : q = m := by omega
      obtain ⟨a2, c2, rfl, hq2⟩ := QRow.of_owns hown (by omega)
      have HQ := Lib.hid hq2
      have HNN := Lib.hid hnew
      clear hown hnew hq2
      go_wp2
      go_ret2
      exact ⟨_, _, rfl, HQ.out, HNN.out⟩
end Go.Proofs.Ytajjpllhihgkdaa
namespace Go.Proofs.Ytajjpllhihgkdaa
open Go Go.RowKit Go.Bv
set_option linter.unusedVariables false
set_option maxRecDepth 100000 in
set_option maxHeartbeats 2000000 in
theorem ranks_40 (a b : Option Addr) (n ca cb : Nat) (ds ds2 : List Drw) (w : World) (ha : KRow w a n ca ds) (hb : KRow w b n cb ds2) (hs : ∀ i, i < n → (ds2.getD i dz).2 = (ds.getD i dz).2) :
    Calls Try.prog 30 #[.slice a n ca, .slice b n cb] w fun e w' => e = .returned (.bool true) ∧ New w w' := by
  have hm := ha.most
  have HA := Lib.hid ha
  have HB := Lib.hid hb
  have HS := Lib.hid hs
  clear ha hb hs
  go_enter Try.func30, Try.ntmps30
  go_wp2_with fail
  go_loopw [13] (fun iv wr => ∃ k : Nat, k ≤ n ∧ iv = .int .i64 (k : Int) ∧ New w wr) (fun iv _ => n - (intOf iv).toNat)
  case atStart => exact ⟨0, Nat.zero_le _, rfl, New.refl _⟩
  case round =>
    obtain ⟨k, hk, rfl, hnew⟩ := hrel
    by_cases hlt : (k : Int) < (n : Int)
    · have hk0 : (0 : Int) ≤ (k : Int) := by omega
      obtain ⟨b1, o1, rfl, h1⟩ := (HA.out.stay hnew).addr (by omega)
      obtain ⟨b2, o2, rfl, h2⟩ := (HB.out.stay hnew).addr (by omega)
      obtain ⟨p0, p1, p2⟩ := h1 k (by omega)
      obtain ⟨q0, q1, q2⟩ := h2 k (by omega)
      rw [HS.out k (by omega)] at q1 q2
      clear h1 h2 p0 q0
      obtain ⟨⟨x, y, u⟩, hd⟩ : ∃ d, ds.getD k dz = d := ⟨_, rfl⟩
      rw [hd] at p1 p2 q1 q2
      clear hd
      simp only at p1 p2 q1 q2
      have z1 : (W64 y != W64 y) = false := by simp
      have z2 : ((u : Int) != (u : Int)) = false := by simp
      go_wp2
      go_quiet (fail)
      go_wp2
      exact ⟨⟨k + 1, by omega, by go_num, hnew.drewN nq⟩, by simp [intOf]; omega⟩
    · obtain rfl : k = n := by omega
      go_wp2
      go_ret
      exact ⟨rfl, hnew⟩
end Go.Proofs.Ytajjpllhihgkdaa
/- subset: which lists are picks; the choices that lead to any pick. · subset.Aim. -/
namespace Go.Bv
open Go Go.RowKit
set_option linter.unusedVariables false
/-- a pick of n: different numbers below n -/
def ipP (n : Int) (p : List Int) : Prop := (∀ k, k < p.length → 0 ≤ p.getD k 0 ∧ p.getD k 0 < n) ∧ ∀ j k, j < k → k < p.length → p.getD j 0 ≠ p.getD k 0
def ipB (n : Int) (p : List Int) : Bool := (List.range p.length).all fun k => decide (0 ≤ p.getD k 0) && (decide (p.getD k 0 < n) && (List.range k).all fun j => decide (p.getD j 0 ≠ p.getD k 0))
theorem ipB_iff {n : Int} {p : List Int} : ipB n p = true ↔ ipP n p := by
  unfold ipB ipP
  rw [List.all_eq_true]
  constructor
  · intro h
    refine ⟨fun k hk => ?_, fun j k hj hk => ?_⟩
    · have := h k (List.mem_range.2 hk)
      rw [Bool.and_eq_true, Bool.and_eq_true, decide_eq_true_eq, decide_eq_true_eq] at this
      exact ⟨this.1, this.2.1⟩
    · have := h k (List.mem_range.2 hk)
      rw [Bool.and_eq_true, Bool.and_eq_true, List.all_eq_true] at this
      have := this.2.2 j (List.mem_range.2 hj)
      rwa [decide_eq_true_eq] at this
  · rintro ⟨h1, h2⟩ k hk
    have hk := List.mem_range.1 hk
    rw [Bool.and_eq_true, Bool.and_eq_true, decide_eq_true_eq, decide_eq_true_eq, List.all_eq_true]
    refine ⟨(h1 k hk).1, (h1 k hk).2, fun j hj => ?_⟩
    rw [decide_eq_true_eq]
    exact h2 j k (List.mem_range.1 hj) hk
theorem ipB_no {n : Int} {p : List Int} (h : ¬ ipP n p) : ipB n p = false := by rw [← Bool.not_eq_true, ipB_iff]; exact h
theorem s2_congr {J J' : Nat → Nat} : ∀ k, (∀ i, i < k → J i = J' i) → s2 J k = s2 J' k
  | 0, _ => rfl
  | k + 1, h => by
    show sw (s2 J k) k (J k) = sw (s2 J' k) k (J' k)
    rw [s2_congr k (fun i hi => h i (by omega)), h k (by omega)]
/-- every pick comes of choices -/
theorem pk_of {n : Nat} {p : List Int} (h : ipP n p) (hn : p.length ≤ n) : ∀ k, k ≤ p.length → ∃ cl : List Int, cl.length = k ∧ rp2 n cl ∧ ∀ x, x < k → ((s2 (JF cl) k x : Nat) : Int) = p.getD x 0
  | 0, _ => ⟨[], rfl, ⟨Nat.zero_le _, fun i hi => absurd hi (by simp)⟩, fun x hx => by omega⟩
  | k + 1, hk => by
    obtain ⟨cl, hl, hr, he⟩ := pk_of h hn k (by omega)
    have hF := rp2_F hr
    rw [hl] at hF
    obtain ⟨y, hy⟩ : ∃ y : Nat, p.getD k 0 = (y : Int) := ⟨(p.getD k 0).toNat, by have := (h.1 k (by omega)).1; omega⟩
    have hyn : y < n := by have := (h.1 k (by omega)).2; omega
    obtain ⟨j, hj⟩ : ∃ j, i2 (JF cl) k y = j := ⟨_, rfl⟩
    have hjn : j < n := hj ▸ i2_lt hF k (Nat.le_refl _) y hyn
    have hs : s2 (JF cl) k j = y := by rw [← hj]; exact (s2_i2 hF k (Nat.le_refl _)).2 y hyn
    have hkj : k ≤ j := by
      apply Nat.le_of_not_lt
      intro hlt
      have h1 := he j hlt
      rw [hs] at h1
      exact h.2 j k hlt (by omega) (by rw [← h1, hy])
    have hg1 : ∀ i, i < k → (cl ++ [((j - k : Nat) : Int)]).getD i 0 = cl.getD i 0 := fun i hi => by
      rw [List.getD_eq_getElem?_getD, List.getElem?_append_left (by omega), ← List.getD_eq_getElem?_getD]
    have hg2 : (cl ++ [((j - k : Nat) : Int)]).getD k 0 = ((j - k : Nat) : Int) := by
      rw [List.getD_eq_getElem?_getD, List.getElem?_append_right (by omega), hl, Nat.sub_self]; rfl
    have hJ : JF (cl ++ [((j - k : Nat) : Int)]) k = j := by unfold JF; rw [hg2]; omega
    have hc : s2 (JF (cl ++ [((j - k : Nat) : Int)])) k = s2 (JF cl) k := s2_congr k (fun i hi => by unfold JF; rw [hg1 i hi])
    refine ⟨cl ++ [((j - k : Nat) : Int)], by rw [List.length_append, hl]; rfl, ⟨by rw [List.length_append, hl]; show k + 1 ≤ n; omega, fun i hi => ?_⟩, fun x hx => ?_⟩
    · rw [List.length_append, hl] at hi
      have hi : i < k + 1 := hi
      by_cases e : i = k
      · subst e; rw [hg2]; omega
      · rw [hg1 i (by omega)]; exact hr.2 i (by omega)
    · show ((sw (s2 (JF (cl ++ [((j - k : Nat) : Int)])) k) k (JF (cl ++ [((j - k : Nat) : Int)]) k) x : Nat) : Int) = _
      rw [hc, hJ]
      unfold sw
      by_cases e : x = k
      · subst e
        by_cases e2 : x = j
        · rw [if_pos e2]; have hs2 : s2 (JF cl) x x = y := by rw [← hs]; exact congrArg _ e2
          rw [hs2, hy]
        · rw [if_neg e2, if_pos rfl, hs, hy]
      · rw [if_neg (by omega), if_neg e]
        exact he x (by omega)
theorem pk_all {n : Nat} {p : List Int} (h : ipP n p) (hn : p.length ≤ n) : ∃ cl : List Int, cl.length = p.length ∧ rp2 n cl ∧ pkI cl = p := by
  obtain ⟨cl, hl, hr, he⟩ := pk_of h hn p.length (Nat.le_refl _)
  refine ⟨cl, hl, hr, ?_⟩
  apply ints_eq (n := p.length) (by rw [pkI_len, hl]) rfl
  intro i hi
  unfold pkI
  rw [liI_get _ (by omega), hl, he i hi]
theorem pk_ip {n : Nat} {c : List Int} (h : rp2 n c) : ipP n (pkI c) := by
  have h1 := h.1
  have h2 := rp2_F h
  unfold ipP pkI
  rw [liI_len]
  constructor
  · intro k hk
    rw [liI_get _ hk]
    have := s2_lt h2 _ (Nat.le_refl _) k (by omega)
    omega
  · intro j k hj hk he
    rw [liI_get _ (by omega), liI_get _ hk] at he
    have := s2_inj h2 (Nat.le_refl _) (x := j) (y := k) (by omega) (by omega) (by omega)
    omega
end Go.Bv
namespace Go.Proofs.Ytajjpllhihgkdaa
open Go Go.RowKit Go.Bv
set_option linter.unusedVariables false
set_option maxRecDepth 100000 in
set_option maxHeartbeats 2000000 in
theorem ispick_any (N : Nat) (hN : N ≤ 100000) (a : Option Addr) (n c : Nat) (p : List Int) (w : World) (h : ZRow w a n c p) (hn : n ≤ 100000) :
    Calls Try.prog 57 #[.int .i64 (N : Int), .slice a n c] w fun e w' => e = .returned (.bool (ipB N p)) ∧ New w w' := by
  have HLN := Lib.hid h.len_eq
  have HH := Lib.hid h
  have HMK := Lib.hid (make_bool N (by omega))
  have HNO : Hid (∀ k, k < n → p.getD k 0 < 0 ∨ (N : Int) ≤ p.getD k 0 ∨ (∃ y : Nat, p.getD k 0 = (y : Int) ∧ seI p y k = true) → ipB N p = false) := Lib.hid (fun k hk hc => ipB_no (fun hp => by
    have h1 := hp.1 k (by rw [h.len_eq]; exact hk)
    rcases hc with hc | hc | ⟨y, hy, hs⟩
    · omega
    · omega
    · obtain ⟨j, hj, he⟩ := seI_iff.1 hs
      exact hp.2 j k hj (by rw [h.len_eq]; exact hk) (he.trans hy.symm)))
  have HYES : Hid ((∀ k, k < n → (0 ≤ p.getD k 0 ∧ p.getD k 0 < (N : Int)) ∧ ∀ y : Nat, p.getD k 0 = (y : Int) → seI p y k = false) → ipB N p = true) := Lib.hid (fun hc => ipB_iff.2 ⟨fun k hk => (hc k (by rw [← h.len_eq]; exact hk)).1, fun j k hj hk he => by
    rw [h.len_eq] at hk
    have h1 := hc k hk
    obtain ⟨y, hy⟩ : ∃ y : Nat, p.getD k 0 = (y : Int) := ⟨(p.getD k 0).toNat, by omega⟩
    have h2 := h1.2 y hy
    rw [seI_iff.2 ⟨j, hj, he.trans hy⟩] at h2
    cases h2⟩)
  clear h
  go_enter Try.func57, Try.ntmps57
  go_wp2_with fail
  rw [HMK.out _ _ rfl]
  go_wp2_with fail
  go_loopw [12] (fun iv wr => ∃ k : Nat, k ≤ n ∧ iv = .int .i64 (k : Int) ∧ Hid (∀ i, i < k → (0 ≤ p.getD i 0 ∧ p.getD i 0 < (N : Int)) ∧ ∀ y : Nat, p.getD i 0 = (y : Int) → seI p y i = false) ∧ wr.ownsRow w.heap.size 4 1 (.slice (some ⟨w.heap.size, 0, none⟩) N N) N ((seL p N k).map fun x => .bool x) ∧ New w wr) (fun iv _ => n - (intOf iv).toNat)
  case atStart => exact ⟨0, Nat.zero_le _, rfl, Lib.hid (fun i hi => by omega), ow_made w _ _ _ N _ (Nat.le_refl _) (by omega) (by rw [made_toList, seL_zero p]) (by rw [List.length_map, seL_len]), (New.refl w).alloc _⟩
  case round =>
    obtain ⟨k, hk, rfl, HO, hown, hnew⟩ := hrel
    by_cases hlt : (k : Int) < (n : Int)
    · have hk0 : (0 : Int) ≤ (k : Int) := by omega
      obtain ⟨b, off, rfl, hc⟩ := (HH.out.stay hnew).addr (by omega)
      have c1 := hc k (by omega)
      clear hc
      obtain ⟨x, hx⟩ : ∃ x, p.getD k 0 = x := ⟨_, rfl⟩
      rw [hx] at c1
      have HX := Lib.hid hx
      by_cases h1 : x < 0
      · have HF := Lib.hid (HNO.out k (by omega) (.inl (hx ▸ h1)))
        clear hx hown
        go_wp2
        go_ret
        rw [HF.out]; exact ⟨rfl, hnew⟩
      by_cases h2 : (N : Int) ≤ x
      · have HF := Lib.hid (HNO.out k (by omega) (.inr (.inl (hx ▸ h2))))
        clear hx hown
        go_wp2
        go_ret
        rw [HF.out]; exact ⟨rfl, hnew⟩
      obtain ⟨z, rfl⟩ : ∃ z : Nat, x = (z : Int) := ⟨x.toNat, by omega⟩
      have hzN : z < N := by omega
      have HST := Lib.hid (seL_set p N k z hzN hx)
      obtain ⟨hc2, hf2⟩ := ow_bool hown (k := z) hzN
      rw [seL_get p k hzN] at hc2
      have hy0 : (0 : Int) ≤ (z : Int) := by omega
      have hyN : (z : Int) < (N : Int) := by omega
      rcases hs : seI p z k with _ | _
      · rw [hs] at hc2
        have HO9 : Hid (∀ i, i < k + 1 → (0 ≤ p.getD i 0 ∧ p.getD i 0 < (N : Int)) ∧ ∀ y : Nat, p.getD i 0 = (y : Int) → seI p y i = false) := Lib.hid (fun i hi => by
          by_cases e : i = k
          · subst e
            rw [HX.out]
            exact ⟨⟨hy0, hyN⟩, fun y hy => by obtain rfl : z = y := by omega
                                              exact hs⟩
          · exact HO.out i (by omega))
        have HO2 : Hid ((wr.setCell ⟨w.heap.size, z, none⟩ (.bool true)).ownsRow w.heap.size 4 1 (.slice (some ⟨w.heap.size, 0, none⟩) N N) N ((seL p N (k + 1)).map fun x => .bool x)) := Lib.hid (by
          rw [← HST.out, List.map_set]; exact ow_set hown z _)
        have HN2 : Hid (New w (wr.setCell ⟨w.heap.size, z, none⟩ (.bool true))) := Lib.hid (hnew.setCell (Nat.le_refl _) _)
        clear hown hnew hs hx
        go_wp2
        exact ⟨⟨k + 1, by omega, by go_num, HO9.out, HO2.out, HN2.out⟩, by simp [intOf]; omega⟩
      · rw [hs] at hc2
        have HF := Lib.hid (HNO.out k (by omega) (.inr (.inr ⟨z, hx, hs⟩)))
        clear hx hown hs
        go_wp2
        go_ret
        rw [HF.out]; exact ⟨rfl, hnew⟩
    · obtain rfl : k = n := by omega
      have HF := Lib.hid (HYES.out HO.out)
      clear hown
      go_wp2
      go_ret
      rw [HF.out]; exact ⟨rfl, hnew⟩
set_option maxRecDepth 100000 in
set_option maxHeartbeats 2000000 in
theorem isr_41 (N : Nat) (hN : N ≤ 100000) (a : Option Addr) (n c : Nat) (p : List Int) (w : World) (h : ZRow w a n c p) (hn : n ≤ 100000) :
    Calls Try.prog 51 #[.int .i64 (N : Int), .slice a n c] w fun e w' => e = .returned (.bool (ipB N p)) ∧ w' = w := by
  have HH := Lib.hid h
  have HNO : Hid (∀ k, k < n → p.getD k 0 < 0 ∨ (N : Int) ≤ p.getD k 0 ∨ (∃ j, j < k ∧ p.getD j 0 = p.getD k 0) → ipB N p = false) := Lib.hid (fun k hk hc => ipB_no (fun hp => by
    have h1 := hp.1 k (by rw [h.len_eq]; exact hk)
    rcases hc with hc | hc | ⟨j, hj, he⟩
    · omega
    · omega
    · exact hp.2 j k hj (by rw [h.len_eq]; exact hk) he))
  have HYES : Hid ((∀ k, k < n → (0 ≤ p.getD k 0 ∧ p.getD k 0 < (N : Int)) ∧ ∀ j, j < k → p.getD j 0 ≠ p.getD k 0) → ipB N p = true) := Lib.hid (fun hc => ipB_iff.2 ⟨fun k hk => (hc k (by rw [← h.len_eq]; exact hk)).1, fun j k hj hk => (hc k (by rw [← h.len_eq]; exact hk)).2 j hj⟩)
  clear h
  go_enter Try.func51, Try.ntmps51
  go_wp2_with fail
  go_loop [10] (fun iv => ∃ k : Nat, k ≤ n ∧ iv = .int .i64 (k : Int) ∧ Hid (∀ i, i < k → (0 ≤ p.getD i 0 ∧ p.getD i 0 < (N : Int)) ∧ ∀ j, j < i → p.getD j 0 ≠ p.getD i 0)) (fun iv => n - (intOf iv).toNat)
  case atStart => exact ⟨0, Nat.zero_le _, rfl, Lib.hid (fun i hi => by omega)⟩
  case round =>
    obtain ⟨k, hk, rfl, HO⟩ := hrel
    by_cases hlt : (k : Int) < (n : Int)
    · have hk0 : (0 : Int) ≤ (k : Int) := by omega
      obtain ⟨b, off, rfl, hc⟩ := HH.out.addr (by omega)
      have c1 := hc k (by omega)
      have HC := Lib.hid hc
      clear hc
      obtain ⟨x, hx⟩ : ∃ x, p.getD k 0 = x := ⟨_, rfl⟩
      rw [hx] at c1
      have HX := Lib.hid hx
      by_cases h1 : x < 0
      · have HF := Lib.hid (HNO.out k (by omega) (.inl (hx ▸ h1)))
        clear hx
        go_wp2
        go_ret
        rw [HF.out]; exact ⟨rfl, rfl⟩
      by_cases h2 : (N : Int) ≤ x
      · have HF := Lib.hid (HNO.out k (by omega) (.inr (.inl (hx ▸ h2))))
        clear hx
        go_wp2
        go_ret
        rw [HF.out]; exact ⟨rfl, rfl⟩
      have hkn : k < n := by omega
      have hb1 : 0 ≤ x := by omega
      have hb2 : x < (N : Int) := by omega
      clear hx
      go_wp2_with fail
      go_loop [7] (fun jv => ∃ j : Nat, j ≤ k ∧ jv = .int .i64 (j : Int) ∧ Hid (∀ i, i < j → p.getD i 0 ≠ x)) (fun jv => k - (intOf jv).toNat)
      case atStart => exact ⟨0, Nat.zero_le _, rfl, Lib.hid (fun i hi => by omega)⟩
      case round =>
        obtain ⟨j, hj, rfl, HJ⟩ := hrel
        by_cases hjl : (j : Int) < (k : Int)
        · have hj0 : (0 : Int) ≤ (j : Int) := by omega
          have hjn : (j : Int) < (n : Int) := by omega
          have c2 := HC.out j (by omega)
          obtain ⟨y, hy⟩ : ∃ y, p.getD j 0 = y := ⟨_, rfl⟩
          rw [hy] at c2
          have HYY := Lib.hid hy
          clear hy
          by_cases he : y = x
          · subst he
            have HF := Lib.hid (HNO.out k hkn (.inr (.inr ⟨j, by omega, HYY.out.trans HX.out.symm⟩)))
            go_wp2
            go_ret
            rw [HF.out]; exact ⟨rfl, rfl⟩
          · have he2 : (y == x) = false := by rw [beq_eq_false_iff_ne]; exact he
            have HJ2 : Hid (∀ i, i < j + 1 → p.getD i 0 ≠ x) := Lib.hid (fun i hi => by
              by_cases e : i = j
              · subst e; rw [HYY.out]; exact he
              · exact HJ.out i (by omega))
            go_wp2
            exact ⟨⟨j + 1, by omega, by go_num, HJ2.out⟩, by simp [intOf]; omega⟩
        · obtain rfl : j = k := by omega
          have HO2 : Hid (∀ i, i < j + 1 → (0 ≤ p.getD i 0 ∧ p.getD i 0 < (N : Int)) ∧ ∀ m, m < i → p.getD m 0 ≠ p.getD i 0) := Lib.hid (fun i hi => by
            by_cases e : i = j
            · subst e
              rw [HX.out]
              exact ⟨⟨hb1, hb2⟩, HJ.out⟩
            · exact HO.out i (by omega))
          go_wp2
          exact ⟨⟨j + 1, by omega, by go_num, HO2.out⟩, by simp [intOf]; omega⟩
    · obtain rfl : k = n := by omega
      have HF := Lib.hid (HYES.out HO.out)
      go_wp2
      go_ret
      rw [HF.out]; exact ⟨rfl, rfl⟩
end Go.Proofs.Ytajjpllhihgkdaa
namespace Go.Proofs.Ytajjpllhihgkdaa
open Go Go.RowKit Go.Bv
set_option linter.unusedVariables false
/-- the limits that are laid so far -/
def lzI (n K k : Nat) : List Int := liI (fun x => if x < k then n - x else 0) K
theorem lzI_zero (n K : Nat) : (List.replicate K (Value.int .i64 0)) = (lzI n K 0).map fun x => .int .i64 x := by
  rw [zeros_li]
  unfold lzI
  rw [liI_ext (fun x _ => if_neg (by omega))]
theorem lzI_all (n K : Nat) : lzI n K K = liI (fun x => n - x) K := liI_ext fun x hx => by rw [if_pos hx]
theorem lzI_set (n K k : Nat) (h : k < K) : (lzI n K k).set k ((n - k : Nat) : Int) = lzI n K (k + 1) := by
  unfold lzI
  rw [liI_set _ _ h]
  apply liI_ext
  intro x hx
  by_cases e : x = k
  · subst e; rw [if_pos rfl, if_pos (by omega)]
  · rw [if_neg e]
    by_cases e2 : x < k
    · rw [if_pos e2, if_pos (by omega)]
    · rw [if_neg e2, if_neg (by omega)]
end Go.Proofs.Ytajjpllhihgkdaa
/- subset: ascending lists, the numbers that are left; Move. -/
namespace Go.Proofs.Ytajjpllhihgkdaa
open Go Go.RowKit Go.Bv
set_option linter.unusedVariables false
theorem idx_any (a : Option Addr) (m cap : Nat) (v : Int) (l : List Int) (w : World) (h : ZRow w a m cap l) :
    Calls Try.prog 39 #[.slice a m cap, .int .i64 v] w fun e w' => ∃ z : Int, e = .returned (.int .i64 z) ∧ (0 ≤ z ↔ v ∈ l) ∧ w' = w := by
  have hm := h.most
  have HH := Lib.hid h
  have HNO : Hid ((∀ i, i < m → l.getD i 0 ≠ v) → ¬ v ∈ l) := Lib.hid (fun h2 h3 => by
    obtain ⟨j, hj, he⟩ := mem_at.1 h3
    exact h2 j (by rw [← h.len_eq]; exact hj) he)
  have HYES : Hid (∀ i, i < m → l.getD i 0 = v → v ∈ l) := Lib.hid (fun i hi he => mem_at.2 ⟨i, by rw [h.len_eq]; exact hi, he⟩)
  clear h
  go_enter Try.func39, Try.ntmps39
  go_wp2_with fail
  go_loop [8] (fun iv => ∃ j : Nat, j ≤ m ∧ iv = .int .i64 (j : Int) ∧ Hid (∀ i, i < j → l.getD i 0 ≠ v)) (fun iv => m - (intOf iv).toNat)
  case atStart => exact ⟨0, Nat.zero_le _, rfl, Lib.hid (fun i hi => by omega)⟩
  case round =>
    obtain ⟨j, hj, rfl, HJ⟩ := hrel
    by_cases hlt : (j : Int) < (m : Int)
    · have hj0 : (0 : Int) ≤ (j : Int) := by omega
      obtain ⟨b, off, rfl, hc⟩ := HH.out.addr (by omega)
      have c1 := hc j (by omega)
      clear hc
      obtain ⟨x, hx⟩ : ∃ x, l.getD j 0 = x := ⟨_, rfl⟩
      rw [hx] at c1
      have HX := Lib.hid hx
      clear hx
      by_cases he : v = x
      · subst he
        have HF := Lib.hid (HYES.out j (by omega) HX.out)
        have hb : (v == v) = true := by simp
        go_wp2
        go_ret
        exact ⟨_, rfl, ⟨fun _ => HF.out, fun _ => hj0⟩, rfl⟩
      · have hb : (v == x) = false := by rw [beq_eq_false_iff_ne]; exact he
        have HF : Hid (∀ i, i < j + 1 → l.getD i 0 ≠ v) := Lib.hid (fun i hi => by
          by_cases e : i = j
          · subst e; rw [HX.out]; exact fun h => he h.symm
          · exact HJ.out i (by omega))
        go_wp2
        exact ⟨⟨j + 1, by omega, by go_num, HF⟩, by simp [intOf]; omega⟩
    · obtain rfl : j = m := by omega
      have HF := Lib.hid (HNO.out HJ.out)
      go_wp2
      go_ret
      exact ⟨_, rfl, ⟨fun h => absurd h (by decide), fun h => absurd h HF.out⟩, rfl⟩
theorem has_q (a : Option Addr) (m cap : Nat) (v : Int) (l : List Int) (w : World) (h : ZRow w a m cap l) :
    Calls Try.prog 69 #[.slice a m cap, .int .i64 v] w fun e w' => e = .returned (.bool (l.contains v)) ∧ w' = w := by
  have HI := Lib.hid (idx_any a m cap v l w h)
  clear h
  go_enter Try.func69, Try.ntmps69
  go_wp2_with fail
  refine HI.out.mono ?_
  rintro e w' ⟨z, rfl, hz, hw⟩
  replace hw := hw.symm
  subst hw
  have HZ := Lib.hid hz
  clear hz HI
  by_cases h0 : 0 ≤ z
  · have HC : Hid (l.contains v = true) := Lib.hid (by simpa using HZ.out.1 h0)
    have hd : decide (0 ≤ z) = true := decide_eq_true h0
    go_wp2
    go_ret
    rw [HC.out]; first | exact ⟨rfl, rfl⟩ | (rw [hd]; exact ⟨rfl, rfl⟩) | exact ⟨by simp [h0], rfl⟩
  · have HC : Hid (l.contains v = false) := Lib.hid (by
      rw [← Bool.not_eq_true]
      intro h9
      exact h0 (HZ.out.2 (by simpa using h9)))
    have hd : decide (0 ≤ z) = false := decide_eq_false h0
    go_wp2
    go_ret
    rw [HC.out]; first | exact ⟨rfl, rfl⟩ | (rw [hd]; exact ⟨rfl, rfl⟩) | exact ⟨by simp [h0], rfl⟩
theorem rem_q (n : Nat) (w : World) :
    Calls Try.prog 59 #[.int .i64 (n : Int)] w fun e w' => e = .returned (.func (Fn.func 68) #[] #[.pointer (some ⟨w.heap.size, 0, none⟩)]) ∧ w'.heap[w.heap.size]? = some (.cells #[.int .i64 (n : Int)] 3 (0, 0)) ∧ New w w' := by
  have H1 := Lib.hid (heap_alloc_new w (.cells #[.int .i64 (n : Int)] 3))
  go_enter Try.func59, Try.ntmps59
  go_wp2
  go_ret
  exact ⟨rfl, H1.out, (New.refl w).alloc _⟩
def rsI (s : List Int) (x : Nat) : List Int := (rsN s x).map fun y : Nat => (y : Int)
theorem rsI_len (s : List Int) (x : Nat) : (rsI s x).length = (rsN s x).length := by unfold rsI; rw [List.length_map]
set_option maxRecDepth 100000 in
set_option maxHeartbeats 2000000 in
theorem rem1_q (n : Nat) (hn : n ≤ 100000) (b : Nat) (a : Option Addr) (m c : Nat) (s : List Int) (w : World) (h : ZRow w a m c s) (hb : w.heap[b]? = some (.cells #[.int .i64 (n : Int)] 3 (0, 0))) :
    Calls Try.prog 68 #[.slice a m c, .pointer (some ⟨b, 0, none⟩)] w fun e w' => ∃ a' c', e = .returned (.slice a' ((rsN s n).length : Nat) c') ∧ ZRow w' a' (rsN s n).length c' (rsI s n) ∧ New w w' := by
  obtain ⟨i0, hi, hz0, hz1, hz2⟩ := info_parts info_int40
  have HH := Lib.hid h
  have k0 := cell_of_row _ _ 0 _ _ _ hb
  have HLE : Hid (∀ x, x ≤ n → (rsN s x).length ≤ n) := Lib.hid (fun x hx => by
    unfold rsN
    have := List.length_filter_le (fun y : Nat => !s.contains (y : Int)) (List.range x)
    rw [List.length_range] at this
    omega)
  have HIN : Hid (∀ z ∈ rsI s n, In64 z) := Lib.hid (fun z hz => by
    unfold rsI at hz
    rw [List.mem_map] at hz
    obtain ⟨y, hy, rfl⟩ := hz
    have := (rsN_mem.1 hy).1
    unfold In64; omega)
  clear h hb
  go_enter Try.func68, Try.ntmps68
  go_wp2_with fail
  go_loopw [4, 7] (fun v iv wr => ∃ x : Nat, x ≤ n ∧ iv = .int .i64 (x : Int) ∧ wr.ownsRow w.heap.size 3 1 v (rsN s x).length ((rsI s x).map fun x => .int .i64 x) ∧ New w wr) (fun _ iv _ => n - (intOf iv).toNat)
  case atStart =>
    have e0 : rsN s 0 = [] := rfl
    have e1 : rsI s 0 = [] := rfl
    refine ⟨0, Nat.zero_le _, rfl, ?_, New.refl _⟩
    rw [e0, e1]
    exact World.ownsRow_nil _ _ _ 1
  case round =>
    obtain ⟨x, hx, rfl, hown, hnew⟩ := hrel
    obtain ⟨wq, hwq⟩ : ∃ z, z = wr := ⟨_, rfl⟩
    rw [← hwq] at hown hnew ⊢
    clear hwq
    by_cases hlt : (x : Int) < (n : Int)
    · have hx0 : (0 : Int) ≤ (x : Int) := by omega
      have HC := Lib.hid (has_q a m c (x : Int) s wq (HH.out.stay hnew))
      have hle := HLE.out x hx
      have HSU := Lib.hid (rsN_succ s x)
      by_cases hs : (x : Int) ∈ s
      · have hsc : s.contains (x : Int) = true := by simpa using hs
        rw [hsc] at HC
        have HE : Hid (rsN s (x + 1) = rsN s x) := Lib.hid (by rw [HSU.out, if_pos hs, List.append_nil])
        have HO2 : Hid (wq.ownsRow w.heap.size 3 1 u4 (rsN s (x + 1)).length ((rsI s (x + 1)).map fun x => .int .i64 x)) := Lib.hid (by
          unfold rsI; rw [HE.out]; exact hown)
        clear hown hs hsc
        go_wp2_with fail
        refine HC.out.mono ?_
        rintro e w' ⟨rfl, hw⟩
        replace hw := hw.symm
        subst hw
        clear HC
        go_wp2
        exact ⟨⟨x + 1, by omega, by go_num, HO2.out, hnew⟩, by simp [intOf]; omega⟩
      · have hsc : s.contains (x : Int) = false := by simpa using hs
        rw [hsc] at HC
        have HE : Hid (rsN s (x + 1) = rsN s x ++ [x]) := Lib.hid (by rw [HSU.out, if_neg hs])
        obtain ⟨q, hq⟩ : ∃ q, (rsN s x).length = q := ⟨_, rfl⟩
        have HQL : Hid ((rsN s (x + 1)).length = q + 1) := Lib.hid (by rw [HE.out, List.length_append, hq]; rfl)
        have HRI : Hid ((rsI s (x + 1)).map (fun x => Value.int .i64 x) = ((rsI s x).map fun x => Value.int .i64 x) ++ [.int .i64 (x : Int)]) := Lib.hid (by
          unfold rsI; rw [HE.out, List.map_append, List.map_append]; rfl)
        rw [hq] at hown hle
        have hq256 : q ≤ 100000 := by omega
        clear hs hsc hq HSU
        go_wp2_with fail
        refine HC.out.mono ?_
        rintro e w' ⟨rfl, hw⟩
        replace hw := hw.symm
        subst hw
        clear HC
        go_wp2_with (at_builtin; refine wpList_append_own _ rfl _ _ 22 rfl w.heap.size 3 i0 (.int .i64 0) 1 8 Try.underlying22 hi hz0 hz1 hz2 rfl (by decide) _ q _ rfl (hown.alloc _) ⟨wq.heap.size, 0, none⟩ 1 1 [.int .i64 (x : Int)] rfl rfl ?c1 ?c2 ?c3 ?c4 ?c5 ?_)
        try (case c1 => exact one_cell wq _ _)
        try (case c2 => first | rfl | (intro u hu; simp at hu; subst hu; rfl))
        try (case c3 => first | (unfold maxLen; omega) | omega)
        try (case c4 => omega)
        try (case c5 => first | (simp; have := hnew.le; omega) | (have := hnew.le; omega))
        intro v' w9 how hgr _
        have HO2 : Hid (w9.ownsRow w.heap.size 3 1 v' (rsN s (x + 1)).length ((rsI s (x + 1)).map fun x => .int .i64 x)) := Lib.hid (by
          rw [HQL.out, HRI.out]; exact how)
        have HN1 := Lib.hid ((hnew.alloc _).grown' hgr (own_base hown))
        clear how hgr hown hnew
        go_wp2
        exact ⟨⟨x + 1, by omega, by go_num, HO2.out, HN1.out⟩, by simp [intOf]; omega⟩
    · obtain rfl : x = n := by omega
      obtain ⟨a', c', rfl, hz⟩ := ZRow.of_owns hown (by have := HLE.out x (Nat.le_refl _); omega) HIN.out
      have HZ := Lib.hid hz
      have HN := Lib.hid hnew
      clear hown hz hnew
      go_wp2
      go_ret
      exact ⟨_, _, rfl, HZ.out, HN.out⟩
/-- each number is greater than the one before it -/
def acB (l : List Int) : Nat → Bool
  | 0 => true
  | k + 1 => acB l k && (decide (k = 0) || decide (l.getD (k - 1) 0 < l.getD k 0))
theorem acB_iff {l : List Int} : ∀ {m}, acB l m = true ↔ ∀ k, 0 < k → k < m → l.getD (k - 1) 0 < l.getD k 0
  | 0 => ⟨fun _ k _ h => by omega, fun _ => rfl⟩
  | m + 1 => by
    show (acB l m && (decide (m = 0) || decide (l.getD (m - 1) 0 < l.getD m 0))) = true ↔ _
    rw [Bool.and_eq_true, Bool.or_eq_true, decide_eq_true_eq, decide_eq_true_eq, acB_iff (m := m)]
    constructor
    · rintro ⟨h1, h2⟩ k hk hkm
      by_cases e : k = m
      · subst e
        rcases h2 with h2 | h2
        · omega
        · exact h2
      · exact h1 k hk (by omega)
    · intro h
      refine ⟨fun k h1 h2 => h k h1 (by omega), ?_⟩
      by_cases e : m = 0
      · exact .inl e
      · exact .inr (h m (by omega) (by omega))
theorem acB_no {l : List Int} {m k : Nat} (h0 : 0 < k) (hk : k < m) (h : l.getD k 0 ≤ l.getD (k - 1) 0) : acB l m = false := by
  rw [← Bool.not_eq_true, acB_iff]
  intro h2
  have := h2 k h0 hk
  omega
set_option maxRecDepth 100000 in
set_option maxHeartbeats 2000000 in
theorem asc_q (a : Option Addr) (m c : Nat) (l : List Int) (w : World) (h : ZRow w a m c l) :
    Calls Try.prog 58 #[.slice a m c] w fun e w' => e = .returned (.bool (acB l m)) ∧ New w w' := by
  have hm := h.most
  have HH := Lib.hid h
  have HNO : Hid (∀ k, 0 < k → k < m → l.getD k 0 ≤ l.getD (k - 1) 0 → acB l m = false) := Lib.hid (fun k h1 h2 h3 => acB_no h1 h2 h3)
  have HYES : Hid ((∀ k, 0 < k → k < m → l.getD (k - 1) 0 < l.getD k 0) → acB l m = true) := Lib.hid (fun h => acB_iff.2 h)
  clear h
  go_enter Try.func58, Try.ntmps58
  go_wp2_with fail
  go_loopw [3] (fun iv wr => ∃ k : Nat, 0 < k ∧ (k ≤ m ∨ k = 1) ∧ iv = .int .i64 (k : Int) ∧ Hid (∀ i, 0 < i → i < k → i < m → l.getD (i - 1) 0 < l.getD i 0) ∧ New w wr) (fun iv _ => m - (intOf iv).toNat)
  case atStart => exact ⟨1, by omega, .inr rfl, rfl, Lib.hid (fun i h1 h2 => by omega), New.refl _⟩
  case round =>
    obtain ⟨k, hk0, hk, rfl, HJ, hnew⟩ := hrel
    by_cases hlt : (k : Int) < (m : Int)
    · have hk1 : (0 : Int) ≤ (k : Int) := by omega
      obtain ⟨j, hj⟩ : ∃ j, k - 1 = j := ⟨_, rfl⟩
      have hkj : (k : Int) - 1 = (j : Int) := by omega
      have hj0 : (0 : Int) ≤ (j : Int) := by omega
      have hjm : (j : Int) < (m : Int) := by omega
      obtain ⟨b, off, rfl, hc⟩ := (HH.out.stay hnew).addr (by omega)
      have c1 := hc k (by omega)
      have c2 := hc j (by omega)
      clear hc
      have HN9 := Lib.hid (HNO.out k hk0 (by omega))
      rw [hj] at HN9
      obtain ⟨x, hx⟩ : ∃ x, l.getD k 0 = x := ⟨_, rfl⟩
      obtain ⟨y, hy⟩ : ∃ y, l.getD j 0 = y := ⟨_, rfl⟩
      rw [hx] at c1
      rw [hy] at c2
      rw [hx, hy] at HN9
      have HX := Lib.hid hx
      have HY := Lib.hid hy
      have HJE := Lib.hid hj
      clear hx hy hj
      have HNW := Lib.hid hnew
      clear hnew
      by_cases he : x ≤ y
      · have HF := Lib.hid (HN9.out he)
        go_wp2_with fail
        go_quiet (fail)
        go_wp2
        go_ret
        rw [HF.out]; exact ⟨rfl, HNW.out.drewN nq⟩
      · have HF : Hid (∀ i, 0 < i → i < k + 1 → i < m → l.getD (i - 1) 0 < l.getD i 0) := Lib.hid (fun i h1 h2 h3 => by
          by_cases e : i = k
          · subst e; rw [HJE.out, HX.out, HY.out]; omega
          · exact HJ.out i h1 (by omega) h3)
        go_wp2_with fail
        go_quiet (fail)
        go_wp2
        exact ⟨⟨k + 1, by omega, .inl (by omega), by go_num, HF.out, HNW.out.drewN nq⟩, by simp [intOf]; omega⟩
    · have HF := Lib.hid (HYES.out (fun i h1 h2 => HJ.out i h1 (by omega) h2))
      go_wp2
      go_ret
      rw [HF.out]; exact ⟨rfl, hnew⟩
set_option maxRecDepth 100000 in
set_option maxHeartbeats 2000000 in
theorem rises_q (N : Nat) (hN : N ≤ 100000) (a : Option Addr) (m c : Nat) (l : List Int) (w : World) (h : ZRow w a m c l) (hm : m ≤ 100000) :
    Calls Try.prog 29 #[.int .i64 (N : Int), .slice a m c] w fun e w' => e = .returned (.bool (ipB N l && acB l m)) ∧ New w w' := by
  have HI := Lib.hid (isr_41 N hN a m c l w h hm)
  have HH := Lib.hid h
  have HLL := Lib.hid h.len_eq
  clear h
  rcases hp : ipB N l with _ | _
  · rw [hp] at HI
    clear hp
    go_enter Try.func29, Try.ntmps29
    go_wp2_with fail
    refine HI.out.mono ?_
    rintro e w' ⟨rfl, hw⟩
    replace hw := hw.symm
    subst hw
    go_wp2
    go_ret
    exact ⟨rfl, New.refl _⟩
  rw [hp] at HI
  have HD : Hid (∀ k, 0 < k → k < m → l.getD (k - 1) 0 ≠ l.getD k 0) := Lib.hid (fun k h1 h2 => (ipB_iff.1 hp).2 (k - 1) k (by omega) (by rw [HLL.out]; exact h2))
  have HNO : Hid (∀ k, 0 < k → k < m → l.getD k 0 ≤ l.getD (k - 1) 0 → acB l m = false) := Lib.hid (fun k h1 h2 h3 => acB_no h1 h2 h3)
  have HYES : Hid ((∀ k, 0 < k → k < m → l.getD (k - 1) 0 < l.getD k 0) → acB l m = true) := Lib.hid (fun h => acB_iff.2 h)
  rw [Bool.true_and]
  clear hp
  go_enter Try.func29, Try.ntmps29
  go_wp2_with fail
  refine HI.out.mono ?_
  rintro e w' ⟨rfl, hw⟩
  replace hw := hw.symm
  subst hw
  clear HI
  go_wp2_with fail
  go_loopw [5] (fun iv wr => ∃ k : Nat, 0 < k ∧ (k ≤ m ∨ k = 1) ∧ iv = .int .i64 (k : Int) ∧ Hid (∀ i, 0 < i → i < k → i < m → l.getD (i - 1) 0 < l.getD i 0) ∧ New w wr) (fun iv _ => m - (intOf iv).toNat)
  case atStart => exact ⟨1, by omega, .inr rfl, rfl, Lib.hid (fun i h1 h2 => by omega), New.refl _⟩
  case round =>
    obtain ⟨k, hk0, hk, rfl, HJ, hnew⟩ := hrel
    by_cases hlt : (k : Int) < (m : Int)
    · have hk1 : (0 : Int) ≤ (k : Int) := by omega
      obtain ⟨j, hj⟩ : ∃ j, k - 1 = j := ⟨_, rfl⟩
      have hkj : (k : Int) - 1 = (j : Int) := by omega
      have hj0 : (0 : Int) ≤ (j : Int) := by omega
      have hjm : (j : Int) < (m : Int) := by omega
      obtain ⟨b, off, rfl, hc⟩ := (HH.out.stay hnew).addr (by omega)
      have c1 := hc k (by omega)
      have c2 := hc j (by omega)
      clear hc
      have HN9 := Lib.hid (HNO.out k hk0 (by omega))
      have HD9 := Lib.hid (HD.out k hk0 (by omega))
      rw [hj] at HN9 HD9
      obtain ⟨x, hx⟩ : ∃ x, l.getD k 0 = x := ⟨_, rfl⟩
      obtain ⟨y, hy⟩ : ∃ y, l.getD j 0 = y := ⟨_, rfl⟩
      rw [hx] at c1
      rw [hy] at c2
      rw [hx, hy] at HN9 HD9
      have HX := Lib.hid hx
      have HY := Lib.hid hy
      have HJE := Lib.hid hj
      clear hx hy hj
      have HNW := Lib.hid hnew
      clear hnew
      by_cases he : x < y
      · have HF := Lib.hid (HN9.out (by omega))
        go_wp2_with fail
        go_quiet (fail)
        go_wp2
        go_ret
        rw [HF.out]; exact ⟨rfl, HNW.out.drewN nq⟩
      · have HF : Hid (∀ i, 0 < i → i < k + 1 → i < m → l.getD (i - 1) 0 < l.getD i 0) := Lib.hid (fun i h1 h2 h3 => by
          by_cases e : i = k
          · subst e
            have h9 := HD9.out
            rw [HJE.out, HX.out, HY.out]; omega
          · exact HJ.out i h1 (by omega) h3)
        go_wp2_with fail
        go_quiet (fail)
        go_wp2
        exact ⟨⟨k + 1, by omega, .inl (by omega), by go_num, HF.out, HNW.out.drewN nq⟩, by simp [intOf]; omega⟩
    · have HF := Lib.hid (HYES.out (fun i h1 h2 => HJ.out i h1 (by omega) h2))
      go_wp2
      go_ret
      rw [HF.out]; exact ⟨rfl, hnew⟩
end Go.Proofs.Ytajjpllhihgkdaa
/- subset.Move. -/
namespace Go.Bv
open Go Go.RowKit
set_option linter.unusedVariables false
/-- a list after its places s are stored with t, one by one -/
def stL (b s t : List Int) : Nat → List Int
  | 0 => b
  | k + 1 => (stL b s t k).set (s.getD k 0).toNat (t.getD k 0)
theorem stL_len (b s t : List Int) : ∀ k, (stL b s t k).length = b.length
  | 0 => rfl
  | k + 1 => by
    show ((stL b s t k).set _ _).length = _
    rw [List.length_set, stL_len b s t k]
theorem getD_set_eq {l : List Int} {i : Nat} (h : i < l.length) (v : Int) : (l.set i v).getD i 0 = v := by
  rw [List.getD_eq_getElem?_getD, List.getElem?_set, if_pos rfl, if_pos h]; rfl
theorem getD_set_ne {l : List Int} {i j : Nat} (h : i ≠ j) (v : Int) : (l.set i v).getD j 0 = l.getD j 0 := by
  rw [List.getD_eq_getElem?_getD, List.getElem?_set, if_neg h, ← List.getD_eq_getElem?_getD]
theorem stL_out {b s t : List Int} {x : Nat} : ∀ {k}, (∀ j, j < k → 0 ≤ s.getD j 0) → (∀ j, j < k → s.getD j 0 ≠ (x : Int)) → (stL b s t k).getD x 0 = b.getD x 0
  | 0, _, _ => rfl
  | k + 1, h0, h => by
    show ((stL b s t k).set (s.getD k 0).toNat (t.getD k 0)).getD x 0 = _
    have h1 := h0 k (by omega)
    have h2 := h k (by omega)
    rw [getD_set_ne (by omega)]
    exact stL_out (fun j hj => h0 j (by omega)) (fun j hj => h j (by omega))
theorem stL_in {b s t : List Int} {x j : Nat} (hx : x < b.length) (hd : ∀ i k, i < k → k < s.length → s.getD i 0 ≠ s.getD k 0) (hj : s.getD j 0 = (x : Int)) : ∀ {k}, k ≤ s.length → (∀ j, j < k → 0 ≤ s.getD j 0) → j < k → (stL b s t k).getD x 0 = t.getD j 0
  | 0, _, _, h => by omega
  | k + 1, hk, h0, h => by
    show ((stL b s t k).set (s.getD k 0).toNat (t.getD k 0)).getD x 0 = _
    by_cases e : j = k
    · subst e
      rw [hj, Int.toNat_natCast, getD_set_eq (by rw [stL_len]; exact hx)]
    · have h1 := h0 k (by omega)
      have h2 := hd j k (by omega) (by omega)
      rw [getD_set_ne (by omega)]
      exact stL_in hx hd hj (by omega) (fun j hj => h0 j (by omega)) (by omega)
end Go.Bv
namespace Go.Proofs.Ytajjpllhihgkdaa
open Go Go.RowKit Go.Bv
set_option linter.unusedVariables false
theorem at_lt {w : World} {k : Nat} {o : Obj} (h : w.heap[k]? = some o) : k < w.heap.size := by
  rcases Nat.lt_or_ge k w.heap.size with h1 | h1
  · exact h1
  · rw [Array.getElem?_eq_none h1] at h; cases h
theorem rsI_get (s : List Int) (n : Nat) {j : Nat} (hj : j < (rsN s n).length) : (rsI s n).getD j 0 = (((rsN s n).getD j 0 : Nat) : Int) := by
  unfold rsI
  rw [List.getD_eq_getElem?_getD, List.getElem?_map, List.getElem?_eq_getElem hj, List.getD_eq_getElem?_getD, List.getElem?_eq_getElem hj]; rfl
theorem rsI_rt {s : List Int} {n j : Nat} (hj : j < (rsN s n).length) : 0 ≤ (rsI s n).getD j 0 ∧ (rsI s n).getD j 0 < (n : Int) := by
  rw [rsI_get s n hj]
  have h := (rsN_mem.1 (getD_memN hj)).1
  omega
theorem mv_fin {n : Nat} {s t : List Int} (hs : stP n s) (ht : stP n t) (hl : s.length = t.length) :
    stL (stL (List.replicate n 0) s t s.length) (rsI s n) (rsI t n) (rsN s n).length = mvI n s t := by
  have hz : (List.replicate n (0 : Int)).length = n := List.length_replicate
  apply ints_eq (n := n) (by rw [stL_len, stL_len, hz]) (mvI_len _ _ _)
  intro x hx
  have hR : (mvI n s t).getD x 0 = ((mvF n s t x : Nat) : Int) := by unfold mvI; rw [liI_get _ hx]
  rw [hR]
  have h0 : ∀ j, j < (rsN s n).length → 0 ≤ (rsI s n).getD j 0 := fun j hj => (rsI_rt hj).1
  by_cases h : (x : Int) ∈ s
  · rw [stL_out h0 (fun j hj he => by
      rw [rsI_get s n hj] at he
      have h9 := (rsN_mem.1 (getD_memN hj)).2
      rw [he] at h9
      exact h9 h)]
    obtain ⟨h1, h2⟩ := at_idx h
    rw [stL_in (by rw [hz]; exact hx) hs.2 h2 (Nat.le_refl _) (fun j hj => (hs.1 j hj).1) h1]
    exact (mvF_in hs ht hl h).1.symm
  · obtain ⟨h1, h2⟩ := at_idxN (rsN_mem.2 ⟨hx, h⟩)
    obtain ⟨e1, _, _, h3⟩ := mvF_out hs ht hl hx h
    rw [stL_in (by rw [stL_len, hz]; exact hx) (fun i k hik hk => by
      rw [rsI_len] at hk
      rw [rsI_get s n (by omega), rsI_get s n hk]
      have h9 := rsN_nodup s n
      intro he
      have e2 := idx_atN h9 (show i < (rsN s n).length by omega)
      have e3 := idx_atN h9 hk
      have he2 : (rsN s n).getD i 0 = (rsN s n).getD k 0 := by omega
      rw [he2] at e2
      omega) (by rw [rsI_get s n h1, h2]) (by rw [rsI_len]; exact Nat.le_refl _) h0 h1]
    rw [rsI_get t n h3, e1]
set_option maxRecDepth 100000 in
set_option maxHeartbeats 4000000 in
theorem move_q (n : Nat) (hn : n ≤ 256) (a b : Option Addr) (m c c2 : Nat) (s t : List Int) (w : World) (h : ZRow w a m c s) (h2 : ZRow w b m c2 t) (hs : stP n s) (ht : stP n t) (ha : acB s m = true) (hb : acB t m = true) :
    Calls Try.prog 47 #[.int .i64 (n : Int), .slice a m c, .slice b m c2] w fun e w' => ∃ a' c', e = .returned (.tuple #[.slice a' (n : Nat) c', .int .i64 0]) ∧ ZRow w' a' n c' (mvI n s t) ∧ New w w' := by
  have hls := h.len_eq
  have hlt := h2.len_eq
  have hmn := rsN_len hs.1 hs.2
  have hmt := rsN_len ht.1 ht.2
  have hfin := mv_fin hs ht (hls.trans hlt.symm)
  have HIN : Hid (∀ z ∈ mvI n s t, In64 z) := Lib.hid (in64_li _ (fun x hx => by have := mvF_lt hs ht (hls.trans hlt.symm) hx; omega))
  have HSZ := Lib.hid (fun w => sizes_41 (n : Int) 0 w)
  rw [show szE (n : Int) 0 = 0 from if_neg (by omega)] at HSZ
  have HP1 := Lib.hid (fun w' (hn' : New w w') => ispick_any n (by omega) a m c s w' (h.stay hn') (by omega))
  rw [show ipB n s = true from ipB_iff.2 hs] at HP1
  have HP2 := Lib.hid (fun w' (hn' : New w w') => ispick_any n (by omega) b m c2 t w' (h2.stay hn') (by omega))
  rw [show ipB n t = true from ipB_iff.2 ht] at HP2
  have HA1 := Lib.hid (fun w' (hn' : New w w') => asc_q a m c s w' (h.stay hn'))
  rw [ha] at HA1
  have HA2 := Lib.hid (fun w' (hn' : New w w') => asc_q b m c2 t w' (h2.stay hn'))
  rw [hb] at HA2
  have HRM := Lib.hid (fun w => rem_q n w)
  have HR1 := Lib.hid (fun w' bk (hn' : New w w') hb => rem1_q n (by omega) bk a m c s w' (h.stay hn') hb)
  have HR2 := Lib.hid (fun w' bk (hn' : New w w') hb => rem1_q n (by omega) bk b m c2 t w' (h2.stay hn') hb)
  have HMK := Lib.hid (make_int n (by omega))
  have HSR : Hid (∀ j, j < m → 0 ≤ s.getD j 0 ∧ s.getD j 0 < (n : Int)) := Lib.hid (fun j hj => hs.1 j (by omega))
  have HRR : Hid (∀ j, j < (rsN s n).length → 0 ≤ (rsI s n).getD j 0 ∧ (rsI s n).getD j 0 < (n : Int)) := Lib.hid (fun j hj => rsI_rt hj)
  rw [show (rsN t n).length = (rsN s n).length by omega] at HR2
  rw [hls] at hfin
  have hmm : m ≤ 256 := by omega
  have hRn : (rsN s n).length ≤ 256 := by omega
  have hb2 : ((m : Int) != (m : Int)) = false := by simp
  have HH := Lib.hid h
  have HH2 := Lib.hid h2
  clear hmn hmt hls hlt h h2 hs ht ha hb
  obtain ⟨R, hR⟩ : ∃ R, (rsN s n).length = R := ⟨_, rfl⟩
  rw [hR] at HR1 HR2 HRR hfin hRn
  clear hR
  obtain ⟨s', hs'⟩ : ∃ z, rsI s n = z := ⟨_, rfl⟩
  rw [hs'] at HR1 HRR hfin
  clear hs'
  obtain ⟨t', ht'⟩ : ∃ z, rsI t n = z := ⟨_, rfl⟩
  rw [ht'] at HR2 hfin
  clear ht'
  have HFIN := Lib.hid hfin
  clear hfin
  go_enter Try.func47, Try.ntmps47
  go_wp2_with fail
  refine (HSZ.out _).mono ?_
  rintro e w9 ⟨rfl, hw⟩
  replace hw := hw.symm
  subst hw
  clear HSZ
  go_wp2_with fail
  refine (HP1.out _ (New.refl _)).mono ?_
  rintro e w1 ⟨rfl, hn1⟩
  have HN := Lib.hid hn1
  clear hn1 HP1
  go_wp2_with fail
  refine (HP2.out _ HN.out).mono ?_
  rintro e w2 ⟨rfl, hn2⟩
  replace HN := Lib.hid (HN.out.trans hn2)
  clear hn2 HP2
  go_wp2_with fail
  refine (HA1.out _ HN.out).mono ?_
  rintro e w3 ⟨rfl, hn3⟩
  replace HN := Lib.hid (HN.out.trans hn3)
  clear hn3 HA1
  go_wp2_with fail
  refine (HA2.out _ HN.out).mono ?_
  rintro e w4 ⟨rfl, hn4⟩
  replace HN := Lib.hid (HN.out.trans hn4)
  clear hn4 HA2
  go_wp2_with fail
  refine (HRM.out _).mono ?_
  rintro e w5 ⟨rfl, hbk, hn5⟩
  replace HN := Lib.hid (HN.out.trans hn5)
  have HBK := Lib.hid hbk
  have HLT := Lib.hid (at_lt hbk)
  clear hn5 hbk HRM
  go_wp2_with fail
  refine (HR1.out _ _ HN.out HBK.out).mono ?_
  rintro e w6 ⟨a6, c6, rfl, hz6, hn6⟩
  replace HN := Lib.hid (HN.out.trans hn6)
  replace HBK := Lib.hid ((hn6.block _ HLT.out).trans HBK.out)
  have HZ6 := Lib.hid hz6
  clear hn6 hz6 HR1
  go_wp2_with fail
  refine (HR2.out _ _ HN.out HBK.out).mono ?_
  rintro e w7 ⟨a7, c7, rfl, hz7, hn7⟩
  replace HN := Lib.hid (HN.out.trans hn7)
  replace HZ6 := Lib.hid (HZ6.out.stay hn7)
  have HZ7 := Lib.hid hz7
  replace HH := Lib.hid (HH.out.stay HN.out)
  replace HH2 := Lib.hid (HH2.out.stay HN.out)
  clear hn7 hz7 HR2 HBK HLT
  go_wp2_with fail
  rw [HMK.out _ _ rfl]
  go_wp2_with fail
  go_loopw [61] (fun iv wr => ∃ j : Nat, j ≤ m ∧ iv = .int .i64 (j : Int) ∧ wr.ownsRow w7.heap.size 3 1 (.slice (some ⟨w7.heap.size, 0, none⟩) n n) n ((stL (List.replicate n 0) s t j).map fun x => .int .i64 x) ∧ New w7 wr) (fun iv _ => m - (intOf iv).toNat)
  case atStart => exact ⟨0, Nat.zero_le _, rfl, ow_made w7 _ _ _ n _ (Nat.le_refl _) (by omega) (by rw [made_toList]; exact (List.map_replicate).symm) (by rw [List.length_map]; exact List.length_replicate), (New.refl w7).alloc _⟩
  case round =>
    obtain ⟨j, hj, rfl, hown, hnew⟩ := hrel
    by_cases hlt : (j : Int) < (m : Int)
    · have hj0 : (0 : Int) ≤ (j : Int) := by omega
      obtain ⟨hx0, hxn⟩ := HSR.out j (by omega)
      obtain ⟨b1, off1, rfl, hc1⟩ := (HH.out.stay hnew).addr (by omega)
      have d1 := hc1 j (by omega)
      clear hc1
      obtain ⟨b2, off2, rfl, hc2⟩ := (HH2.out.stay hnew).addr (by omega)
      have d2 := hc2 j (by omega)
      clear hc2
      have HST : Hid (stL (List.replicate n 0) s t (j + 1) = (stL (List.replicate n 0) s t j).set (s.getD j 0).toNat (t.getD j 0)) := Lib.hid rfl
      obtain ⟨x, hx⟩ : ∃ x : Nat, s.getD j 0 = (x : Int) := ⟨(s.getD j 0).toNat, by omega⟩
      obtain ⟨y, hy⟩ : ∃ y, t.getD j 0 = y := ⟨_, rfl⟩
      rw [hx] at d1 hx0 hxn HST
      rw [hy] at d2 HST
      rw [Int.toNat_natCast] at HST
      clear hx hy
      obtain ⟨d3, e3⟩ := ow_int hown (k := x) (by omega)
      have HO2 : Hid ((wr.setCell ⟨w7.heap.size, x, none⟩ (.int .i64 y)).ownsRow w7.heap.size 3 1 (.slice (some ⟨w7.heap.size, 0, none⟩) n n) n ((stL (List.replicate n 0) s t (j + 1)).map fun x => .int .i64 x)) := Lib.hid (by
        rw [HST.out, List.map_set]; exact ow_set hown x _)
      have HN2 : Hid (New w7 (wr.setCell ⟨w7.heap.size, x, none⟩ (.int .i64 y))) := Lib.hid (hnew.setCell (Nat.le_refl _) _)
      clear hown hnew HST
      go_wp2
      exact ⟨⟨j + 1, by omega, by go_num, HO2.out, HN2.out⟩, by simp [intOf]; omega⟩
    · have hjm : j = m := by omega
      rw [hjm] at hown
      clear hjm HSR
      have HO := Lib.hid hown
      have HNW := Lib.hid hnew
      clear hown hnew
      go_wp2_with fail
      go_loopw [76] (fun iv wr => ∃ i : Nat, i ≤ R ∧ iv = .int .i64 (i : Int) ∧ wr.ownsRow w7.heap.size 3 1 (.slice (some ⟨w7.heap.size, 0, none⟩) n n) n ((stL (stL (List.replicate n 0) s t m) s' t' i).map fun x => .int .i64 x) ∧ New w7 wr) (fun iv _ => R - (intOf iv).toNat)
      case atStart => exact ⟨0, Nat.zero_le _, rfl, HO.out, HNW.out⟩
      case round =>
        clear HO HNW
        obtain ⟨i, hi, rfl, hown, hnew⟩ := hrel
        by_cases hlt2 : (i : Int) < (R : Int)
        · have hi0 : (0 : Int) ≤ (i : Int) := by omega
          obtain ⟨hx0, hxn⟩ := HRR.out i (by omega)
          obtain ⟨b1, off1, rfl, hc1⟩ := (HZ6.out.stay hnew).addr (by omega)
          have d1 := hc1 i (by omega)
          clear hc1
          obtain ⟨b2, off2, rfl, hc2⟩ := (HZ7.out.stay hnew).addr (by omega)
          have d2 := hc2 i (by omega)
          clear hc2
          have HST : Hid (stL (stL (List.replicate n 0) s t m) s' t' (i + 1) = (stL (stL (List.replicate n 0) s t m) s' t' i).set (s'.getD i 0).toNat (t'.getD i 0)) := Lib.hid rfl
          obtain ⟨x, hx⟩ : ∃ x : Nat, s'.getD i 0 = (x : Int) := ⟨(s'.getD i 0).toNat, by omega⟩
          obtain ⟨y, hy⟩ : ∃ y, t'.getD i 0 = y := ⟨_, rfl⟩
          rw [hx] at d1 hx0 hxn HST
          rw [hy] at d2 HST
          rw [Int.toNat_natCast] at HST
          clear hx hy
          obtain ⟨d3, e3⟩ := ow_int hown (k := x) (by omega)
          have HO2 : Hid ((wr.setCell ⟨w7.heap.size, x, none⟩ (.int .i64 y)).ownsRow w7.heap.size 3 1 (.slice (some ⟨w7.heap.size, 0, none⟩) n n) n ((stL (stL (List.replicate n 0) s t m) s' t' (i + 1)).map fun x => .int .i64 x)) := Lib.hid (by
            rw [HST.out, List.map_set]; exact ow_set hown x _)
          have HN2 : Hid (New w7 (wr.setCell ⟨w7.heap.size, x, none⟩ (.int .i64 y))) := Lib.hid (hnew.setCell (Nat.le_refl _) _)
          clear hown hnew HST
          go_wp2
          exact ⟨⟨i + 1, by omega, by go_num, HO2.out, HN2.out⟩, by simp [intOf]; omega⟩
        · have hiR : i = R := by omega
          rw [hiR, HFIN.out] at hown
          obtain ⟨a', c', he, hz⟩ := ZRow.of_owns hown (by omega) HIN.out
          cases he
          have HZ := Lib.hid hz
          have HNN := Lib.hid (HN.out.trans hnew)
          clear hown hnew hz hiR
          go_wp2
          go_ret2
          exact ⟨_, _, rfl, HZ.out, HNN.out⟩
theorem move_err (n : Int) (hn : szE n 0 = 1) (a b : Option Addr) (m c m2 c2 : Nat) (w : World) :
    Calls Try.prog 47 #[.int .i64 n, .slice a m c, .slice b m2 c2] w fun e w' => e = .returned (.tuple #[.slice none 0 0, .int .i64 1]) ∧ w' = w := by
  have HSZ := Lib.hid (fun w => sizes_41 n 0 w)
  rw [hn] at HSZ
  clear hn
  go_enter Try.func47, Try.ntmps47
  go_wp2_with fail
  refine (HSZ.out _).mono ?_
  rintro e w9 ⟨rfl, hw⟩
  replace hw := hw.symm
  subst hw
  go_wp2
  go_ret2
  exact ⟨rfl, rfl⟩
/-- is there an order that Move can tell? -/
def mvB (n : Nat) (s t : List Int) : Bool := (s.length == t.length) && ipB n s && ipB n t && acB s s.length && acB t t.length
set_option maxRecDepth 100000 in
set_option maxHeartbeats 4000000 in
theorem move_bad (n : Nat) (hn : n ≤ 256) (a b : Option Addr) (m c m2 c2 : Nat) (s t : List Int) (w : World) (h : ZRow w a m c s) (h2 : ZRow w b m2 c2 t) (hm : m ≤ 100000) (hb : mvB n s t = false) :
    Calls Try.prog 47 #[.int .i64 (n : Int), .slice a m c, .slice b m2 c2] w fun e w' => e = .returned (.tuple #[.slice none 0 0, .int .i64 2]) ∧ New w w' := by
  have hls := h.len_eq
  have hlt := h2.len_eq
  unfold mvB at hb
  rw [hls, hlt] at hb
  have HSZ := Lib.hid (fun w => sizes_41 (n : Int) 0 w)
  rw [show szE (n : Int) 0 = 0 from if_neg (by omega)] at HSZ
  have HP1 := Lib.hid (fun w' (hn' : New w w') => ispick_any n (by omega) a m c s w' (h.stay hn') hm)
  have HA1 := Lib.hid (fun w' (hn' : New w w') => asc_q a m c s w' (h.stay hn'))
  have HA2 := Lib.hid (fun w' (hn' : New w w') => asc_q b m2 c2 t w' (h2.stay hn'))
  by_cases hmm : m = m2
  · have HP2 := Lib.hid (fun w' (hn' : New w w') => ispick_any n (by omega) b m2 c2 t w' (h2.stay hn') (by omega))
    subst hmm
    have hb2 : ((m : Int) != (m : Int)) = false := by simp
    have hb3 : (m == m) = true := by simp
    rw [hb3, Bool.true_and] at hb
    clear h h2 hls hlt hb3
    rcases e1 : ipB n s with _ | _
    · rw [e1] at HP1
      clear hb e1 HA1 HA2 HP2
      go_enter Try.func47, Try.ntmps47
      go_wp2_with fail
      refine (HSZ.out _).mono ?_
      rintro e w9 ⟨rfl, hw⟩
      replace hw := hw.symm
      subst hw
      clear HSZ
      go_wp2_with fail
      refine (HP1.out _ (New.refl _)).mono ?_
      rintro e w1 ⟨rfl, hn1⟩
      have HN := Lib.hid hn1
      clear hn1 HP1
      go_wp2
      go_ret2
      exact ⟨rfl, HN.out⟩
    rw [e1] at HP1 hb
    rw [Bool.true_and] at hb
    rcases e2 : ipB n t with _ | _
    · rw [e2] at HP2
      clear hb e1 e2 HA1 HA2
      go_enter Try.func47, Try.ntmps47
      go_wp2_with fail
      refine (HSZ.out _).mono ?_
      rintro e w9 ⟨rfl, hw⟩
      replace hw := hw.symm
      subst hw
      clear HSZ
      go_wp2_with fail
      refine (HP1.out _ (New.refl _)).mono ?_
      rintro e w1 ⟨rfl, hn1⟩
      have HN := Lib.hid hn1
      clear hn1 HP1
      go_wp2_with fail
      refine (HP2.out _ HN.out).mono ?_
      rintro e w2 ⟨rfl, hn2⟩
      replace HN := Lib.hid (HN.out.trans hn2)
      clear hn2 HP2
      go_wp2
      go_ret2
      exact ⟨rfl, HN.out⟩
    rw [e2] at HP2 hb
    rw [Bool.true_and] at hb
    rcases e3 : acB s m with _ | _
    · rw [e3] at HA1
      clear hb e1 e2 e3 HA2
      go_enter Try.func47, Try.ntmps47
      go_wp2_with fail
      refine (HSZ.out _).mono ?_
      rintro e w9 ⟨rfl, hw⟩
      replace hw := hw.symm
      subst hw
      clear HSZ
      go_wp2_with fail
      refine (HP1.out _ (New.refl _)).mono ?_
      rintro e w1 ⟨rfl, hn1⟩
      have HN := Lib.hid hn1
      clear hn1 HP1
      go_wp2_with fail
      refine (HP2.out _ HN.out).mono ?_
      rintro e w2 ⟨rfl, hn2⟩
      replace HN := Lib.hid (HN.out.trans hn2)
      clear hn2 HP2
      go_wp2_with fail
      refine (HA1.out _ HN.out).mono ?_
      rintro e w3 ⟨rfl, hn3⟩
      replace HN := Lib.hid (HN.out.trans hn3)
      clear hn3 HA1
      go_wp2
      go_ret2
      exact ⟨rfl, HN.out⟩
    rw [e3] at HA1 hb
    rw [Bool.true_and] at hb
    rw [hb] at HA2
    clear hb e1 e2 e3
    go_enter Try.func47, Try.ntmps47
    go_wp2_with fail
    refine (HSZ.out _).mono ?_
    rintro e w9 ⟨rfl, hw⟩
    replace hw := hw.symm
    subst hw
    clear HSZ
    go_wp2_with fail
    refine (HP1.out _ (New.refl _)).mono ?_
    rintro e w1 ⟨rfl, hn1⟩
    have HN := Lib.hid hn1
    clear hn1 HP1
    go_wp2_with fail
    refine (HP2.out _ HN.out).mono ?_
    rintro e w2 ⟨rfl, hn2⟩
    replace HN := Lib.hid (HN.out.trans hn2)
    clear hn2 HP2
    go_wp2_with fail
    refine (HA1.out _ HN.out).mono ?_
    rintro e w3 ⟨rfl, hn3⟩
    replace HN := Lib.hid (HN.out.trans hn3)
    clear hn3 HA1
    go_wp2_with fail
    refine (HA2.out _ HN.out).mono ?_
    rintro e w4 ⟨rfl, hn4⟩
    replace HN := Lib.hid (HN.out.trans hn4)
    clear hn4 HA2
    go_wp2
    go_ret2
    exact ⟨rfl, HN.out⟩
  · have hb2 : ((m : Int) != (m2 : Int)) = true := by simp; omega
    clear h h2 hls hlt hb HP1 HA1 HA2
    go_enter Try.func47, Try.ntmps47
    go_wp2_with fail
    refine (HSZ.out _).mono ?_
    rintro e w9 ⟨rfl, hw⟩
    replace hw := hw.symm
    subst hw
    clear HSZ
    go_wp2
    go_ret2
    exact ⟨rfl, New.refl _⟩
theorem mvB_iff {n : Nat} {s t : List Int} : mvB n s t = true ↔ s.length = t.length ∧ stP n s ∧ stP n t ∧ acB s s.length = true ∧ acB t t.length = true := by
  unfold mvB
  rw [Bool.and_eq_true, Bool.and_eq_true, Bool.and_eq_true, Bool.and_eq_true, beq_iff_eq]
  constructor
  · rintro ⟨⟨⟨⟨h1, h2⟩, h3⟩, h4⟩, h5⟩
    exact ⟨h1, ipB_iff.1 h2, ipB_iff.1 h3, h4, h5⟩
  · rintro ⟨h1, h2, h3, h4, h5⟩
    exact ⟨⟨⟨⟨h1, ipB_iff.2 h2⟩, ipB_iff.2 h3⟩, h4⟩, h5⟩
end Go.Proofs.Ytajjpllhihgkdaa
