/- subset: the draws; the document's Take. · subset.Take. -/
import Derived.Test.YtajjpllhihgkdaaDrwC
import Derived.Test.YtajjpllhihgkdaaSubD
namespace Go.Proofs.Ytajjpllhihgkdaa
open Go Go.RowKit Go.Bv
set_option linter.unusedVariables false
theorem lmP_get {n m k : Nat} (h : m < k) : (lmP n k).getD m 0 = BitVec.ofNat 64 (n - m) := by
  unfold lmP
  rw [List.getD_eq_getElem?_getD, List.getElem?_map, List.getElem?_range h]; rfl
/-- the numbers of the first draws -/
def cdS (ds : List Drw) (k : Nat) : List Int := liI (fun i => ((ds.getD i dz).1).toNat) k
theorem cdS_len (ds : List Drw) (k : Nat) : (cdS ds k).length = k := liI_len _ _
theorem cdS_succ (ds : List Drw) (k : Nat) : cdS ds (k + 1) = cdS ds k ++ [((((ds.getD k dz).1).toNat : Nat) : Int)] := liI_succ _ _
theorem lmP_lt {l : List (BitVec 64)} {n m : Nat} {ds : List Drw} {k : Nat} (hn : n ≤ 1000000) (hm : m ≤ n) (h : drS l (lmP n m) m = some (ds, k)) : ∀ i, i < m → ((ds.getD i dz).1).toNat < n - i := by
  intro i hi
  have h1 := drS_lt (fun i hi => by rw [lmP_get hi]; exact (ofNat_pos (r := n - i) (by omega) (by omega)).1) h i hi
  rw [lmP_get hi, (ofNat_pos (r := n - i) (by omega) (by omega)).2] at h1
  exact h1
theorem cdS_rp {l : List (BitVec 64)} {n m : Nat} {ds : List Drw} {k : Nat} (hn : n ≤ 1000000) (hm : m ≤ n) (h : drS l (lmP n m) m = some (ds, k)) : rp2 n (cdS ds m) := by
  refine ⟨by rw [cdS_len]; exact hm, fun i hi => ?_⟩
  rw [cdS_len] at hi
  have h1 := lmP_lt hn hm h i hi
  unfold cdS
  rw [liI_get _ hi]
  omega
end Go.Proofs.Ytajjpllhihgkdaa
namespace Go.Bv
open Go Go.RowKit
set_option linter.unusedVariables false
theorem drCs_set : ∀ (l : List Drw) (k : Nat) (d : Drw), k < l.length → drCs (l.set k d) = (((drCs l).set (k * 3) (.int .u64 (W64 d.1))).set (k * 3 + 1) (.int .u64 (W64 d.2.1))).set (k * 3 + 2) (.int .i64 (d.2.2 : Int))
  | [], k, d, h => absurd h (by simp)
  | e :: l, 0, d, _ => rfl
  | e :: l, k + 1, d, h => by
    have ih := drCs_set l k d (by simpa using h)
    show drC e ++ drCs (l.set k d) = _
    rw [ih, show (k + 1) * 3 = k * 3 + 3 by omega]
    rfl
theorem made3 (K : Nat) : (madeCells #[.int .u64 0, .int .u64 0, .int .i64 0] (K * 3)).toList = drCs (List.replicate K dz) := by
  apply List.ext_getElem?
  intro m
  by_cases hm : m < K * 3
  · obtain ⟨i, j, hj, rfl⟩ : ∃ i j, j < 3 ∧ m = i * 3 + j := ⟨m / 3, m % 3, Nat.mod_lt _ (by omega), by omega⟩
    rw [drCs_get _ i j (by simp; omega) hj, List.getD_eq_getElem?_getD, List.getElem?_replicate, if_pos (by omega), Option.getD_some, Array.getElem?_toList]
    have e1 : (madeCells #[.int .u64 0, .int .u64 0, .int .i64 0] (K * 3))[i * 3 + j]? = some ((#[.int .u64 0, .int .u64 0, .int .i64 0] : Array Value)[(i * 3 + j) % 3]!) := by
      simp [madeCells, hm]
    rw [e1, show (i * 3 + j) % 3 = j by omega]
    obtain rfl | rfl | rfl : j = 0 ∨ j = 1 ∨ j = 2 := by omega
    · rfl
    · rfl
    · rfl
  · rw [List.getElem?_eq_none (by rw [Array.length_toList, size_madeCells]; omega), List.getElem?_eq_none (by rw [drCs_len]; simp; omega)]
theorem ow_made3 (w : World) (base : Nat) (e : TypeId) (K : Nat) (hb : base ≤ w.heap.size) (hK : K ≤ 1000000) : (w.alloc (.cells (madeCells #[.int .u64 0, .int .u64 0, .int .i64 0] (K * 3)) e)).ownsRow base e 3 (.slice (some ⟨w.heap.size, 0, none⟩) K K) K (drCs (List.replicate K dz)) := by
  have := World.ownsRow_lit (base := base) (e := e) (size := 3) w (madeCells #[.int .u64 0, .int .u64 0, .int .i64 0] (K * 3)) K hb (by unfold maxLen; omega) (size_madeCells _ _)
  rw [made3] at this
  exact this
/-- the draws so far, empty ones behind them -/
def dpL (ds : List Drw) (K : Nat) : List Drw := ds ++ List.replicate (K - ds.length) dz
theorem dpL_zero (K : Nat) : dpL [] K = List.replicate K dz := rfl
theorem dpL_all {ds : List Drw} {K : Nat} (h : ds.length = K) : dpL ds K = ds := by unfold dpL; rw [h, Nat.sub_self]; simp
theorem dpL_len {ds : List Drw} {K : Nat} (h : ds.length ≤ K) : (dpL ds K).length = K := by unfold dpL; simp; omega
theorem dpL_set {ds : List Drw} {K q : Nat} (hq : ds.length = q) (h : q < K) (d : Drw) : (dpL ds K).set q d = dpL (ds ++ [d]) K := by
  unfold dpL
  obtain ⟨r, hr⟩ : ∃ r, K - q = r + 1 := ⟨K - q - 1, by omega⟩
  rw [hq, hr, List.replicate_succ, List.length_append, hq, List.length_singleton, show K - (q + 1) = r by omega, List.append_assoc, List.set_append_right _ _ (by omega), hq, Nat.sub_self]
  rfl
/-- the numbers so far, zeros behind them -/
def cqL (ds : List Drw) (K : Nat) : List Int := liI (fun i => if i < ds.length then ((ds.getD i dz).1).toNat else 0) K
theorem cqL_zero (K : Nat) : cqL [] K = liI (fun _ => 0) K := liI_ext (fun x _ => by rw [if_neg (by simp)])
theorem cqL_set {ds : List Drw} {K q : Nat} (hq : ds.length = q) (h : q < K) (d : Drw) : cqL (ds ++ [d]) K = (cqL ds K).set q ((d.1.toNat : Nat) : Int) := by
  unfold cqL
  rw [liI_set _ _ h]
  apply liI_ext
  intro x hx
  rw [List.length_append, hq]
  by_cases e : x = q
  · subst e
    rw [if_pos rfl, if_pos (by simp), List.getD_eq_getElem?_getD, List.getElem?_append_right (by omega), hq, Nat.sub_self]
    rfl
  · rw [if_neg e]
    by_cases e2 : x < q
    · rw [if_pos e2, if_pos (by omega), List.getD_eq_getElem?_getD, List.getElem?_append_left (by omega), ← List.getD_eq_getElem?_getD]
    · rw [if_neg e2, if_neg (by simp; omega)]
theorem ow_three {w : World} {base g n cap : Nat} {e : TypeId} {ds : List Drw} (h : w.ownsRow base e 3 (.slice (some ⟨g, 0, none⟩) n cap) n (drCs ds)) {k : Nat} (hk : k < n) :
    (w.cell? ⟨g, k * 3, none⟩ = some (.int .u64 (W64 (ds.getD k dz).1)) ∧ w.cell? ⟨g, k * 3 + 1, none⟩ = some (.int .u64 (W64 (ds.getD k dz).2.1)) ∧ w.cell? ⟨g, k * 3 + 2, none⟩ = some (.int .i64 ((ds.getD k dz).2.2 : Int))) ∧ ∀ j, w.frozen? ⟨g, j, none⟩ = false := by
  have hl : ds.length = n := by have := h.1; rw [drCs_len] at this; omega
  have g0 := drCs_get ds k 0 (by omega) (by omega)
  have g1 := drCs_get ds k 1 (by omega) (by omega)
  have g2 := drCs_get ds k 2 (by omega) (by omega)
  exact ⟨⟨(h.cellAt (k * 3) (by omega)).trans g0, (h.cellAt (k * 3 + 1) (by omega)).trans g1, (h.cellAt (k * 3 + 2) (by omega)).trans g2⟩, fun j => h.frozenAt j⟩
theorem at_size {w : World} {base a b n cap size : Nat} {e : TypeId} {xs : List Value} (h : a = b) (k : w.ownsRow base e size (.slice (some ⟨a, 0, none⟩) n cap) n xs) : w.ownsRow base e size (.slice (some ⟨b, 0, none⟩) n cap) n xs := h ▸ k
theorem ow_lt3 {w : World} {base g n cap : Nat} {e : TypeId} {xs : List Value} (h : w.ownsRow base e 3 (.slice (some ⟨g, 0, none⟩) n cap) n xs) : base ≤ g ∧ g < w.heap.size ∧ n ≤ cap := by
  obtain ⟨hl, h | ⟨g', cap', cur, hv, hb, hc, h2, h3, _⟩⟩ := h
  · cases h.1
  · injection hv with e1 e2 e3
    cases e1; subst e3
    exact ⟨hb, lt_of_block hc, h2⟩
end Go.Bv
namespace Go.Proofs.Ytajjpllhihgkdaa
open Go Go.RowKit Go.Bv
set_option linter.unusedVariables false
theorem cqL_all {ds : List Drw} {K : Nat} (h : ds.length = K) : cqL ds K = cdS ds K := liI_ext (fun x hx => by rw [if_pos (by omega)])
theorem make_drw (n : Nat) (hn : n ≤ 1000000) (w : World) : (Instr.makeSlice 41 (.int .i64 (n : Int)) (.int .i64 (n : Int))).run Try.prog w = .ok (.slice (some ⟨w.heap.size, 0, none⟩) n n) (w.alloc (.cells (madeCells #[.int .u64 0, .int .u64 0, .int .i64 0] (n * 3)) 73)) := by
  obtain ⟨i0, hi, hz0, hz1, hz2⟩ := info_parts info_drw
  have hr := run_make (P := Try.prog) w 41 73 i0 (.agg #[.int .u64 0, .int .u64 0, .int .i64 0]) Try.underlying41 hi hz0 .i64 .i64 (n : Int) (n : Int) (by omega) (Int.le_refl _) (by rw [hz2]; omega) (by omega)
  rw [hz1] at hr
  exact hr
end Go.Proofs.Ytajjpllhihgkdaa
