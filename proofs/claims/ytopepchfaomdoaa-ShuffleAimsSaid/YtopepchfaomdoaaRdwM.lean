/- Plain lemmas: rows of words aimed at other numbers. -/
import Derived.Test.YtopepchfaomdoaaDrwB
namespace Go.Proofs.Ytopepchfaomdoaa
open Go Go.RowKit Go.Bv
set_option linter.unusedVariables false
theorem fstG_spec {l : List (BitVec 64)} {n : BitVec 64} : ∀ {f k}, fstG l n f k < k + f → k ≤ fstG l n f k ∧ (∀ i, k ≤ i → i < fstG l n f k → takO (l.getD i 0) n = false) ∧ takO (l.getD (fstG l n f k) 0) n = true
  | 0, k, h => by
    have h' : k < k + 0 := h
    omega
  | f + 1, k, h => by
    by_cases e : takO (l.getD k 0) n = true
    · have e1 : fstG l n (f + 1) k = k := if_pos e
      rw [e1]
      exact ⟨Nat.le_refl _, fun i a b => by omega, e⟩
    · have e1 : fstG l n (f + 1) k = fstG l n f (k + 1) := if_neg e
      rw [e1] at h ⊢
      obtain ⟨h1, h2, h3⟩ := fstG_spec (l := l) (n := n) (f := f) (k := k + 1) (by omega)
      refine ⟨by omega, fun i a b => ?_, h3⟩
      by_cases e2 : i = k
      · subst e2; simpa using e
      · exact h2 i (by omega) b
theorem fstT_spec {l : List (BitVec 64)} {n : BitVec 64} {k : Nat} (hk : k ≤ l.length) (h : fstT l n k < l.length) : k ≤ fstT l n k ∧ (∀ i, k ≤ i → i < fstT l n k → takO (l.getD i 0) n = false) ∧ takO (l.getD (fstT l n k) 0) n = true := fstG_spec (by unfold fstT at h; omega)
/-- draws step by step -/
theorem drS_prev {l ls : List (BitVec 64)} {m : Nat} {ds : List Drw} {k : Nat} (h : drS l ls (m + 1) = some (ds, k)) : ∃ ds0 k0 j, drS l ls m = some (ds0, k0) ∧ ds0.length = m ∧ k0 ≤ j ∧ j < l.length ∧ (∀ i, k0 ≤ i → i < j → takO (l.getD i 0) (ls.getD m 0) = false) ∧ takO (l.getD j 0) (ls.getD m 0) = true ∧ ds = ds0 ++ [drw l (ls.getD m 0) k0 j] ∧ k = j + 1 := by
  have h' : (match drS l ls m with | none => none | some r => if fstT l (ls.getD m 0) r.2 < l.length then some (r.1 ++ [drw l (ls.getD m 0) r.2 (fstT l (ls.getD m 0) r.2)], fstT l (ls.getD m 0) r.2 + 1) else none) = some (ds, k) := h
  rcases hm : drS l ls m with _ | ⟨ds0, k0⟩
  · rw [hm] at h'; cases h'
  · rw [hm] at h'
    have h0 := drS_len hm
    by_cases hc : fstT l (ls.getD m 0) k0 < l.length
    · simp only [if_pos hc] at h'
      cases h'
      obtain ⟨h1, h2, h3⟩ := fstT_spec h0.2 hc
      exact ⟨ds0, k0, _, rfl, h0.1, h1, hc, h2, h3, rfl, rfl⟩
    · simp only [if_neg hc] at h'
      cases h'
/-- words behind the draws say nothing of them -/
theorem drS_set {l ls : List (BitVec 64)} {x : BitVec 64} : ∀ {m ds k j}, drS l ls m = some (ds, k) → k ≤ j → drS (l.set j x) ls m = some (ds, k)
  | 0, ds, k, j, h, _ => h
  | m + 1, ds, k, j, h, hk => by
    obtain ⟨ds0, k0, i, h0, hl, h1, h2, h3, h4, rfl, rfl⟩ := drS_prev h
    have hg : ∀ q, q < j → (l.set j x).getD q 0 = l.getD q 0 := fun q hq => by
      rw [List.getD_eq_getElem?_getD, List.getElem?_set, if_neg (by omega), ← List.getD_eq_getElem?_getD]
    have hn := drS_next (j := i) (drS_set (x := x) h0 (show k0 ≤ j by omega)) h1 (by rw [List.length_set]; exact h2) (fun q a b => by rw [hg q (by omega)]; exact h3 q a b) (by rw [hg i (by omega)]; exact h4)
    rw [hn]
    have e : drw (l.set j x) (ls.getD m 0) k0 i = drw l (ls.getD m 0) k0 i := by
      unfold drw; rw [hg i (by omega)]
    rw [e]
/-- how many words the first m draws took -/
def usS (ds : List Drw) : Nat → Nat
  | 0 => 0
  | m + 1 => usS ds m + (ds.getD m dz).2.2
theorem usS_app (ds : List Drw) (d : Drw) : ∀ m, m ≤ ds.length → usS (ds ++ [d]) m = usS ds m
  | 0, _ => rfl
  | m + 1, h => by
    show usS (ds ++ [d]) m + ((ds ++ [d]).getD m dz).2.2 = usS ds m + (ds.getD m dz).2.2
    rw [usS_app ds d m (by omega), List.getD_eq_getElem?_getD, List.getElem?_append_left (by omega), ← List.getD_eq_getElem?_getD]
theorem getD_last (ds : List Drw) (d : Drw) : (ds ++ [d]).getD ds.length dz = d := by
  rw [List.getD_eq_getElem?_getD, List.getElem?_append_right (Nat.le_refl _), Nat.sub_self]; rfl
theorem getD_app (ds : List Drw) (d : Drw) {i : Nat} (h : i < ds.length) : (ds ++ [d]).getD i dz = ds.getD i dz := by
  rw [List.getD_eq_getElem?_getD, List.getElem?_append_left h, ← List.getD_eq_getElem?_getD]
theorem drS_us {l ls : List (BitVec 64)} : ∀ {m ds k}, drS l ls m = some (ds, k) → usS ds m = k
  | 0, ds, k, h => by cases h; rfl
  | m + 1, ds, k, h => by
    obtain ⟨ds0, k0, i, h0, hl, h1, h2, h3, h4, rfl, rfl⟩ := drS_prev h
    subst hl
    show usS _ ds0.length + ((ds0 ++ [_]).getD ds0.length dz).2.2 = i + 1
    rw [usS_app _ _ _ (Nat.le_refl _), drS_us h0, getD_last]
    show k0 + (i + 1 - k0) = i + 1
    omega
/-- the row with the words of the first m draws put in place of those that were taken -/
def amS (o ls : List (BitVec 64)) (v : Nat → BitVec 64) (ds : List Drw) : Nat → List (BitVec 64)
  | 0 => o
  | m + 1 => (amS o ls v ds m).set (usS ds (m + 1) - 1) (wrdN (v m) (ds.getD m dz).2.1 (ls.getD m 0))
theorem amS_len (o ls : List (BitVec 64)) (v : Nat → BitVec 64) (ds : List Drw) : ∀ m, (amS o ls v ds m).length = o.length
  | 0 => rfl
  | m + 1 => by show (List.set _ _ _).length = _; rw [List.length_set, amS_len o ls v ds m]
theorem amS_app (o ls : List (BitVec 64)) (v : Nat → BitVec 64) (ds : List Drw) (d : Drw) : ∀ m, m ≤ ds.length → amS o ls v (ds ++ [d]) m = amS o ls v ds m
  | 0, _ => rfl
  | m + 1, h => by
    show (amS o ls v (ds ++ [d]) m).set (usS (ds ++ [d]) (m + 1) - 1) (wrdN (v m) ((ds ++ [d]).getD m dz).2.1 (ls.getD m 0)) = _
    rw [amS_app o ls v ds d m (by omega), usS_app ds d (m + 1) h, getD_app ds d (by omega)]
    rfl
/-- words behind the draws stay -/
theorem amS_get {l ls : List (BitVec 64)} {o : List (BitVec 64)} {v : Nat → BitVec 64} : ∀ {m ds k}, drS l ls m = some (ds, k) → ∀ i, k ≤ i → (amS o ls v ds m).getD i 0 = o.getD i 0
  | 0, ds, k, h, i, _ => rfl
  | m + 1, ds, k, h, i, hi => by
    obtain ⟨ds0, k0, j, h0, hl, h1, h2, h3, h4, rfl, rfl⟩ := drS_prev h
    have hu := drS_us h
    show (List.set _ _ _).getD i 0 = _
    rw [hu, List.getD_eq_getElem?_getD, List.getElem?_set, if_neg (by omega), ← List.getD_eq_getElem?_getD, amS_app _ _ _ _ _ _ (by omega)]
    exact amS_get h0 i (by omega)
/-- the same draws with other numbers -/
def nmS (v : Nat → BitVec 64) (ds : List Drw) : List Drw := (List.range ds.length).map fun i => (v i, (ds.getD i dz).2.1, (ds.getD i dz).2.2)
theorem nmS_len (v : Nat → BitVec 64) (ds : List Drw) : (nmS v ds).length = ds.length := by unfold nmS; simp
theorem nmS_get (v : Nat → BitVec 64) (ds : List Drw) {i : Nat} (h : i < ds.length) : (nmS v ds).getD i dz = (v i, (ds.getD i dz).2.1, (ds.getD i dz).2.2) := by
  unfold nmS; rw [List.getD_eq_getElem?_getD, List.getElem?_map, List.getElem?_range h]; rfl
theorem nmS_app (v : Nat → BitVec 64) (ds : List Drw) (d : Drw) : nmS v (ds ++ [d]) = nmS v ds ++ [(v ds.length, d.2.1, d.2.2)] := by
  unfold nmS
  rw [List.length_append, List.length_singleton, List.range_succ, List.map_append]
  congr 1
  · apply List.map_congr_left
    intro i hi
    rw [getD_app ds d (by simpa using hi)]
  · show [(v ds.length, ((ds ++ [d]).getD ds.length dz).2.1, ((ds ++ [d]).getD ds.length dz).2.2)] = [_]
    rw [getD_last]
/-- what an aimed row tells -/
theorem amS_tells {l ls : List (BitVec 64)} {v : Nat → BitVec 64} : ∀ {m ds k}, drS l ls m = some (ds, k) → (∀ i, i < m → (v i).toNat < (ls.getD i 0).toNat) → drS (amS l ls v ds m) ls m = some (nmS v ds, k)
  | 0, ds, k, h, _ => by cases h; rfl
  | m + 1, ds, k, h, hv => by
    obtain ⟨ds0, k0, j, h0, hl, h1, h2, h3, h4, rfl, rfl⟩ := drS_prev h
    have hu := drS_us h
    have ih := amS_tells (v := v) h0 (fun i hi => hv i (by omega))
    have hn0 := takO_ne h4
    have ht := takO_tak h4
    have hd : (ds0 ++ [drw l (ls.getD m 0) k0 j]).getD m dz = drw l (ls.getD m 0) k0 j := by rw [← hl]; exact getD_last _ _
    have hw := wrdN_all (v m) (rnkN (l.getD j 0) (ls.getD m 0)) (ls.getD m 0) hn0 (hv m (by omega)) (rnk_ltN _ _ hn0 ht)
    obtain ⟨y, hy⟩ : ∃ y, wrdN (v m) (rnkN (l.getD j 0) (ls.getD m 0)) (ls.getD m 0) = y := ⟨_, rfl⟩
    rw [hy] at hw
    have hA : amS l ls v (ds0 ++ [drw l (ls.getD m 0) k0 j]) (m + 1) = (amS l ls v ds0 m).set j y := by
      show (amS l ls v _ m).set (usS _ (m + 1) - 1) (wrdN (v m) _ (ls.getD m 0)) = _
      rw [hu, hd, amS_app _ _ _ _ _ _ (by omega), ← hy]
      rfl
    rw [hA]
    have hlen : j < (amS l ls v ds0 m).length := by rw [amS_len]; exact h2
    have hg : ∀ q, k0 ≤ q → q < j → ((amS l ls v ds0 m).set j y).getD q 0 = l.getD q 0 := fun q a b => by
      rw [List.getD_eq_getElem?_getD, List.getElem?_set, if_neg (by omega), ← List.getD_eq_getElem?_getD]
      exact amS_get h0 q a
    have hgj : ((amS l ls v ds0 m).set j y).getD j 0 = y := by
      rw [List.getD_eq_getElem?_getD, List.getElem?_set, if_pos rfl, if_pos hlen]; rfl
    have hn := drS_next (j := j) (drS_set (x := y) ih h1) h1 (by rw [List.length_set]; exact hlen) (fun q a b => by rw [hg q a b]; exact h3 q a b) (by
      rw [hgj]
      unfold takO
      rw [if_neg hn0]
      exact hw.1)
    rw [hn, nmS_app, hl]
    congr 3
    unfold drw
    rw [hgj, hw.2.1, hw.2.2]
/-- aimed back it is as it was -/
theorem amS_swap {ls : List (BitVec 64)} {v : Nat → BitVec 64} {j : Nat} {y : BitVec 64} : ∀ {l m ds k} (o : List (BitVec 64)), drS l ls m = some (ds, k) → k ≤ j → amS (o.set j y) ls v ds m = (amS o ls v ds m).set j y
  | l, 0, ds, k, o, h, _ => rfl
  | l, m + 1, ds, k, o, h, hk => by
    obtain ⟨ds0, k0, i, h0, hl, h1, h2, h3, h4, rfl, rfl⟩ := drS_prev h
    have hu := drS_us h
    show (amS (o.set j y) ls v _ m).set (usS _ (m + 1) - 1) _ = ((amS o ls v _ m).set (usS _ (m + 1) - 1) _).set j y
    rw [hu, amS_app _ _ _ _ _ _ (by omega), amS_app _ _ _ _ _ _ (by omega), amS_swap o h0 (by omega), List.set_comm _ _ (by omega)]
theorem amS_back {l ls : List (BitVec 64)} {v : Nat → BitVec 64} : ∀ {m ds k}, drS l ls m = some (ds, k) → ∀ {u : Nat → BitVec 64}, (∀ i, i < m → u i = (ds.getD i dz).1) → amS (amS l ls v ds m) ls u ds m = l
  | 0, ds, k, h, u, _ => rfl
  | m + 1, ds, k, h, u, hu2 => by
    obtain ⟨ds0, k0, j, h0, hl, h1, h2, h3, h4, rfl, rfl⟩ := drS_prev h
    have hu := drS_us h
    have hn0 := takO_ne h4
    have ht := takO_tak h4
    have hd : (ds0 ++ [drw l (ls.getD m 0) k0 j]).getD m dz = drw l (ls.getD m 0) k0 j := by rw [← hl]; exact getD_last _ _
    have hb := wrdN_back (l.getD j 0) (ls.getD m 0) hn0 ht
    have hum : u m = telN (l.getD j 0) (ls.getD m 0) := by rw [hu2 m (by omega), hd]; rfl
    show (amS ((amS l ls v _ m).set (usS _ (m + 1) - 1) _) ls u _ m).set (usS _ (m + 1) - 1) (wrdN (u m) _ (ls.getD m 0)) = l
    rw [hu, hd, hum, amS_app l _ _ _ _ _ (by omega), amS_app _ _ _ _ _ _ (by omega), show j + 1 - 1 = j by omega, amS_swap _ h0 h1, amS_back h0 (fun i hi => by rw [hu2 i (by omega), getD_app _ _ (by omega)])]
    show ((l.set j _).set j (wrdN (telN (l.getD j 0) (ls.getD m 0)) (rnkN (l.getD j 0) (ls.getD m 0)) (ls.getD m 0))) = l
    rw [List.set_set, hb]
    apply List.ext_getElem (by rw [List.length_set])
    intro i a b
    rw [List.getElem_set]
    by_cases e : j = i
    · subst e; rw [if_pos rfl, List.getD_eq_getElem?_getD, List.getElem?_eq_getElem h2]; rfl
    · rw [if_neg e]
/-- of the aimed row's draws: its ranks are as before -/
theorem amS_nm (o ls : List (BitVec 64)) (u v : Nat → BitVec 64) (ds : List Drw) : ∀ m, m ≤ ds.length → amS o ls u (nmS v ds) m = amS o ls u ds m ∧ usS (nmS v ds) m = usS ds m
  | 0, _ => ⟨rfl, rfl⟩
  | m + 1, h => by
    obtain ⟨h1, h2⟩ := amS_nm o ls u v ds m (by omega)
    have e : usS (nmS v ds) (m + 1) = usS ds (m + 1) := by
      show usS (nmS v ds) m + ((nmS v ds).getD m dz).2.2 = usS ds m + (ds.getD m dz).2.2
      rw [h2, nmS_get v ds (by omega)]
    refine ⟨?_, e⟩
    show (amS o ls u (nmS v ds) m).set (usS (nmS v ds) (m + 1) - 1) (wrdN (u m) ((nmS v ds).getD m dz).2.1 (ls.getD m 0)) = _
    rw [h1, e, nmS_get v ds (by omega)]
    rfl
end Go.Proofs.Ytopepchfaomdoaa
