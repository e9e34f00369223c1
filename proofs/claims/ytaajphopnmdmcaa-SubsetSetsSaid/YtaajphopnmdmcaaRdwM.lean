/- Plain lemmas: rows of words aimed at other numbers. · Words put in place of those that draws took: the contract of redraw.Words. · Rows of draws: Ranks. -/
import Derived.Test.YtaajphopnmdmcaaDrwB
import Derived.Maps.AppendAt
namespace Go.Proofs.Ytaajphopnmdmcaa
open Go Go.RowKit Go.Bv
set_option linter.unusedVariables false
theorem fstG_spec {l : List (BitVec 64)} {n : BitVec 64} : ∀ {f k}, fstG l n f k < k + f → k ≤ fstG l n f k ∧ (∀ i, k ≤ i → i < fstG l n f k → takO (l.getD i 0) n = false) ∧ takO (l.getD (fstG l n f k) 0) n = true
  | 0, k, h => by
    have h' : k < k + 0 := h
    omega
  | f + 1, k, h => by
    by_cases e : takO (l.getD k 0) n = true
    · have e1 : fstG l n (f + 1) k = k := if_pos e
      rw [e1]
      exact ⟨Nat.le_refl _, fun i a b => by omega, e⟩
    · have e1 : fstG l n (f + 1) k = fstG l n f (k + 1) := if_neg e
      rw [e1] at h ⊢
      obtain ⟨h1, h2, h3⟩ := fstG_spec (l := l) (n := n) (f := f) (k := k + 1) (by omega)
      refine ⟨by omega, fun i a b => ?_, h3⟩
      by_cases e2 : i = k
      · subst e2; simpa using e
      · exact h2 i (by omega) b
theorem fstT_spec {l : List (BitVec 64)} {n : BitVec 64} {k : Nat} (hk : k ≤ l.length) (h : fstT l n k < l.length) : k ≤ fstT l n k ∧ (∀ i, k ≤ i → i < fstT l n k → takO (l.getD i 0) n = false) ∧ takO (l.getD (fstT l n k) 0) n = true := fstG_spec (by unfold fstT at h; omega)
/-- draws step by step -/
theorem drS_prev {l ls : List (BitVec 64)} {m : Nat} {ds : List Drw} {k : Nat} (h : drS l ls (m + 1) = some (ds, k)) : ∃ ds0 k0 j, drS l ls m = some (ds0, k0) ∧ ds0.length = m ∧ k0 ≤ j ∧ j < l.length ∧ (∀ i, k0 ≤ i → i < j → takO (l.getD i 0) (ls.getD m 0) = false) ∧ takO (l.getD j 0) (ls.getD m 0) = true ∧ ds = ds0 ++ [drw l (ls.getD m 0) k0 j] ∧ k = j + 1 := by
  have h' : (match drS l ls m with | none => none | some r => if fstT l (ls.getD m 0) r.2 < l.length then some (r.1 ++ [drw l (ls.getD m 0) r.2 (fstT l (ls.getD m 0) r.2)], fstT l (ls.getD m 0) r.2 + 1) else none) = some (ds, k) := h
  rcases hm : drS l ls m with _ | ⟨ds0, k0⟩
  · rw [hm] at h'; cases h'
  · rw [hm] at h'
    have h0 := drS_len hm
    by_cases hc : fstT l (ls.getD m 0) k0 < l.length
    · simp only [if_pos hc] at h'
      cases h'
      obtain ⟨h1, h2, h3⟩ := fstT_spec h0.2 hc
      exact ⟨ds0, k0, _, rfl, h0.1, h1, hc, h2, h3, rfl, rfl⟩
    · simp only [if_neg hc] at h'
      cases h'
/-- words behind the draws say nothing of them -/
theorem drS_set {l ls : List (BitVec 64)} {x : BitVec 64} : ∀ {m ds k j}, drS l ls m = some (ds, k) → k ≤ j → drS (l.set j x) ls m = some (ds, k)
  | 0, ds, k, j, h, _ => h
  | m + 1, ds, k, j, h, hk => by
    obtain ⟨ds0, k0, i, h0, hl, h1, h2, h3, h4, rfl, rfl⟩ := drS_prev h
    have hg : ∀ q, q < j → (l.set j x).getD q 0 = l.getD q 0 := fun q hq => by
      rw [List.getD_eq_getElem?_getD, List.getElem?_set, if_neg (by omega), ← List.getD_eq_getElem?_getD]
    have hn := drS_next (j := i) (drS_set (x := x) h0 (show k0 ≤ j by omega)) h1 (by rw [List.length_set]; exact h2) (fun q a b => by rw [hg q (by omega)]; exact h3 q a b) (by rw [hg i (by omega)]; exact h4)
    rw [hn]
    have e : drw (l.set j x) (ls.getD m 0) k0 i = drw l (ls.getD m 0) k0 i := by
      unfold drw; rw [hg i (by omega)]
    rw [e]
/-- how many words the first m draws took -/
def usS (ds : List Drw) : Nat → Nat
  | 0 => 0
  | m + 1 => usS ds m + (ds.getD m dz).2.2
theorem usS_app (ds : List Drw) (d : Drw) : ∀ m, m ≤ ds.length → usS (ds ++ [d]) m = usS ds m
  | 0, _ => rfl
  | m + 1, h => by
    show usS (ds ++ [d]) m + ((ds ++ [d]).getD m dz).2.2 = usS ds m + (ds.getD m dz).2.2
    rw [usS_app ds d m (by omega), List.getD_eq_getElem?_getD, List.getElem?_append_left (by omega), ← List.getD_eq_getElem?_getD]
theorem getD_last (ds : List Drw) (d : Drw) : (ds ++ [d]).getD ds.length dz = d := by
  rw [List.getD_eq_getElem?_getD, List.getElem?_append_right (Nat.le_refl _), Nat.sub_self]; rfl
theorem getD_app (ds : List Drw) (d : Drw) {i : Nat} (h : i < ds.length) : (ds ++ [d]).getD i dz = ds.getD i dz := by
  rw [List.getD_eq_getElem?_getD, List.getElem?_append_left h, ← List.getD_eq_getElem?_getD]
theorem drS_us {l ls : List (BitVec 64)} : ∀ {m ds k}, drS l ls m = some (ds, k) → usS ds m = k
  | 0, ds, k, h => by cases h; rfl
  | m + 1, ds, k, h => by
    obtain ⟨ds0, k0, i, h0, hl, h1, h2, h3, h4, rfl, rfl⟩ := drS_prev h
    subst hl
    show usS _ ds0.length + ((ds0 ++ [_]).getD ds0.length dz).2.2 = i + 1
    rw [usS_app _ _ _ (Nat.le_refl _), drS_us h0, getD_last]
    show k0 + (i + 1 - k0) = i + 1
    omega
/-- the row with the words of the first m draws put in place of those that were taken -/
def amS (o ls : List (BitVec 64)) (v : Nat → BitVec 64) (ds : List Drw) : Nat → List (BitVec 64)
  | 0 => o
  | m + 1 => (amS o ls v ds m).set (usS ds (m + 1) - 1) (wrdN (v m) (ds.getD m dz).2.1 (ls.getD m 0))
theorem amS_len (o ls : List (BitVec 64)) (v : Nat → BitVec 64) (ds : List Drw) : ∀ m, (amS o ls v ds m).length = o.length
  | 0 => rfl
  | m + 1 => by show (List.set _ _ _).length = _; rw [List.length_set, amS_len o ls v ds m]
theorem amS_app (o ls : List (BitVec 64)) (v : Nat → BitVec 64) (ds : List Drw) (d : Drw) : ∀ m, m ≤ ds.length → amS o ls v (ds ++ [d]) m = amS o ls v ds m
  | 0, _ => rfl
  | m + 1, h => by
    show (amS o ls v (ds ++ [d]) m).set (usS (ds ++ [d]) (m + 1) - 1) (wrdN (v m) ((ds ++ [d]).getD m dz).2.1 (ls.getD m 0)) = _
    rw [amS_app o ls v ds d m (by omega), usS_app ds d (m + 1) h, getD_app ds d (by omega)]
    rfl
/-- words behind the draws stay -/
theorem amS_get {l ls : List (BitVec 64)} {o : List (BitVec 64)} {v : Nat → BitVec 64} : ∀ {m ds k}, drS l ls m = some (ds, k) → ∀ i, k ≤ i → (amS o ls v ds m).getD i 0 = o.getD i 0
  | 0, ds, k, h, i, _ => rfl
  | m + 1, ds, k, h, i, hi => by
    obtain ⟨ds0, k0, j, h0, hl, h1, h2, h3, h4, rfl, rfl⟩ := drS_prev h
    have hu := drS_us h
    show (List.set _ _ _).getD i 0 = _
    rw [hu, List.getD_eq_getElem?_getD, List.getElem?_set, if_neg (by omega), ← List.getD_eq_getElem?_getD, amS_app _ _ _ _ _ _ (by omega)]
    exact amS_get h0 i (by omega)
/-- the same draws with other numbers -/
def nmS (v : Nat → BitVec 64) (ds : List Drw) : List Drw := (List.range ds.length).map fun i => (v i, (ds.getD i dz).2.1, (ds.getD i dz).2.2)
theorem nmS_len (v : Nat → BitVec 64) (ds : List Drw) : (nmS v ds).length = ds.length := by unfold nmS; simp
theorem nmS_get (v : Nat → BitVec 64) (ds : List Drw) {i : Nat} (h : i < ds.length) : (nmS v ds).getD i dz = (v i, (ds.getD i dz).2.1, (ds.getD i dz).2.2) := by
  unfold nmS; rw [List.getD_eq_getElem?_getD, List.getElem?_map, List.getElem?_range h]; rfl
theorem nmS_app (v : Nat → BitVec 64) (ds : List Drw) (d : Drw) : nmS v (ds ++ [d]) = nmS v ds ++ [(v ds.length, d.2.1, d.2.2)] := by
  unfold nmS
  rw [List.length_append, List.length_singleton, List.range_succ, List.map_append]
  congr 1
  · apply List.map_congr_left
    intro i hi
    rw [getD_app ds d (by simpa using hi)]
  · show [(v ds.length, ((ds ++ [d]).getD ds.length dz).2.1, ((ds ++ [d]).getD ds.length dz).2.2)] = [_]
    rw [getD_last]
/-- what an aimed row tells -/
theorem amS_tells {l ls : List (BitVec 64)} {v : Nat → BitVec 64} : ∀ {m ds k}, drS l ls m = some (ds, k) → (∀ i, i < m → (v i).toNat < (ls.getD i 0).toNat) → drS (amS l ls v ds m) ls m = some (nmS v ds, k)
  | 0, ds, k, h, _ => by cases h; rfl
  | m + 1, ds, k, h, hv => by
    obtain ⟨ds0, k0, j, h0, hl, h1, h2, h3, h4, rfl, rfl⟩ := drS_prev h
    have hu := drS_us h
    have ih := amS_tells (v := v) h0 (fun i hi => hv i (by omega))
    have hn0 := takO_ne h4
    have ht := takO_tak h4
    have hd : (ds0 ++ [drw l (ls.getD m 0) k0 j]).getD m dz = drw l (ls.getD m 0) k0 j := by rw [← hl]; exact getD_last _ _
    have hw := wrdN_all (v m) (rnkN (l.getD j 0) (ls.getD m 0)) (ls.getD m 0) hn0 (hv m (by omega)) (rnk_ltN _ _ hn0 ht)
    obtain ⟨y, hy⟩ : ∃ y, wrdN (v m) (rnkN (l.getD j 0) (ls.getD m 0)) (ls.getD m 0) = y := ⟨_, rfl⟩
    rw [hy] at hw
    have hA : amS l ls v (ds0 ++ [drw l (ls.getD m 0) k0 j]) (m + 1) = (amS l ls v ds0 m).set j y := by
      show (amS l ls v _ m).set (usS _ (m + 1) - 1) (wrdN (v m) _ (ls.getD m 0)) = _
      rw [hu, hd, amS_app _ _ _ _ _ _ (by omega), ← hy]
      rfl
    rw [hA]
    have hlen : j < (amS l ls v ds0 m).length := by rw [amS_len]; exact h2
    have hg : ∀ q, k0 ≤ q → q < j → ((amS l ls v ds0 m).set j y).getD q 0 = l.getD q 0 := fun q a b => by
      rw [List.getD_eq_getElem?_getD, List.getElem?_set, if_neg (by omega), ← List.getD_eq_getElem?_getD]
      exact amS_get h0 q a
    have hgj : ((amS l ls v ds0 m).set j y).getD j 0 = y := by
      rw [List.getD_eq_getElem?_getD, List.getElem?_set, if_pos rfl, if_pos hlen]; rfl
    have hn := drS_next (j := j) (drS_set (x := y) ih h1) h1 (by rw [List.length_set]; exact hlen) (fun q a b => by rw [hg q a b]; exact h3 q a b) (by
      rw [hgj]
      unfold takO
      rw [if_neg hn0]
      exact hw.1)
    rw [hn, nmS_app, hl]
    congr 3
    unfold drw
    rw [hgj, hw.2.1, hw.2.2]
/-- aimed back it is as it was -/
theorem amS_swap {ls : List (BitVec 64)} {v : Nat → BitVec 64} {j : Nat} {y : BitVec 64} : ∀ {l m ds k} (o : List (BitVec 64)), drS l ls m = some (ds, k) → k ≤ j → amS (o.set j y) ls v ds m = (amS o ls v ds m).set j y
  | l, 0, ds, k, o, h, _ => rfl
  | l, m + 1, ds, k, o, h, hk => by
    obtain ⟨ds0, k0, i, h0, hl, h1, h2, h3, h4, rfl, rfl⟩ := drS_prev h
    have hu := drS_us h
    show (amS (o.set j y) ls v _ m).set (usS _ (m + 1) - 1) _ = ((amS o ls v _ m).set (usS _ (m + 1) - 1) _).set j y
    rw [hu, amS_app _ _ _ _ _ _ (by omega), amS_app _ _ _ _ _ _ (by omega), amS_swap o h0 (by omega), List.set_comm _ _ (by omega)]
theorem amS_back {l ls : List (BitVec 64)} {v : Nat → BitVec 64} : ∀ {m ds k}, drS l ls m = some (ds, k) → ∀ {u : Nat → BitVec 64}, (∀ i, i < m → u i = (ds.getD i dz).1) → amS (amS l ls v ds m) ls u ds m = l
  | 0, ds, k, h, u, _ => rfl
  | m + 1, ds, k, h, u, hu2 => by
    obtain ⟨ds0, k0, j, h0, hl, h1, h2, h3, h4, rfl, rfl⟩ := drS_prev h
    have hu := drS_us h
    have hn0 := takO_ne h4
    have ht := takO_tak h4
    have hd : (ds0 ++ [drw l (ls.getD m 0) k0 j]).getD m dz = drw l (ls.getD m 0) k0 j := by rw [← hl]; exact getD_last _ _
    have hb := wrdN_back (l.getD j 0) (ls.getD m 0) hn0 ht
    have hum : u m = telN (l.getD j 0) (ls.getD m 0) := by rw [hu2 m (by omega), hd]; rfl
    show (amS ((amS l ls v _ m).set (usS _ (m + 1) - 1) _) ls u _ m).set (usS _ (m + 1) - 1) (wrdN (u m) _ (ls.getD m 0)) = l
    rw [hu, hd, hum, amS_app l _ _ _ _ _ (by omega), amS_app _ _ _ _ _ _ (by omega), show j + 1 - 1 = j by omega, amS_swap _ h0 h1, amS_back h0 (fun i hi => by rw [hu2 i (by omega), getD_app _ _ (by omega)])]
    show ((l.set j _).set j (wrdN (telN (l.getD j 0) (ls.getD m 0)) (rnkN (l.getD j 0) (ls.getD m 0)) (ls.getD m 0))) = l
    rw [List.set_set, hb]
    apply List.ext_getElem (by rw [List.length_set])
    intro i a b
    rw [List.getElem_set]
    by_cases e : j = i
    · subst e; rw [if_pos rfl, List.getD_eq_getElem?_getD, List.getElem?_eq_getElem h2]; rfl
    · rw [if_neg e]
/-- of the aimed row's draws: its ranks are as before -/
theorem amS_nm (o ls : List (BitVec 64)) (u v : Nat → BitVec 64) (ds : List Drw) : ∀ m, m ≤ ds.length → amS o ls u (nmS v ds) m = amS o ls u ds m ∧ usS (nmS v ds) m = usS ds m
  | 0, _ => ⟨rfl, rfl⟩
  | m + 1, h => by
    obtain ⟨h1, h2⟩ := amS_nm o ls u v ds m (by omega)
    have e : usS (nmS v ds) (m + 1) = usS ds (m + 1) := by
      show usS (nmS v ds) m + ((nmS v ds).getD m dz).2.2 = usS ds m + (ds.getD m dz).2.2
      rw [h2, nmS_get v ds (by omega)]
    refine ⟨?_, e⟩
    show (amS o ls u (nmS v ds) m).set (usS (nmS v ds) (m + 1) - 1) (wrdN (u m) ((nmS v ds).getD m dz).2.1 (ls.getD m 0)) = _
    rw [h1, e, nmS_get v ds (by omega)]
    rfl
end Go.Proofs.Ytaajphopnmdmcaa
namespace Go.Proofs.Ytaajphopnmdmcaa
open Go Go.RowKit Go.Bv
set_option linter.unusedVariables false
theorem drS_rank {l ls : List (BitVec 64)} : ∀ {m ds k}, drS l ls m = some (ds, k) → ∀ i, i < m → ¬ ls.getD i 0 = 0#64 ∧ ((ds.getD i dz).2.1).toNat < eachN (ls.getD i 0) ∧ 1 ≤ (ds.getD i dz).2.2 ∧ usS ds (i + 1) ≤ k
  | 0, ds, k, _, i, hi => by omega
  | m + 1, ds, k, h, i, hi => by
    have hu := drS_us h
    obtain ⟨ds0, k0, j, h0, hl, h1, h2, h3, h4, rfl, rfl⟩ := drS_prev h
    by_cases e : i = m
    · subst e
      have hn0 := takO_ne h4
      have ht := takO_tak h4
      rw [← hl, getD_last, hl]
      refine ⟨hn0, rnk_ltN _ _ hn0 ht, ?_, ?_⟩
      · show 1 ≤ j + 1 - k0
        omega
      · rw [← hl] at hu ⊢; omega
    · obtain ⟨a1, a2, a3, a4⟩ := drS_rank h0 i (by omega)
      rw [getD_app _ _ (by omega), usS_app _ _ _ (by omega)]
      exact ⟨a1, a2, a3, by omega⟩
theorem ow_q {w : World} {base g n cap : Nat} {e : TypeId} {l : List (BitVec 64)} (h : w.ownsRow base e 1 (.slice (some ⟨g, 0, none⟩) n cap) n (l.map fun x => .int .u64 (W64 x))) {k : Nat} (hk : k < n) : w.cell? ⟨g, k, none⟩ = some (.int .u64 (W64 (l.getD k 0))) ∧ w.frozen? ⟨g, k, none⟩ = false := by
  have hl : l.length = n := by have := h.1; rw [List.length_map] at this; omega
  refine ow_cell h ?_
  rw [List.getElem?_map, List.getD_eq_getElem?_getD, List.getElem?_eq_getElem (by omega)]
  rfl
set_option maxRecDepth 100000 in
set_option maxHeartbeats 4000000 in
theorem redraw_q (a b c d : Option Addr) (nl ca m cb cc cd : Nat) (l ls : List (BitVec 64)) (ds : List Drw) (k : Nat) (lv nv : Nat → Nat) (w : World) (hl : QRow w a nl ca l) (hk : KRow w b m cb ds) (h1 : ZRow w c m cc (liI lv m)) (h2 : ZRow w d m cd (liI nv m)) (hd : drS l ls m = some (ds, k)) (hls : ∀ i, i < m → ls.getD i 0 = BitVec.ofNat 64 (lv i)) (hlb : ∀ i, i < m → lv i ≤ 1000000) (hv : ∀ i, i < m → nv i < lv i) :
    Calls Try.prog 43 #[.slice a nl ca, .slice b m cb, .slice c m cc, .slice d m cd] w fun e w' => ∃ v' c', e = .returned (.tuple #[.slice v' nl c', .int .i64 0]) ∧ QRow w' v' nl c' (amS l ls (fun i => BitVec.ofNat 64 (nv i)) ds m) ∧ New w w' := by
  have HLL := Lib.hid hl.len_eq
  have HML := Lib.hid hl.most
  have hmm := hk.most
  have hnl := hl.most
  have HK := Lib.hid hk
  have H1 := Lib.hid h1
  have H2 := Lib.hid h2
  have HU := Lib.hid (drS_rank hd)
  have HKL := Lib.hid (drS_len hd).2
  have HLS := Lib.hid hls
  have HLB := Lib.hid hlb
  have HV := Lib.hid hv
  have HC := Lib.hid (clone_q a nl ca l w hl)
  clear hl hk h1 h2 hls hlb hv hd
  go_enter Try.func43, Try.ntmps43
  go_wp2_with fail
  refine HC.out.mono ?_
  rintro e w1 ⟨v, rfl, how, hn⟩
  have HO := Lib.hid how
  have HN := Lib.hid hn
  have HSZ : Hid (w.heap.size ≤ w1.heap.size) := Lib.hid hn.le
  clear how hn HC
  go_wp2_with fail
  go_loopw [11, 20] (fun av iv wr => ∃ (q : Nat) (z : Int), q ≤ m ∧ iv = .int .i64 (q : Int) ∧ av = .int .i64 z ∧ Hid (z = (usS ds q : Int) - 1) ∧ wr.ownsRow w.heap.size 55 1 v nl ((amS l ls (fun i => BitVec.ofNat 64 (nv i)) ds q).map fun x => .int .u64 (W64 x)) ∧ New w wr) (fun _ iv _ => m - (intOf iv).toNat)
  case atStart => exact ⟨0, _, Nat.zero_le _, rfl, rfl, Lib.hid rfl, HO.out, HN.out⟩
  case round =>
    obtain ⟨q, z, hq, rfl, rfl, HZ, hown, hnew⟩ := hrel
    obtain ⟨wq, hwq⟩ : ∃ z, z = wr := ⟨_, rfl⟩
    rw [← hwq] at hown hnew ⊢
    clear hwq
    by_cases hlt : (q : Int) < (m : Int)
    · have hq0 : (0 : Int) ≤ (q : Int) := by omega
      obtain ⟨b1, o1, rfl, h1⟩ := (HK.out.stay hnew).addr (by omega)
      obtain ⟨p0, p1, p2⟩ := h1 q (by omega)
      clear h1
      obtain ⟨b2, o2, rfl, h2⟩ := (H1.out.stay hnew).addr (by omega)
      obtain ⟨b3, o3, rfl, h3⟩ := (H2.out.stay hnew).addr (by omega)
      have c2 := h2 q (by omega)
      have c3 := h3 q (by omega)
      rw [liI_get _ (by omega)] at c2 c3
      clear h2 h3
      obtain ⟨hr0, hr1, hr2, hr3⟩ := HU.out q (by omega)
      have hls := HLS.out q (by omega)
      have hvv := HV.out q (by omega)
      have hlb := HLB.out q (by omega)
      have hkl := HKL.out
      have hll := HLL.out
      rw [hls] at hr0 hr1
      have HCW := Lib.hid (fun w => word_l (BitVec.ofNat 64 (nv q)) (ds.getD q dz).2.1 (BitVec.ofNat 64 (lv q)) hr0 (by rw [BitVec.toNat_ofNat, BitVec.toNat_ofNat]; omega) hr1 w)
      have hus : usS ds (q + 1) = usS ds q + (ds.getD q dz).2.2 := rfl
      have hz := HZ.out
      obtain ⟨A, hA⟩ : ∃ A, usS ds (q + 1) - 1 = A := ⟨_, rfl⟩
      have hSS : amS l ls (fun i => BitVec.ofNat 64 (nv i)) ds (q + 1) = (amS l ls (fun i => BitVec.ofNat 64 (nv i)) ds q).set A (wrdN (BitVec.ofNat 64 (nv q)) (ds.getD q dz).2.1 (BitVec.ofNat 64 (lv q))) := by
        rw [← hA, ← hls]; rfl
      have HSS := Lib.hid hSS
      have hzA : z + ((ds.getD q dz).2.2 : Int) = (A : Int) := by omega
      have HZA : Hid ((A : Int) = (usS ds (q + 1) : Int) - 1) := Lib.hid (by omega)
      have hAn : (A : Int) < (nl : Int) := by omega
      have hA0 : (0 : Int) ≤ (A : Int) := by omega
      have hAn2 : A < nl := by omega
      obtain ⟨g, cap, rfl, hg, hgs, hgc, hgc2⟩ := ow_shape hown (by omega)
      have HG := Lib.hid hg
      clear hr0 hr1 hr2 hr3 hls hlb hkl hll hus hz hA hSS
      obtain ⟨wd, hwd⟩ : ∃ z, wrdN (BitVec.ofNat 64 (nv q)) (ds.getD q dz).2.1 (BitVec.ofNat 64 (lv q)) = z := ⟨_, rfl⟩
      rw [hwd] at HCW HSS
      clear hwd
      obtain ⟨⟨x, y, u⟩, hd⟩ : ∃ d, ds.getD q dz = d := ⟨_, rfl⟩
      rw [hd] at p0 p1 p2 hzA HCW
      clear hd
      simp only at p0 p1 p2 hzA HCW
      obtain ⟨s, hs⟩ : ∃ s, nv q = s := ⟨_, rfl⟩
      obtain ⟨t, ht⟩ : ∃ t, lv q = t := ⟨_, rfl⟩
      rw [hs] at c3 HCW
      rw [ht] at c2 HCW
      clear hs ht hvv
      have hown2 := ow_new hown ((New.refl wq).alloc (.cells #[.int .u64 (W64 x), .int .u64 (W64 y), .int .i64 (u : Int)] 63))
      have hnew2 := hnew.alloc (.cells #[.int .u64 (W64 x), .int .u64 (W64 y), .int .i64 (u : Int)] 63)
      obtain ⟨WB, hWB⟩ : ∃ z, wq.alloc (.cells #[.int .u64 (W64 x), .int .u64 (W64 y), .int .i64 (u : Int)] 63) = z := ⟨_, rfl⟩
      have HWB := Lib.hid hWB
      have hb1 := heap_alloc_new wq (.cells #[.int .u64 (W64 x), .int .u64 (W64 y), .int .i64 (u : Int)] 63)
      rw [hWB] at hown2 hnew2 hb1
      have d1 : WB.cell? ⟨wq.heap.size, 1, none⟩ = some (.int .u64 (W64 y)) := cell_of_row _ _ 1 _ _ _ hb1
      have d2 : WB.cell? ⟨wq.heap.size, 2, none⟩ = some (.int .i64 (u : Int)) := cell_of_row _ _ 2 _ _ _ hb1
      have e2 : WB.cell? ⟨b2, o2 + q, none⟩ = some (.int .i64 (t : Int)) := by rw [← hWB]; exact Lib.cell?_alloc_some _ c2
      have e3 : WB.cell? ⟨b3, o3 + q, none⟩ = some (.int .i64 (s : Int)) := by rw [← hWB]; exact Lib.cell?_alloc_some _ c3
      clear hb1 hown hnew c2 c3 hWB
      go_wp2_with fail
      rw [HWB.out]
      obtain ⟨p, hp⟩ : ∃ p, wq.heap.size = p := ⟨_, rfl⟩
      rw [hp] at d1 d2 hgs ⊢
      have hltm : q < m := by omega
      have SK : Hid (∀ w', New WB w' → New WB w' ∧ w'.cell? ⟨p, 1, none⟩ = some (.int .u64 (W64 y)) ∧ w'.cell? ⟨b2, o2 + q, none⟩ = some (.int .i64 (t : Int)) ∧ w'.cell? ⟨b3, o3 + q, none⟩ = some (.int .i64 (s : Int))) := Lib.hid (fun w' hn => ⟨hn, (hn.cell (World.block_lt_of_cell? _ _ d1)).trans d1, (hn.cell (World.block_lt_of_cell? _ _ e2)).trans e2, (hn.cell (World.block_lt_of_cell? _ _ e3)).trans e3⟩)
      have HO2 := Lib.hid hown2
      have HN2 := Lib.hid hnew2
      clear hown2 hnew2 d2 p0 p1 p2 HWB hp
      go_cut [14, 15] (fun u e wx => u = .int .u64 (W64 wd) ∧ e = .int .i64 0 ∧ New WB wx)
      case first =>
        go_region_held3 (fun w' => New WB w' ∧ w'.cell? ⟨p, 1, none⟩ = some (.int .u64 (W64 y)) ∧ w'.cell? ⟨b2, o2 + q, none⟩ = some (.int .i64 (t : Int)) ∧ w'.cell? ⟨b3, o3 + q, none⟩ = some (.int .i64 (s : Int)))
          ((refine SK.out _ ?_; first | with_reducible assumption | with_reducible exact (New.refl _).drew | with_reducible exact New.drew (by assumption)))
          (first
          | (go_at_call 53
             refine (HCW.out _).mono ?_
             rintro e w4 ⟨rfl, hn4⟩
             have hn5 : New WB w4 := (New.refl WB).drew.trans hn4
             clear hn4))
        all_goals (
          go_wp2_with fail
          go_meet
          case rel => exact ⟨rfl, rfl, hn5⟩)
      case rest =>
        obtain ⟨rfl, rfl, hn⟩ := hcut
        have hown := ow_new HO2.out hn
        have hnew := HN2.out.trans hn
        obtain ⟨f1, f2⟩ := ow_q hown hAn2
        have HO3 := ow_set hown A (.int .u64 (W64 wd))
        rw [← List.map_set, ← HSS.out] at HO3
        have HO4 := Lib.hid HO3
        have HN4 := Lib.hid (hnew.setCell (show w.heap.size ≤ (⟨g, A, none⟩ : Addr).block from hg) (.int .u64 (W64 wd)))
        clear hown hnew hn HO3 SK d1 e2 e3
        go_wp2
        exact ⟨⟨q + 1, _, by omega, by go_num, rfl, HZA.out, HO4.out, HN4.out⟩, by simp [intOf]; omega⟩
    · obtain rfl : q = m := by omega
      obtain ⟨a2, c2, rfl, hq2⟩ := QRow.of_owns hown (by omega)
      have HQ := Lib.hid hq2
      have HNN := Lib.hid hnew
      clear hown hnew hq2
      go_wp2
      go_ret2
      exact ⟨_, _, rfl, HQ.out, HNN.out⟩
end Go.Proofs.Ytaajphopnmdmcaa
namespace Go.Proofs.Ytaajphopnmdmcaa
open Go Go.RowKit Go.Bv
set_option linter.unusedVariables false
set_option maxRecDepth 100000 in
set_option maxHeartbeats 2000000 in
theorem ranks_40 (a b : Option Addr) (n ca cb : Nat) (ds ds2 : List Drw) (w : World) (ha : KRow w a n ca ds) (hb : KRow w b n cb ds2) (hs : ∀ i, i < n → (ds2.getD i dz).2 = (ds.getD i dz).2) :
    Calls Try.prog 24 #[.slice a n ca, .slice b n cb] w fun e w' => e = .returned (.bool true) ∧ New w w' := by
  have hm := ha.most
  have HA := Lib.hid ha
  have HB := Lib.hid hb
  have HS := Lib.hid hs
  clear ha hb hs
  go_enter Try.func24, Try.ntmps24
  go_wp2_with fail
  go_loopw [13] (fun iv wr => ∃ k : Nat, k ≤ n ∧ iv = .int .i64 (k : Int) ∧ New w wr) (fun iv _ => n - (intOf iv).toNat)
  case atStart => exact ⟨0, Nat.zero_le _, rfl, New.refl _⟩
  case round =>
    obtain ⟨k, hk, rfl, hnew⟩ := hrel
    by_cases hlt : (k : Int) < (n : Int)
    · have hk0 : (0 : Int) ≤ (k : Int) := by omega
      obtain ⟨b1, o1, rfl, h1⟩ := (HA.out.stay hnew).addr (by omega)
      obtain ⟨b2, o2, rfl, h2⟩ := (HB.out.stay hnew).addr (by omega)
      obtain ⟨p0, p1, p2⟩ := h1 k (by omega)
      obtain ⟨q0, q1, q2⟩ := h2 k (by omega)
      rw [HS.out k (by omega)] at q1 q2
      clear h1 h2 p0 q0
      obtain ⟨⟨x, y, u⟩, hd⟩ : ∃ d, ds.getD k dz = d := ⟨_, rfl⟩
      rw [hd] at p1 p2 q1 q2
      clear hd
      simp only at p1 p2 q1 q2
      have z1 : (W64 y != W64 y) = false := by simp
      have z2 : ((u : Int) != (u : Int)) = false := by simp
      go_wp2
      go_quiet (fail)
      go_wp2
      exact ⟨⟨k + 1, by omega, by go_num, hnew.drewN nq⟩, by simp [intOf]; omega⟩
    · obtain rfl : k = n := by omega
      go_wp2
      go_ret
      exact ⟨rfl, hnew⟩
end Go.Proofs.Ytaajphopnmdmcaa
