import Derived.Test.YtdjlbpgjbgepdaaGreatYSdsD
import Derived.Deep.RegionHeld3
/- Layer 44: Take. -/
namespace Go.Proofs.YtdjlbpgjbgepdaaGreat
open Go Go.RowKit Go.Bv
set_option linter.unusedVariables false
set_option maxRecDepth 100000
theorem drCs_set : ∀ (l : List Drw) (k : Nat) (d : Drw), k < l.length → drCs (l.set k d) = (((drCs l).set (k * 3) (.int .u64 (W64 d.1))).set (k * 3 + 1) (.int .u64 (W64 d.2.1))).set (k * 3 + 2) (.int .i64 (d.2.2 : Int))
  | [], k, d, h => absurd h (by simp)
  | e :: l, 0, d, _ => rfl
  | e :: l, k + 1, d, h => by
    have ih := drCs_set l k d (by simpa using h)
    show drC e ++ drCs (l.set k d) = _
    rw [ih, show (k + 1) * 3 = k * 3 + 3 by omega]
    rfl
theorem make_drw (n : Nat) (hn : n ≤ 1000000) (w : World) : (Instr.makeSlice 38 (.int .i64 (n : Int)) (.int .i64 (n : Int))).run Tryz.prog w = .ok (.slice (some ⟨w.heap.size, 0, none⟩) n n) (w.alloc (.cells (madeCells #[.int .u64 0, .int .u64 0, .int .i64 0] (n * 3)) 53)) := by
  obtain ⟨i0, hi, hz0, hz1, hz2⟩ := info_parts info_drw
  have hr := run_make (P := Tryz.prog) w 38 53 i0 (.agg #[.int .u64 0, .int .u64 0, .int .i64 0]) Tryz.underlying38 hi hz0 .i64 .i64 (n : Int) (n : Int) (by omega) (Int.le_refl _) (by rw [hz2]; omega) (by omega)
  rw [hz1] at hr
  exact hr
def dpL (ds : List Drw) (K : Nat) : List Drw := ds ++ List.replicate (K - ds.length) dz
theorem dpL_zero (K : Nat) : dpL [] K = List.replicate K dz := rfl
theorem dpL_len {ds : List Drw} {K : Nat} (h : ds.length ≤ K) : (dpL ds K).length = K := by unfold dpL; simp; omega
theorem dpL_set {ds : List Drw} {K q : Nat} (hq : ds.length = q) (h : q < K) (d : Drw) : (dpL ds K).set q d = dpL (ds ++ [d]) K := by
  unfold dpL
  obtain ⟨r, hr⟩ : ∃ r, K - q = r + 1 := ⟨K - q - 1, by omega⟩
  rw [hq, hr, List.replicate_succ, List.length_append, hq, List.length_singleton, show K - (q + 1) = r by omega, List.append_assoc, List.set_append_right _ _ (by omega), hq, Nat.sub_self]
  rfl
theorem dpL_all {ds : List Drw} {K : Nat} (h : ds.length = K) : dpL ds K = ds := by unfold dpL; rw [h, Nat.sub_self]; simp
theorem made3 (K : Nat) : (madeCells #[.int .u64 0, .int .u64 0, .int .i64 0] (K * 3)).toList = drCs (List.replicate K dz) := by
  apply List.ext_getElem?
  intro m
  by_cases hm : m < K * 3
  · obtain ⟨i, j, hj, rfl⟩ : ∃ i j, j < 3 ∧ m = i * 3 + j := ⟨m / 3, m % 3, Nat.mod_lt _ (by omega), by omega⟩
    rw [drCs_get _ i j (by simp; omega) hj, List.getD_eq_getElem?_getD, List.getElem?_replicate, if_pos (by omega), Option.getD_some, Array.getElem?_toList]
    have e1 : (madeCells #[.int .u64 0, .int .u64 0, .int .i64 0] (K * 3))[i * 3 + j]? = some ((#[.int .u64 0, .int .u64 0, .int .i64 0] : Array Value)[(i * 3 + j) % 3]!) := by
      simp [madeCells, hm]
    rw [e1, show (i * 3 + j) % 3 = j by omega]
    obtain rfl | rfl | rfl : j = 0 ∨ j = 1 ∨ j = 2 := by omega
    · rfl
    · rfl
    · rfl
  · rw [List.getElem?_eq_none (by rw [Array.length_toList, size_madeCells]; omega), List.getElem?_eq_none (by rw [drCs_len]; simp; omega)]
theorem ow_made3 (w : World) (base : Nat) (e : TypeId) (K : Nat) (hb : base ≤ w.heap.size) (hK : K ≤ 1000000) : (w.alloc (.cells (madeCells #[.int .u64 0, .int .u64 0, .int .i64 0] (K * 3)) e)).ownsRow base e 3 (.slice (some ⟨w.heap.size, 0, none⟩) K K) K (drCs (List.replicate K dz)) := by
  have := World.ownsRow_lit (base := base) (e := e) (size := 3) w (madeCells #[.int .u64 0, .int .u64 0, .int .i64 0] (K * 3)) K hb (by unfold maxLen; omega) (size_madeCells _ _)
  rw [made3] at this
  exact this
theorem ow_lt3 {w : World} {base g n cap : Nat} {e : TypeId} {xs : List Value} (h : w.ownsRow base e 3 (.slice (some ⟨g, 0, none⟩) n cap) n xs) : base ≤ g ∧ g < w.heap.size ∧ n ≤ cap := by
  obtain ⟨hl, h | ⟨g', cap', cur, hv, hb, hc, h2, h3, _⟩⟩ := h
  · cases h.1
  · injection hv with e1 e2 e3
    cases e1; subst e3
    exact ⟨hb, lt_of_block hc, h2⟩
theorem ow_three {w : World} {base g n cap : Nat} {e : TypeId} {ds : List Drw} (h : w.ownsRow base e 3 (.slice (some ⟨g, 0, none⟩) n cap) n (drCs ds)) {k : Nat} (hk : k < n) :
    (w.cell? ⟨g, k * 3, none⟩ = some (.int .u64 (W64 (ds.getD k dz).1)) ∧ w.cell? ⟨g, k * 3 + 1, none⟩ = some (.int .u64 (W64 (ds.getD k dz).2.1)) ∧ w.cell? ⟨g, k * 3 + 2, none⟩ = some (.int .i64 ((ds.getD k dz).2.2 : Int))) ∧ ∀ j, w.frozen? ⟨g, j, none⟩ = false := by
  have hl : ds.length = n := by have := h.1; rw [drCs_len] at this; omega
  have g0 := drCs_get ds k 0 (by omega) (by omega)
  have g1 := drCs_get ds k 1 (by omega) (by omega)
  have g2 := drCs_get ds k 2 (by omega) (by omega)
  exact ⟨⟨(h.cellAt (k * 3) (by omega)).trans g0, (h.cellAt (k * 3 + 1) (by omega)).trans g1, (h.cellAt (k * 3 + 2) (by omega)).trans g2⟩, fun j => h.frozenAt j⟩
theorem at_size {w : World} {base a b n cap size : Nat} {e : TypeId} {xs : List Value} (h : a = b) (k : w.ownsRow base e size (.slice (some ⟨a, 0, none⟩) n cap) n xs) : w.ownsRow base e size (.slice (some ⟨b, 0, none⟩) n cap) n xs := h ▸ k
/-- the words of the first draws -/
def wdL (ds : List Drw) (K : Nat) : List (BitVec 64) := (dpL ds K).map fun d => d.1
theorem wdL_len {ds : List Drw} {K : Nat} (h : ds.length ≤ K) : (wdL ds K).length = K := by unfold wdL; rw [List.length_map, dpL_len h]
theorem wdL_set {ds : List Drw} {K q : Nat} (hq : ds.length = q) (h : q < K) (d : Drw) : wdL (ds ++ [d]) K = (wdL ds K).set q d.1 := by
  unfold wdL; rw [← dpL_set hq h, List.map_set]
theorem wdL_all {ds : List Drw} {K : Nat} (h : ds.length = K) : wdL ds K = ds.map fun d => d.1 := by unfold wdL; rw [dpL_all h]
theorem wdL_zero (K : Nat) : (wdL [] K).map (fun x => Value.int .u64 (W64 x)) = List.replicate K (.int .u64 0) := by
  unfold wdL; rw [dpL_zero, List.map_replicate, List.map_replicate]; rfl
theorem ow_q44 {w : World} {base g n cap : Nat} {e : TypeId} {l : List (BitVec 64)} (h : w.ownsRow base e 1 (.slice (some ⟨g, 0, none⟩) n cap) n (l.map fun x => .int .u64 (W64 x))) {k : Nat} (hk : k < n) : w.cell? ⟨g, k, none⟩ = some (.int .u64 (W64 (l.getD k 0))) ∧ w.frozen? ⟨g, k, none⟩ = false := by
  have hl : l.length = n := by have := h.1; simpa using this
  refine ow_cell h ?_
  rw [List.getElem?_map, List.getD_eq_getElem?_getD, List.getElem?_eq_getElem (by omega)]; rfl
theorem make_q44 (n : Nat) (hn : n ≤ 100000) (w : World) : (Instr.makeSlice 28 (.int .i64 (n : Int)) (.int .i64 (n : Int))).run Tryz.prog w = .ok (.slice (some ⟨w.heap.size, 0, none⟩) n n) (w.alloc (.cells (madeCells #[.int .u64 0] n) 23)) := by
  obtain ⟨i0, hi, hz0, hz1, hz2⟩ := info_parts info_u64q
  exact run_make_row (P := Tryz.prog) 28 23 i0 (.int .u64 0) Tryz.underlying28 hi hz0 hz1 rfl .i64 .i64 n (by rw [hz2]; omega) (by omega) w
/-- the draws of so many words, and how many words came -/
def sdS (c : Nat) (l : List (BitVec 64)) : Nat → Option (List Drw × Nat)
  | 0 => some ([], 0)
  | m + 1 => match sdS c l m with
    | none => none
    | some r => match stp c l r.2 with
      | none => none
      | some q => some (r.1 ++ [q.1], q.2)
theorem sdS_next {c m k k' : Nat} {l : List (BitVec 64)} {ds : List Drw} {d : Drw} (h : sdS c l m = some (ds, k)) (h2 : stp c l k = some (d, k')) : sdS c l (m + 1) = some (ds ++ [d], k') := by
  show (match sdS c l m with | none => none | some r => _) = _
  rw [h]
  show (match stp c l k with | none => none | some q => _) = _
  rw [h2]
theorem sdS_few {c m k : Nat} {l : List (BitVec 64)} {ds : List Drw} (h : sdS c l m = some (ds, k)) (h2 : stp c l k = none) : sdS c l (m + 1) = none := by
  show (match sdS c l m with | none => none | some r => _) = _
  rw [h]
  show (match stp c l k with | none => none | some q => _) = _
  rw [h2]
theorem sdS_none {c m : Nat} {l : List (BitVec 64)} (h : sdS c l m = none) : ∀ d, sdS c l (m + d) = none
  | 0 => h
  | d + 1 => by
    show (match sdS c l (m + d) with | none => none | some r => _) = _
    rw [sdS_none h d]
theorem sdS_len {c : Nat} {l : List (BitVec 64)} : ∀ {m ds k}, sdS c l m = some (ds, k) → ds.length = m
  | 0, ds, k, h => by
    have h' : some (([] : List Drw), 0) = some (ds, k) := h
    cases h'; rfl
  | m + 1, ds, k, h => by
    have h' : (match sdS c l m with | none => none | some r => match stp c l r.2 with | none => none | some q => some (r.1 ++ [q.1], q.2)) = some (ds, k) := h
    cases h1 : sdS c l m with
    | none => rw [h1] at h'; cases h'
    | some r =>
      rw [h1] at h'
      dsimp only at h'
      cases h2 : stp c l r.2 with
      | none => rw [h2] at h'; cases h'
      | some q =>
        rw [h2] at h'
        cases h'
        have := sdS_len (m := m) (ds := r.1) (k := r.2) (by rw [h1])
        simp [this]
abbrev zSd : Array Value := #[.int .i64 0, .int .i64 0, .slice none 0 0]
/-- three boxes that stand -/
structure Bx3 (w : World) (R B p : Nat) (cw : Array Value) (c : Nat) : Prop where
  r : w.heap[R]? = some (.cells zSd 37 (0, 0))
  b : w.heap[B]? = some (.cells cw 57 (0, 0))
  p : c ≠ 0 → w.heap[p]? = some (.cells #[ofV c] 96 (0, 0))
theorem Bx3.stay {w w' : World} {R B p : Nat} {cw : Array Value} {c : Nat} (h : Bx3 w R B p cw c) (hn : New w w') : Bx3 w' R B p cw c :=
  ⟨(hn.block _ (lt_of_block h.r)).trans h.r, (hn.block _ (lt_of_block h.b)).trans h.b, fun hc => (hn.block _ (lt_of_block (h.p hc))).trans (h.p hc)⟩
theorem Bx3.but {w w' : World} {R B p : Nat} {cw : Array Value} {c b g : Nat} (h : Bx3 w R B p cw c) (hn : But2 b g w w') (hb : R ≠ b ∧ B ≠ b ∧ (c ≠ 0 → p ≠ b)) (hg : R ≠ g ∧ B ≠ g ∧ (c ≠ 0 → p ≠ g)) : Bx3 w' R B p cw c :=
  ⟨(hn.block _ (lt_of_block h.r) hb.1 hg.1).trans h.r, (hn.block _ (lt_of_block h.b) hb.2.1 hg.2.1).trans h.b, fun hc => (hn.block _ (lt_of_block (h.p hc)) (hb.2.2 hc) (hg.2.2 hc)).trans (h.p hc)⟩
theorem Bx3.far {w : World} {R B p : Nat} {cw : Array Value} {c : Nat} (h : Bx3 w R B p cw c) {a : Addr} (h1 : R ≠ a.block ∧ B ≠ a.block ∧ (c ≠ 0 → p ≠ a.block)) (x : Value) : Bx3 (w.setCell a x) R B p cw c :=
  ⟨(heap_setCell_other _ _ _ _ h1.1).trans h.r, (heap_setCell_other _ _ _ _ h1.2.1).trans h.b, fun hc => (heap_setCell_other _ _ _ _ (h1.2.2 hc)).trans (h.p hc)⟩
theorem take_bad44 (q k b m E : Int) (a : Nat) (hE : ckS k b m = E) (h : (E == 0) = false) (w : World) : Calls Tryz.prog 14 #[.pointer (some ⟨a, 0, none⟩), .int .i64 k, .int .i64 b, .int .i64 m] w fun e w' => e = .returned (.tuple #[.agg zSd, .slice none 0 0, .int .i64 E]) ∧ New w w' := by
  have HC := Lib.hid (fun w => check_44 k b m w)
  rw [hE] at HC
  have HB := Lib.hid (heap_alloc_new w (.cells zSd 37))
  have HN := Lib.hid ((New.refl w).alloc (.cells zSd 37))
  clear hE
  go_enter Tryz.func14, Tryz.ntmps14
  go_wp2_with fail
  refine (HC.out _).mono ?_
  rintro e w1 ⟨rfl, hn⟩
  have HB1 := Lib.hid ((hn.block _ (lt_of_block HB.out)).trans HB.out)
  have HN1 := Lib.hid (HN.out.trans hn)
  have r0 := cell_of_row _ _ 0 _ _ _ HB1.out
  have r1 := cell_of_row _ _ 1 _ _ _ HB1.out
  have r2 := cell_of_row _ _ 2 _ _ _ HB1.out
  have rf := fun i => frozen_of_row _ _ i _ _ HB1.out
  clear hn
  go_wp2_with fail
  refine bodyPost_ret (by simp [results, Tryz.results14, go_sem, r0, r1, r2]; try rfl) rfl ?_
  exact ⟨rfl, (((HN1.out.setCell (by exact Nat.le_refl _) _).setCell (by exact Nat.le_refl _) _).setCell (by exact Nat.le_refl _) _)⟩
theorem cell_far44 {w : World} {g r : Nat} (hr : g ≠ r) (i j : Nat) (x : Value) : (w.setCell ⟨r, i, none⟩ x).cell? ⟨g, j, none⟩ = w.cell? ⟨g, j, none⟩ := by
  have e : (w.setCell ⟨r, i, none⟩ x).heap[g]? = w.heap[g]? := heap_setCell_other _ _ _ _ hr
  unfold World.cell?
  simp only [e]
theorem qfar44 {w : World} {g len cap r : Nat} {l : List (BitVec 64)} (h : QRow w (some ⟨g, 0, none⟩) len cap l) (hr : g ≠ r) (i : Nat) (x : Value) : QRow (w.setCell ⟨r, i, none⟩ x) (some ⟨g, 0, none⟩) len cap l :=
  QRow.held h (by rw [size_set]; exact Nat.le_refl _) (fun y e _ => by cases e; exact heap_setCell_other _ _ _ _ hr)
theorem kfar44 {w : World} {g len cap r : Nat} {l : List Drw} (h : KRow w (some ⟨g, 0, none⟩) len cap l) (hr : g ≠ r) (i : Nat) (x : Value) : KRow (w.setCell ⟨r, i, none⟩ x) (some ⟨g, 0, none⟩) len cap l where
  len_eq := h.len_eq
  le := h.le
  most := h.most
  room := h.room
  none := h.none
  cell := fun b off e j hj => by
    cases e
    rw [cell_far44 hr, cell_far44 hr, cell_far44 hr]
    exact h.cell _ _ rfl j hj
  spot := h.spot
  old := fun y e h0 => by rw [size_set]; exact h.old y e h0
theorem tk_c44 (c : Nat) (hc : c = 0) (b g0 k : Nat) (l : List (BitVec 64)) (w : World) (ht : Tape w b g0 l k) : Calls Tryz.prog 43 #[.pointer (some ⟨b, 0, none⟩)] w fun e w' =>
    (∃ d k', stp c l k = some (d, k') ∧ e = .returned (.tuple #[.agg #[.int .u64 (W64 d.1), .int .u64 (W64 d.2.1), .int .i64 (d.2.2 : Int)], .int .i64 0]) ∧ After w w' b g0 l k') ∨ (stp c l k = none ∧ e = .returned (.tuple #[.agg #[.int .u64 0, .int .u64 0, .int .i64 0], .int .i64 7]) ∧ After w w' b g0 l l.length) := by
  subst hc; exact tk_p44 b g0 k l w ht
set_option maxHeartbeats 8000000 in
theorem take_p44 (k0 bi : Int) (n : Nat) (hck : ckS k0 bi (n : Int) = 0) (c : Nat) (hwk : wkK k0 = c) (hc0 : c = 0) (b g0 : Nat) (l : List (BitVec 64)) (w : World) (ht : Tape w b g0 l 0) : Calls Tryz.prog 14 #[.pointer (some ⟨b, 0, none⟩), .int .i64 k0, .int .i64 bi, .int .i64 (n : Int)] w fun e w' =>
    (∃ ds k g1 g2, sdS c l n = some (ds, k) ∧ e = .returned (.tuple #[.agg (sdc k0 bi (some ⟨g1, 0, none⟩) n n), .slice (some ⟨g2, 0, none⟩) n n, .int .i64 0]) ∧ QRow w' (some ⟨g1, 0, none⟩) n n (ds.map fun d => d.1) ∧ KRow w' (some ⟨g2, 0, none⟩) n n ds ∧ After w w' b g0 l k ∧ w.heap.size ≤ g1) ∨ (sdS c l n = none ∧ e = .returned (.tuple #[.agg zSd, .slice none 0 0, .int .i64 7]) ∧ After w w' b g0 l l.length) := by
  obtain ⟨hok, n', e1, hn1, hn320, _⟩ := ckS_ok hck
  obtain rfl : n = n' := by omega
  have HCK := Lib.hid (fun w => check_44 k0 bi (n : Int) w)
  rw [hck] at HCK
  have HWY := Lib.hid (fun w => way_44 k0 hok w)
  rw [hwk] at HWY
  generalize lmW k0 = lm at *
  have HBL : Hid (b < w.heap.size ∧ g0 < w.heap.size) := Lib.hid ht.lt
  have HT0 := Lib.hid (fun w' (h : New w w') => ht.stay h)
  have HBR := Lib.hid (heap_alloc_new w (.cells zSd 37))
  have HNR := Lib.hid ((New.refl w).alloc (.cells zSd 37))
  have hmk : ∀ W : World, (Instr.makeSlice 28 (.int .i64 (n : Int)) (.int .i64 (n : Int))).run Tryz.prog W = .ok (.slice (some ⟨W.heap.size, 0, none⟩) n n) (W.alloc (.cells (madeCells #[.int .u64 0] n) 23)) := fun W => make_q44 n (by omega) W
  have hmk2 : ∀ W : World, (Instr.makeSlice 38 (.int .i64 (n : Int)) (.int .i64 (n : Int))).run Tryz.prog W = .ok (.slice (some ⟨W.heap.size, 0, none⟩) n n) (W.alloc (.cells (madeCells #[.int .u64 0, .int .u64 0, .int .i64 0] (n * 3)) 53)) := fun W => make_drw n (by omega) W
  clear ht hck hok e1 hwk
  go_enter Tryz.func14, Tryz.ntmps14
  go_wp2_with fail
  refine (HCK.out _).mono ?_
  rintro e w1 ⟨rfl, hw1⟩
  have HN1 := Lib.hid (HNR.out.trans hw1)
  have HR1 := Lib.hid ((hw1.block _ (lt_of_block HBR.out)).trans HBR.out)
  clear hw1
  go_wp2_with fail
  refine (HWY.out _).mono ?_
  rintro e w2 ⟨⟨p, rfl, hp⟩, hw2⟩
  rw [show tkV c p = .func (Fn.func 43) #[] #[] by rw [hc0]; rfl, show wdV c = .func (Fn.func 45) #[] #[] by rw [hc0]; rfl]
  have HC0 := Lib.hid hc0
  clear hc0
  have hsz2 := HN1.out.le
  have hltR := lt_of_block HR1.out
  have HBX : Hid (Bx3 (w2.alloc (.cells #[.int .u64 (W64 lm), .func (Fn.func 43) #[] #[], .func (Fn.func 45) #[] #[]] 57)) w.heap.size w2.heap.size p #[.int .u64 (W64 lm), .func (Fn.func 43) #[] #[], .func (Fn.func 45) #[] #[]] c) := Lib.hid (Bx3.mk ((((New.refl w2).alloc _).block _ (lt_of_block ((hw2.block _ hltR).trans HR1.out))).trans ((hw2.block _ hltR).trans HR1.out)) (heap_alloc_new w2 _) (fun hc => (((New.refl w2).alloc _).block _ (lt_of_block (hp hc).2)).trans (hp hc).2))
  have HPP : Hid (w.heap.size < w2.heap.size ∧ (c ≠ 0 → w.heap.size ≤ p)) := Lib.hid ⟨Nat.lt_of_lt_of_le hltR hw2.le, fun hc => Nat.le_trans hsz2 (hp hc).1⟩
  have HN3 := Lib.hid ((HN1.out.trans hw2).alloc (.cells #[.int .u64 (W64 lm), .func (Fn.func 43) #[] #[], .func (Fn.func 45) #[] #[]] 57))
  have HS3 : Hid ((w2.alloc (.cells #[.int .u64 (W64 lm), .func (Fn.func 43) #[] #[], .func (Fn.func 45) #[] #[]] 57)).heap.size = w2.heap.size + 1) := Lib.hid (by simp)
  clear hp hw2 hsz2 hltR HN1 HR1 HWY HCK
  go_wp2_with fail
  generalize hW3 : w2.alloc (.cells #[.int .u64 (W64 lm), .func (Fn.func 43) #[] #[], .func (Fn.func 45) #[] #[]] 57) = w3 at *
  clear hW3
  go_cut [14, 15] (fun c d wx => ∃ g1 g2, c = .slice (some ⟨g1, 0, none⟩) n n ∧ d = .slice (some ⟨g2, 0, none⟩) n n ∧ wx.ownsRow w3.heap.size 23 1 (.slice (some ⟨g1, 0, none⟩) n n) n ((wdL [] n).map fun x => .int .u64 (W64 x)) ∧ wx.ownsRow w3.heap.size 53 3 (.slice (some ⟨g2, 0, none⟩) n n) n (drCs (dpL [] n)) ∧ g1 ≠ g2 ∧ New w3 wx)
  case first =>
    go_region_held3 (fun w' => New w3 w')
      (repeat (first | with_reducible assumption | with_reducible exact New.refl _ | with_reducible apply New.drew | with_reducible refine New.alloc ?_ _))
      (fail)
    all_goals (
      go_wp2_with fail
      go_meet
      case rel =>
        rw [wdL_zero, dpL_zero]
        first
          | exact ⟨_, _, rfl, rfl, ow_new (ow_made w3 _ _ _ n _ (Nat.le_refl _) (by omega) (by rw [made_toList]) (by simp)) (((New.refl _).alloc _).drew), ow_new (at_size (by simp) (ow_made3 (w3.alloc (.cells (madeCells #[.int .u64 0] n) 23)) w3.heap.size _ n (by simp) (by omega))) ((New.refl _).drew), (fun e => by omega), by assumption⟩
          | exact ⟨_, _, rfl, rfl, ow_new (at_size (by simp) (ow_made (w3.alloc (.cells (madeCells #[.int .u64 0, .int .u64 0, .int .i64 0] (n * 3)) 53)) w3.heap.size _ _ n _ (by simp) (by omega) (by rw [made_toList]) (by simp))) ((New.refl _).drew), ow_new (ow_made3 w3 w3.heap.size _ n (Nat.le_refl _) (by omega)) (((New.refl _).alloc _).drew), (fun e => by omega), by assumption⟩)
  case rest =>
    obtain ⟨g1, g2, rfl, rfl, ho1, ho2, hg12, hn9⟩ := hcut
    clear hmk hmk2
    have HO1 := Lib.hid ho1
    have HO2 := Lib.hid ho2
    have HN9 := Lib.hid (HN3.out.trans hn9)
    have HBX9 := Lib.hid (HBX.out.stay hn9)
    have HG12 : Hid (w3.heap.size ≤ g1 ∧ w3.heap.size ≤ g2 ∧ g1 ≠ g2) := Lib.hid ⟨(ow_in ho1).1, (ow_lt3 ho2).1, hg12⟩
    have HLT : Hid (g1 < wc.heap.size ∧ g2 < wc.heap.size ∧ w3.heap.size ≤ wc.heap.size ∧ (c ≠ 0 → p < w3.heap.size)) := Lib.hid ⟨(ow_in ho1).2.1, (ow_lt3 ho2).2.1, hn9.le, fun hc => lt_of_block (HBX.out.p hc)⟩
    replace HT0 := Lib.hid (HT0.out wc HN9.out)
    clear ho1 ho2 hg12 hn9 HBX
    go_wp2_with fail
    go_loopw [38] (fun iv wr => ∃ (q : Nat) (ds : List Drw) (k g : Nat), q ≤ n ∧ iv = .int .i64 (q : Int) ∧ Hid (sdS c l q = some (ds, k)) ∧ wr.ownsRow w3.heap.size 23 1 (.slice (some ⟨g1, 0, none⟩) n n) n ((wdL ds n).map fun x => .int .u64 (W64 x)) ∧ wr.ownsRow w3.heap.size 53 3 (.slice (some ⟨g2, 0, none⟩) n n) n (drCs (dpL ds n)) ∧ Tape wr b g l k ∧ But2 b g0 w wr ∧ Hid (Bx3 wr w.heap.size w2.heap.size p #[.int .u64 (W64 lm), .func (Fn.func 43) #[] #[], .func (Fn.func 45) #[] #[]] c) ∧ Hid ((g = g0 ∨ wc.heap.size ≤ g) ∧ wc.heap.size ≤ wr.heap.size)) (fun iv _ => n - (intOf iv).toNat)
    case atStart => exact ⟨0, [], 0, g0, Nat.zero_le _, rfl, Lib.hid rfl, HO1.out, HO2.out, HT0.out, But2.of_new HN9.out, HBX9, Lib.hid ⟨.inl rfl, Nat.le_refl _⟩⟩
    case round =>
      clear HT0 HO1 HO2 HBX9
      obtain ⟨q, ds, k, g, hq, rfl, HS, ho1, ho2, ht, hb2, HX3, HG⟩ := hrel
      have HO1 := Lib.hid ho1
      have HO2 := Lib.hid ho2
      have HT := Lib.hid ht
      have HB := Lib.hid hb2
      obtain ⟨wq, hwq⟩ : ∃ z, z = wr := ⟨_, rfl⟩
      rw [← hwq] at HO1 HO2 HT HB HX3 HG ⊢
      clear ho1 ho2 ht hb2 hwq
      have hdl := sdS_len HS.out
      have HNE : Hid (b ≠ g1 ∧ b ≠ g2 ∧ (w.heap.size ≠ b ∧ w2.heap.size ≠ b ∧ (c ≠ 0 → p ≠ b)) ∧ (w.heap.size ≠ g ∧ w2.heap.size ≠ g ∧ (c ≠ 0 → p ≠ g)) ∧ g1 ≠ g ∧ g2 ≠ g ∧ (w.heap.size ≠ g1 ∧ w2.heap.size ≠ g1 ∧ (c ≠ 0 → p ≠ g1)) ∧ (w.heap.size ≠ g2 ∧ w2.heap.size ≠ g2 ∧ (c ≠ 0 → p ≠ g2))) := Lib.hid (by
        have h1 := HBL.out
        have h2 := HPP.out
        have h3 := HG12.out
        have h4 := HLT.out
        have h5 := HG.out
        have h6 := HS3.out
        refine ⟨by omega, by omega, ⟨by omega, by omega, fun hc => ?_⟩, ⟨by omega, by omega, fun hc => ?_⟩, by omega, by omega, ⟨by omega, by omega, fun hc => ?_⟩, ⟨by omega, by omega, fun hc => ?_⟩⟩
        · have := h2.2 hc; omega
        · have := h2.2 hc; have := h4.2.2.2 hc; omega
        · have := h4.2.2.2 hc; omega
        · have := h4.2.2.2 hc; omega)
      have b0 := cell_of_row _ _ 0 _ _ _ HX3.out.b
      have b1 := cell_of_row _ _ 1 _ _ _ HX3.out.b
      have b2 := cell_of_row _ _ 2 _ _ _ HX3.out.b
      by_cases hlt : (q : Int) < (n : Int)
      · have hq0 : (0 : Int) ≤ (q : Int) := by omega
        have HDL := Lib.hid hdl
        have HTK := Lib.hid (tk_c44 c HC0.out b g k l wq HT.out)
        clear hdl
        go_wp2_with fail
        refine HTK.out.mono ?_
        rintro e w8 (⟨d, k', hst, rfl, g', ht8, hb8, hg8⟩ | ⟨hst, rfl, g', ht8, hb8, hg8⟩)
        · have HD := Lib.hid (sdS_next HS.out hst)
          obtain ⟨x, y, u⟩ := d
          have HCS : Hid ((wdL (ds ++ [(x, y, u)]) n).map (fun x => Value.int .u64 (W64 x)) = ((wdL ds n).map fun x => .int .u64 (W64 x)).set q (.int .u64 (W64 x))) := Lib.hid (by
            rw [wdL_set HDL.out (by omega), List.map_set])
          have HDS : Hid (drCs (dpL (ds ++ [(x, y, u)]) n) = (((drCs (dpL ds n)).set (q * 3) (.int .u64 (W64 x))).set (q * 3 + 1) (.int .u64 (W64 y))).set (q * 3 + 2) (.int .i64 (u : Int))) := Lib.hid (by
            rw [← dpL_set HDL.out (by omega), drCs_set _ _ _ (by rw [dpL_len (by have := HDL.out; omega)]; omega)])
          clear hst HTK b0 b1 b2
          have hne := HNE.out
          have hwq : g1 < wq.heap.size ∧ g2 < wq.heap.size := ⟨(ow_in HO1.out).2.1, (ow_lt3 HO2.out).2.1⟩
          have o1 := ow_blk HO1.out (w' := w8) (fun z hz => by
            have e : g1 = z := by simpa [Value.ownBlock] using hz
            subst e
            exact hb8.block _ hwq.1 (fun e => hne.1 e.symm) hne.2.2.2.2.1)
          have o2 := ow_blk HO2.out (w' := w8) (fun z hz => by
            have e : g2 = z := by simpa [Value.ownBlock] using hz
            subst e
            exact hb8.block _ hwq.2 (fun e => hne.2.1 e.symm) hne.2.2.2.2.2.1)
          have hx8 := HX3.out.but hb8 hne.2.2.1 hne.2.2.2.1
          have hgl := HG.out
          have hbs := HB.out.step (hgl.1.imp id (fun e => Nat.le_trans HN9.out.le e)) hb8
          have hne1 : g1 ≠ g' := by have := HLT.out; rcases hg8 with e | e <;> omega
          have hne2 : g2 ≠ g' := by have := HLT.out; rcases hg8 with e | e <;> omega
          obtain ⟨W9, hW9⟩ : ∃ z, w8.alloc (.cells #[.int .u64 (W64 x), .int .u64 (W64 y), .int .i64 (u : Int)] 53) = z := ⟨_, rfl⟩
          have hb1 := heap_alloc_new w8 (.cells #[.int .u64 (W64 x), .int .u64 (W64 y), .int .i64 (u : Int)] 53)
          rw [hW9] at hb1
          have hN9 : New w8 W9 := by rw [← hW9]; exact (New.refl _).alloc _
          have d0 : W9.cell? ⟨w8.heap.size, 0, none⟩ = some (.int .u64 (W64 x)) := cell_of_row _ _ 0 _ _ _ hb1
          have d1 : W9.cell? ⟨w8.heap.size, 1, none⟩ = some (.int .u64 (W64 y)) := cell_of_row _ _ 1 _ _ _ hb1
          have d2 : W9.cell? ⟨w8.heap.size, 2, none⟩ = some (.int .i64 (u : Int)) := cell_of_row _ _ 2 _ _ _ hb1
          have p1 := ow_new o1 hN9
          have p2 := ow_new o2 hN9
          have HT9 := Lib.hid (ht8.stay hN9)
          have HB9 := Lib.hid (hbs.then hN9)
          have HX9 := Lib.hid (hx8.stay hN9)
          have hsz8 := hb8.size
          have hn81 : ¬ w8.heap.size = g1 := by omega
          have hn82 : ¬ w8.heap.size = g2 := by omega
          have hn18 : ¬ g1 = w8.heap.size := by omega
          have hn28 : ¬ g2 = w8.heap.size := by omega
          have hn12 : ¬ g1 = g2 := HG12.out.2.2
          have hn21 : ¬ g2 = g1 := fun e => HG12.out.2.2 e.symm
          obtain ⟨c1, f1⟩ := ow_q44 p1 (k := q) (by omega)
          obtain ⟨⟨e0, e1, e2⟩, f2⟩ := ow_three p2 (k := q) (by omega)
          have f20 := f2 (q * 3)
          have f21 := f2 (q * 3 + 1)
          have f22 := f2 (q * 3 + 2)
          have HP1 := Lib.hid p1
          have HP2 := Lib.hid p2
          have GG : Hid ((g' = g0 ∨ wc.heap.size ≤ g') ∧ wc.heap.size ≤ W9.heap.size) := Lib.hid ⟨by rcases hg8 with e | e <;> rcases hgl.1 with e2 | e2 <;> omega, by have := hN9.le; omega⟩
          have HNE2 : Hid (g1 ≠ g' ∧ g2 ≠ g') := Lib.hid ⟨hne1, hne2⟩
          have hbg : b < g1 ∧ b < g2 := by have := HBL.out; have := HG12.out; have := HS3.out; have := HPP.out; omega
          have HBG := Lib.hid hbg
          have HFR : Hid (w.heap.size ≤ g1 ∧ w.heap.size ≤ g2) := Lib.hid (by have := HG12.out; have := HS3.out; have := HPP.out; omega)
          clear hb1 o1 o2 hbs ht8 hb8 hgl hg8 HT HO1 HB f2 p1 p2 hN9 hwq hsz8 hne hne1 hne2 hx8 HX3 hbg
          go_wp2_with fail
          clear hW9
          go_region
          have HV1 : Hid (((((((W9.setCell ⟨g1, q, none⟩ (.int .u64 (W64 x))).setCell ⟨g2, q * 3, none⟩ (.int .u64 (W64 x))).setCell ⟨g2, q * 3 + 1, none⟩ (.int .u64 (W64 y))).setCell ⟨g2, q * 3 + 2, none⟩ (.int .i64 (u : Int))).drew)).ownsRow w3.heap.size 23 1 (.slice (some ⟨g1, 0, none⟩) n n) n ((wdL (ds ++ [(x, y, u)]) n).map fun x => .int .u64 (W64 x))) := Lib.hid (by
            have hv : (Value.slice (some ⟨g1, 0, none⟩) n n).ownBlock ≠ some g2 := by simp [Value.ownBlock]; exact hn12
            rw [HCS.out]
            exact ow_new (ow_far (ow_far (ow_far (ow_set HP1.out q (.int .u64 (W64 x))) (a := ⟨g2, q * 3, none⟩) hv _) (a := ⟨g2, q * 3 + 1, none⟩) hv _) (a := ⟨g2, q * 3 + 2, none⟩) hv _) (New.refl _).drew)
          have HV2 : Hid (((((((W9.setCell ⟨g1, q, none⟩ (.int .u64 (W64 x))).setCell ⟨g2, q * 3, none⟩ (.int .u64 (W64 x))).setCell ⟨g2, q * 3 + 1, none⟩ (.int .u64 (W64 y))).setCell ⟨g2, q * 3 + 2, none⟩ (.int .i64 (u : Int))).drew)).ownsRow w3.heap.size 53 3 (.slice (some ⟨g2, 0, none⟩) n n) n (drCs (dpL (ds ++ [(x, y, u)]) n))) := Lib.hid (by
            have hv : (Value.slice (some ⟨g2, 0, none⟩) n n).ownBlock ≠ some g1 := by simp [Value.ownBlock]; exact hn21
            rw [HDS.out]
            exact ow_new ((((ow_far3 HP2.out (a := ⟨g1, q, none⟩) hv (.int .u64 (W64 x))).stored (q * 3) _).1.stored (q * 3 + 1) _).1.stored (q * 3 + 2) _).1 (New.refl _).drew)
          have HV3 : Hid (Tape ((((((W9.setCell ⟨g1, q, none⟩ (.int .u64 (W64 x))).setCell ⟨g2, q * 3, none⟩ (.int .u64 (W64 x))).setCell ⟨g2, q * 3 + 1, none⟩ (.int .u64 (W64 y))).setCell ⟨g2, q * 3 + 2, none⟩ (.int .i64 (u : Int))).drew)) b g' l k') := Lib.hid (((((HT9.out.put (r := g1) HBG.out.1 HNE2.out.1 q _).put (r := g2) HBG.out.2 HNE2.out.2 (q * 3) _).put (r := g2) HBG.out.2 HNE2.out.2 (q * 3 + 1) _).put (r := g2) HBG.out.2 HNE2.out.2 (q * 3 + 2) _).stay (New.refl _).drew)
          have HV4 : Hid (But2 b g0 w ((((((W9.setCell ⟨g1, q, none⟩ (.int .u64 (W64 x))).setCell ⟨g2, q * 3, none⟩ (.int .u64 (W64 x))).setCell ⟨g2, q * 3 + 1, none⟩ (.int .u64 (W64 y))).setCell ⟨g2, q * 3 + 2, none⟩ (.int .i64 (u : Int))).drew))) := Lib.hid (((((HB9.out.fresh (p := ⟨g1, q, none⟩) HFR.out.1 _).fresh (p := ⟨g2, q * 3, none⟩) HFR.out.2 _).fresh (p := ⟨g2, q * 3 + 1, none⟩) HFR.out.2 _).fresh (p := ⟨g2, q * 3 + 2, none⟩) HFR.out.2 _).then (New.refl _).drew)
          have HV5 : Hid (Bx3 ((((((W9.setCell ⟨g1, q, none⟩ (.int .u64 (W64 x))).setCell ⟨g2, q * 3, none⟩ (.int .u64 (W64 x))).setCell ⟨g2, q * 3 + 1, none⟩ (.int .u64 (W64 y))).setCell ⟨g2, q * 3 + 2, none⟩ (.int .i64 (u : Int))).drew)) w.heap.size w2.heap.size p #[.int .u64 (W64 lm), .func (Fn.func 43) #[] #[], .func (Fn.func 45) #[] #[]] c) := Lib.hid (((((HX9.out.far (a := ⟨g1, q, none⟩) HNE.out.2.2.2.2.2.2.1 _).far (a := ⟨g2, q * 3, none⟩) HNE.out.2.2.2.2.2.2.2 _).far (a := ⟨g2, q * 3 + 1, none⟩) HNE.out.2.2.2.2.2.2.2 _).far (a := ⟨g2, q * 3 + 2, none⟩) HNE.out.2.2.2.2.2.2.2 _).stay (New.refl _).drew)
          have HV6 : Hid ((g' = g0 ∨ wc.heap.size ≤ g') ∧ wc.heap.size ≤ ((((((W9.setCell ⟨g1, q, none⟩ (.int .u64 (W64 x))).setCell ⟨g2, q * 3, none⟩ (.int .u64 (W64 x))).setCell ⟨g2, q * 3 + 1, none⟩ (.int .u64 (W64 y))).setCell ⟨g2, q * 3 + 2, none⟩ (.int .i64 (u : Int))).drew)).heap.size) := Lib.hid ⟨GG.out.1, by
            show wc.heap.size ≤ ((((W9.setCell ⟨g1, q, none⟩ (.int .u64 (W64 x))).setCell ⟨g2, q * 3, none⟩ (.int .u64 (W64 x))).setCell ⟨g2, q * 3 + 1, none⟩ (.int .u64 (W64 y))).setCell ⟨g2, q * 3 + 2, none⟩ (.int .i64 (u : Int))).heap.size
            rw [size_set, size_set, size_set, size_set]; exact GG.out.2⟩
          clear d0 d1 d2 c1 f1 e0 e1 e2 f20 f21 f22 HP1 HP2 HT9 HB9 HX9 GG HNE
          obtain ⟨V, hV⟩ : ∃ z, (((((W9.setCell ⟨g1, q, none⟩ (.int .u64 (W64 x))).setCell ⟨g2, q * 3, none⟩ (.int .u64 (W64 x))).setCell ⟨g2, q * 3 + 1, none⟩ (.int .u64 (W64 y))).setCell ⟨g2, q * 3 + 2, none⟩ (.int .i64 (u : Int))).drew) = z := ⟨_, rfl⟩
          rw [hV] at HV1 HV2 HV3 HV4 HV5 HV6 ⊢
          clear hV
          go_wp2
          exact ⟨⟨q + 1, _, _, g', by omega, by go_num, HD, HV1.out, HV2.out, HV3.out, HV4.out, HV5, HV6⟩, by simp [intOf]; omega⟩
        · have HD := Lib.hid (sdS_few HS.out hst)
          have HNO : Hid (sdS c l n = none) := Lib.hid (by
            have := sdS_none HD.out (n - (q + 1))
            rw [show q + 1 + (n - (q + 1)) = n by omega] at this
            exact this)
          have hx8 := HX3.out.but hb8 HNE.out.2.2.1 HNE.out.2.2.2.1
          have HRB := Lib.hid ((((New.refl w8).alloc (.cells #[.int .u64 0, .int .u64 0, .int .i64 0] 53)).block _ (lt_of_block hx8.r)).trans hx8.r)
          have HAF : Hid (After w (w8.alloc (.cells #[.int .u64 0, .int .u64 0, .int .i64 0] 53)) b g0 l l.length ∧ w.heap.size ≠ g') := Lib.hid ⟨⟨g', ht8.stay ((New.refl _).alloc _), (HB.out.step (HG.out.1.imp id (fun e => Nat.le_trans HN9.out.le e)) hb8).then ((New.refl _).alloc _), by
            have h9 := HG.out
            have h8 := HN9.out.le
            rcases hg8 with e | e <;> rcases h9.1 with e2 | e2 <;> omega⟩, by
            have h9 := HG.out
            have h7 := HBL.out
            have h6 := lt_of_block HX3.out.r
            have h5 := HNE.out.2.2.2.1.1
            rcases hg8 with e | e <;> omega⟩
          have HTP : Hid (Tape (w8.alloc (.cells #[.int .u64 0, .int .u64 0, .int .i64 0] 53)) b g' l l.length ∧ But2 b g0 w (w8.alloc (.cells #[.int .u64 0, .int .u64 0, .int .i64 0] 53)) ∧ (g' = g0 ∨ w.heap.size ≤ g')) := Lib.hid ⟨ht8.stay ((New.refl _).alloc _), (HB.out.step (HG.out.1.imp id (fun e => Nat.le_trans HN9.out.le e)) hb8).then ((New.refl _).alloc _), by
            have h9 := HG.out
            have h8 := HN9.out.le
            rcases hg8 with e | e <;> rcases h9.1 with e2 | e2 <;> omega⟩
          have r0 := cell_of_row _ _ 0 _ _ _ HRB.out
          have r1 := cell_of_row _ _ 1 _ _ _ HRB.out
          have r2 := cell_of_row _ _ 2 _ _ _ HRB.out
          have rf := fun i => frozen_of_row _ _ i _ _ HRB.out
          clear HTK hst ht8 hb8 hg8 hx8 b0 b1 b2
          go_wp2_with fail
          refine bodyPost_ret (by simp [results, Tryz.results14, go_sem, r0, r1, r2]; try rfl) rfl ?_
          exact .inr ⟨HNO.out, rfl, ⟨g', ((HTP.out.1.put HBL.out.1 HAF.out.2 _ _).put HBL.out.1 HAF.out.2 _ _).put HBL.out.1 HAF.out.2 _ _, ((HTP.out.2.1.fresh (by exact Nat.le_refl _) _).fresh (by exact Nat.le_refl _) _).fresh (by exact Nat.le_refl _) _, HTP.out.2.2⟩⟩
      · obtain rfl : q = n := by omega
        have hl := sdS_len HS.out
        obtain ⟨a1, cc1, e1, hq1⟩ := QRow.of_owns HO1.out (by omega)
        cases e1
        obtain ⟨a2, cc2, e2, hq2⟩ := KRow.of_owns HO2.out (by omega)
        cases e2
        rw [wdL_all hl] at hq1
        rw [dpL_all hl] at hq2
        have HQ1 := Lib.hid hq1
        have HQ2 := Lib.hid hq2
        have HRB := Lib.hid HX3.out.r
        have r0 := cell_of_row _ _ 0 _ _ _ HRB.out
        have r1 := cell_of_row _ _ 1 _ _ _ HRB.out
        have r2 := cell_of_row _ _ 2 _ _ _ HRB.out
        have rf := fun i => frozen_of_row _ _ i _ _ HRB.out
        clear hq1 hq2 hdl hl b0 b1 b2
        go_wp2_with fail
        refine bodyPost_ret (by simp [results, Tryz.results14, go_sem, r0, r1, r2]; try rfl) rfl ?_
        have hne := HNE.out
        have hw := HG.out.1
        refine .inl ⟨ds, k, HS.out, g1, g2, rfl, qfar44 (qfar44 (qfar44 HQ1.out hne.2.2.2.2.2.2.1.1.symm _ _) hne.2.2.2.2.2.2.1.1.symm _ _) hne.2.2.2.2.2.2.1.1.symm _ _, kfar44 (kfar44 (kfar44 HQ2.out hne.2.2.2.2.2.2.2.1.symm _ _) hne.2.2.2.2.2.2.2.1.symm _ _) hne.2.2.2.2.2.2.2.1.symm _ _, ⟨g, ((HT.out.put HBL.out.1 hne.2.2.2.1.1 _ _).put HBL.out.1 hne.2.2.2.1.1 _ _).put HBL.out.1 hne.2.2.2.1.1 _ _, ((HB.out.fresh (by exact Nat.le_refl _) _).fresh (by exact Nat.le_refl _) _).fresh (by exact Nat.le_refl _) _, hw.imp id (fun e => Nat.le_trans HN9.out.le e)⟩, ?_⟩
        have := HG12.out; have := HS3.out; have := HPP.out; omega
set_option maxHeartbeats 8000000 in
theorem take_odd44 (k0 bi : Int) (n : Nat) (hck : ckS k0 bi (n : Int) = 0) (c : Nat) (hwk : wkK k0 = c) (hcc : c = 1) (b g0 : Nat) (l : List (BitVec 64)) (w : World) (ht : Tape w b g0 l 0) : Calls Tryz.prog 14 #[.pointer (some ⟨b, 0, none⟩), .int .i64 k0, .int .i64 bi, .int .i64 (n : Int)] w fun e w' =>
    (∃ ds k g1 g2, sdS c l n = some (ds, k) ∧ e = .returned (.tuple #[.agg (sdc k0 bi (some ⟨g1, 0, none⟩) n n), .slice (some ⟨g2, 0, none⟩) n n, .int .i64 0]) ∧ QRow w' (some ⟨g1, 0, none⟩) n n (ds.map fun d => d.1) ∧ KRow w' (some ⟨g2, 0, none⟩) n n ds ∧ After w w' b g0 l k ∧ w.heap.size ≤ g1) ∨ (sdS c l n = none ∧ e = .returned (.tuple #[.agg zSd, .slice none 0 0, .int .i64 7]) ∧ After w w' b g0 l l.length) := by
  obtain ⟨hok, n', e1, hn1, hn320, _⟩ := ckS_ok hck
  obtain rfl : n = n' := by omega
  have HCK := Lib.hid (fun w => check_44 k0 bi (n : Int) w)
  rw [hck] at HCK
  have HWY := Lib.hid (fun w => way_44 k0 hok w)
  rw [hwk] at HWY
  generalize lmW k0 = lm at *
  have HBL : Hid (b < w.heap.size ∧ g0 < w.heap.size) := Lib.hid ht.lt
  have HT0 := Lib.hid (fun w' (h : New w w') => ht.stay h)
  have HBR := Lib.hid (heap_alloc_new w (.cells zSd 37))
  have HNR := Lib.hid ((New.refl w).alloc (.cells zSd 37))
  have hmk : ∀ W : World, (Instr.makeSlice 28 (.int .i64 (n : Int)) (.int .i64 (n : Int))).run Tryz.prog W = .ok (.slice (some ⟨W.heap.size, 0, none⟩) n n) (W.alloc (.cells (madeCells #[.int .u64 0] n) 23)) := fun W => make_q44 n (by omega) W
  have hmk2 : ∀ W : World, (Instr.makeSlice 38 (.int .i64 (n : Int)) (.int .i64 (n : Int))).run Tryz.prog W = .ok (.slice (some ⟨W.heap.size, 0, none⟩) n n) (W.alloc (.cells (madeCells #[.int .u64 0, .int .u64 0, .int .i64 0] (n * 3)) 53)) := fun W => make_drw n (by omega) W
  clear ht hck hok e1 hwk
  go_enter Tryz.func14, Tryz.ntmps14
  go_wp2_with fail
  refine (HCK.out _).mono ?_
  rintro e w1 ⟨rfl, hw1⟩
  have HN1 := Lib.hid (HNR.out.trans hw1)
  have HR1 := Lib.hid ((hw1.block _ (lt_of_block HBR.out)).trans HBR.out)
  clear hw1
  go_wp2_with fail
  refine (HWY.out _).mono ?_
  rintro e w2 ⟨⟨p, rfl, hp⟩, hw2⟩
  have hc12 : c = 1 ∨ c = 2 := by omega
  have hcn : c ≠ 0 := by omega
  rw [show tkV c p = .func (Fn.func 80) #[] #[.pointer (some ⟨p, 0, none⟩)] by unfold tkV; rw [if_neg hcn], show wdV c = .func (Fn.func 49) #[] #[] by rw [hcc]; rfl]
  have HC12 : Hid (c = 1 ∨ c = 2) := Lib.hid hc12
  clear hcc hc12 hcn
  have hsz2 := HN1.out.le
  have hltR := lt_of_block HR1.out
  have HBX : Hid (Bx3 (w2.alloc (.cells #[.int .u64 (W64 lm), .func (Fn.func 80) #[] #[.pointer (some ⟨p, 0, none⟩)], .func (Fn.func 49) #[] #[]] 57)) w.heap.size w2.heap.size p #[.int .u64 (W64 lm), .func (Fn.func 80) #[] #[.pointer (some ⟨p, 0, none⟩)], .func (Fn.func 49) #[] #[]] c) := Lib.hid (Bx3.mk ((((New.refl w2).alloc _).block _ (lt_of_block ((hw2.block _ hltR).trans HR1.out))).trans ((hw2.block _ hltR).trans HR1.out)) (heap_alloc_new w2 _) (fun hc => (((New.refl w2).alloc _).block _ (lt_of_block (hp hc).2)).trans (hp hc).2))
  have HPP : Hid (w.heap.size < w2.heap.size ∧ (c ≠ 0 → w.heap.size ≤ p)) := Lib.hid ⟨Nat.lt_of_lt_of_le hltR hw2.le, fun hc => Nat.le_trans hsz2 (hp hc).1⟩
  have HN3 := Lib.hid ((HN1.out.trans hw2).alloc (.cells #[.int .u64 (W64 lm), .func (Fn.func 80) #[] #[.pointer (some ⟨p, 0, none⟩)], .func (Fn.func 49) #[] #[]] 57))
  have HS3 : Hid ((w2.alloc (.cells #[.int .u64 (W64 lm), .func (Fn.func 80) #[] #[.pointer (some ⟨p, 0, none⟩)], .func (Fn.func 49) #[] #[]] 57)).heap.size = w2.heap.size + 1) := Lib.hid (by simp)
  clear hp hw2 hsz2 hltR HN1 HR1 HWY HCK
  go_wp2_with fail
  generalize hW3 : w2.alloc (.cells #[.int .u64 (W64 lm), .func (Fn.func 80) #[] #[.pointer (some ⟨p, 0, none⟩)], .func (Fn.func 49) #[] #[]] 57) = w3 at *
  clear hW3
  go_cut [14, 15] (fun c d wx => ∃ g1 g2, c = .slice (some ⟨g1, 0, none⟩) n n ∧ d = .slice (some ⟨g2, 0, none⟩) n n ∧ wx.ownsRow w3.heap.size 23 1 (.slice (some ⟨g1, 0, none⟩) n n) n ((wdL [] n).map fun x => .int .u64 (W64 x)) ∧ wx.ownsRow w3.heap.size 53 3 (.slice (some ⟨g2, 0, none⟩) n n) n (drCs (dpL [] n)) ∧ g1 ≠ g2 ∧ New w3 wx)
  case first =>
    go_region_held3 (fun w' => New w3 w')
      (repeat (first | with_reducible assumption | with_reducible exact New.refl _ | with_reducible apply New.drew | with_reducible refine New.alloc ?_ _))
      (fail)
    all_goals (
      go_wp2_with fail
      go_meet
      case rel =>
        rw [wdL_zero, dpL_zero]
        first
          | exact ⟨_, _, rfl, rfl, ow_new (ow_made w3 _ _ _ n _ (Nat.le_refl _) (by omega) (by rw [made_toList]) (by simp)) (((New.refl _).alloc _).drew), ow_new (at_size (by simp) (ow_made3 (w3.alloc (.cells (madeCells #[.int .u64 0] n) 23)) w3.heap.size _ n (by simp) (by omega))) ((New.refl _).drew), (fun e => by omega), by assumption⟩
          | exact ⟨_, _, rfl, rfl, ow_new (at_size (by simp) (ow_made (w3.alloc (.cells (madeCells #[.int .u64 0, .int .u64 0, .int .i64 0] (n * 3)) 53)) w3.heap.size _ _ n _ (by simp) (by omega) (by rw [made_toList]) (by simp))) ((New.refl _).drew), ow_new (ow_made3 w3 w3.heap.size _ n (Nat.le_refl _) (by omega)) (((New.refl _).alloc _).drew), (fun e => by omega), by assumption⟩)
  case rest =>
    obtain ⟨g1, g2, rfl, rfl, ho1, ho2, hg12, hn9⟩ := hcut
    clear hmk hmk2
    have HO1 := Lib.hid ho1
    have HO2 := Lib.hid ho2
    have HN9 := Lib.hid (HN3.out.trans hn9)
    have HBX9 := Lib.hid (HBX.out.stay hn9)
    have HG12 : Hid (w3.heap.size ≤ g1 ∧ w3.heap.size ≤ g2 ∧ g1 ≠ g2) := Lib.hid ⟨(ow_in ho1).1, (ow_lt3 ho2).1, hg12⟩
    have HLT : Hid (g1 < wc.heap.size ∧ g2 < wc.heap.size ∧ w3.heap.size ≤ wc.heap.size ∧ (c ≠ 0 → p < w3.heap.size)) := Lib.hid ⟨(ow_in ho1).2.1, (ow_lt3 ho2).2.1, hn9.le, fun hc => lt_of_block (HBX.out.p hc)⟩
    replace HT0 := Lib.hid (HT0.out wc HN9.out)
    clear ho1 ho2 hg12 hn9 HBX
    go_wp2_with fail
    go_loopw [38] (fun iv wr => ∃ (q : Nat) (ds : List Drw) (k g : Nat), q ≤ n ∧ iv = .int .i64 (q : Int) ∧ Hid (sdS c l q = some (ds, k)) ∧ wr.ownsRow w3.heap.size 23 1 (.slice (some ⟨g1, 0, none⟩) n n) n ((wdL ds n).map fun x => .int .u64 (W64 x)) ∧ wr.ownsRow w3.heap.size 53 3 (.slice (some ⟨g2, 0, none⟩) n n) n (drCs (dpL ds n)) ∧ Tape wr b g l k ∧ But2 b g0 w wr ∧ Hid (Bx3 wr w.heap.size w2.heap.size p #[.int .u64 (W64 lm), .func (Fn.func 80) #[] #[.pointer (some ⟨p, 0, none⟩)], .func (Fn.func 49) #[] #[]] c) ∧ Hid ((g = g0 ∨ wc.heap.size ≤ g) ∧ wc.heap.size ≤ wr.heap.size)) (fun iv _ => n - (intOf iv).toNat)
    case atStart => exact ⟨0, [], 0, g0, Nat.zero_le _, rfl, Lib.hid rfl, HO1.out, HO2.out, HT0.out, But2.of_new HN9.out, HBX9, Lib.hid ⟨.inl rfl, Nat.le_refl _⟩⟩
    case round =>
      clear HT0 HO1 HO2 HBX9
      obtain ⟨q, ds, k, g, hq, rfl, HS, ho1, ho2, ht, hb2, HX3, HG⟩ := hrel
      have HO1 := Lib.hid ho1
      have HO2 := Lib.hid ho2
      have HT := Lib.hid ht
      have HB := Lib.hid hb2
      obtain ⟨wq, hwq⟩ : ∃ z, z = wr := ⟨_, rfl⟩
      rw [← hwq] at HO1 HO2 HT HB HX3 HG ⊢
      clear ho1 ho2 ht hb2 hwq
      have hdl := sdS_len HS.out
      have HNE : Hid (b ≠ g1 ∧ b ≠ g2 ∧ (w.heap.size ≠ b ∧ w2.heap.size ≠ b ∧ (c ≠ 0 → p ≠ b)) ∧ (w.heap.size ≠ g ∧ w2.heap.size ≠ g ∧ (c ≠ 0 → p ≠ g)) ∧ g1 ≠ g ∧ g2 ≠ g ∧ (w.heap.size ≠ g1 ∧ w2.heap.size ≠ g1 ∧ (c ≠ 0 → p ≠ g1)) ∧ (w.heap.size ≠ g2 ∧ w2.heap.size ≠ g2 ∧ (c ≠ 0 → p ≠ g2))) := Lib.hid (by
        have h1 := HBL.out
        have h2 := HPP.out
        have h3 := HG12.out
        have h4 := HLT.out
        have h5 := HG.out
        have h6 := HS3.out
        refine ⟨by omega, by omega, ⟨by omega, by omega, fun hc => ?_⟩, ⟨by omega, by omega, fun hc => ?_⟩, by omega, by omega, ⟨by omega, by omega, fun hc => ?_⟩, ⟨by omega, by omega, fun hc => ?_⟩⟩
        · have := h2.2 hc; omega
        · have := h2.2 hc; have := h4.2.2.2 hc; omega
        · have := h4.2.2.2 hc; omega
        · have := h4.2.2.2 hc; omega)
      have b0 := cell_of_row _ _ 0 _ _ _ HX3.out.b
      have b1 := cell_of_row _ _ 1 _ _ _ HX3.out.b
      have b2 := cell_of_row _ _ 2 _ _ _ HX3.out.b
      by_cases hlt : (q : Int) < (n : Int)
      · have hq0 : (0 : Int) ≤ (q : Int) := by omega
        have HDL := Lib.hid hdl
        have HTK := Lib.hid (tk_n44 c HC12.out b g k p l wq HT.out (HX3.out.p (by have := HC12.out; omega)) (HNE.out.2.2.1.2.2 (by have := HC12.out; omega)) (HNE.out.2.2.2.1.2.2 (by have := HC12.out; omega)))
        clear hdl
        go_wp2_with fail
        refine HTK.out.mono ?_
        rintro e w8 (⟨d, k', hst, rfl, g', ht8, hb8, hg8⟩ | ⟨hst, rfl, g', ht8, hb8, hg8⟩)
        · have HD := Lib.hid (sdS_next HS.out hst)
          obtain ⟨x, y, u⟩ := d
          have HCS : Hid ((wdL (ds ++ [(x, y, u)]) n).map (fun x => Value.int .u64 (W64 x)) = ((wdL ds n).map fun x => .int .u64 (W64 x)).set q (.int .u64 (W64 x))) := Lib.hid (by
            rw [wdL_set HDL.out (by omega), List.map_set])
          have HDS : Hid (drCs (dpL (ds ++ [(x, y, u)]) n) = (((drCs (dpL ds n)).set (q * 3) (.int .u64 (W64 x))).set (q * 3 + 1) (.int .u64 (W64 y))).set (q * 3 + 2) (.int .i64 (u : Int))) := Lib.hid (by
            rw [← dpL_set HDL.out (by omega), drCs_set _ _ _ (by rw [dpL_len (by have := HDL.out; omega)]; omega)])
          clear hst HTK b0 b1 b2
          have hne := HNE.out
          have hwq : g1 < wq.heap.size ∧ g2 < wq.heap.size := ⟨(ow_in HO1.out).2.1, (ow_lt3 HO2.out).2.1⟩
          have o1 := ow_blk HO1.out (w' := w8) (fun z hz => by
            have e : g1 = z := by simpa [Value.ownBlock] using hz
            subst e
            exact hb8.block _ hwq.1 (fun e => hne.1 e.symm) hne.2.2.2.2.1)
          have o2 := ow_blk HO2.out (w' := w8) (fun z hz => by
            have e : g2 = z := by simpa [Value.ownBlock] using hz
            subst e
            exact hb8.block _ hwq.2 (fun e => hne.2.1 e.symm) hne.2.2.2.2.2.1)
          have hx8 := HX3.out.but hb8 hne.2.2.1 hne.2.2.2.1
          have hgl := HG.out
          have hbs := HB.out.step (hgl.1.imp id (fun e => Nat.le_trans HN9.out.le e)) hb8
          have hne1 : g1 ≠ g' := by have := HLT.out; rcases hg8 with e | e <;> omega
          have hne2 : g2 ≠ g' := by have := HLT.out; rcases hg8 with e | e <;> omega
          obtain ⟨W9, hW9⟩ : ∃ z, w8.alloc (.cells #[.int .u64 (W64 x), .int .u64 (W64 y), .int .i64 (u : Int)] 53) = z := ⟨_, rfl⟩
          have hb1 := heap_alloc_new w8 (.cells #[.int .u64 (W64 x), .int .u64 (W64 y), .int .i64 (u : Int)] 53)
          rw [hW9] at hb1
          have hN9 : New w8 W9 := by rw [← hW9]; exact (New.refl _).alloc _
          have d0 : W9.cell? ⟨w8.heap.size, 0, none⟩ = some (.int .u64 (W64 x)) := cell_of_row _ _ 0 _ _ _ hb1
          have d1 : W9.cell? ⟨w8.heap.size, 1, none⟩ = some (.int .u64 (W64 y)) := cell_of_row _ _ 1 _ _ _ hb1
          have d2 : W9.cell? ⟨w8.heap.size, 2, none⟩ = some (.int .i64 (u : Int)) := cell_of_row _ _ 2 _ _ _ hb1
          have p1 := ow_new o1 hN9
          have p2 := ow_new o2 hN9
          have HT9 := Lib.hid (ht8.stay hN9)
          have HB9 := Lib.hid (hbs.then hN9)
          have HX9 := Lib.hid (hx8.stay hN9)
          have hsz8 := hb8.size
          have hn81 : ¬ w8.heap.size = g1 := by omega
          have hn82 : ¬ w8.heap.size = g2 := by omega
          have hn18 : ¬ g1 = w8.heap.size := by omega
          have hn28 : ¬ g2 = w8.heap.size := by omega
          have hn12 : ¬ g1 = g2 := HG12.out.2.2
          have hn21 : ¬ g2 = g1 := fun e => HG12.out.2.2 e.symm
          obtain ⟨c1, f1⟩ := ow_q44 p1 (k := q) (by omega)
          obtain ⟨⟨e0, e1, e2⟩, f2⟩ := ow_three p2 (k := q) (by omega)
          have f20 := f2 (q * 3)
          have f21 := f2 (q * 3 + 1)
          have f22 := f2 (q * 3 + 2)
          have HP1 := Lib.hid p1
          have HP2 := Lib.hid p2
          have GG : Hid ((g' = g0 ∨ wc.heap.size ≤ g') ∧ wc.heap.size ≤ W9.heap.size) := Lib.hid ⟨by rcases hg8 with e | e <;> rcases hgl.1 with e2 | e2 <;> omega, by have := hN9.le; omega⟩
          have HNE2 : Hid (g1 ≠ g' ∧ g2 ≠ g') := Lib.hid ⟨hne1, hne2⟩
          have hbg : b < g1 ∧ b < g2 := by have := HBL.out; have := HG12.out; have := HS3.out; have := HPP.out; omega
          have HBG := Lib.hid hbg
          have HFR : Hid (w.heap.size ≤ g1 ∧ w.heap.size ≤ g2) := Lib.hid (by have := HG12.out; have := HS3.out; have := HPP.out; omega)
          clear hb1 o1 o2 hbs ht8 hb8 hgl hg8 HT HO1 HB f2 p1 p2 hN9 hwq hsz8 hne hne1 hne2 hx8 HX3 hbg
          go_wp2_with fail
          clear hW9
          go_region
          have HV1 : Hid (((((((W9.setCell ⟨g1, q, none⟩ (.int .u64 (W64 x))).setCell ⟨g2, q * 3, none⟩ (.int .u64 (W64 x))).setCell ⟨g2, q * 3 + 1, none⟩ (.int .u64 (W64 y))).setCell ⟨g2, q * 3 + 2, none⟩ (.int .i64 (u : Int))).drew)).ownsRow w3.heap.size 23 1 (.slice (some ⟨g1, 0, none⟩) n n) n ((wdL (ds ++ [(x, y, u)]) n).map fun x => .int .u64 (W64 x))) := Lib.hid (by
            have hv : (Value.slice (some ⟨g1, 0, none⟩) n n).ownBlock ≠ some g2 := by simp [Value.ownBlock]; exact hn12
            rw [HCS.out]
            exact ow_new (ow_far (ow_far (ow_far (ow_set HP1.out q (.int .u64 (W64 x))) (a := ⟨g2, q * 3, none⟩) hv _) (a := ⟨g2, q * 3 + 1, none⟩) hv _) (a := ⟨g2, q * 3 + 2, none⟩) hv _) (New.refl _).drew)
          have HV2 : Hid (((((((W9.setCell ⟨g1, q, none⟩ (.int .u64 (W64 x))).setCell ⟨g2, q * 3, none⟩ (.int .u64 (W64 x))).setCell ⟨g2, q * 3 + 1, none⟩ (.int .u64 (W64 y))).setCell ⟨g2, q * 3 + 2, none⟩ (.int .i64 (u : Int))).drew)).ownsRow w3.heap.size 53 3 (.slice (some ⟨g2, 0, none⟩) n n) n (drCs (dpL (ds ++ [(x, y, u)]) n))) := Lib.hid (by
            have hv : (Value.slice (some ⟨g2, 0, none⟩) n n).ownBlock ≠ some g1 := by simp [Value.ownBlock]; exact hn21
            rw [HDS.out]
            exact ow_new ((((ow_far3 HP2.out (a := ⟨g1, q, none⟩) hv (.int .u64 (W64 x))).stored (q * 3) _).1.stored (q * 3 + 1) _).1.stored (q * 3 + 2) _).1 (New.refl _).drew)
          have HV3 : Hid (Tape ((((((W9.setCell ⟨g1, q, none⟩ (.int .u64 (W64 x))).setCell ⟨g2, q * 3, none⟩ (.int .u64 (W64 x))).setCell ⟨g2, q * 3 + 1, none⟩ (.int .u64 (W64 y))).setCell ⟨g2, q * 3 + 2, none⟩ (.int .i64 (u : Int))).drew)) b g' l k') := Lib.hid (((((HT9.out.put (r := g1) HBG.out.1 HNE2.out.1 q _).put (r := g2) HBG.out.2 HNE2.out.2 (q * 3) _).put (r := g2) HBG.out.2 HNE2.out.2 (q * 3 + 1) _).put (r := g2) HBG.out.2 HNE2.out.2 (q * 3 + 2) _).stay (New.refl _).drew)
          have HV4 : Hid (But2 b g0 w ((((((W9.setCell ⟨g1, q, none⟩ (.int .u64 (W64 x))).setCell ⟨g2, q * 3, none⟩ (.int .u64 (W64 x))).setCell ⟨g2, q * 3 + 1, none⟩ (.int .u64 (W64 y))).setCell ⟨g2, q * 3 + 2, none⟩ (.int .i64 (u : Int))).drew))) := Lib.hid (((((HB9.out.fresh (p := ⟨g1, q, none⟩) HFR.out.1 _).fresh (p := ⟨g2, q * 3, none⟩) HFR.out.2 _).fresh (p := ⟨g2, q * 3 + 1, none⟩) HFR.out.2 _).fresh (p := ⟨g2, q * 3 + 2, none⟩) HFR.out.2 _).then (New.refl _).drew)
          have HV5 : Hid (Bx3 ((((((W9.setCell ⟨g1, q, none⟩ (.int .u64 (W64 x))).setCell ⟨g2, q * 3, none⟩ (.int .u64 (W64 x))).setCell ⟨g2, q * 3 + 1, none⟩ (.int .u64 (W64 y))).setCell ⟨g2, q * 3 + 2, none⟩ (.int .i64 (u : Int))).drew)) w.heap.size w2.heap.size p #[.int .u64 (W64 lm), .func (Fn.func 80) #[] #[.pointer (some ⟨p, 0, none⟩)], .func (Fn.func 49) #[] #[]] c) := Lib.hid (((((HX9.out.far (a := ⟨g1, q, none⟩) HNE.out.2.2.2.2.2.2.1 _).far (a := ⟨g2, q * 3, none⟩) HNE.out.2.2.2.2.2.2.2 _).far (a := ⟨g2, q * 3 + 1, none⟩) HNE.out.2.2.2.2.2.2.2 _).far (a := ⟨g2, q * 3 + 2, none⟩) HNE.out.2.2.2.2.2.2.2 _).stay (New.refl _).drew)
          have HV6 : Hid ((g' = g0 ∨ wc.heap.size ≤ g') ∧ wc.heap.size ≤ ((((((W9.setCell ⟨g1, q, none⟩ (.int .u64 (W64 x))).setCell ⟨g2, q * 3, none⟩ (.int .u64 (W64 x))).setCell ⟨g2, q * 3 + 1, none⟩ (.int .u64 (W64 y))).setCell ⟨g2, q * 3 + 2, none⟩ (.int .i64 (u : Int))).drew)).heap.size) := Lib.hid ⟨GG.out.1, by
            show wc.heap.size ≤ ((((W9.setCell ⟨g1, q, none⟩ (.int .u64 (W64 x))).setCell ⟨g2, q * 3, none⟩ (.int .u64 (W64 x))).setCell ⟨g2, q * 3 + 1, none⟩ (.int .u64 (W64 y))).setCell ⟨g2, q * 3 + 2, none⟩ (.int .i64 (u : Int))).heap.size
            rw [size_set, size_set, size_set, size_set]; exact GG.out.2⟩
          clear d0 d1 d2 c1 f1 e0 e1 e2 f20 f21 f22 HP1 HP2 HT9 HB9 HX9 GG HNE
          obtain ⟨V, hV⟩ : ∃ z, (((((W9.setCell ⟨g1, q, none⟩ (.int .u64 (W64 x))).setCell ⟨g2, q * 3, none⟩ (.int .u64 (W64 x))).setCell ⟨g2, q * 3 + 1, none⟩ (.int .u64 (W64 y))).setCell ⟨g2, q * 3 + 2, none⟩ (.int .i64 (u : Int))).drew) = z := ⟨_, rfl⟩
          rw [hV] at HV1 HV2 HV3 HV4 HV5 HV6 ⊢
          clear hV
          go_wp2
          exact ⟨⟨q + 1, _, _, g', by omega, by go_num, HD, HV1.out, HV2.out, HV3.out, HV4.out, HV5, HV6⟩, by simp [intOf]; omega⟩
        · have HD := Lib.hid (sdS_few HS.out hst)
          have HNO : Hid (sdS c l n = none) := Lib.hid (by
            have := sdS_none HD.out (n - (q + 1))
            rw [show q + 1 + (n - (q + 1)) = n by omega] at this
            exact this)
          have hx8 := HX3.out.but hb8 HNE.out.2.2.1 HNE.out.2.2.2.1
          have HRB := Lib.hid ((((New.refl w8).alloc (.cells #[.int .u64 0, .int .u64 0, .int .i64 0] 53)).block _ (lt_of_block hx8.r)).trans hx8.r)
          have HAF : Hid (After w (w8.alloc (.cells #[.int .u64 0, .int .u64 0, .int .i64 0] 53)) b g0 l l.length ∧ w.heap.size ≠ g') := Lib.hid ⟨⟨g', ht8.stay ((New.refl _).alloc _), (HB.out.step (HG.out.1.imp id (fun e => Nat.le_trans HN9.out.le e)) hb8).then ((New.refl _).alloc _), by
            have h9 := HG.out
            have h8 := HN9.out.le
            rcases hg8 with e | e <;> rcases h9.1 with e2 | e2 <;> omega⟩, by
            have h9 := HG.out
            have h7 := HBL.out
            have h6 := lt_of_block HX3.out.r
            have h5 := HNE.out.2.2.2.1.1
            rcases hg8 with e | e <;> omega⟩
          have HTP : Hid (Tape (w8.alloc (.cells #[.int .u64 0, .int .u64 0, .int .i64 0] 53)) b g' l l.length ∧ But2 b g0 w (w8.alloc (.cells #[.int .u64 0, .int .u64 0, .int .i64 0] 53)) ∧ (g' = g0 ∨ w.heap.size ≤ g')) := Lib.hid ⟨ht8.stay ((New.refl _).alloc _), (HB.out.step (HG.out.1.imp id (fun e => Nat.le_trans HN9.out.le e)) hb8).then ((New.refl _).alloc _), by
            have h9 := HG.out
            have h8 := HN9.out.le
            rcases hg8 with e | e <;> rcases h9.1 with e2 | e2 <;> omega⟩
          have r0 := cell_of_row _ _ 0 _ _ _ HRB.out
          have r1 := cell_of_row _ _ 1 _ _ _ HRB.out
          have r2 := cell_of_row _ _ 2 _ _ _ HRB.out
          have rf := fun i => frozen_of_row _ _ i _ _ HRB.out
          clear HTK hst ht8 hb8 hg8 hx8 b0 b1 b2
          go_wp2_with fail
          refine bodyPost_ret (by simp [results, Tryz.results14, go_sem, r0, r1, r2]; try rfl) rfl ?_
          exact .inr ⟨HNO.out, rfl, ⟨g', ((HTP.out.1.put HBL.out.1 HAF.out.2 _ _).put HBL.out.1 HAF.out.2 _ _).put HBL.out.1 HAF.out.2 _ _, ((HTP.out.2.1.fresh (by exact Nat.le_refl _) _).fresh (by exact Nat.le_refl _) _).fresh (by exact Nat.le_refl _) _, HTP.out.2.2⟩⟩
      · obtain rfl : q = n := by omega
        have hl := sdS_len HS.out
        obtain ⟨a1, cc1, e1, hq1⟩ := QRow.of_owns HO1.out (by omega)
        cases e1
        obtain ⟨a2, cc2, e2, hq2⟩ := KRow.of_owns HO2.out (by omega)
        cases e2
        rw [wdL_all hl] at hq1
        rw [dpL_all hl] at hq2
        have HQ1 := Lib.hid hq1
        have HQ2 := Lib.hid hq2
        have HRB := Lib.hid HX3.out.r
        have r0 := cell_of_row _ _ 0 _ _ _ HRB.out
        have r1 := cell_of_row _ _ 1 _ _ _ HRB.out
        have r2 := cell_of_row _ _ 2 _ _ _ HRB.out
        have rf := fun i => frozen_of_row _ _ i _ _ HRB.out
        clear hq1 hq2 hdl hl b0 b1 b2
        go_wp2_with fail
        refine bodyPost_ret (by simp [results, Tryz.results14, go_sem, r0, r1, r2]; try rfl) rfl ?_
        have hne := HNE.out
        have hw := HG.out.1
        refine .inl ⟨ds, k, HS.out, g1, g2, rfl, qfar44 (qfar44 (qfar44 HQ1.out hne.2.2.2.2.2.2.1.1.symm _ _) hne.2.2.2.2.2.2.1.1.symm _ _) hne.2.2.2.2.2.2.1.1.symm _ _, kfar44 (kfar44 (kfar44 HQ2.out hne.2.2.2.2.2.2.2.1.symm _ _) hne.2.2.2.2.2.2.2.1.symm _ _) hne.2.2.2.2.2.2.2.1.symm _ _, ⟨g, ((HT.out.put HBL.out.1 hne.2.2.2.1.1 _ _).put HBL.out.1 hne.2.2.2.1.1 _ _).put HBL.out.1 hne.2.2.2.1.1 _ _, ((HB.out.fresh (by exact Nat.le_refl _) _).fresh (by exact Nat.le_refl _) _).fresh (by exact Nat.le_refl _) _, hw.imp id (fun e => Nat.le_trans HN9.out.le e)⟩, ?_⟩
        have := HG12.out; have := HS3.out; have := HPP.out; omega
set_option maxHeartbeats 8000000 in
theorem take_any44 (k0 bi : Int) (n : Nat) (hck : ckS k0 bi (n : Int) = 0) (c : Nat) (hwk : wkK k0 = c) (hcc : c = 2) (b g0 : Nat) (l : List (BitVec 64)) (w : World) (ht : Tape w b g0 l 0) : Calls Tryz.prog 14 #[.pointer (some ⟨b, 0, none⟩), .int .i64 k0, .int .i64 bi, .int .i64 (n : Int)] w fun e w' =>
    (∃ ds k g1 g2, sdS c l n = some (ds, k) ∧ e = .returned (.tuple #[.agg (sdc k0 bi (some ⟨g1, 0, none⟩) n n), .slice (some ⟨g2, 0, none⟩) n n, .int .i64 0]) ∧ QRow w' (some ⟨g1, 0, none⟩) n n (ds.map fun d => d.1) ∧ KRow w' (some ⟨g2, 0, none⟩) n n ds ∧ After w w' b g0 l k ∧ w.heap.size ≤ g1) ∨ (sdS c l n = none ∧ e = .returned (.tuple #[.agg zSd, .slice none 0 0, .int .i64 7]) ∧ After w w' b g0 l l.length) := by
  obtain ⟨hok, n', e1, hn1, hn320, _⟩ := ckS_ok hck
  obtain rfl : n = n' := by omega
  have HCK := Lib.hid (fun w => check_44 k0 bi (n : Int) w)
  rw [hck] at HCK
  have HWY := Lib.hid (fun w => way_44 k0 hok w)
  rw [hwk] at HWY
  generalize lmW k0 = lm at *
  have HBL : Hid (b < w.heap.size ∧ g0 < w.heap.size) := Lib.hid ht.lt
  have HT0 := Lib.hid (fun w' (h : New w w') => ht.stay h)
  have HBR := Lib.hid (heap_alloc_new w (.cells zSd 37))
  have HNR := Lib.hid ((New.refl w).alloc (.cells zSd 37))
  have hmk : ∀ W : World, (Instr.makeSlice 28 (.int .i64 (n : Int)) (.int .i64 (n : Int))).run Tryz.prog W = .ok (.slice (some ⟨W.heap.size, 0, none⟩) n n) (W.alloc (.cells (madeCells #[.int .u64 0] n) 23)) := fun W => make_q44 n (by omega) W
  have hmk2 : ∀ W : World, (Instr.makeSlice 38 (.int .i64 (n : Int)) (.int .i64 (n : Int))).run Tryz.prog W = .ok (.slice (some ⟨W.heap.size, 0, none⟩) n n) (W.alloc (.cells (madeCells #[.int .u64 0, .int .u64 0, .int .i64 0] (n * 3)) 53)) := fun W => make_drw n (by omega) W
  clear ht hck hok e1 hwk
  go_enter Tryz.func14, Tryz.ntmps14
  go_wp2_with fail
  refine (HCK.out _).mono ?_
  rintro e w1 ⟨rfl, hw1⟩
  have HN1 := Lib.hid (HNR.out.trans hw1)
  have HR1 := Lib.hid ((hw1.block _ (lt_of_block HBR.out)).trans HBR.out)
  clear hw1
  go_wp2_with fail
  refine (HWY.out _).mono ?_
  rintro e w2 ⟨⟨p, rfl, hp⟩, hw2⟩
  have hc12 : c = 1 ∨ c = 2 := by omega
  have hcn : c ≠ 0 := by omega
  rw [show tkV c p = .func (Fn.func 80) #[] #[.pointer (some ⟨p, 0, none⟩)] by unfold tkV; rw [if_neg hcn], show wdV c = .func (Fn.func 51) #[] #[] by rw [hcc]; rfl]
  have HC12 : Hid (c = 1 ∨ c = 2) := Lib.hid hc12
  clear hcc hc12 hcn
  have hsz2 := HN1.out.le
  have hltR := lt_of_block HR1.out
  have HBX : Hid (Bx3 (w2.alloc (.cells #[.int .u64 (W64 lm), .func (Fn.func 80) #[] #[.pointer (some ⟨p, 0, none⟩)], .func (Fn.func 51) #[] #[]] 57)) w.heap.size w2.heap.size p #[.int .u64 (W64 lm), .func (Fn.func 80) #[] #[.pointer (some ⟨p, 0, none⟩)], .func (Fn.func 51) #[] #[]] c) := Lib.hid (Bx3.mk ((((New.refl w2).alloc _).block _ (lt_of_block ((hw2.block _ hltR).trans HR1.out))).trans ((hw2.block _ hltR).trans HR1.out)) (heap_alloc_new w2 _) (fun hc => (((New.refl w2).alloc _).block _ (lt_of_block (hp hc).2)).trans (hp hc).2))
  have HPP : Hid (w.heap.size < w2.heap.size ∧ (c ≠ 0 → w.heap.size ≤ p)) := Lib.hid ⟨Nat.lt_of_lt_of_le hltR hw2.le, fun hc => Nat.le_trans hsz2 (hp hc).1⟩
  have HN3 := Lib.hid ((HN1.out.trans hw2).alloc (.cells #[.int .u64 (W64 lm), .func (Fn.func 80) #[] #[.pointer (some ⟨p, 0, none⟩)], .func (Fn.func 51) #[] #[]] 57))
  have HS3 : Hid ((w2.alloc (.cells #[.int .u64 (W64 lm), .func (Fn.func 80) #[] #[.pointer (some ⟨p, 0, none⟩)], .func (Fn.func 51) #[] #[]] 57)).heap.size = w2.heap.size + 1) := Lib.hid (by simp)
  clear hp hw2 hsz2 hltR HN1 HR1 HWY HCK
  go_wp2_with fail
  generalize hW3 : w2.alloc (.cells #[.int .u64 (W64 lm), .func (Fn.func 80) #[] #[.pointer (some ⟨p, 0, none⟩)], .func (Fn.func 51) #[] #[]] 57) = w3 at *
  clear hW3
  go_cut [14, 15] (fun c d wx => ∃ g1 g2, c = .slice (some ⟨g1, 0, none⟩) n n ∧ d = .slice (some ⟨g2, 0, none⟩) n n ∧ wx.ownsRow w3.heap.size 23 1 (.slice (some ⟨g1, 0, none⟩) n n) n ((wdL [] n).map fun x => .int .u64 (W64 x)) ∧ wx.ownsRow w3.heap.size 53 3 (.slice (some ⟨g2, 0, none⟩) n n) n (drCs (dpL [] n)) ∧ g1 ≠ g2 ∧ New w3 wx)
  case first =>
    go_region_held3 (fun w' => New w3 w')
      (repeat (first | with_reducible assumption | with_reducible exact New.refl _ | with_reducible apply New.drew | with_reducible refine New.alloc ?_ _))
      (fail)
    all_goals (
      go_wp2_with fail
      go_meet
      case rel =>
        rw [wdL_zero, dpL_zero]
        first
          | exact ⟨_, _, rfl, rfl, ow_new (ow_made w3 _ _ _ n _ (Nat.le_refl _) (by omega) (by rw [made_toList]) (by simp)) (((New.refl _).alloc _).drew), ow_new (at_size (by simp) (ow_made3 (w3.alloc (.cells (madeCells #[.int .u64 0] n) 23)) w3.heap.size _ n (by simp) (by omega))) ((New.refl _).drew), (fun e => by omega), by assumption⟩
          | exact ⟨_, _, rfl, rfl, ow_new (at_size (by simp) (ow_made (w3.alloc (.cells (madeCells #[.int .u64 0, .int .u64 0, .int .i64 0] (n * 3)) 53)) w3.heap.size _ _ n _ (by simp) (by omega) (by rw [made_toList]) (by simp))) ((New.refl _).drew), ow_new (ow_made3 w3 w3.heap.size _ n (Nat.le_refl _) (by omega)) (((New.refl _).alloc _).drew), (fun e => by omega), by assumption⟩)
  case rest =>
    obtain ⟨g1, g2, rfl, rfl, ho1, ho2, hg12, hn9⟩ := hcut
    clear hmk hmk2
    have HO1 := Lib.hid ho1
    have HO2 := Lib.hid ho2
    have HN9 := Lib.hid (HN3.out.trans hn9)
    have HBX9 := Lib.hid (HBX.out.stay hn9)
    have HG12 : Hid (w3.heap.size ≤ g1 ∧ w3.heap.size ≤ g2 ∧ g1 ≠ g2) := Lib.hid ⟨(ow_in ho1).1, (ow_lt3 ho2).1, hg12⟩
    have HLT : Hid (g1 < wc.heap.size ∧ g2 < wc.heap.size ∧ w3.heap.size ≤ wc.heap.size ∧ (c ≠ 0 → p < w3.heap.size)) := Lib.hid ⟨(ow_in ho1).2.1, (ow_lt3 ho2).2.1, hn9.le, fun hc => lt_of_block (HBX.out.p hc)⟩
    replace HT0 := Lib.hid (HT0.out wc HN9.out)
    clear ho1 ho2 hg12 hn9 HBX
    go_wp2_with fail
    go_loopw [38] (fun iv wr => ∃ (q : Nat) (ds : List Drw) (k g : Nat), q ≤ n ∧ iv = .int .i64 (q : Int) ∧ Hid (sdS c l q = some (ds, k)) ∧ wr.ownsRow w3.heap.size 23 1 (.slice (some ⟨g1, 0, none⟩) n n) n ((wdL ds n).map fun x => .int .u64 (W64 x)) ∧ wr.ownsRow w3.heap.size 53 3 (.slice (some ⟨g2, 0, none⟩) n n) n (drCs (dpL ds n)) ∧ Tape wr b g l k ∧ But2 b g0 w wr ∧ Hid (Bx3 wr w.heap.size w2.heap.size p #[.int .u64 (W64 lm), .func (Fn.func 80) #[] #[.pointer (some ⟨p, 0, none⟩)], .func (Fn.func 51) #[] #[]] c) ∧ Hid ((g = g0 ∨ wc.heap.size ≤ g) ∧ wc.heap.size ≤ wr.heap.size)) (fun iv _ => n - (intOf iv).toNat)
    case atStart => exact ⟨0, [], 0, g0, Nat.zero_le _, rfl, Lib.hid rfl, HO1.out, HO2.out, HT0.out, But2.of_new HN9.out, HBX9, Lib.hid ⟨.inl rfl, Nat.le_refl _⟩⟩
    case round =>
      clear HT0 HO1 HO2 HBX9
      obtain ⟨q, ds, k, g, hq, rfl, HS, ho1, ho2, ht, hb2, HX3, HG⟩ := hrel
      have HO1 := Lib.hid ho1
      have HO2 := Lib.hid ho2
      have HT := Lib.hid ht
      have HB := Lib.hid hb2
      obtain ⟨wq, hwq⟩ : ∃ z, z = wr := ⟨_, rfl⟩
      rw [← hwq] at HO1 HO2 HT HB HX3 HG ⊢
      clear ho1 ho2 ht hb2 hwq
      have hdl := sdS_len HS.out
      have HNE : Hid (b ≠ g1 ∧ b ≠ g2 ∧ (w.heap.size ≠ b ∧ w2.heap.size ≠ b ∧ (c ≠ 0 → p ≠ b)) ∧ (w.heap.size ≠ g ∧ w2.heap.size ≠ g ∧ (c ≠ 0 → p ≠ g)) ∧ g1 ≠ g ∧ g2 ≠ g ∧ (w.heap.size ≠ g1 ∧ w2.heap.size ≠ g1 ∧ (c ≠ 0 → p ≠ g1)) ∧ (w.heap.size ≠ g2 ∧ w2.heap.size ≠ g2 ∧ (c ≠ 0 → p ≠ g2))) := Lib.hid (by
        have h1 := HBL.out
        have h2 := HPP.out
        have h3 := HG12.out
        have h4 := HLT.out
        have h5 := HG.out
        have h6 := HS3.out
        refine ⟨by omega, by omega, ⟨by omega, by omega, fun hc => ?_⟩, ⟨by omega, by omega, fun hc => ?_⟩, by omega, by omega, ⟨by omega, by omega, fun hc => ?_⟩, ⟨by omega, by omega, fun hc => ?_⟩⟩
        · have := h2.2 hc; omega
        · have := h2.2 hc; have := h4.2.2.2 hc; omega
        · have := h4.2.2.2 hc; omega
        · have := h4.2.2.2 hc; omega)
      have b0 := cell_of_row _ _ 0 _ _ _ HX3.out.b
      have b1 := cell_of_row _ _ 1 _ _ _ HX3.out.b
      have b2 := cell_of_row _ _ 2 _ _ _ HX3.out.b
      by_cases hlt : (q : Int) < (n : Int)
      · have hq0 : (0 : Int) ≤ (q : Int) := by omega
        have HDL := Lib.hid hdl
        have HTK := Lib.hid (tk_n44 c HC12.out b g k p l wq HT.out (HX3.out.p (by have := HC12.out; omega)) (HNE.out.2.2.1.2.2 (by have := HC12.out; omega)) (HNE.out.2.2.2.1.2.2 (by have := HC12.out; omega)))
        clear hdl
        go_wp2_with fail
        refine HTK.out.mono ?_
        rintro e w8 (⟨d, k', hst, rfl, g', ht8, hb8, hg8⟩ | ⟨hst, rfl, g', ht8, hb8, hg8⟩)
        · have HD := Lib.hid (sdS_next HS.out hst)
          obtain ⟨x, y, u⟩ := d
          have HCS : Hid ((wdL (ds ++ [(x, y, u)]) n).map (fun x => Value.int .u64 (W64 x)) = ((wdL ds n).map fun x => .int .u64 (W64 x)).set q (.int .u64 (W64 x))) := Lib.hid (by
            rw [wdL_set HDL.out (by omega), List.map_set])
          have HDS : Hid (drCs (dpL (ds ++ [(x, y, u)]) n) = (((drCs (dpL ds n)).set (q * 3) (.int .u64 (W64 x))).set (q * 3 + 1) (.int .u64 (W64 y))).set (q * 3 + 2) (.int .i64 (u : Int))) := Lib.hid (by
            rw [← dpL_set HDL.out (by omega), drCs_set _ _ _ (by rw [dpL_len (by have := HDL.out; omega)]; omega)])
          clear hst HTK b0 b1 b2
          have hne := HNE.out
          have hwq : g1 < wq.heap.size ∧ g2 < wq.heap.size := ⟨(ow_in HO1.out).2.1, (ow_lt3 HO2.out).2.1⟩
          have o1 := ow_blk HO1.out (w' := w8) (fun z hz => by
            have e : g1 = z := by simpa [Value.ownBlock] using hz
            subst e
            exact hb8.block _ hwq.1 (fun e => hne.1 e.symm) hne.2.2.2.2.1)
          have o2 := ow_blk HO2.out (w' := w8) (fun z hz => by
            have e : g2 = z := by simpa [Value.ownBlock] using hz
            subst e
            exact hb8.block _ hwq.2 (fun e => hne.2.1 e.symm) hne.2.2.2.2.2.1)
          have hx8 := HX3.out.but hb8 hne.2.2.1 hne.2.2.2.1
          have hgl := HG.out
          have hbs := HB.out.step (hgl.1.imp id (fun e => Nat.le_trans HN9.out.le e)) hb8
          have hne1 : g1 ≠ g' := by have := HLT.out; rcases hg8 with e | e <;> omega
          have hne2 : g2 ≠ g' := by have := HLT.out; rcases hg8 with e | e <;> omega
          obtain ⟨W9, hW9⟩ : ∃ z, w8.alloc (.cells #[.int .u64 (W64 x), .int .u64 (W64 y), .int .i64 (u : Int)] 53) = z := ⟨_, rfl⟩
          have hb1 := heap_alloc_new w8 (.cells #[.int .u64 (W64 x), .int .u64 (W64 y), .int .i64 (u : Int)] 53)
          rw [hW9] at hb1
          have hN9 : New w8 W9 := by rw [← hW9]; exact (New.refl _).alloc _
          have d0 : W9.cell? ⟨w8.heap.size, 0, none⟩ = some (.int .u64 (W64 x)) := cell_of_row _ _ 0 _ _ _ hb1
          have d1 : W9.cell? ⟨w8.heap.size, 1, none⟩ = some (.int .u64 (W64 y)) := cell_of_row _ _ 1 _ _ _ hb1
          have d2 : W9.cell? ⟨w8.heap.size, 2, none⟩ = some (.int .i64 (u : Int)) := cell_of_row _ _ 2 _ _ _ hb1
          have p1 := ow_new o1 hN9
          have p2 := ow_new o2 hN9
          have HT9 := Lib.hid (ht8.stay hN9)
          have HB9 := Lib.hid (hbs.then hN9)
          have HX9 := Lib.hid (hx8.stay hN9)
          have hsz8 := hb8.size
          have hn81 : ¬ w8.heap.size = g1 := by omega
          have hn82 : ¬ w8.heap.size = g2 := by omega
          have hn18 : ¬ g1 = w8.heap.size := by omega
          have hn28 : ¬ g2 = w8.heap.size := by omega
          have hn12 : ¬ g1 = g2 := HG12.out.2.2
          have hn21 : ¬ g2 = g1 := fun e => HG12.out.2.2 e.symm
          obtain ⟨c1, f1⟩ := ow_q44 p1 (k := q) (by omega)
          obtain ⟨⟨e0, e1, e2⟩, f2⟩ := ow_three p2 (k := q) (by omega)
          have f20 := f2 (q * 3)
          have f21 := f2 (q * 3 + 1)
          have f22 := f2 (q * 3 + 2)
          have HP1 := Lib.hid p1
          have HP2 := Lib.hid p2
          have GG : Hid ((g' = g0 ∨ wc.heap.size ≤ g') ∧ wc.heap.size ≤ W9.heap.size) := Lib.hid ⟨by rcases hg8 with e | e <;> rcases hgl.1 with e2 | e2 <;> omega, by have := hN9.le; omega⟩
          have HNE2 : Hid (g1 ≠ g' ∧ g2 ≠ g') := Lib.hid ⟨hne1, hne2⟩
          have hbg : b < g1 ∧ b < g2 := by have := HBL.out; have := HG12.out; have := HS3.out; have := HPP.out; omega
          have HBG := Lib.hid hbg
          have HFR : Hid (w.heap.size ≤ g1 ∧ w.heap.size ≤ g2) := Lib.hid (by have := HG12.out; have := HS3.out; have := HPP.out; omega)
          clear hb1 o1 o2 hbs ht8 hb8 hgl hg8 HT HO1 HB f2 p1 p2 hN9 hwq hsz8 hne hne1 hne2 hx8 HX3 hbg
          go_wp2_with fail
          clear hW9
          go_region
          have HV1 : Hid (((((((W9.setCell ⟨g1, q, none⟩ (.int .u64 (W64 x))).setCell ⟨g2, q * 3, none⟩ (.int .u64 (W64 x))).setCell ⟨g2, q * 3 + 1, none⟩ (.int .u64 (W64 y))).setCell ⟨g2, q * 3 + 2, none⟩ (.int .i64 (u : Int))).drew)).ownsRow w3.heap.size 23 1 (.slice (some ⟨g1, 0, none⟩) n n) n ((wdL (ds ++ [(x, y, u)]) n).map fun x => .int .u64 (W64 x))) := Lib.hid (by
            have hv : (Value.slice (some ⟨g1, 0, none⟩) n n).ownBlock ≠ some g2 := by simp [Value.ownBlock]; exact hn12
            rw [HCS.out]
            exact ow_new (ow_far (ow_far (ow_far (ow_set HP1.out q (.int .u64 (W64 x))) (a := ⟨g2, q * 3, none⟩) hv _) (a := ⟨g2, q * 3 + 1, none⟩) hv _) (a := ⟨g2, q * 3 + 2, none⟩) hv _) (New.refl _).drew)
          have HV2 : Hid (((((((W9.setCell ⟨g1, q, none⟩ (.int .u64 (W64 x))).setCell ⟨g2, q * 3, none⟩ (.int .u64 (W64 x))).setCell ⟨g2, q * 3 + 1, none⟩ (.int .u64 (W64 y))).setCell ⟨g2, q * 3 + 2, none⟩ (.int .i64 (u : Int))).drew)).ownsRow w3.heap.size 53 3 (.slice (some ⟨g2, 0, none⟩) n n) n (drCs (dpL (ds ++ [(x, y, u)]) n))) := Lib.hid (by
            have hv : (Value.slice (some ⟨g2, 0, none⟩) n n).ownBlock ≠ some g1 := by simp [Value.ownBlock]; exact hn21
            rw [HDS.out]
            exact ow_new ((((ow_far3 HP2.out (a := ⟨g1, q, none⟩) hv (.int .u64 (W64 x))).stored (q * 3) _).1.stored (q * 3 + 1) _).1.stored (q * 3 + 2) _).1 (New.refl _).drew)
          have HV3 : Hid (Tape ((((((W9.setCell ⟨g1, q, none⟩ (.int .u64 (W64 x))).setCell ⟨g2, q * 3, none⟩ (.int .u64 (W64 x))).setCell ⟨g2, q * 3 + 1, none⟩ (.int .u64 (W64 y))).setCell ⟨g2, q * 3 + 2, none⟩ (.int .i64 (u : Int))).drew)) b g' l k') := Lib.hid (((((HT9.out.put (r := g1) HBG.out.1 HNE2.out.1 q _).put (r := g2) HBG.out.2 HNE2.out.2 (q * 3) _).put (r := g2) HBG.out.2 HNE2.out.2 (q * 3 + 1) _).put (r := g2) HBG.out.2 HNE2.out.2 (q * 3 + 2) _).stay (New.refl _).drew)
          have HV4 : Hid (But2 b g0 w ((((((W9.setCell ⟨g1, q, none⟩ (.int .u64 (W64 x))).setCell ⟨g2, q * 3, none⟩ (.int .u64 (W64 x))).setCell ⟨g2, q * 3 + 1, none⟩ (.int .u64 (W64 y))).setCell ⟨g2, q * 3 + 2, none⟩ (.int .i64 (u : Int))).drew))) := Lib.hid (((((HB9.out.fresh (p := ⟨g1, q, none⟩) HFR.out.1 _).fresh (p := ⟨g2, q * 3, none⟩) HFR.out.2 _).fresh (p := ⟨g2, q * 3 + 1, none⟩) HFR.out.2 _).fresh (p := ⟨g2, q * 3 + 2, none⟩) HFR.out.2 _).then (New.refl _).drew)
          have HV5 : Hid (Bx3 ((((((W9.setCell ⟨g1, q, none⟩ (.int .u64 (W64 x))).setCell ⟨g2, q * 3, none⟩ (.int .u64 (W64 x))).setCell ⟨g2, q * 3 + 1, none⟩ (.int .u64 (W64 y))).setCell ⟨g2, q * 3 + 2, none⟩ (.int .i64 (u : Int))).drew)) w.heap.size w2.heap.size p #[.int .u64 (W64 lm), .func (Fn.func 80) #[] #[.pointer (some ⟨p, 0, none⟩)], .func (Fn.func 51) #[] #[]] c) := Lib.hid (((((HX9.out.far (a := ⟨g1, q, none⟩) HNE.out.2.2.2.2.2.2.1 _).far (a := ⟨g2, q * 3, none⟩) HNE.out.2.2.2.2.2.2.2 _).far (a := ⟨g2, q * 3 + 1, none⟩) HNE.out.2.2.2.2.2.2.2 _).far (a := ⟨g2, q * 3 + 2, none⟩) HNE.out.2.2.2.2.2.2.2 _).stay (New.refl _).drew)
          have HV6 : Hid ((g' = g0 ∨ wc.heap.size ≤ g') ∧ wc.heap.size ≤ ((((((W9.setCell ⟨g1, q, none⟩ (.int .u64 (W64 x))).setCell ⟨g2, q * 3, none⟩ (.int .u64 (W64 x))).setCell ⟨g2, q * 3 + 1, none⟩ (.int .u64 (W64 y))).setCell ⟨g2, q * 3 + 2, none⟩ (.int .i64 (u : Int))).drew)).heap.size) := Lib.hid ⟨GG.out.1, by
            show wc.heap.size ≤ ((((W9.setCell ⟨g1, q, none⟩ (.int .u64 (W64 x))).setCell ⟨g2, q * 3, none⟩ (.int .u64 (W64 x))).setCell ⟨g2, q * 3 + 1, none⟩ (.int .u64 (W64 y))).setCell ⟨g2, q * 3 + 2, none⟩ (.int .i64 (u : Int))).heap.size
            rw [size_set, size_set, size_set, size_set]; exact GG.out.2⟩
          clear d0 d1 d2 c1 f1 e0 e1 e2 f20 f21 f22 HP1 HP2 HT9 HB9 HX9 GG HNE
          obtain ⟨V, hV⟩ : ∃ z, (((((W9.setCell ⟨g1, q, none⟩ (.int .u64 (W64 x))).setCell ⟨g2, q * 3, none⟩ (.int .u64 (W64 x))).setCell ⟨g2, q * 3 + 1, none⟩ (.int .u64 (W64 y))).setCell ⟨g2, q * 3 + 2, none⟩ (.int .i64 (u : Int))).drew) = z := ⟨_, rfl⟩
          rw [hV] at HV1 HV2 HV3 HV4 HV5 HV6 ⊢
          clear hV
          go_wp2
          exact ⟨⟨q + 1, _, _, g', by omega, by go_num, HD, HV1.out, HV2.out, HV3.out, HV4.out, HV5, HV6⟩, by simp [intOf]; omega⟩
        · have HD := Lib.hid (sdS_few HS.out hst)
          have HNO : Hid (sdS c l n = none) := Lib.hid (by
            have := sdS_none HD.out (n - (q + 1))
            rw [show q + 1 + (n - (q + 1)) = n by omega] at this
            exact this)
          have hx8 := HX3.out.but hb8 HNE.out.2.2.1 HNE.out.2.2.2.1
          have HRB := Lib.hid ((((New.refl w8).alloc (.cells #[.int .u64 0, .int .u64 0, .int .i64 0] 53)).block _ (lt_of_block hx8.r)).trans hx8.r)
          have HAF : Hid (After w (w8.alloc (.cells #[.int .u64 0, .int .u64 0, .int .i64 0] 53)) b g0 l l.length ∧ w.heap.size ≠ g') := Lib.hid ⟨⟨g', ht8.stay ((New.refl _).alloc _), (HB.out.step (HG.out.1.imp id (fun e => Nat.le_trans HN9.out.le e)) hb8).then ((New.refl _).alloc _), by
            have h9 := HG.out
            have h8 := HN9.out.le
            rcases hg8 with e | e <;> rcases h9.1 with e2 | e2 <;> omega⟩, by
            have h9 := HG.out
            have h7 := HBL.out
            have h6 := lt_of_block HX3.out.r
            have h5 := HNE.out.2.2.2.1.1
            rcases hg8 with e | e <;> omega⟩
          have HTP : Hid (Tape (w8.alloc (.cells #[.int .u64 0, .int .u64 0, .int .i64 0] 53)) b g' l l.length ∧ But2 b g0 w (w8.alloc (.cells #[.int .u64 0, .int .u64 0, .int .i64 0] 53)) ∧ (g' = g0 ∨ w.heap.size ≤ g')) := Lib.hid ⟨ht8.stay ((New.refl _).alloc _), (HB.out.step (HG.out.1.imp id (fun e => Nat.le_trans HN9.out.le e)) hb8).then ((New.refl _).alloc _), by
            have h9 := HG.out
            have h8 := HN9.out.le
            rcases hg8 with e | e <;> rcases h9.1 with e2 | e2 <;> omega⟩
          have r0 := cell_of_row _ _ 0 _ _ _ HRB.out
          have r1 := cell_of_row _ _ 1 _ _ _ HRB.out
          have r2 := cell_of_row _ _ 2 _ _ _ HRB.out
          have rf := fun i => frozen_of_row _ _ i _ _ HRB.out
          clear HTK hst ht8 hb8 hg8 hx8 b0 b1 b2
          go_wp2_with fail
          refine bodyPost_ret (by simp [results, Tryz.results14, go_sem, r0, r1, r2]; try rfl) rfl ?_
          exact .inr ⟨HNO.out, rfl, ⟨g', ((HTP.out.1.put HBL.out.1 HAF.out.2 _ _).put HBL.out.1 HAF.out.2 _ _).put HBL.out.1 HAF.out.2 _ _, ((HTP.out.2.1.fresh (by exact Nat.le_refl _) _).fresh (by exact Nat.le_refl _) _).fresh (by exact Nat.le_refl _) _, HTP.out.2.2⟩⟩
      · obtain rfl : q = n := by omega
        have hl := sdS_len HS.out
        obtain ⟨a1, cc1, e1, hq1⟩ := QRow.of_owns HO1.out (by omega)
        cases e1
        obtain ⟨a2, cc2, e2, hq2⟩ := KRow.of_owns HO2.out (by omega)
        cases e2
        rw [wdL_all hl] at hq1
        rw [dpL_all hl] at hq2
        have HQ1 := Lib.hid hq1
        have HQ2 := Lib.hid hq2
        have HRB := Lib.hid HX3.out.r
        have r0 := cell_of_row _ _ 0 _ _ _ HRB.out
        have r1 := cell_of_row _ _ 1 _ _ _ HRB.out
        have r2 := cell_of_row _ _ 2 _ _ _ HRB.out
        have rf := fun i => frozen_of_row _ _ i _ _ HRB.out
        clear hq1 hq2 hdl hl b0 b1 b2
        go_wp2_with fail
        refine bodyPost_ret (by simp [results, Tryz.results14, go_sem, r0, r1, r2]; try rfl) rfl ?_
        have hne := HNE.out
        have hw := HG.out.1
        refine .inl ⟨ds, k, HS.out, g1, g2, rfl, qfar44 (qfar44 (qfar44 HQ1.out hne.2.2.2.2.2.2.1.1.symm _ _) hne.2.2.2.2.2.2.1.1.symm _ _) hne.2.2.2.2.2.2.1.1.symm _ _, kfar44 (kfar44 (kfar44 HQ2.out hne.2.2.2.2.2.2.2.1.symm _ _) hne.2.2.2.2.2.2.2.1.symm _ _) hne.2.2.2.2.2.2.2.1.symm _ _, ⟨g, ((HT.out.put HBL.out.1 hne.2.2.2.1.1 _ _).put HBL.out.1 hne.2.2.2.1.1 _ _).put HBL.out.1 hne.2.2.2.1.1 _ _, ((HB.out.fresh (by exact Nat.le_refl _) _).fresh (by exact Nat.le_refl _) _).fresh (by exact Nat.le_refl _) _, hw.imp id (fun e => Nat.le_trans HN9.out.le e)⟩, ?_⟩
        have := HG12.out; have := HS3.out; have := HPP.out; omega
end Go.Proofs.YtdjlbpgjbgepdaaGreat
