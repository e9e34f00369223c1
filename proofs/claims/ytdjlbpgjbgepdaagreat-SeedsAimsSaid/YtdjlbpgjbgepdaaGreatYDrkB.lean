import Derived.Test.YtdjlbpgjbgepdaaGreatYLemZ
import Derived.Test.YtdjlbpgjbgepdaaGreatShfM
import Derived.Test.YtdjlbpgjbgepdaaGreatYShfC
import Derived.Maps.AppendAt
section
/- Rows of draws: plain lemmas; what a tape's words tell of limits, one behind the other. · Rows of draws: the document's Row and Same; limits and counts. · Rows of draws: Row of no words; Same; the document's Take of an order. -/
namespace Go.Bv
open Go Go.RowKit
set_option linter.unusedVariables false
/-- a draw: the number, its rank, how many words came -/
abbrev Drw := BitVec 64 × BitVec 64 × Nat
def drC (d : Drw) : List Value := [.int .u64 (W64 d.1), .int .u64 (W64 d.2.1), .int .i64 (d.2.2 : Int)]
def drCs : List Drw → List Value
  | [] => []
  | d :: ds => drC d ++ drCs ds
theorem drCs_len : ∀ ds, (drCs ds).length = ds.length * 3
  | [] => rfl
  | d :: ds => by
    show (drC d ++ drCs ds).length = _
    rw [List.length_append, drCs_len ds, List.length_cons]
    show 3 + ds.length * 3 = (ds.length + 1) * 3
    omega
theorem drCs_snoc (d : Drw) : ∀ ds, drCs (ds ++ [d]) = drCs ds ++ drC d
  | [] => by show drC d ++ [] = [] ++ drC d; simp
  | e :: ds => by
    show drC e ++ drCs (ds ++ [d]) = (drC e ++ drCs ds) ++ drC d
    rw [drCs_snoc d ds, List.append_assoc]
def dz : Drw := (0#64, 0#64, 0)
theorem drCs_get : ∀ (ds : List Drw) (i j : Nat), i < ds.length → j < 3 → (drCs ds)[i * 3 + j]? = (drC (ds.getD i dz))[j]?
  | [], i, j, h, _ => absurd h (by simp)
  | d :: ds, i, j, h, hj => by
    show (drC d ++ drCs ds)[i * 3 + j]? = _
    have h3 : (drC d).length = 3 := rfl
    cases i with
    | zero =>
      rw [Nat.zero_mul, Nat.zero_add, List.getElem?_append_left (by omega)]; rfl
    | succ i =>
      rw [List.getElem?_append_right (by omega), h3, show (i + 1) * 3 + j - 3 = i * 3 + j by omega]
      have := drCs_get ds i j (by simp at h; omega) hj
      rw [this]; rfl
/-- a slice of draws that reads as ds -/
structure KRow (w : World) (a : Option Addr) (len cap : Nat) (ds : List Drw) : Prop where
  len_eq : ds.length = len
  le : len ≤ cap
  most : len ≤ 1000000
  room : cap ≤ 9223372036854775807
  none : a = none → len = 0 ∧ cap = 0
  cell : ∀ b off, a = some ⟨b, off, Option.none⟩ → ∀ i, i < len → w.cell? ⟨b, off + i * 3, Option.none⟩ = some (.int .u64 (W64 (ds.getD i dz).1)) ∧ w.cell? ⟨b, off + i * 3 + 1, Option.none⟩ = some (.int .u64 (W64 (ds.getD i dz).2.1)) ∧ w.cell? ⟨b, off + i * 3 + 2, Option.none⟩ = some (.int .i64 ((ds.getD i dz).2.2 : Int))
  spot : ∀ x, a = some x → 0 < len → x.spot = Option.none
  old : ∀ x, a = some x → 0 < len → x.block < w.heap.size
theorem KRow.stay {w w' : World} {a : Option Addr} {len cap : Nat} {l : List Drw} (h : KRow w a len cap l) (hn : New w w') : KRow w' a len cap l where
  len_eq := h.len_eq
  le := h.le
  most := h.most
  room := h.room
  none := h.none
  cell := fun b off e i hi => by
    have hb := h.old _ e (by omega)
    rw [hn.cell (a := ⟨b, off + i * 3, Option.none⟩) hb, hn.cell (a := ⟨b, off + i * 3 + 1, Option.none⟩) hb, hn.cell (a := ⟨b, off + i * 3 + 2, Option.none⟩) hb]; exact h.cell b off e i hi
  spot := h.spot
  old := fun x e h0 => Nat.lt_of_lt_of_le (h.old x e h0) hn.le
theorem KRow.addr {w : World} {a : Option Addr} {len cap : Nat} {l : List Drw} (h : KRow w a len cap l) (h0 : 0 < len) :
    ∃ b off, a = some ⟨b, off, Option.none⟩ ∧ ∀ i, i < len → w.cell? ⟨b, off + i * 3, Option.none⟩ = some (.int .u64 (W64 (l.getD i dz).1)) ∧ w.cell? ⟨b, off + i * 3 + 1, Option.none⟩ = some (.int .u64 (W64 (l.getD i dz).2.1)) ∧ w.cell? ⟨b, off + i * 3 + 2, Option.none⟩ = some (.int .i64 ((l.getD i dz).2.2 : Int)) := by
  cases a with
  | none => have := (h.none rfl).1; omega
  | some x =>
    obtain ⟨b, off, sp⟩ := x
    obtain rfl : sp = Option.none := h.spot _ rfl h0
    exact ⟨b, off, rfl, h.cell b off rfl⟩
theorem KRow.of_owns {w : World} {base : Nat} {e : TypeId} {v : Value} {n : Nat} {ds : List Drw} (h : w.ownsRow base e 3 v n (drCs ds)) (hn : n ≤ 1000000) :
    ∃ a cap, v = .slice a n cap ∧ KRow w a n cap ds := by
  obtain ⟨hl, h⟩ := h
  rw [drCs_len] at hl
  have hl2 : ds.length = n := by omega
  rcases h with ⟨rfl, rfl⟩ | ⟨g, cap, cur, rfl, _, hc, hle, hm, hs, ht⟩
  · exact ⟨Option.none, 0, rfl, ⟨hl2, Nat.le_refl _, by omega, by omega, fun _ => ⟨rfl, rfl⟩, (fun _ _ e => by cases e), (fun _ e => by cases e), (fun _ e => by cases e)⟩⟩
  · have hcell : ∀ i j, i < n → j < 3 → w.cell? ⟨g, 0 + i * 3 + j, Option.none⟩ = (drC (ds.getD i dz))[j]? := by
      intro i j hi hj
      have e1 : (cur.toList.take (n * 3))[i * 3 + j]? = (drC (ds.getD i dz))[j]? := by
        rw [ht, drCs_get ds i j (by omega) hj]
      rw [List.getElem?_take, if_pos (by omega)] at e1
      rw [Nat.zero_add]
      unfold World.cell?
      simp only [hc]
      simpa using e1
    refine ⟨some ⟨g, 0, Option.none⟩, cap, rfl, ⟨hl2, hle, hn, by unfold maxLen at hm; omega, (fun e => by cases e), ?_, ?_, ?_⟩⟩
    · intro b off e i hi; cases e
      exact ⟨hcell i 0 hi (by omega), hcell i 1 hi (by omega), hcell i 2 hi (by omega)⟩
    · intro x e _; cases e; rfl
    · intro x e h0; cases e; exact lt_of_block hc
theorem nil_krow (w : World) : KRow w none 0 0 [] := ⟨rfl, Nat.le_refl _, by omega, by omega, (fun _ => ⟨rfl, rfl⟩), (fun b off e => by cases e), (fun x e => by cases e), (fun x e => by cases e)⟩
/-- a row of one's own where its block is as it was -/
theorem ow_blk {w w' : World} {base size : Nat} {e : TypeId} {v : Value} {n : Nat} {xs : List Value} (h : w.ownsRow base e size v n xs) (hb : ∀ g, v.ownBlock = some g → w'.heap[g]? = w.heap[g]?) : w'.ownsRow base e size v n xs := by
  refine ⟨h.1, ?_⟩
  rcases h.2 with h2 | ⟨g, cap, cur, rfl, hg, hc, rest⟩
  · exact .inl h2
  · exact .inr ⟨g, cap, cur, rfl, hg, (hb g rfl).trans hc, rest⟩
theorem ow_lt {w : World} {base size : Nat} {e : TypeId} {v : Value} {n : Nat} {xs : List Value} (h : w.ownsRow base e size v n xs) : ∀ g, v.ownBlock = some g → base ≤ g ∧ g < w.heap.size := by
  intro g hg
  rcases h.2 with ⟨rfl, _⟩ | ⟨g', cap, cur, rfl, hb, hc, _⟩
  · cases hg
  · have e : g' = g := by simpa [Value.ownBlock] using hg
    subst e
    exact ⟨hb, lt_of_block hc⟩
theorem ow_far3 {w : World} {base n size : Nat} {e : TypeId} {v : Value} {xs : List Value} (h : w.ownsRow base e size v n xs) {a : Addr} (hv : v.ownBlock ≠ some a.block) (u : Value) : (w.setCell a u).ownsRow base e size v n xs :=
  ow_blk h (fun g hg => heap_setCell_other _ _ _ _ (fun e => hv (by rw [hg, e])))
end Go.Bv
namespace Go.Proofs.YtdjlbpgjbgepdaaGreat
open Go Go.RowKit Go.Bv
set_option linter.unusedVariables false
/-- the first word from k on that is taken -/
def fstG (l : List (BitVec 64)) (n : BitVec 64) : Nat → Nat → Nat
  | 0, k => k
  | f + 1, k => if takO (l.getD k 0) n then k else fstG l n f (k + 1)
def fstT (l : List (BitVec 64)) (n : BitVec 64) (k : Nat) : Nat := fstG l n (l.length - k) k
theorem fstG_yes {l : List (BitVec 64)} {n : BitVec 64} : ∀ {f k j}, k ≤ j → j < k + f → (∀ i, k ≤ i → i < j → takO (l.getD i 0) n = false) → takO (l.getD j 0) n = true → fstG l n f k = j
  | 0, k, j, h1, h2, _, _ => by omega
  | f + 1, k, j, h1, h2, h3, h4 => by
    show (if takO (l.getD k 0) n then k else fstG l n f (k + 1)) = j
    by_cases e : k = j
    · subst e; rw [h4]; rfl
    · rw [h3 k (Nat.le_refl _) (by omega)]
      exact fstG_yes (by omega) (by omega) (fun i a b => h3 i (by omega) b) h4
theorem fstG_no {l : List (BitVec 64)} {n : BitVec 64} : ∀ {f k}, (∀ i, k ≤ i → i < k + f → takO (l.getD i 0) n = false) → fstG l n f k = k + f
  | 0, k, _ => rfl
  | f + 1, k, h => by
    show (if takO (l.getD k 0) n then k else fstG l n f (k + 1)) = _
    rw [h k (Nat.le_refl _) (by omega)]
    have := fstG_no (l := l) (n := n) (f := f) (k := k + 1) (fun i a b => h i (by omega) (by omega))
    show fstG l n f (k + 1) = _
    rw [this]; omega
theorem fstT_yes {l : List (BitVec 64)} {n : BitVec 64} {k j : Nat} (h1 : k ≤ j) (h2 : j < l.length) (h3 : ∀ i, k ≤ i → i < j → takO (l.getD i 0) n = false) (h4 : takO (l.getD j 0) n = true) : fstT l n k = j := fstG_yes h1 (by omega) h3 h4
theorem fstT_no {l : List (BitVec 64)} {n : BitVec 64} {k : Nat} (hk : k ≤ l.length) (h : ∀ i, k ≤ i → i < l.length → takO (l.getD i 0) n = false) : fstT l n k = l.length := by
  unfold fstT
  rw [fstG_no (fun i a b => h i a (by omega))]; omega
/-- the draw of a limit from k on, told at j -/
def drw (l : List (BitVec 64)) (n : BitVec 64) (k j : Nat) : Drw := (telN (l.getD j 0) n, rnkN (l.getD j 0) n, j + 1 - k)
/-- the draws of the first m limits, and how many words came -/
def drS (l ls : List (BitVec 64)) : Nat → Option (List Drw × Nat)
  | 0 => some ([], 0)
  | m + 1 => match drS l ls m with
    | none => none
    | some r => if fstT l (ls.getD m 0) r.2 < l.length then some (r.1 ++ [drw l (ls.getD m 0) r.2 (fstT l (ls.getD m 0) r.2)], fstT l (ls.getD m 0) r.2 + 1) else none
theorem drS_next {l ls : List (BitVec 64)} {m : Nat} {ds : List Drw} {k j : Nat} (h : drS l ls m = some (ds, k)) (h1 : k ≤ j) (h2 : j < l.length) (h3 : ∀ i, k ≤ i → i < j → takO (l.getD i 0) (ls.getD m 0) = false) (h4 : takO (l.getD j 0) (ls.getD m 0) = true) : drS l ls (m + 1) = some (ds ++ [drw l (ls.getD m 0) k j], j + 1) := by
  show (match drS l ls m with | none => none | some r => _) = _
  rw [h]
  show (if fstT l (ls.getD m 0) k < l.length then _ else none) = _
  rw [fstT_yes h1 h2 h3 h4, if_pos h2]
theorem drS_few {l ls : List (BitVec 64)} {m : Nat} {ds : List Drw} {k : Nat} (h : drS l ls m = some (ds, k)) (hk : k ≤ l.length) (h3 : ∀ i, k ≤ i → i < l.length → takO (l.getD i 0) (ls.getD m 0) = false) : drS l ls (m + 1) = none := by
  show (match drS l ls m with | none => none | some r => _) = _
  rw [h]
  show (if fstT l (ls.getD m 0) k < l.length then _ else none) = _
  rw [fstT_no hk h3, if_neg (by omega)]
theorem drS_none {l ls : List (BitVec 64)} {m : Nat} (h : drS l ls m = none) : ∀ d, drS l ls (m + d) = none
  | 0 => h
  | d + 1 => by
    show (match drS l ls (m + d) with | none => none | some r => _) = _
    rw [drS_none h d]
theorem drS_len {l ls : List (BitVec 64)} : ∀ {m ds k}, drS l ls m = some (ds, k) → ds.length = m ∧ k ≤ l.length
  | 0, ds, k, h => by
    have h' : some (([] : List Drw), 0) = some (ds, k) := h
    cases h'; exact ⟨rfl, Nat.zero_le _⟩
  | m + 1, ds, k, h => by
    have h' : (match drS l ls m with | none => none | some r => if fstT l (ls.getD m 0) r.2 < l.length then some (r.1 ++ [drw l (ls.getD m 0) r.2 (fstT l (ls.getD m 0) r.2)], fstT l (ls.getD m 0) r.2 + 1) else none) = some (ds, k) := h
    rcases hm : drS l ls m with _ | ⟨ds0, k0⟩
    · rw [hm] at h'; cases h'
    · rw [hm] at h'
      have h0 := drS_len hm
      by_cases hc : fstT l (ls.getD m 0) k0 < l.length
      · simp only [if_pos hc] at h'
        cases h'
        exact ⟨by simp [h0.1], hc⟩
      · simp only [if_neg hc] at h'
        cases h'
end Go.Proofs.YtdjlbpgjbgepdaaGreat
namespace Go.Proofs.YtdjlbpgjbgepdaaGreat
open Go Go.RowKit Go.Bv
set_option linter.unusedVariables false
theorem info_drw : (Tryz.prog.info? 53).map (fun i => (i.zero, i.size, i.bytes)) = some (some (.agg #[.int .u64 0, .int .u64 0, .int .i64 0]), 3, 24) := by kernel_rfl
theorem drw_cells (w : World) (x y : BitVec 64) (u : Nat) (t : TypeId) : ∀ j v, (drC (x, y, u))[j]? = some v → (w.alloc (.cells #[.int .u64 (W64 x), .int .u64 (W64 y), .int .i64 (u : Int)] t)).cell? ((⟨w.heap.size, 0, none⟩ : Addr).add j) = some v := by
  intro j v h
  rw [add_plain, Nat.zero_add, World.cell?_alloc_new]
  simpa [drC] using h
theorem drw_one (x y : BitVec 64) (u : Nat) : ∀ v ∈ drC (x, y, u), v.oneCell' = true := by
  intro v hv
  simp [drC] at hv
  rcases hv with rfl | rfl | rfl <;> rfl
/-- limits of an order of n -/
def lmL (n : Nat) : List (BitVec 64) := (List.range (n - 1)).map fun m => BitVec.ofNat 64 (n - m)
theorem lmL_len (n : Nat) : (lmL n).length = n - 1 := by unfold lmL; simp
theorem lmL_get {n m : Nat} (h : m < n - 1) : (lmL n).getD m 0 = BitVec.ofNat 64 (n - m) := by
  unfold lmL; rw [List.getD_eq_getElem?_getD, List.getElem?_map, List.getElem?_range h]; rfl
def lmP (n m : Nat) : List (BitVec 64) := (List.range m).map fun m => BitVec.ofNat 64 (n - m)
theorem lmP_succ (n m : Nat) : lmP n (m + 1) = lmP n m ++ [BitVec.ofNat 64 (n - m)] := by unfold lmP; rw [List.range_succ, List.map_append]; rfl
def cntE (n : Int) : Int := if n < 0 then 1 else if 256 < n then 9 else 0
theorem qrow_rest {w : World} {b off nl c k : Nat} {l : List (BitVec 64)} (h : QRow w (some ⟨b, off, none⟩) nl c l) (hk : k ≤ nl) : QRow w (some ⟨b, off + k, none⟩) (nl - k) (c - k) (l.drop k) := by
  have h1 := h.slice k (nl - k) (c - k) (by omega) (by have := h.le; omega) (by have := h.room; omega)
  rw [List.take_of_length_le (by rw [List.length_drop, h.len_eq]; exact Nat.le_refl _)] at h1
  exact h1
theorem qrow_empty {w : World} {b off : Nat} : QRow w (some ⟨b, off, none⟩) 0 0 [] := ⟨rfl, Nat.le_refl _, by omega, by omega, (fun _ => ⟨rfl, rfl⟩), (fun _ _ _ i hi => absurd hi (by omega)), (fun _ _ h => absurd h (by omega)), (fun _ _ h => absurd h (by omega))⟩
theorem drop_get (l : List (BitVec 64)) (k i : Nat) : (l.drop k).getD i 0 = l.getD (k + i) 0 := by
  rw [List.getD_eq_getElem?_getD, List.getElem?_drop, ← List.getD_eq_getElem?_getD]
end Go.Proofs.YtdjlbpgjbgepdaaGreat
namespace Go.Proofs.YtdjlbpgjbgepdaaGreat
open Go Go.RowKit Go.Bv
set_option linter.unusedVariables false
set_option maxRecDepth 100000 in
set_option maxHeartbeats 2000000 in
theorem same38_q (a b : Option Addr) (n ca cb : Nat) (ds : List Drw) (w : World) (ha : KRow w a n ca ds) (hb : KRow w b n cb ds) :
    Calls Tryz.prog 18 #[.slice a n ca, .slice b n cb] w fun e w' => e = .returned (.bool true) ∧ New w w' := by
  have hm := ha.most
  have HA := Lib.hid ha
  have HB := Lib.hid hb
  clear ha hb
  go_enter Tryz.func18, Tryz.ntmps18
  go_wp2_with fail
  go_loopw [13] (fun iv wr => ∃ k : Nat, k ≤ n ∧ iv = .int .i64 (k : Int) ∧ New w wr) (fun iv _ => n - (intOf iv).toNat)
  case atStart => exact ⟨0, Nat.zero_le _, rfl, New.refl _⟩
  case round =>
    obtain ⟨k, hk, rfl, hnew⟩ := hrel
    by_cases hlt : (k : Int) < (n : Int)
    · have hk0 : (0 : Int) ≤ (k : Int) := by omega
      obtain ⟨b1, o1, rfl, h1⟩ := (HA.out.stay hnew).addr (by omega)
      obtain ⟨b2, o2, rfl, h2⟩ := (HB.out.stay hnew).addr (by omega)
      obtain ⟨p0, p1, p2⟩ := h1 k (by omega)
      obtain ⟨q0, q1, q2⟩ := h2 k (by omega)
      clear h1 h2
      obtain ⟨⟨x, y, u⟩, hd⟩ : ∃ d, ds.getD k dz = d := ⟨_, rfl⟩
      rw [hd] at p0 p1 p2 q0 q1 q2
      clear hd
      simp only at p0 p1 p2 q0 q1 q2
      go_wp2
      go_quiet (fail)
      go_wp2
      exact ⟨⟨k + 1, by omega, by go_num, hnew.drewN nq⟩, by simp [intOf]; omega⟩
    · obtain rfl : k = n := by omega
      go_wp2
      go_ret
      exact ⟨rfl, hnew⟩
theorem drS_nil {ls : List (BitVec 64)} {m : Nat} (h : 0 < m) : drS [] ls m = none := by
  have h1 : drS [] ls 1 = none := drS_few (l := []) (ls := ls) (m := 0) (ds := []) (k := 0) rfl (Nat.le_refl _) (fun i _ hi => by simp at hi)
  have := drS_none h1 (m - 1)
  rwa [show 1 + (m - 1) = m by omega] at this
/-- what the choices of an order are told by draws: those that were told, of n -/
def cdF (n : Nat) (ds : List Drw) (x : Nat) : Nat := if n - 1 - x < ds.length then ((ds.getD (n - 1 - x) dz).1).toNat else 0
theorem ofNat_pos {r : Nat} (h1 : 0 < r) (h2 : r < 18446744073709551616) : ¬ BitVec.ofNat 64 r = 0#64 ∧ (BitVec.ofNat 64 r).toNat = r := by
  have h : (BitVec.ofNat 64 r).toNat = r := by rw [BitVec.toNat_ofNat, Nat.mod_eq_of_lt h2]
  refine ⟨fun e => ?_, h⟩
  rw [e] at h
  simp at h; omega
/-- draws of limits that are not 0 tell numbers below them -/
theorem drS_lt {l ls : List (BitVec 64)} : ∀ {m ds k}, (∀ i, i < m → ¬ ls.getD i 0 = 0#64) → drS l ls m = some (ds, k) → ∀ i, i < m → ((ds.getD i dz).1).toNat < (ls.getD i 0).toNat
  | 0, ds, k, _, _, i, hi => by omega
  | m + 1, ds, k, hz, h, i, hi => by
    have h' : (match drS l ls m with | none => none | some r => if fstT l (ls.getD m 0) r.2 < l.length then some (r.1 ++ [drw l (ls.getD m 0) r.2 (fstT l (ls.getD m 0) r.2)], fstT l (ls.getD m 0) r.2 + 1) else none) = some (ds, k) := h
    rcases hm : drS l ls m with _ | ⟨ds0, k0⟩
    · rw [hm] at h'; cases h'
    · rw [hm] at h'
      have h0 := (drS_len hm).1
      by_cases hc : fstT l (ls.getD m 0) k0 < l.length
      · simp only [if_pos hc] at h'
        cases h'
        by_cases e : i = m
        · subst e
          rw [List.getD_eq_getElem?_getD, List.getElem?_append_right (by omega), h0, Nat.sub_self]
          exact tel_lt _ _ (hz i (by omega))
        · rw [List.getD_eq_getElem?_getD, List.getElem?_append_left (by omega), ← List.getD_eq_getElem?_getD]
          exact drS_lt (fun i hi => hz i (by omega)) hm i (by omega)
      · simp only [if_neg hc] at h'
        cases h'
theorem lm_lt {l : List (BitVec 64)} {n m : Nat} {ds : List Drw} {k : Nat} (hn : n ≤ 1000000) (hm : m ≤ n - 1) (h : drS l (lmL n) m = some (ds, k)) : ∀ i, i < m → ((ds.getD i dz).1).toNat < n - i := by
  intro i hi
  have h1 := drS_lt (fun i hi => by rw [lmL_get (by omega)]; exact (ofNat_pos (by omega) (by omega)).1) h i hi
  rwa [lmL_get (by omega), (ofNat_pos (by omega) (by omega)).2] at h1
theorem cdF_rt {l : List (BitVec 64)} {n : Nat} {ds : List Drw} {k : Nat} (hn : n ≤ 1000000) (h : drS l (lmL n) (n - 1) = some (ds, k)) : rtI (liI (cdF n ds) n) := by
  intro i hi
  rw [liI_len] at hi
  rw [liI_get _ hi]
  have hd := (drS_len h).1
  unfold cdF
  by_cases e : n - 1 - i < ds.length
  · rw [if_pos e]
    have := lm_lt hn (Nat.le_refl _) h (n - 1 - i) (by omega)
    omega
  · rw [if_neg e]; omega
/-- the document's way: of a row the places from the last one down are written -/
def rdL (n : Nat) (ds : List Drw) (k : Nat) : List Int := liI (fun x => if n - 1 - x < k then ((ds.getD (n - 1 - x) dz).1).toNat else x) n
theorem rdL_zero (n : Nat) (ds : List Drw) : rdL n ds 0 = liI (fun x => x) n := liI_ext (fun x _ => by rw [if_neg (by omega)])
theorem rdL_set (n : Nat) (ds : List Drw) (k : Nat) (h : k < n) : (rdL n ds k).set (n - 1 - k) (((ds.getD k dz).1).toNat : Int) = rdL n ds (k + 1) := by
  unfold rdL
  rw [liI_set _ _ (by omega)]
  apply liI_ext
  intro x hx
  by_cases e : x = n - 1 - k
  · subst e
    rw [if_pos rfl, if_pos (by omega), show n - 1 - (n - 1 - k) = k by omega]
  · rw [if_neg e]
    by_cases e2 : n - 1 - x < k
    · rw [if_pos e2, if_pos (by omega)]
    · rw [if_neg e2, if_neg (by omega)]
theorem rdL_all (n : Nat) (ds : List Drw) (h : ds.length = n - 1) : rdL n ds (n - 1) = liI (cdF n ds) n := by
  apply liI_ext
  intro x hx
  unfold cdF
  rw [h]
  by_cases e : n - 1 - x < n - 1
  · rw [if_pos e, if_pos e]
  · rw [if_neg e, if_neg e]; omega
end Go.Proofs.YtdjlbpgjbgepdaaGreat
end
section
/- Plain lemmas: rows of words aimed at other numbers. · Words put in place of those that draws took: the contract of redraw.Words. · Rows of draws: Ranks. -/
namespace Go.Proofs.YtdjlbpgjbgepdaaGreat
open Go Go.RowKit Go.Bv
set_option linter.unusedVariables false
theorem fstG_spec {l : List (BitVec 64)} {n : BitVec 64} : ∀ {f k}, fstG l n f k < k + f → k ≤ fstG l n f k ∧ (∀ i, k ≤ i → i < fstG l n f k → takO (l.getD i 0) n = false) ∧ takO (l.getD (fstG l n f k) 0) n = true
  | 0, k, h => by
    have h' : k < k + 0 := h
    omega
  | f + 1, k, h => by
    by_cases e : takO (l.getD k 0) n = true
    · have e1 : fstG l n (f + 1) k = k := if_pos e
      rw [e1]
      exact ⟨Nat.le_refl _, fun i a b => by omega, e⟩
    · have e1 : fstG l n (f + 1) k = fstG l n f (k + 1) := if_neg e
      rw [e1] at h ⊢
      obtain ⟨h1, h2, h3⟩ := fstG_spec (l := l) (n := n) (f := f) (k := k + 1) (by omega)
      refine ⟨by omega, fun i a b => ?_, h3⟩
      by_cases e2 : i = k
      · subst e2; simpa using e
      · exact h2 i (by omega) b
theorem fstT_spec {l : List (BitVec 64)} {n : BitVec 64} {k : Nat} (hk : k ≤ l.length) (h : fstT l n k < l.length) : k ≤ fstT l n k ∧ (∀ i, k ≤ i → i < fstT l n k → takO (l.getD i 0) n = false) ∧ takO (l.getD (fstT l n k) 0) n = true := fstG_spec (by unfold fstT at h; omega)
/-- draws step by step -/
theorem drS_prev {l ls : List (BitVec 64)} {m : Nat} {ds : List Drw} {k : Nat} (h : drS l ls (m + 1) = some (ds, k)) : ∃ ds0 k0 j, drS l ls m = some (ds0, k0) ∧ ds0.length = m ∧ k0 ≤ j ∧ j < l.length ∧ (∀ i, k0 ≤ i → i < j → takO (l.getD i 0) (ls.getD m 0) = false) ∧ takO (l.getD j 0) (ls.getD m 0) = true ∧ ds = ds0 ++ [drw l (ls.getD m 0) k0 j] ∧ k = j + 1 := by
  have h' : (match drS l ls m with | none => none | some r => if fstT l (ls.getD m 0) r.2 < l.length then some (r.1 ++ [drw l (ls.getD m 0) r.2 (fstT l (ls.getD m 0) r.2)], fstT l (ls.getD m 0) r.2 + 1) else none) = some (ds, k) := h
  rcases hm : drS l ls m with _ | ⟨ds0, k0⟩
  · rw [hm] at h'; cases h'
  · rw [hm] at h'
    have h0 := drS_len hm
    by_cases hc : fstT l (ls.getD m 0) k0 < l.length
    · simp only [if_pos hc] at h'
      cases h'
      obtain ⟨h1, h2, h3⟩ := fstT_spec h0.2 hc
      exact ⟨ds0, k0, _, rfl, h0.1, h1, hc, h2, h3, rfl, rfl⟩
    · simp only [if_neg hc] at h'
      cases h'
/-- words behind the draws say nothing of them -/
theorem drS_set {l ls : List (BitVec 64)} {x : BitVec 64} : ∀ {m ds k j}, drS l ls m = some (ds, k) → k ≤ j → drS (l.set j x) ls m = some (ds, k)
  | 0, ds, k, j, h, _ => h
  | m + 1, ds, k, j, h, hk => by
    obtain ⟨ds0, k0, i, h0, hl, h1, h2, h3, h4, rfl, rfl⟩ := drS_prev h
    have hg : ∀ q, q < j → (l.set j x).getD q 0 = l.getD q 0 := fun q hq => by
      rw [List.getD_eq_getElem?_getD, List.getElem?_set, if_neg (by omega), ← List.getD_eq_getElem?_getD]
    have hn := drS_next (j := i) (drS_set (x := x) h0 (show k0 ≤ j by omega)) h1 (by rw [List.length_set]; exact h2) (fun q a b => by rw [hg q (by omega)]; exact h3 q a b) (by rw [hg i (by omega)]; exact h4)
    rw [hn]
    have e : drw (l.set j x) (ls.getD m 0) k0 i = drw l (ls.getD m 0) k0 i := by
      unfold drw; rw [hg i (by omega)]
    rw [e]
/-- how many words the first m draws took -/
def usS (ds : List Drw) : Nat → Nat
  | 0 => 0
  | m + 1 => usS ds m + (ds.getD m dz).2.2
theorem usS_app (ds : List Drw) (d : Drw) : ∀ m, m ≤ ds.length → usS (ds ++ [d]) m = usS ds m
  | 0, _ => rfl
  | m + 1, h => by
    show usS (ds ++ [d]) m + ((ds ++ [d]).getD m dz).2.2 = usS ds m + (ds.getD m dz).2.2
    rw [usS_app ds d m (by omega), List.getD_eq_getElem?_getD, List.getElem?_append_left (by omega), ← List.getD_eq_getElem?_getD]
theorem getD_last (ds : List Drw) (d : Drw) : (ds ++ [d]).getD ds.length dz = d := by
  rw [List.getD_eq_getElem?_getD, List.getElem?_append_right (Nat.le_refl _), Nat.sub_self]; rfl
theorem getD_app (ds : List Drw) (d : Drw) {i : Nat} (h : i < ds.length) : (ds ++ [d]).getD i dz = ds.getD i dz := by
  rw [List.getD_eq_getElem?_getD, List.getElem?_append_left h, ← List.getD_eq_getElem?_getD]
theorem drS_us {l ls : List (BitVec 64)} : ∀ {m ds k}, drS l ls m = some (ds, k) → usS ds m = k
  | 0, ds, k, h => by cases h; rfl
  | m + 1, ds, k, h => by
    obtain ⟨ds0, k0, i, h0, hl, h1, h2, h3, h4, rfl, rfl⟩ := drS_prev h
    subst hl
    show usS _ ds0.length + ((ds0 ++ [_]).getD ds0.length dz).2.2 = i + 1
    rw [usS_app _ _ _ (Nat.le_refl _), drS_us h0, getD_last]
    show k0 + (i + 1 - k0) = i + 1
    omega
/-- the row with the words of the first m draws put in place of those that were taken -/
def amS (o ls : List (BitVec 64)) (v : Nat → BitVec 64) (ds : List Drw) : Nat → List (BitVec 64)
  | 0 => o
  | m + 1 => (amS o ls v ds m).set (usS ds (m + 1) - 1) (wrdN (v m) (ds.getD m dz).2.1 (ls.getD m 0))
theorem amS_len (o ls : List (BitVec 64)) (v : Nat → BitVec 64) (ds : List Drw) : ∀ m, (amS o ls v ds m).length = o.length
  | 0 => rfl
  | m + 1 => by show (List.set _ _ _).length = _; rw [List.length_set, amS_len o ls v ds m]
theorem amS_app (o ls : List (BitVec 64)) (v : Nat → BitVec 64) (ds : List Drw) (d : Drw) : ∀ m, m ≤ ds.length → amS o ls v (ds ++ [d]) m = amS o ls v ds m
  | 0, _ => rfl
  | m + 1, h => by
    show (amS o ls v (ds ++ [d]) m).set (usS (ds ++ [d]) (m + 1) - 1) (wrdN (v m) ((ds ++ [d]).getD m dz).2.1 (ls.getD m 0)) = _
    rw [amS_app o ls v ds d m (by omega), usS_app ds d (m + 1) h, getD_app ds d (by omega)]
    rfl
/-- words behind the draws stay -/
theorem amS_get {l ls : List (BitVec 64)} {o : List (BitVec 64)} {v : Nat → BitVec 64} : ∀ {m ds k}, drS l ls m = some (ds, k) → ∀ i, k ≤ i → (amS o ls v ds m).getD i 0 = o.getD i 0
  | 0, ds, k, h, i, _ => rfl
  | m + 1, ds, k, h, i, hi => by
    obtain ⟨ds0, k0, j, h0, hl, h1, h2, h3, h4, rfl, rfl⟩ := drS_prev h
    have hu := drS_us h
    show (List.set _ _ _).getD i 0 = _
    rw [hu, List.getD_eq_getElem?_getD, List.getElem?_set, if_neg (by omega), ← List.getD_eq_getElem?_getD, amS_app _ _ _ _ _ _ (by omega)]
    exact amS_get h0 i (by omega)
/-- the same draws with other numbers -/
def nmS (v : Nat → BitVec 64) (ds : List Drw) : List Drw := (List.range ds.length).map fun i => (v i, (ds.getD i dz).2.1, (ds.getD i dz).2.2)
theorem nmS_len (v : Nat → BitVec 64) (ds : List Drw) : (nmS v ds).length = ds.length := by unfold nmS; simp
theorem nmS_get (v : Nat → BitVec 64) (ds : List Drw) {i : Nat} (h : i < ds.length) : (nmS v ds).getD i dz = (v i, (ds.getD i dz).2.1, (ds.getD i dz).2.2) := by
  unfold nmS; rw [List.getD_eq_getElem?_getD, List.getElem?_map, List.getElem?_range h]; rfl
theorem nmS_app (v : Nat → BitVec 64) (ds : List Drw) (d : Drw) : nmS v (ds ++ [d]) = nmS v ds ++ [(v ds.length, d.2.1, d.2.2)] := by
  unfold nmS
  rw [List.length_append, List.length_singleton, List.range_succ, List.map_append]
  congr 1
  · apply List.map_congr_left
    intro i hi
    rw [getD_app ds d (by simpa using hi)]
  · show [(v ds.length, ((ds ++ [d]).getD ds.length dz).2.1, ((ds ++ [d]).getD ds.length dz).2.2)] = [_]
    rw [getD_last]
/-- what an aimed row tells -/
theorem amS_tells {l ls : List (BitVec 64)} {v : Nat → BitVec 64} : ∀ {m ds k}, drS l ls m = some (ds, k) → (∀ i, i < m → (v i).toNat < (ls.getD i 0).toNat) → drS (amS l ls v ds m) ls m = some (nmS v ds, k)
  | 0, ds, k, h, _ => by cases h; rfl
  | m + 1, ds, k, h, hv => by
    obtain ⟨ds0, k0, j, h0, hl, h1, h2, h3, h4, rfl, rfl⟩ := drS_prev h
    have hu := drS_us h
    have ih := amS_tells (v := v) h0 (fun i hi => hv i (by omega))
    have hn0 := takO_ne h4
    have ht := takO_tak h4
    have hd : (ds0 ++ [drw l (ls.getD m 0) k0 j]).getD m dz = drw l (ls.getD m 0) k0 j := by rw [← hl]; exact getD_last _ _
    have hw := wrdN_all (v m) (rnkN (l.getD j 0) (ls.getD m 0)) (ls.getD m 0) hn0 (hv m (by omega)) (rnk_ltN _ _ hn0 ht)
    obtain ⟨y, hy⟩ : ∃ y, wrdN (v m) (rnkN (l.getD j 0) (ls.getD m 0)) (ls.getD m 0) = y := ⟨_, rfl⟩
    rw [hy] at hw
    have hA : amS l ls v (ds0 ++ [drw l (ls.getD m 0) k0 j]) (m + 1) = (amS l ls v ds0 m).set j y := by
      show (amS l ls v _ m).set (usS _ (m + 1) - 1) (wrdN (v m) _ (ls.getD m 0)) = _
      rw [hu, hd, amS_app _ _ _ _ _ _ (by omega), ← hy]
      rfl
    rw [hA]
    have hlen : j < (amS l ls v ds0 m).length := by rw [amS_len]; exact h2
    have hg : ∀ q, k0 ≤ q → q < j → ((amS l ls v ds0 m).set j y).getD q 0 = l.getD q 0 := fun q a b => by
      rw [List.getD_eq_getElem?_getD, List.getElem?_set, if_neg (by omega), ← List.getD_eq_getElem?_getD]
      exact amS_get h0 q a
    have hgj : ((amS l ls v ds0 m).set j y).getD j 0 = y := by
      rw [List.getD_eq_getElem?_getD, List.getElem?_set, if_pos rfl, if_pos hlen]; rfl
    have hn := drS_next (j := j) (drS_set (x := y) ih h1) h1 (by rw [List.length_set]; exact hlen) (fun q a b => by rw [hg q a b]; exact h3 q a b) (by
      rw [hgj]
      unfold takO
      rw [if_neg hn0]
      exact hw.1)
    rw [hn, nmS_app, hl]
    congr 3
    unfold drw
    rw [hgj, hw.2.1, hw.2.2]
/-- aimed back it is as it was -/
theorem amS_swap {ls : List (BitVec 64)} {v : Nat → BitVec 64} {j : Nat} {y : BitVec 64} : ∀ {l m ds k} (o : List (BitVec 64)), drS l ls m = some (ds, k) → k ≤ j → amS (o.set j y) ls v ds m = (amS o ls v ds m).set j y
  | l, 0, ds, k, o, h, _ => rfl
  | l, m + 1, ds, k, o, h, hk => by
    obtain ⟨ds0, k0, i, h0, hl, h1, h2, h3, h4, rfl, rfl⟩ := drS_prev h
    have hu := drS_us h
    show (amS (o.set j y) ls v _ m).set (usS _ (m + 1) - 1) _ = ((amS o ls v _ m).set (usS _ (m + 1) - 1) _).set j y
    rw [hu, amS_app _ _ _ _ _ _ (by omega), amS_app _ _ _ _ _ _ (by omega), amS_swap o h0 (by omega), List.set_comm _ _ (by omega)]
theorem amS_back {l ls : List (BitVec 64)} {v : Nat → BitVec 64} : ∀ {m ds k}, drS l ls m = some (ds, k) → ∀ {u : Nat → BitVec 64}, (∀ i, i < m → u i = (ds.getD i dz).1) → amS (amS l ls v ds m) ls u ds m = l
  | 0, ds, k, h, u, _ => rfl
  | m + 1, ds, k, h, u, hu2 => by
    obtain ⟨ds0, k0, j, h0, hl, h1, h2, h3, h4, rfl, rfl⟩ := drS_prev h
    have hu := drS_us h
    have hn0 := takO_ne h4
    have ht := takO_tak h4
    have hd : (ds0 ++ [drw l (ls.getD m 0) k0 j]).getD m dz = drw l (ls.getD m 0) k0 j := by rw [← hl]; exact getD_last _ _
    have hb := wrdN_back (l.getD j 0) (ls.getD m 0) hn0 ht
    have hum : u m = telN (l.getD j 0) (ls.getD m 0) := by rw [hu2 m (by omega), hd]; rfl
    show (amS ((amS l ls v _ m).set (usS _ (m + 1) - 1) _) ls u _ m).set (usS _ (m + 1) - 1) (wrdN (u m) _ (ls.getD m 0)) = l
    rw [hu, hd, hum, amS_app l _ _ _ _ _ (by omega), amS_app _ _ _ _ _ _ (by omega), show j + 1 - 1 = j by omega, amS_swap _ h0 h1, amS_back h0 (fun i hi => by rw [hu2 i (by omega), getD_app _ _ (by omega)])]
    show ((l.set j _).set j (wrdN (telN (l.getD j 0) (ls.getD m 0)) (rnkN (l.getD j 0) (ls.getD m 0)) (ls.getD m 0))) = l
    rw [List.set_set, hb]
    apply List.ext_getElem (by rw [List.length_set])
    intro i a b
    rw [List.getElem_set]
    by_cases e : j = i
    · subst e; rw [if_pos rfl, List.getD_eq_getElem?_getD, List.getElem?_eq_getElem h2]; rfl
    · rw [if_neg e]
/-- of the aimed row's draws: its ranks are as before -/
theorem amS_nm (o ls : List (BitVec 64)) (u v : Nat → BitVec 64) (ds : List Drw) : ∀ m, m ≤ ds.length → amS o ls u (nmS v ds) m = amS o ls u ds m ∧ usS (nmS v ds) m = usS ds m
  | 0, _ => ⟨rfl, rfl⟩
  | m + 1, h => by
    obtain ⟨h1, h2⟩ := amS_nm o ls u v ds m (by omega)
    have e : usS (nmS v ds) (m + 1) = usS ds (m + 1) := by
      show usS (nmS v ds) m + ((nmS v ds).getD m dz).2.2 = usS ds m + (ds.getD m dz).2.2
      rw [h2, nmS_get v ds (by omega)]
    refine ⟨?_, e⟩
    show (amS o ls u (nmS v ds) m).set (usS (nmS v ds) (m + 1) - 1) (wrdN (u m) ((nmS v ds).getD m dz).2.1 (ls.getD m 0)) = _
    rw [h1, e, nmS_get v ds (by omega)]
    rfl
end Go.Proofs.YtdjlbpgjbgepdaaGreat
namespace Go.Proofs.YtdjlbpgjbgepdaaGreat
open Go Go.RowKit Go.Bv
set_option linter.unusedVariables false
theorem drS_rank {l ls : List (BitVec 64)} : ∀ {m ds k}, drS l ls m = some (ds, k) → ∀ i, i < m → ¬ ls.getD i 0 = 0#64 ∧ ((ds.getD i dz).2.1).toNat < eachN (ls.getD i 0) ∧ 1 ≤ (ds.getD i dz).2.2 ∧ usS ds (i + 1) ≤ k
  | 0, ds, k, _, i, hi => by omega
  | m + 1, ds, k, h, i, hi => by
    have hu := drS_us h
    obtain ⟨ds0, k0, j, h0, hl, h1, h2, h3, h4, rfl, rfl⟩ := drS_prev h
    by_cases e : i = m
    · subst e
      have hn0 := takO_ne h4
      have ht := takO_tak h4
      rw [← hl, getD_last, hl]
      refine ⟨hn0, rnk_ltN _ _ hn0 ht, ?_, ?_⟩
      · show 1 ≤ j + 1 - k0
        omega
      · rw [← hl] at hu ⊢; omega
    · obtain ⟨a1, a2, a3, a4⟩ := drS_rank h0 i (by omega)
      rw [getD_app _ _ (by omega), usS_app _ _ _ (by omega)]
      exact ⟨a1, a2, a3, by omega⟩
theorem ow_q {w : World} {base g n cap : Nat} {e : TypeId} {l : List (BitVec 64)} (h : w.ownsRow base e 1 (.slice (some ⟨g, 0, none⟩) n cap) n (l.map fun x => .int .u64 (W64 x))) {k : Nat} (hk : k < n) : w.cell? ⟨g, k, none⟩ = some (.int .u64 (W64 (l.getD k 0))) ∧ w.frozen? ⟨g, k, none⟩ = false := by
  have hl : l.length = n := by have := h.1; rw [List.length_map] at this; omega
  refine ow_cell h ?_
  rw [List.getElem?_map, List.getD_eq_getElem?_getD, List.getElem?_eq_getElem (by omega)]
  rfl
end Go.Proofs.YtdjlbpgjbgepdaaGreat
namespace Go.Proofs.YtdjlbpgjbgepdaaGreat
open Go Go.RowKit Go.Bv
set_option linter.unusedVariables false
set_option maxRecDepth 100000 in
set_option maxHeartbeats 2000000 in
theorem ranks_40 (a b : Option Addr) (n ca cb : Nat) (ds ds2 : List Drw) (w : World) (ha : KRow w a n ca ds) (hb : KRow w b n cb ds2) (hs : ∀ i, i < n → (ds2.getD i dz).2 = (ds.getD i dz).2) :
    Calls Tryz.prog 21 #[.slice a n ca, .slice b n cb] w fun e w' => e = .returned (.bool true) ∧ New w w' := by
  have hm := ha.most
  have HA := Lib.hid ha
  have HB := Lib.hid hb
  have HS := Lib.hid hs
  clear ha hb hs
  go_enter Tryz.func21, Tryz.ntmps21
  go_wp2_with fail
  go_loopw [13] (fun iv wr => ∃ k : Nat, k ≤ n ∧ iv = .int .i64 (k : Int) ∧ New w wr) (fun iv _ => n - (intOf iv).toNat)
  case atStart => exact ⟨0, Nat.zero_le _, rfl, New.refl _⟩
  case round =>
    obtain ⟨k, hk, rfl, hnew⟩ := hrel
    by_cases hlt : (k : Int) < (n : Int)
    · have hk0 : (0 : Int) ≤ (k : Int) := by omega
      obtain ⟨b1, o1, rfl, h1⟩ := (HA.out.stay hnew).addr (by omega)
      obtain ⟨b2, o2, rfl, h2⟩ := (HB.out.stay hnew).addr (by omega)
      obtain ⟨p0, p1, p2⟩ := h1 k (by omega)
      obtain ⟨q0, q1, q2⟩ := h2 k (by omega)
      rw [HS.out k (by omega)] at q1 q2
      clear h1 h2 p0 q0
      obtain ⟨⟨x, y, u⟩, hd⟩ : ∃ d, ds.getD k dz = d := ⟨_, rfl⟩
      rw [hd] at p1 p2 q1 q2
      clear hd
      simp only at p1 p2 q1 q2
      have z1 : (W64 y != W64 y) = false := by simp
      have z2 : ((u : Int) != (u : Int)) = false := by simp
      go_wp2
      go_quiet (fail)
      go_wp2
      exact ⟨⟨k + 1, by omega, by go_num, hnew.drewN nq⟩, by simp [intOf]; omega⟩
    · obtain rfl : k = n := by omega
      go_wp2
      go_ret
      exact ⟨rfl, hnew⟩
end Go.Proofs.YtdjlbpgjbgepdaaGreat
end
