/- Rows of draws: plain lemmas; what a tape's words tell of limits, one behind the other. · Rows of draws: the document's Row and Same; limits and counts. · Rows of draws: Row of no words; Same; the document's Take of an order. -/
import Derived.Test.YtbjclkjikclljaaLemZ
import Derived.Test.YtbjclkjikclljaaShfM
import Derived.Test.YtbjclkjikclljaaShfE
namespace Go.Bv
open Go Go.RowKit
set_option linter.unusedVariables false
/-- a draw: the number, its rank, how many words came -/
abbrev Drw := BitVec 64 × BitVec 64 × Nat
def drC (d : Drw) : List Value := [.int .u64 (W64 d.1), .int .u64 (W64 d.2.1), .int .i64 (d.2.2 : Int)]
def drCs : List Drw → List Value
  | [] => []
  | d :: ds => drC d ++ drCs ds
theorem drCs_len : ∀ ds, (drCs ds).length = ds.length * 3
  | [] => rfl
  | d :: ds => by
    show (drC d ++ drCs ds).length = _
    rw [List.length_append, drCs_len ds, List.length_cons]
    show 3 + ds.length * 3 = (ds.length + 1) * 3
    omega
theorem drCs_snoc (d : Drw) : ∀ ds, drCs (ds ++ [d]) = drCs ds ++ drC d
  | [] => by show drC d ++ [] = [] ++ drC d; simp
  | e :: ds => by
    show drC e ++ drCs (ds ++ [d]) = (drC e ++ drCs ds) ++ drC d
    rw [drCs_snoc d ds, List.append_assoc]
def dz : Drw := (0#64, 0#64, 0)
theorem drCs_get : ∀ (ds : List Drw) (i j : Nat), i < ds.length → j < 3 → (drCs ds)[i * 3 + j]? = (drC (ds.getD i dz))[j]?
  | [], i, j, h, _ => absurd h (by simp)
  | d :: ds, i, j, h, hj => by
    show (drC d ++ drCs ds)[i * 3 + j]? = _
    have h3 : (drC d).length = 3 := rfl
    cases i with
    | zero =>
      rw [Nat.zero_mul, Nat.zero_add, List.getElem?_append_left (by omega)]; rfl
    | succ i =>
      rw [List.getElem?_append_right (by omega), h3, show (i + 1) * 3 + j - 3 = i * 3 + j by omega]
      have := drCs_get ds i j (by simp at h; omega) hj
      rw [this]; rfl
/-- a slice of draws that reads as ds -/
structure KRow (w : World) (a : Option Addr) (len cap : Nat) (ds : List Drw) : Prop where
  len_eq : ds.length = len
  le : len ≤ cap
  most : len ≤ 1000000
  room : cap ≤ 9223372036854775807
  none : a = none → len = 0 ∧ cap = 0
  cell : ∀ b off, a = some ⟨b, off, Option.none⟩ → ∀ i, i < len → w.cell? ⟨b, off + i * 3, Option.none⟩ = some (.int .u64 (W64 (ds.getD i dz).1)) ∧ w.cell? ⟨b, off + i * 3 + 1, Option.none⟩ = some (.int .u64 (W64 (ds.getD i dz).2.1)) ∧ w.cell? ⟨b, off + i * 3 + 2, Option.none⟩ = some (.int .i64 ((ds.getD i dz).2.2 : Int))
  spot : ∀ x, a = some x → 0 < len → x.spot = Option.none
  old : ∀ x, a = some x → 0 < len → x.block < w.heap.size
theorem KRow.stay {w w' : World} {a : Option Addr} {len cap : Nat} {l : List Drw} (h : KRow w a len cap l) (hn : New w w') : KRow w' a len cap l where
  len_eq := h.len_eq
  le := h.le
  most := h.most
  room := h.room
  none := h.none
  cell := fun b off e i hi => by
    have hb := h.old _ e (by omega)
    rw [hn.cell (a := ⟨b, off + i * 3, Option.none⟩) hb, hn.cell (a := ⟨b, off + i * 3 + 1, Option.none⟩) hb, hn.cell (a := ⟨b, off + i * 3 + 2, Option.none⟩) hb]; exact h.cell b off e i hi
  spot := h.spot
  old := fun x e h0 => Nat.lt_of_lt_of_le (h.old x e h0) hn.le
theorem KRow.addr {w : World} {a : Option Addr} {len cap : Nat} {l : List Drw} (h : KRow w a len cap l) (h0 : 0 < len) :
    ∃ b off, a = some ⟨b, off, Option.none⟩ ∧ ∀ i, i < len → w.cell? ⟨b, off + i * 3, Option.none⟩ = some (.int .u64 (W64 (l.getD i dz).1)) ∧ w.cell? ⟨b, off + i * 3 + 1, Option.none⟩ = some (.int .u64 (W64 (l.getD i dz).2.1)) ∧ w.cell? ⟨b, off + i * 3 + 2, Option.none⟩ = some (.int .i64 ((l.getD i dz).2.2 : Int)) := by
  cases a with
  | none => have := (h.none rfl).1; omega
  | some x =>
    obtain ⟨b, off, sp⟩ := x
    obtain rfl : sp = Option.none := h.spot _ rfl h0
    exact ⟨b, off, rfl, h.cell b off rfl⟩
theorem KRow.of_owns {w : World} {base : Nat} {e : TypeId} {v : Value} {n : Nat} {ds : List Drw} (h : w.ownsRow base e 3 v n (drCs ds)) (hn : n ≤ 1000000) :
    ∃ a cap, v = .slice a n cap ∧ KRow w a n cap ds := by
  obtain ⟨hl, h⟩ := h
  rw [drCs_len] at hl
  have hl2 : ds.length = n := by omega
  rcases h with ⟨rfl, rfl⟩ | ⟨g, cap, cur, rfl, _, hc, hle, hm, hs, ht⟩
  · exact ⟨Option.none, 0, rfl, ⟨hl2, Nat.le_refl _, by omega, by omega, fun _ => ⟨rfl, rfl⟩, (fun _ _ e => by cases e), (fun _ e => by cases e), (fun _ e => by cases e)⟩⟩
  · have hcell : ∀ i j, i < n → j < 3 → w.cell? ⟨g, 0 + i * 3 + j, Option.none⟩ = (drC (ds.getD i dz))[j]? := by
      intro i j hi hj
      have e1 : (cur.toList.take (n * 3))[i * 3 + j]? = (drC (ds.getD i dz))[j]? := by
        rw [ht, drCs_get ds i j (by omega) hj]
      rw [List.getElem?_take, if_pos (by omega)] at e1
      rw [Nat.zero_add]
      unfold World.cell?
      simp only [hc]
      simpa using e1
    refine ⟨some ⟨g, 0, Option.none⟩, cap, rfl, ⟨hl2, hle, hn, by unfold maxLen at hm; omega, (fun e => by cases e), ?_, ?_, ?_⟩⟩
    · intro b off e i hi; cases e
      exact ⟨hcell i 0 hi (by omega), hcell i 1 hi (by omega), hcell i 2 hi (by omega)⟩
    · intro x e _; cases e; rfl
    · intro x e h0; cases e; exact lt_of_block hc
theorem nil_krow (w : World) : KRow w none 0 0 [] := ⟨rfl, Nat.le_refl _, by omega, by omega, (fun _ => ⟨rfl, rfl⟩), (fun b off e => by cases e), (fun x e => by cases e), (fun x e => by cases e)⟩
/-- a row of one's own where its block is as it was -/
theorem ow_blk {w w' : World} {base size : Nat} {e : TypeId} {v : Value} {n : Nat} {xs : List Value} (h : w.ownsRow base e size v n xs) (hb : ∀ g, v.ownBlock = some g → w'.heap[g]? = w.heap[g]?) : w'.ownsRow base e size v n xs := by
  refine ⟨h.1, ?_⟩
  rcases h.2 with h2 | ⟨g, cap, cur, rfl, hg, hc, rest⟩
  · exact .inl h2
  · exact .inr ⟨g, cap, cur, rfl, hg, (hb g rfl).trans hc, rest⟩
theorem ow_lt {w : World} {base size : Nat} {e : TypeId} {v : Value} {n : Nat} {xs : List Value} (h : w.ownsRow base e size v n xs) : ∀ g, v.ownBlock = some g → base ≤ g ∧ g < w.heap.size := by
  intro g hg
  rcases h.2 with ⟨rfl, _⟩ | ⟨g', cap, cur, rfl, hb, hc, _⟩
  · cases hg
  · have e : g' = g := by simpa [Value.ownBlock] using hg
    subst e
    exact ⟨hb, lt_of_block hc⟩
theorem ow_far3 {w : World} {base n size : Nat} {e : TypeId} {v : Value} {xs : List Value} (h : w.ownsRow base e size v n xs) {a : Addr} (hv : v.ownBlock ≠ some a.block) (u : Value) : (w.setCell a u).ownsRow base e size v n xs :=
  ow_blk h (fun g hg => heap_setCell_other _ _ _ _ (fun e => hv (by rw [hg, e])))
end Go.Bv
namespace Go.Proofs.Ytbjclkjikclljaa
open Go Go.RowKit Go.Bv
set_option linter.unusedVariables false
/-- the first word from k on that is taken -/
def fstG (l : List (BitVec 64)) (n : BitVec 64) : Nat → Nat → Nat
  | 0, k => k
  | f + 1, k => if takO (l.getD k 0) n then k else fstG l n f (k + 1)
def fstT (l : List (BitVec 64)) (n : BitVec 64) (k : Nat) : Nat := fstG l n (l.length - k) k
theorem fstG_yes {l : List (BitVec 64)} {n : BitVec 64} : ∀ {f k j}, k ≤ j → j < k + f → (∀ i, k ≤ i → i < j → takO (l.getD i 0) n = false) → takO (l.getD j 0) n = true → fstG l n f k = j
  | 0, k, j, h1, h2, _, _ => by omega
  | f + 1, k, j, h1, h2, h3, h4 => by
    show (if takO (l.getD k 0) n then k else fstG l n f (k + 1)) = j
    by_cases e : k = j
    · subst e; rw [h4]; rfl
    · rw [h3 k (Nat.le_refl _) (by omega)]
      exact fstG_yes (by omega) (by omega) (fun i a b => h3 i (by omega) b) h4
theorem fstG_no {l : List (BitVec 64)} {n : BitVec 64} : ∀ {f k}, (∀ i, k ≤ i → i < k + f → takO (l.getD i 0) n = false) → fstG l n f k = k + f
  | 0, k, _ => rfl
  | f + 1, k, h => by
    show (if takO (l.getD k 0) n then k else fstG l n f (k + 1)) = _
    rw [h k (Nat.le_refl _) (by omega)]
    have := fstG_no (l := l) (n := n) (f := f) (k := k + 1) (fun i a b => h i (by omega) (by omega))
    show fstG l n f (k + 1) = _
    rw [this]; omega
theorem fstT_yes {l : List (BitVec 64)} {n : BitVec 64} {k j : Nat} (h1 : k ≤ j) (h2 : j < l.length) (h3 : ∀ i, k ≤ i → i < j → takO (l.getD i 0) n = false) (h4 : takO (l.getD j 0) n = true) : fstT l n k = j := fstG_yes h1 (by omega) h3 h4
theorem fstT_no {l : List (BitVec 64)} {n : BitVec 64} {k : Nat} (hk : k ≤ l.length) (h : ∀ i, k ≤ i → i < l.length → takO (l.getD i 0) n = false) : fstT l n k = l.length := by
  unfold fstT
  rw [fstG_no (fun i a b => h i a (by omega))]; omega
/-- the draw of a limit from k on, told at j -/
def drw (l : List (BitVec 64)) (n : BitVec 64) (k j : Nat) : Drw := (telN (l.getD j 0) n, rnkN (l.getD j 0) n, j + 1 - k)
/-- the draws of the first m limits, and how many words came -/
def drS (l ls : List (BitVec 64)) : Nat → Option (List Drw × Nat)
  | 0 => some ([], 0)
  | m + 1 => match drS l ls m with
    | none => none
    | some r => if fstT l (ls.getD m 0) r.2 < l.length then some (r.1 ++ [drw l (ls.getD m 0) r.2 (fstT l (ls.getD m 0) r.2)], fstT l (ls.getD m 0) r.2 + 1) else none
theorem drS_next {l ls : List (BitVec 64)} {m : Nat} {ds : List Drw} {k j : Nat} (h : drS l ls m = some (ds, k)) (h1 : k ≤ j) (h2 : j < l.length) (h3 : ∀ i, k ≤ i → i < j → takO (l.getD i 0) (ls.getD m 0) = false) (h4 : takO (l.getD j 0) (ls.getD m 0) = true) : drS l ls (m + 1) = some (ds ++ [drw l (ls.getD m 0) k j], j + 1) := by
  show (match drS l ls m with | none => none | some r => _) = _
  rw [h]
  show (if fstT l (ls.getD m 0) k < l.length then _ else none) = _
  rw [fstT_yes h1 h2 h3 h4, if_pos h2]
theorem drS_few {l ls : List (BitVec 64)} {m : Nat} {ds : List Drw} {k : Nat} (h : drS l ls m = some (ds, k)) (hk : k ≤ l.length) (h3 : ∀ i, k ≤ i → i < l.length → takO (l.getD i 0) (ls.getD m 0) = false) : drS l ls (m + 1) = none := by
  show (match drS l ls m with | none => none | some r => _) = _
  rw [h]
  show (if fstT l (ls.getD m 0) k < l.length then _ else none) = _
  rw [fstT_no hk h3, if_neg (by omega)]
theorem drS_none {l ls : List (BitVec 64)} {m : Nat} (h : drS l ls m = none) : ∀ d, drS l ls (m + d) = none
  | 0 => h
  | d + 1 => by
    show (match drS l ls (m + d) with | none => none | some r => _) = _
    rw [drS_none h d]
theorem drS_len {l ls : List (BitVec 64)} : ∀ {m ds k}, drS l ls m = some (ds, k) → ds.length = m ∧ k ≤ l.length
  | 0, ds, k, h => by
    have h' : some (([] : List Drw), 0) = some (ds, k) := h
    cases h'; exact ⟨rfl, Nat.zero_le _⟩
  | m + 1, ds, k, h => by
    have h' : (match drS l ls m with | none => none | some r => if fstT l (ls.getD m 0) r.2 < l.length then some (r.1 ++ [drw l (ls.getD m 0) r.2 (fstT l (ls.getD m 0) r.2)], fstT l (ls.getD m 0) r.2 + 1) else none) = some (ds, k) := h
    rcases hm : drS l ls m with _ | ⟨ds0, k0⟩
    · rw [hm] at h'; cases h'
    · rw [hm] at h'
      have h0 := drS_len hm
      by_cases hc : fstT l (ls.getD m 0) k0 < l.length
      · simp only [if_pos hc] at h'
        cases h'
        exact ⟨by simp [h0.1], hc⟩
      · simp only [if_neg hc] at h'
        cases h'
end Go.Proofs.Ytbjclkjikclljaa
namespace Go.Proofs.Ytbjclkjikclljaa
open Go Go.RowKit Go.Bv
set_option linter.unusedVariables false
theorem info_drw : (Try.prog.info? 80).map (fun i => (i.zero, i.size, i.bytes)) = some (some (.agg #[.int .u64 0, .int .u64 0, .int .i64 0]), 3, 24) := by kernel_rfl
theorem drw_cells (w : World) (x y : BitVec 64) (u : Nat) (t : TypeId) : ∀ j v, (drC (x, y, u))[j]? = some v → (w.alloc (.cells #[.int .u64 (W64 x), .int .u64 (W64 y), .int .i64 (u : Int)] t)).cell? ((⟨w.heap.size, 0, none⟩ : Addr).add j) = some v := by
  intro j v h
  rw [add_plain, Nat.zero_add, World.cell?_alloc_new]
  simpa [drC] using h
theorem drw_one (x y : BitVec 64) (u : Nat) : ∀ v ∈ drC (x, y, u), v.oneCell' = true := by
  intro v hv
  simp [drC] at hv
  rcases hv with rfl | rfl | rfl <;> rfl
/-- limits of an order of n -/
def lmL (n : Nat) : List (BitVec 64) := (List.range (n - 1)).map fun m => BitVec.ofNat 64 (n - m)
theorem lmL_len (n : Nat) : (lmL n).length = n - 1 := by unfold lmL; simp
theorem lmL_get {n m : Nat} (h : m < n - 1) : (lmL n).getD m 0 = BitVec.ofNat 64 (n - m) := by
  unfold lmL; rw [List.getD_eq_getElem?_getD, List.getElem?_map, List.getElem?_range h]; rfl
def lmP (n m : Nat) : List (BitVec 64) := (List.range m).map fun m => BitVec.ofNat 64 (n - m)
theorem lmP_succ (n m : Nat) : lmP n (m + 1) = lmP n m ++ [BitVec.ofNat 64 (n - m)] := by unfold lmP; rw [List.range_succ, List.map_append]; rfl
def cntE (n : Int) : Int := if n < 0 then 1 else if 256 < n then 9 else 0
theorem qrow_rest {w : World} {b off nl c k : Nat} {l : List (BitVec 64)} (h : QRow w (some ⟨b, off, none⟩) nl c l) (hk : k ≤ nl) : QRow w (some ⟨b, off + k, none⟩) (nl - k) (c - k) (l.drop k) := by
  have h1 := h.slice k (nl - k) (c - k) (by omega) (by have := h.le; omega) (by have := h.room; omega)
  rw [List.take_of_length_le (by rw [List.length_drop, h.len_eq]; exact Nat.le_refl _)] at h1
  exact h1
theorem qrow_empty {w : World} {b off : Nat} : QRow w (some ⟨b, off, none⟩) 0 0 [] := ⟨rfl, Nat.le_refl _, by omega, by omega, (fun _ => ⟨rfl, rfl⟩), (fun _ _ _ i hi => absurd hi (by omega)), (fun _ _ h => absurd h (by omega)), (fun _ _ h => absurd h (by omega))⟩
theorem drop_get (l : List (BitVec 64)) (k i : Nat) : (l.drop k).getD i 0 = l.getD (k + i) 0 := by
  rw [List.getD_eq_getElem?_getD, List.getElem?_drop, ← List.getD_eq_getElem?_getD]
set_option maxRecDepth 100000 in
set_option maxHeartbeats 4000000 in
theorem row38_q (a b : Option Addr) (nl c ns cs : Nat) (l ls : List (BitVec 64)) (w : World) (hl : QRow w a nl c l) (hls : QRow w b ns cs ls) (hn1 : 0 < nl) (hns : ns ≤ 100000) :
    Calls Try.prog 38 #[.slice a nl c, .slice b ns cs] w fun e w' => ((∃ ds k a' c', drS l ls ns = some (ds, k) ∧ e = .returned (.tuple #[.slice a' (ns : Nat) c', .int .i64 (k : Nat), .bool true]) ∧ KRow w' a' ns c' ds) ∨ (drS l ls ns = none ∧ e = .returned (.tuple #[.slice none 0 0, .int .i64 (nl : Nat), .bool false]))) ∧ New w w' := by
  obtain ⟨i0, hi, hz0, hz1, hz2⟩ := info_parts info_drw
  obtain ⟨bl, ol, rfl, _⟩ := hl.addr hn1
  have hlc := hl.le
  have hlm := hl.most
  have hlr := hl.room
  have HL := Lib.hid hl
  have HLS := Lib.hid hls
  have HLE := Lib.hid hl.len_eq
  clear hl hls
  go_enter Try.func38, Try.ntmps38
  go_wp2_with fail
  go_loopw [7, 8, 15] (fun dv uv iv wr => ∃ (m : Nat) (ds : List Drw) (k : Nat), m ≤ ns ∧ iv = .int .i64 (m : Int) ∧ uv = .int .i64 (k : Nat) ∧ Hid (drS l ls m = some (ds, k)) ∧ wr.ownsRow w.heap.size 80 3 dv m (drCs ds) ∧ New w wr) (fun _ _ iv _ => ns - (intOf iv).toNat)
  case atStart => exact ⟨0, [], 0, Nat.zero_le _, rfl, rfl, Lib.hid rfl, World.ownsRow_nil w _ _ 3, New.refl w⟩
  case round =>
    obtain ⟨m, ds, k, hm, rfl, rfl, HS, hown, hnew⟩ := hrel
    have HO := Lib.hid hown
    have HN := Lib.hid hnew
    obtain ⟨wq, hwq⟩ : ∃ z, z = wr := ⟨_, rfl⟩
    rw [← hwq] at HO HN ⊢
    clear hown hnew hwq
    have hkl : k ≤ nl := by have := (drS_len HS.out).2; rw [HLE.out] at this; exact this
    by_cases hlt : (m : Int) < (ns : Int)
    · have hm0 : (0 : Int) ≤ (m : Int) := by omega
      obtain ⟨b2, off2, rfl, hc2⟩ := (HLS.out.stay HN.out).addr (by omega)
      have c2 := hc2 m (by omega)
      clear hc2
      have HX := Lib.hid (fun j h1 h2 h3 h4 => drS_next (j := j) HS.out h1 h2 h3 h4)
      have HF := Lib.hid (fun h3 => drS_few HS.out (by rw [HLE.out]; exact hkl) h3)
      obtain ⟨n, hn⟩ : ∃ z, ls.getD m 0 = z := ⟨_, rfl⟩
      rw [hn] at c2 HX HF
      clear hn
      have hk0 : (0 : Int) ≤ (k : Int) := by omega
      have hkc : (k : Int) ≤ (nl : Int) := by omega
      have HT : Hid (∀ (a' : Option Addr) (n' c' : Nat), QRow wq a' n' c' (l.drop k) → Calls Try.prog 45 #[.slice a' n' c', .int .u64 (W64 n)] wq fun e w' => ((∃ j, k ≤ j ∧ j < l.length ∧ (∀ i, k ≤ i → i < j → takO (l.getD i 0) n = false) ∧ takO (l.getD j 0) n = true ∧ e = .returned (.tuple #[.agg #[.int .u64 (W64 (telN (l.getD j 0) n)), .int .u64 (W64 (rnkN (l.getD j 0) n)), .int .i64 ((j + 1 - k : Nat) : Int)], .bool true])) ∨ ((∀ i, k ≤ i → i < l.length → takO (l.getD i 0) n = false) ∧ e = .returned (.tuple #[.agg #[.int .u64 0, .int .u64 0, .int .i64 0], .bool false]))) ∧ New wq w') := Lib.hid (fun a' n' c' hq => (rtake_any a' n' c' _ n wq hq).mono (fun e w' h => by
        rcases h with ⟨h | h, hn⟩
        · obtain ⟨j, h1, h2, h3, h4⟩ := h
          rw [List.length_drop] at h1
          rw [drop_get] at h3 h4
          refine ⟨.inl ⟨k + j, by omega, by omega, fun i hi1 hi2 => ?_, h3, ?_⟩, hn⟩
          · have := h2 (i - k) (by omega)
            rw [drop_get, show k + (i - k) = i by omega] at this
            exact this
          · rw [h4, show k + j + 1 - k = j + 1 by omega]; rfl
        · refine ⟨.inr ⟨fun i hi1 hi2 => ?_, h.2⟩, hn⟩
          have := h.1 (i - k) (by rw [List.length_drop]; omega)
          rw [drop_get, show k + (i - k) = i by omega] at this
          exact this))
      have HQ1 : Hid (c = k → QRow wq (some ⟨bl, ol, none⟩) (nl - k) (c - k) (l.drop k)) := Lib.hid (fun e => by
        have h1 : nl - k = 0 := by omega
        have h2 : c - k = 0 := by omega
        rw [h1, h2, List.drop_eq_nil_of_le (by rw [HLE.out]; omega)]
        exact qrow_empty)
      have HQ2 : Hid (QRow wq (some ⟨bl, ol + k, none⟩) (nl - k) (c - k) (l.drop k)) := Lib.hid (qrow_rest (HL.out.stay HN.out) hkl)
      by_cases hck : (c : Int) = (k : Int)
      · go_wp2_with fail
        refine (HT.out _ _ _ (HQ1.out (by omega))).mono ?_
        rintro e w8 ⟨⟨j, h1, h2, h3, h4, rfl⟩ | ⟨h3, rfl⟩, hn⟩
        · have HD := Lib.hid (HX.out j h1 h2 h3 h4)
          have HJ := Lib.hid (show k ≤ j ∧ j < l.length from ⟨h1, h2⟩)
          clear HX HF HT HQ1 HQ2 h3 h4
          have HDW : Hid (drw l n k j = (telN (l.getD j 0) n, rnkN (l.getD j 0) n, j + 1 - k)) := Lib.hid rfl
          obtain ⟨x, hx⟩ : ∃ z, telN (l.getD j 0) n = z := ⟨_, rfl⟩
          obtain ⟨y, hy⟩ : ∃ z, rnkN (l.getD j 0) n = z := ⟨_, rfl⟩
          obtain ⟨u, hu⟩ : ∃ z, j + 1 - k = z := ⟨_, rfl⟩
          rw [hx, hy, hu] at HDW ⊢
          rw [HDW.out] at HD
          have hku : j + 1 = k + u := by omega
          rw [hku] at HD
          have hw1 : wrap64 ((k : Int) + (u : Int)) = ((k + u : Nat) : Int) := by have := HLE.out; unfold wrap64; omega
          clear hx hy hu HDW
          have hb0 := heap_alloc_new w8 (.cells #[.int .u64 (W64 x), .int .u64 (W64 y), .int .i64 (u : Int)] 80)
          have hown := ow_new HO.out (hn.alloc (.cells #[.int .u64 (W64 x), .int .u64 (W64 y), .int .i64 (u : Int)] 80))
          have hnew := HN.out.trans (hn.alloc (.cells #[.int .u64 (W64 x), .int .u64 (W64 y), .int .i64 (u : Int)] 80))
          have d0 : (w8.alloc (.cells #[.int .u64 (W64 x), .int .u64 (W64 y), .int .i64 (u : Int)] 80)).cell? ⟨w8.heap.size, 0, none⟩ = some (.int .u64 (W64 x)) := cell_of_row _ _ 0 _ _ _ hb0
          have d1 : (w8.alloc (.cells #[.int .u64 (W64 x), .int .u64 (W64 y), .int .i64 (u : Int)] 80)).cell? ⟨w8.heap.size, 1, none⟩ = some (.int .u64 (W64 y)) := cell_of_row _ _ 1 _ _ _ hb0
          have d2 : (w8.alloc (.cells #[.int .u64 (W64 x), .int .u64 (W64 y), .int .i64 (u : Int)] 80)).cell? ⟨w8.heap.size, 2, none⟩ = some (.int .i64 (u : Int)) := cell_of_row _ _ 2 _ _ _ hb0
          have HBX := Lib.hid hb0
          have hl8 : w8.heap.size < (w8.alloc (.cells #[.int .u64 (W64 x), .int .u64 (W64 y), .int .i64 (u : Int)] 80)).heap.size := by simp
          clear hb0
          go_wp2_with (at_builtin; refine wpList_append_own _ rfl _ _ 54 rfl w.heap.size 80 i0 (.agg #[.int .u64 0, .int .u64 0, .int .i64 0]) 3 24 Try.underlying54 hi hz0 hz1 hz2 rfl (by decide) _ m _ rfl (hown.alloc _) ⟨w8.heap.size + 1, 0, none⟩ 1 1 (drC (x, y, u)) rfl rfl ?c1 ?c2 ?c3 ?c4 ?c5 ?_)
          try (case c1 =>
            have h9 := drw_cells (w8.alloc (.cells #[.int .u64 (W64 x), .int .u64 (W64 y), .int .i64 (u : Int)] 80)) x y u 80
            rw [show (w8.alloc (.cells #[.int .u64 (W64 x), .int .u64 (W64 y), .int .i64 (u : Int)] 80)).heap.size = w8.heap.size + 1 by simp] at h9
            exact h9)
          try (case c2 => exact drw_one x y u)
          try (case c3 => unfold maxLen; omega)
          try (case c4 => omega)
          try (case c5 => first | (simp; have := hnew.le; simp at this; omega) | (have := hnew.le; omega))
          intro v' w1 how hgr _
          have HO2 : Hid (w1.ownsRow w.heap.size 80 3 v' (m + 1) (drCs (ds ++ [(x, y, u)]))) := Lib.hid (by
            rw [drCs_snoc]; exact how)
          have HN1 := Lib.hid ((hnew.alloc (.cells #[.int .u64 (W64 x), .int .u64 (W64 y), .int .i64 (u : Int)] 80)).grown' hgr (own_base hown))
          have hbx : w1.heap[w8.heap.size]? = some (.cells #[.int .u64 (W64 x), .int .u64 (W64 y), .int .i64 (u : Int)] 80) := by
            have h9 := hgr.block w8.heap.size (by simp; omega) (fun e' => by
              have h8 := (ow_lt HO.out w8.heap.size e'.symm).2
              have h7 := hn.le
              omega)
            rw [h9, ((New.refl (w8.alloc (.cells #[.int .u64 (W64 x), .int .u64 (W64 y), .int .i64 (u : Int)] 80))).alloc _).block _ (by simp)]
            exact HBX.out
          have d3 : w1.cell? ⟨w8.heap.size, 2, none⟩ = some (.int .i64 (u : Int)) := cell_of_row _ _ 2 _ _ _ hbx
          clear how hgr hown hnew d0 d1 d2 hbx hn
          go_wp2
          exact ⟨⟨m + 1, _, _, by omega, by go_num, by rw [hw1], HD, HO2.out, HN1.out⟩, by simp [intOf]; omega⟩
        · have HD := Lib.hid (HF.out h3)
          have HNO : Hid (drS l ls ns = none) := Lib.hid (by
            have := drS_none HD.out (ns - (m + 1))
            rw [show m + 1 + (ns - (m + 1)) = ns by omega] at this
            exact this)
          replace HN := Lib.hid (HN.out.trans (hn.alloc (.cells #[.int .u64 0, .int .u64 0, .int .i64 0] 80)))
          clear HX HF HT HQ1 HQ2 h3 hn HO
          go_wp2
          refine bodyPost_ret (by simp [results, Try.results38, go_sem]; try rfl) rfl ?_
          exact ⟨.inr ⟨HNO.out, rfl⟩, HN.out⟩
      · go_wp2_with fail
        refine (HT.out _ _ _ (HQ2.out)).mono ?_
        rintro e w8 ⟨⟨j, h1, h2, h3, h4, rfl⟩ | ⟨h3, rfl⟩, hn⟩
        · have HD := Lib.hid (HX.out j h1 h2 h3 h4)
          have HJ := Lib.hid (show k ≤ j ∧ j < l.length from ⟨h1, h2⟩)
          clear HX HF HT HQ1 HQ2 h3 h4
          have HDW : Hid (drw l n k j = (telN (l.getD j 0) n, rnkN (l.getD j 0) n, j + 1 - k)) := Lib.hid rfl
          obtain ⟨x, hx⟩ : ∃ z, telN (l.getD j 0) n = z := ⟨_, rfl⟩
          obtain ⟨y, hy⟩ : ∃ z, rnkN (l.getD j 0) n = z := ⟨_, rfl⟩
          obtain ⟨u, hu⟩ : ∃ z, j + 1 - k = z := ⟨_, rfl⟩
          rw [hx, hy, hu] at HDW ⊢
          rw [HDW.out] at HD
          have hku : j + 1 = k + u := by omega
          rw [hku] at HD
          have hw1 : wrap64 ((k : Int) + (u : Int)) = ((k + u : Nat) : Int) := by have := HLE.out; unfold wrap64; omega
          clear hx hy hu HDW
          have hb0 := heap_alloc_new w8 (.cells #[.int .u64 (W64 x), .int .u64 (W64 y), .int .i64 (u : Int)] 80)
          have hown := ow_new HO.out (hn.alloc (.cells #[.int .u64 (W64 x), .int .u64 (W64 y), .int .i64 (u : Int)] 80))
          have hnew := HN.out.trans (hn.alloc (.cells #[.int .u64 (W64 x), .int .u64 (W64 y), .int .i64 (u : Int)] 80))
          have d0 : (w8.alloc (.cells #[.int .u64 (W64 x), .int .u64 (W64 y), .int .i64 (u : Int)] 80)).cell? ⟨w8.heap.size, 0, none⟩ = some (.int .u64 (W64 x)) := cell_of_row _ _ 0 _ _ _ hb0
          have d1 : (w8.alloc (.cells #[.int .u64 (W64 x), .int .u64 (W64 y), .int .i64 (u : Int)] 80)).cell? ⟨w8.heap.size, 1, none⟩ = some (.int .u64 (W64 y)) := cell_of_row _ _ 1 _ _ _ hb0
          have d2 : (w8.alloc (.cells #[.int .u64 (W64 x), .int .u64 (W64 y), .int .i64 (u : Int)] 80)).cell? ⟨w8.heap.size, 2, none⟩ = some (.int .i64 (u : Int)) := cell_of_row _ _ 2 _ _ _ hb0
          have HBX := Lib.hid hb0
          have hl8 : w8.heap.size < (w8.alloc (.cells #[.int .u64 (W64 x), .int .u64 (W64 y), .int .i64 (u : Int)] 80)).heap.size := by simp
          clear hb0
          go_wp2_with (at_builtin; refine wpList_append_own _ rfl _ _ 54 rfl w.heap.size 80 i0 (.agg #[.int .u64 0, .int .u64 0, .int .i64 0]) 3 24 Try.underlying54 hi hz0 hz1 hz2 rfl (by decide) _ m _ rfl (hown.alloc _) ⟨w8.heap.size + 1, 0, none⟩ 1 1 (drC (x, y, u)) rfl rfl ?c1 ?c2 ?c3 ?c4 ?c5 ?_)
          try (case c1 =>
            have h9 := drw_cells (w8.alloc (.cells #[.int .u64 (W64 x), .int .u64 (W64 y), .int .i64 (u : Int)] 80)) x y u 80
            rw [show (w8.alloc (.cells #[.int .u64 (W64 x), .int .u64 (W64 y), .int .i64 (u : Int)] 80)).heap.size = w8.heap.size + 1 by simp] at h9
            exact h9)
          try (case c2 => exact drw_one x y u)
          try (case c3 => unfold maxLen; omega)
          try (case c4 => omega)
          try (case c5 => first | (simp; have := hnew.le; simp at this; omega) | (have := hnew.le; omega))
          intro v' w1 how hgr _
          have HO2 : Hid (w1.ownsRow w.heap.size 80 3 v' (m + 1) (drCs (ds ++ [(x, y, u)]))) := Lib.hid (by
            rw [drCs_snoc]; exact how)
          have HN1 := Lib.hid ((hnew.alloc (.cells #[.int .u64 (W64 x), .int .u64 (W64 y), .int .i64 (u : Int)] 80)).grown' hgr (own_base hown))
          have hbx : w1.heap[w8.heap.size]? = some (.cells #[.int .u64 (W64 x), .int .u64 (W64 y), .int .i64 (u : Int)] 80) := by
            have h9 := hgr.block w8.heap.size (by simp; omega) (fun e' => by
              have h8 := (ow_lt HO.out w8.heap.size e'.symm).2
              have h7 := hn.le
              omega)
            rw [h9, ((New.refl (w8.alloc (.cells #[.int .u64 (W64 x), .int .u64 (W64 y), .int .i64 (u : Int)] 80))).alloc _).block _ (by simp)]
            exact HBX.out
          have d3 : w1.cell? ⟨w8.heap.size, 2, none⟩ = some (.int .i64 (u : Int)) := cell_of_row _ _ 2 _ _ _ hbx
          clear how hgr hown hnew d0 d1 d2 hbx hn
          go_wp2
          exact ⟨⟨m + 1, _, _, by omega, by go_num, by rw [hw1], HD, HO2.out, HN1.out⟩, by simp [intOf]; omega⟩
        · have HD := Lib.hid (HF.out h3)
          have HNO : Hid (drS l ls ns = none) := Lib.hid (by
            have := drS_none HD.out (ns - (m + 1))
            rw [show m + 1 + (ns - (m + 1)) = ns by omega] at this
            exact this)
          replace HN := Lib.hid (HN.out.trans (hn.alloc (.cells #[.int .u64 0, .int .u64 0, .int .i64 0] 80)))
          clear HX HF HT HQ1 HQ2 h3 hn HO
          go_wp2
          refine bodyPost_ret (by simp [results, Try.results38, go_sem]; try rfl) rfl ?_
          exact ⟨.inr ⟨HNO.out, rfl⟩, HN.out⟩
    · obtain rfl : m = ns := by omega
      obtain ⟨ar, cr, rfl, hq⟩ := KRow.of_owns HO.out (by omega)
      have HQ := Lib.hid hq
      clear hq HO
      go_wp2
      refine bodyPost_ret (by simp [results, Try.results38, go_sem]; try rfl) rfl ?_
      first | exact ⟨.inl ⟨ds, k, ar, cr, HS.out, rfl, HQ.out⟩, HN.out⟩ | exact ⟨.inl ⟨ds, k, HS.out, ar, cr, rfl, HQ.out⟩, HN.out⟩ | exact ⟨.inl ⟨ds, k, HS.out, ar, rfl, HQ.out⟩, HN.out⟩
end Go.Proofs.Ytbjclkjikclljaa
namespace Go.Proofs.Ytbjclkjikclljaa
open Go Go.RowKit Go.Bv
set_option linter.unusedVariables false
set_option maxRecDepth 100000 in
set_option maxHeartbeats 2000000 in
theorem same38_q (a b : Option Addr) (n ca cb : Nat) (ds : List Drw) (w : World) (ha : KRow w a n ca ds) (hb : KRow w b n cb ds) :
    Calls Try.prog 27 #[.slice a n ca, .slice b n cb] w fun e w' => e = .returned (.bool true) ∧ New w w' := by
  have hm := ha.most
  have HA := Lib.hid ha
  have HB := Lib.hid hb
  clear ha hb
  go_enter Try.func27, Try.ntmps27
  go_wp2_with fail
  go_loopw [13] (fun iv wr => ∃ k : Nat, k ≤ n ∧ iv = .int .i64 (k : Int) ∧ New w wr) (fun iv _ => n - (intOf iv).toNat)
  case atStart => exact ⟨0, Nat.zero_le _, rfl, New.refl _⟩
  case round =>
    obtain ⟨k, hk, rfl, hnew⟩ := hrel
    by_cases hlt : (k : Int) < (n : Int)
    · have hk0 : (0 : Int) ≤ (k : Int) := by omega
      obtain ⟨b1, o1, rfl, h1⟩ := (HA.out.stay hnew).addr (by omega)
      obtain ⟨b2, o2, rfl, h2⟩ := (HB.out.stay hnew).addr (by omega)
      obtain ⟨p0, p1, p2⟩ := h1 k (by omega)
      obtain ⟨q0, q1, q2⟩ := h2 k (by omega)
      clear h1 h2
      obtain ⟨⟨x, y, u⟩, hd⟩ : ∃ d, ds.getD k dz = d := ⟨_, rfl⟩
      rw [hd] at p0 p1 p2 q0 q1 q2
      clear hd
      simp only at p0 p1 p2 q0 q1 q2
      go_wp2
      go_quiet (fail)
      go_wp2
      exact ⟨⟨k + 1, by omega, by go_num, hnew.drewN nq⟩, by simp [intOf]; omega⟩
    · obtain rfl : k = n := by omega
      go_wp2
      go_ret
      exact ⟨rfl, hnew⟩
theorem drS_nil {ls : List (BitVec 64)} {m : Nat} (h : 0 < m) : drS [] ls m = none := by
  have h1 : drS [] ls 1 = none := drS_few (l := []) (ls := ls) (m := 0) (ds := []) (k := 0) rfl (Nat.le_refl _) (fun i _ hi => by simp at hi)
  have := drS_none h1 (m - 1)
  rwa [show 1 + (m - 1) = m by omega] at this
set_option maxRecDepth 100000 in
set_option maxHeartbeats 2000000 in
theorem row38_0 (a b : Option Addr) (c ns cs : Nat) (l ls : List (BitVec 64)) (w : World) (hl : QRow w a 0 c l) (hls : QRow w b ns cs ls) (hns : ns ≤ 100000) :
    Calls Try.prog 38 #[.slice a 0 c, .slice b ns cs] w fun e w' => ((∃ ds k a' c', drS l ls ns = some (ds, k) ∧ e = .returned (.tuple #[.slice a' (ns : Nat) c', .int .i64 (k : Nat), .bool true]) ∧ KRow w' a' ns c' ds) ∨ (drS l ls ns = none ∧ e = .returned (.tuple #[.slice none 0 0, .int .i64 ((0 : Nat) : Int), .bool false]))) ∧ New w w' := by
  obtain rfl : l = [] := List.eq_nil_of_length_eq_zero hl.len_eq
  have HLS := Lib.hid hls
  have HL := Lib.hid hl
  rcases ns with _ | ns
  · have HS : Hid (drS [] ls 0 = some ([], 0)) := Lib.hid rfl
    go_enter Try.func38, Try.ntmps38
    go_wp2_with fail
    go_loop [7, 8, 15] (fun d u i => d = .slice none 0 0 ∧ u = .int .i64 0 ∧ i = .int .i64 0) (fun _ _ _ => 0)
    case atStart => exact ⟨rfl, rfl, rfl⟩
    case round =>
      obtain ⟨rfl, rfl, rfl⟩ := hrel
      go_wp2
      go_ret3
      first | exact ⟨.inl ⟨[], 0, none, 0, HS.out, rfl, nil_krow _⟩, New.refl _⟩ | exact ⟨.inl ⟨[], 0, HS.out, none, 0, rfl, nil_krow _⟩, New.refl _⟩ | exact ⟨.inl ⟨[], 0, HS.out, none, rfl, nil_krow _⟩, New.refl _⟩
  · have HS : Hid (drS [] ls (ns + 1) = none) := Lib.hid (drS_nil (by omega))
    obtain ⟨b2, off2, rfl, hc2⟩ := hls.addr (by omega)
    have c2 := hc2 0 (by omega)
    rw [Nat.add_zero] at c2
    clear hc2 hls hl
    obtain ⟨n, hn⟩ : ∃ z, ls.getD 0 0 = z := ⟨_, rfl⟩
    rw [hn] at c2
    clear hn
    have HT := Lib.hid (fun a' c' (h : QRow w a' 0 c' []) => rtake_any a' 0 c' [] n w h)
    go_enter Try.func38, Try.ntmps38
    go_wp2_with fail
    go_loop [7, 8, 15] (fun d u i => d = .slice none 0 0 ∧ u = .int .i64 0 ∧ i = .int .i64 0) (fun _ _ _ => 0)
    case atStart => exact ⟨rfl, rfl, rfl⟩
    case round =>
      obtain ⟨rfl, rfl, rfl⟩ := hrel
      go_wp2_with fail
      refine (HT.out a c HL.out).mono ?_
      rintro e w8 ⟨⟨j, h1, _⟩ | ⟨_, rfl⟩, hn⟩
      · exact absurd h1 (by simp)
      · have HN := Lib.hid (hn.alloc (.cells #[.int .u64 0, .int .u64 0, .int .i64 0] 80))
        clear hn
        go_wp2
        go_ret3
        exact ⟨.inr ⟨HS.out, rfl⟩, HN.out⟩
theorem row38_any (a b : Option Addr) (nl c ns cs : Nat) (l ls : List (BitVec 64)) (w : World) (hl : QRow w a nl c l) (hls : QRow w b ns cs ls) (hns : ns ≤ 100000) :
    Calls Try.prog 38 #[.slice a nl c, .slice b ns cs] w fun e w' => ((∃ ds k a' c', drS l ls ns = some (ds, k) ∧ e = .returned (.tuple #[.slice a' (ns : Nat) c', .int .i64 (k : Nat), .bool true]) ∧ KRow w' a' ns c' ds) ∨ (drS l ls ns = none ∧ e = .returned (.tuple #[.slice none 0 0, .int .i64 (nl : Nat), .bool false]))) ∧ New w w' := by
  rcases nl with _ | nl
  · exact row38_0 a b c ns cs l ls w hl hls hns
  · exact row38_q a b (nl + 1) c ns cs l ls w hl hls (by omega) hns
/-- what the choices of an order are told by draws: those that were told, of n -/
def cdF (n : Nat) (ds : List Drw) (x : Nat) : Nat := if n - 1 - x < ds.length then ((ds.getD (n - 1 - x) dz).1).toNat else 0
theorem ofNat_pos {r : Nat} (h1 : 0 < r) (h2 : r < 18446744073709551616) : ¬ BitVec.ofNat 64 r = 0#64 ∧ (BitVec.ofNat 64 r).toNat = r := by
  have h : (BitVec.ofNat 64 r).toNat = r := by rw [BitVec.toNat_ofNat, Nat.mod_eq_of_lt h2]
  refine ⟨fun e => ?_, h⟩
  rw [e] at h
  simp at h; omega
/-- draws of limits that are not 0 tell numbers below them -/
theorem drS_lt {l ls : List (BitVec 64)} : ∀ {m ds k}, (∀ i, i < m → ¬ ls.getD i 0 = 0#64) → drS l ls m = some (ds, k) → ∀ i, i < m → ((ds.getD i dz).1).toNat < (ls.getD i 0).toNat
  | 0, ds, k, _, _, i, hi => by omega
  | m + 1, ds, k, hz, h, i, hi => by
    have h' : (match drS l ls m with | none => none | some r => if fstT l (ls.getD m 0) r.2 < l.length then some (r.1 ++ [drw l (ls.getD m 0) r.2 (fstT l (ls.getD m 0) r.2)], fstT l (ls.getD m 0) r.2 + 1) else none) = some (ds, k) := h
    rcases hm : drS l ls m with _ | ⟨ds0, k0⟩
    · rw [hm] at h'; cases h'
    · rw [hm] at h'
      have h0 := (drS_len hm).1
      by_cases hc : fstT l (ls.getD m 0) k0 < l.length
      · simp only [if_pos hc] at h'
        cases h'
        by_cases e : i = m
        · subst e
          rw [List.getD_eq_getElem?_getD, List.getElem?_append_right (by omega), h0, Nat.sub_self]
          exact tel_lt _ _ (hz i (by omega))
        · rw [List.getD_eq_getElem?_getD, List.getElem?_append_left (by omega), ← List.getD_eq_getElem?_getD]
          exact drS_lt (fun i hi => hz i (by omega)) hm i (by omega)
      · simp only [if_neg hc] at h'
        cases h'
theorem lm_lt {l : List (BitVec 64)} {n m : Nat} {ds : List Drw} {k : Nat} (hn : n ≤ 1000000) (hm : m ≤ n - 1) (h : drS l (lmL n) m = some (ds, k)) : ∀ i, i < m → ((ds.getD i dz).1).toNat < n - i := by
  intro i hi
  have h1 := drS_lt (fun i hi => by rw [lmL_get (by omega)]; exact (ofNat_pos (by omega) (by omega)).1) h i hi
  rwa [lmL_get (by omega), (ofNat_pos (by omega) (by omega)).2] at h1
theorem cdF_rt {l : List (BitVec 64)} {n : Nat} {ds : List Drw} {k : Nat} (hn : n ≤ 1000000) (h : drS l (lmL n) (n - 1) = some (ds, k)) : rtI (liI (cdF n ds) n) := by
  intro i hi
  rw [liI_len] at hi
  rw [liI_get _ hi]
  have hd := (drS_len h).1
  unfold cdF
  by_cases e : n - 1 - i < ds.length
  · rw [if_pos e]
    have := lm_lt hn (Nat.le_refl _) h (n - 1 - i) (by omega)
    omega
  · rw [if_neg e]; omega
/-- the document's way: of a row the places from the last one down are written -/
def rdL (n : Nat) (ds : List Drw) (k : Nat) : List Int := liI (fun x => if n - 1 - x < k then ((ds.getD (n - 1 - x) dz).1).toNat else x) n
theorem rdL_zero (n : Nat) (ds : List Drw) : rdL n ds 0 = liI (fun x => x) n := liI_ext (fun x _ => by rw [if_neg (by omega)])
theorem rdL_set (n : Nat) (ds : List Drw) (k : Nat) (h : k < n) : (rdL n ds k).set (n - 1 - k) (((ds.getD k dz).1).toNat : Int) = rdL n ds (k + 1) := by
  unfold rdL
  rw [liI_set _ _ (by omega)]
  apply liI_ext
  intro x hx
  by_cases e : x = n - 1 - k
  · subst e
    rw [if_pos rfl, if_pos (by omega), show n - 1 - (n - 1 - k) = k by omega]
  · rw [if_neg e]
    by_cases e2 : n - 1 - x < k
    · rw [if_pos e2, if_pos (by omega)]
    · rw [if_neg e2, if_neg (by omega)]
theorem rdL_all (n : Nat) (ds : List Drw) (h : ds.length = n - 1) : rdL n ds (n - 1) = liI (cdF n ds) n := by
  apply liI_ext
  intro x hx
  unfold cdF
  rw [h]
  by_cases e : n - 1 - x < n - 1
  · rw [if_pos e, if_pos e]
  · rw [if_neg e, if_neg e]; omega
end Go.Proofs.Ytbjclkjikclljaa
