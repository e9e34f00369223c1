/- Layer 43: rows of one's own: four that grow side by side; then written by index; the document's find. -/
import Derived.Test.YtbjclkjikclljaaAlbA
import Derived.Deep.AppendLies
namespace Go.Proofs.Ytbjclkjikclljaa
open Go Go.RowKit Go.Bv Go.Ali
set_option linter.unusedVariables false
set_option maxRecDepth 100000
theorem ow_blk43 {w w' : World} {base size : Nat} {e : TypeId} {v : Value} {n : Nat} {xs : List Value} (h : w.ownsRow base e size v n xs) (hb : ∀ g, v.ownBlock = some g → w'.heap[g]? = w.heap[g]?) : w'.ownsRow base e size v n xs := by
  refine ⟨h.1, ?_⟩
  rcases h.2 with h2 | ⟨g, cap, cur, rfl, hg, hc, rest⟩
  · exact .inl h2
  · exact .inr ⟨g, cap, cur, rfl, hg, (hb g rfl).trans hc, rest⟩
theorem ow_lt43 {w : World} {base size : Nat} {e : TypeId} {v : Value} {n : Nat} {xs : List Value} (h : w.ownsRow base e size v n xs) : ∀ g, v.ownBlock = some g → base ≤ g ∧ g < w.heap.size := by
  intro g hg
  rcases h.2 with ⟨rfl, _⟩ | ⟨g', cap, cur, rfl, hb, hc, _⟩
  · cases hg
  · have e : g' = g := by simpa [Value.ownBlock] using hg
    subst e
    exact ⟨hb, lt_of_block hc⟩
def sel {α : Type} (a b c d : α) : Nat → α
  | 0 => a
  | 1 => b
  | 2 => c
  | _ => d
/-- what stands in the four rows -/
def fR (n : Nat) (T : BitVec 64) (l : List (BitVec 64)) : Nat → Nat → Value := sel (fun i => .int .u64 (W64 (BitVec.ofNat 64 n * l.getD i 0))) (fun _ => .bool false) (fun _ => .int .u64 (W64 T)) (fun i => .int .i64 (i : Int))
def e4 : Nat → TypeId := sel 24 4 24 3
structure OK4 (w : World) (B n : Nat) (T : BitVec 64) (l : List (BitVec 64)) (v : Nat → Value) (k m : Nat) : Prop where
  own : ∀ i, i < 4 → w.ownsRow B (e4 i) 1 (v i) (if i < m then k + 1 else k) ((List.range (if i < m then k + 1 else k)).map (fR n T l i))
  ap : ∀ i j, i < 4 → j < 4 → i ≠ j → ∀ g, (v i).ownBlock = some g → (v j).ownBlock ≠ some g
theorem OK4.new {w w' : World} {B n : Nat} {T : BitVec 64} {l : List (BitVec 64)} {v : Nat → Value} {k m : Nat} (h : OK4 w B n T l v k m) (hn : New w w') : OK4 w' B n T l v k m :=
  ⟨fun i hi => ow_blk43 (h.own i hi) (fun g hg => hn.block g (ow_lt43 (h.own i hi) g hg).2), h.ap⟩
theorem OK4.far {w : World} {B n : Nat} {T : BitVec 64} {l : List (BitVec 64)} {v : Nat → Value} {k m : Nat} (h : OK4 w B n T l v k m) {b i : Nat} (hb : b < B) (u : Value) : OK4 (w.setCell ⟨b, i, none⟩ u) B n T l v k m :=
  ⟨fun j hj => ow_blk43 (h.own j hj) (fun g hg => heap_setCell_other _ _ _ _ (by have := (ow_lt43 (h.own j hj) g hg).1; show g ≠ b; omega)), h.ap⟩
theorem OK4.turn {w : World} {B n : Nat} {T : BitVec 64} {l : List (BitVec 64)} {v : Nat → Value} {k : Nat} (h : OK4 w B n T l v k 4) : OK4 w B n T l v (k + 1) 0 :=
  ⟨fun i hi => by have := h.own i hi; rw [if_pos hi] at this; rw [if_neg (by omega)]; exact this, h.ap⟩
theorem OK4.app {w z w' : World} {B n : Nat} {T : BitVec 64} {l : List (BitVec 64)} {v v2 : Nat → Value} {k m : Nat} (h : OK4 w B n T l v k m) (hm : m < 4) (hz : New w z) {g cap : Nat} (hgr : z.grownBy w' (v m).ownBlock)
    (how : w'.ownsRow B (e4 m) 1 (.slice (some ⟨g, 0, none⟩) (k + 1) cap) (k + 1) ((List.range k).map (fR n T l m) ++ [fR n T l m k])) (hat : (v m).ownBlock = some g ∨ g = z.heap.size) (hv : v2 m = .slice (some ⟨g, 0, none⟩) (k + 1) cap) (ho : ∀ j, j < 4 → j ≠ m → v2 j = v j) : OK4 w' B n T l v2 k (m + 1) := by
  have hle := hz.le
  refine ⟨fun i hi => ?_, fun i j hi hj hne g' h1 h2 => ?_⟩
  · by_cases e : i = m
    · subst e
      rw [if_pos (by omega), hv, List.range_succ, List.map_append]
      exact how
    · have h1 := h.own i hi
      rw [ho i hi e]
      have e2 : (if i < m + 1 then k + 1 else k) = (if i < m then k + 1 else k) := by
        by_cases e3 : i < m
        · rw [if_pos e3, if_pos (by omega)]
        · rw [if_neg e3, if_neg (by omega)]
      rw [e2]
      refine ow_blk43 h1 (fun g' hg' => ?_)
      have h3 := (ow_lt43 h1 g' hg').2
      exact (hgr.block g' (by omega) (fun e => h.ap m i hm hi (Ne.symm ‹i ≠ m›) g' e.symm hg')).trans (hz.block g' h3)
  · by_cases e : i = m
    · subst e
      rw [hv] at h1
      have e1 : g = g' := by simpa [Value.ownBlock] using h1
      subst e1
      rw [ho j hj (Ne.symm hne)] at h2
      rcases hat with hat | hat
      · exact h.ap i j hi hj hne g hat h2
      · have := (ow_lt43 (h.own j hj) g h2).2; omega
    · rw [ho i hi e] at h1
      by_cases e2 : j = m
      · subst e2
        rw [hv] at h2
        have e1 : g = g' := by simpa [Value.ownBlock] using h2
        subst e1
        rcases hat with hat | hat
        · exact h.ap i j hi hj hne g h1 hat
        · have := (ow_lt43 (h.own i hi) g h1).2; omega
      · rw [ho j hj e2] at h2
        exact h.ap i j hi hj hne g' h1 h2
/-- the boxes: what is handed back, and the table that is made -/
structure SB (w wr : World) (T : BitVec 64) (vb va : Value) : Prop where
  new : New w wr
  rs : wr.heap[w.heap.size]? = some (TB (.int .u64 0) (.slice none 0 0) (.slice none 0 0))
  tb : wr.heap[w.heap.size + 1]? = some (TB (.int .u64 (W64 T)) vb va)
theorem SB.stay {w wr w2 : World} {T : BitVec 64} {vb va : Value} (h : SB w wr T vb va) (hn : New wr w2) : SB w w2 T vb va := ⟨h.new.trans hn, blk_stay h.rs hn, blk_stay h.tb hn⟩
theorem SB.grown {w wr z w2 : World} {T : BitVec 64} {vb va : Value} (h : SB w wr T vb va) (hz : New wr z) {r : Option Nat} (hg : z.grownBy w2 r) (hr : ∀ g, r = some g → w.heap.size + 2 ≤ g) : SB w w2 T vb va := by
  have h2 := h.stay hz
  have l1 := lt_of_block h2.rs
  have l2 := lt_of_block h2.tb
  exact ⟨h2.new.grown' hg (fun g e => by have := hr g e; omega), (hg.block _ l1 (fun e => by have := hr _ e.symm; omega)).trans h2.rs, (hg.block _ l2 (fun e => by have := hr _ e.symm; omega)).trans h2.tb⟩
theorem SB.putB {w wr : World} {T : BitVec 64} {vb va : Value} (h : SB w wr T vb va) (v : Value) : SB w (wr.setCell ⟨w.heap.size + 1, 1, none⟩ v) T v va :=
  ⟨h.new.setCell (p := ⟨w.heap.size + 1, 1, none⟩) (by show w.heap.size ≤ w.heap.size + 1; omega) _, (heap_setCell_other _ _ _ _ (by show w.heap.size ≠ w.heap.size + 1; omega)).trans h.rs, (heap_setCell_same wr (w.heap.size + 1) 1 _ _ v h.tb).trans rfl⟩
theorem SB.putA {w wr : World} {T : BitVec 64} {vb va : Value} (h : SB w wr T vb va) (v : Value) : SB w (wr.setCell ⟨w.heap.size + 1, 2, none⟩ v) T vb v :=
  ⟨h.new.setCell (p := ⟨w.heap.size + 1, 2, none⟩) (by show w.heap.size ≤ w.heap.size + 1; omega) _, (heap_setCell_other _ _ _ _ (by show w.heap.size ≠ w.heap.size + 1; omega)).trans h.rs, (heap_setCell_same wr (w.heap.size + 1) 2 _ _ v h.tb).trans rfl⟩
theorem news1 (w : World) (v : Value) (t : TypeId) : ∀ j u, [v][j]? = some u → (w.alloc (.cells #[v] t)).cell? ((⟨w.heap.size, 0, none⟩ : Addr).add j) = some u := by
  intro j u h
  rw [add_plain, Nat.zero_add, World.cell?_alloc_new]
  simpa using h
/-- a row that is written by index -/
def PX (w : World) (g : Nat) (t : TypeId) (n : Nat) (f : Nat → Value) : Prop := ∃ cs : Array Value, w.heap[g]? = some (.cells cs t (0, 0)) ∧ n ≤ cs.size ∧ ∀ j, j < n → cs[j]? = some (f j)
theorem PX.stay {w w' : World} {g n : Nat} {t : TypeId} {f : Nat → Value} (h : PX w g t n f) (hn : New w w') : PX w' g t n f := by
  obtain ⟨cs, h1, h2, h3⟩ := h
  exact ⟨cs, (hn.block _ (lt_of_block h1)).trans h1, h2, h3⟩
theorem PX.get {w : World} {g n : Nat} {t : TypeId} {f : Nat → Value} (h : PX w g t n f) {v : Nat} (hv : v < n) : w.cell? ⟨g, v, none⟩ = some (f v) := by
  obtain ⟨cs, h1, h2, h3⟩ := h
  exact (cell_of_row _ _ _ _ _ _ h1).trans (h3 v hv)
theorem PX.free {w : World} {g n : Nat} {t : TypeId} {f : Nat → Value} (h : PX w g t n f) (v : Nat) : w.frozen? ⟨g, v, none⟩ = false := by
  obtain ⟨cs, h1, h2, h3⟩ := h
  exact frozen_of_row _ _ _ _ _ h1
theorem PX.put {w : World} {g n : Nat} {t : TypeId} {f f' : Nat → Value} (h : PX w g t n f) {v : Nat} (hv : v < n) (x : Value) (he : f' v = x) (ho : ∀ j, j < n → j ≠ v → f' j = f j) : PX (w.setCell ⟨g, v, none⟩ x) g t n f' := by
  obtain ⟨cs, h1, h2, h3⟩ := h
  refine ⟨_, heap_setCell_same w g v cs _ x h1, by rw [Array.size_setIfInBounds]; exact h2, fun j hj => ?_⟩
  rw [Array.getElem?_setIfInBounds]
  by_cases e : v = j
  · subst e
    rw [if_pos rfl, if_pos (by omega), he]
  · rw [if_neg e, h3 j hj, ho j hj (Ne.symm e)]
theorem PX.keep {w : World} {g n b i : Nat} {t : TypeId} {f : Nat → Value} (h : PX w g t n f) (hb : g ≠ b) (v : Value) : PX (w.setCell ⟨b, i, none⟩ v) g t n f := by
  obtain ⟨cs, h1, h2, h3⟩ := h
  exact ⟨cs, (heap_setCell_other _ _ _ _ hb).trans h1, h2, h3⟩
theorem PX.lt {w : World} {g n : Nat} {t : TypeId} {f : Nat → Value} (h : PX w g t n f) : g < w.heap.size := by
  obtain ⟨cs, h1, _⟩ := h
  exact lt_of_block h1
theorem PX.of_owns {w : World} {B n : Nat} {t : TypeId} {v : Value} {f : Nat → Value} (h : w.ownsRow B t 1 v n ((List.range n).map f)) (hn : 0 < n) : ∃ g cap, v = .slice (some ⟨g, 0, none⟩) n cap ∧ n ≤ cap ∧ cap ≤ 9223372036854775807 ∧ B ≤ g ∧ PX w g t n f := by
  rcases h.2 with ⟨_, h0⟩ | ⟨g, cap, cur, hv, hb, hg, hc, hm, hs, ht⟩
  · omega
  · refine ⟨g, cap, hv, hc, hm, hb, cur, hg, by rw [hs]; omega, fun j hj => ?_⟩
    have e1 : (cur.toList.take (n * 1))[j]? = some (f j) := by
      rw [ht, List.getElem?_map, List.getElem?_range hj]; rfl
    rw [List.getElem?_take, if_pos (by omega)] at e1
    simpa using e1
def fdV (p : Nat → Bool) (n : Nat) : Int := match fnd p n with
  | none => -1
  | some j => (j : Int)
theorem fdv_no {p : Nat → Bool} {n : Nat} (h : fnd p n = none) : fdV p n = -1 := by unfold fdV; rw [h]
theorem fdv_at {p : Nat → Bool} {n j : Nat} (h : fnd p n = some j) : fdV p n = (j : Int) := by unfold fdV; rw [h]
set_option maxHeartbeats 8000000 in
theorem findr_43 (gh gd n ch cd : Nat) (hn : n ≤ 256) (T : BitVec 64) (s : St) (more : Bool) (w : World) (h : PX w gh 24 n (fun i => .int .u64 (W64 (s.has i)))) (hd : PX w gd 4 n (fun i => .bool (s.fl i))) :
    Calls Try.prog 30 #[.slice (some ⟨gh, 0, none⟩) n ch, .slice (some ⟨gd, 0, none⟩) n cd, .int .u64 (W64 T), .bool more] w fun e w' => e = .returned (.int .i64 (fdV (if more then mo T s else ls T s) n)) ∧ w' = w := by
  have HH := Lib.hid h
  have HD := Lib.hid hd
  clear h hd
  rcases more with _ | _
  · rw [if_neg (by decide)]
    go_enter Try.func30, Try.ntmps30
    go_wp2
    go_loopw [13] (fun iv wr => ∃ i : Nat, i ≤ n ∧ iv = .int .i64 (i : Int) ∧ wr = w ∧ Hid (∀ j, j < i → ls T s j = false)) (fun iv _ => n - (intOf iv).toNat)
    case atStart => exact ⟨0, Nat.zero_le _, rfl, rfl, Lib.hid (fun j hj => absurd hj (by omega))⟩
    case round =>
      obtain ⟨i, hi, rfl, rfl, HP⟩ := hrel
      by_cases hlt : (i : Int) < (n : Int)
      · have hi0 : (0 : Int) ≤ (i : Int) := by omega
        have hin : i < n := by omega
        have c1 := HH.out.get hin
        have c2 := HD.out.get hin
        have HL : Hid (ls T s i = (!s.fl i && decide ((s.has i).toNat < T.toNat))) := Lib.hid rfl
        have hdd := dlt (s.has i) T
        obtain ⟨x, hx⟩ : ∃ x, s.has i = x := ⟨_, rfl⟩
        rw [hx] at c1 HL hdd
        rcases hb : decide (x.toNat < T.toNat) with _ | _ <;> rcases hf : s.fl i with _ | _
        · rw [hb] at HL hdd
          rw [hf] at HL c2
          have HP2 : Hid (∀ j, j < i + 1 → ls T s j = false) := Lib.hid (fun j hj => by
            by_cases e : j = i
            · subst e; rw [HL.out]; rfl
            · exact HP.out j (by omega))
          clear hb hx hf
          go_wp2
          exact ⟨⟨i + 1, by omega, by go_num, by first | rfl | trivial, HP2⟩, by simp [intOf]; omega⟩
        · rw [hb] at HL hdd
          rw [hf] at HL c2
          have HP2 : Hid (∀ j, j < i + 1 → ls T s j = false) := Lib.hid (fun j hj => by
            by_cases e : j = i
            · subst e; rw [HL.out]; rfl
            · exact HP.out j (by omega))
          clear hb hx hf
          go_wp2
          exact ⟨⟨i + 1, by omega, by go_num, by first | rfl | trivial, HP2⟩, by simp [intOf]; omega⟩
        · rw [hb] at HL hdd
          rw [hf] at HL c2
          have HF := Lib.hid (fdv_at (fnd_at hin HL.out HP.out))
          clear hb hx hf
          go_wp2
          go_ret
          rw [HF.out]
          exact ⟨rfl, by first | rfl | trivial⟩
        · rw [hb] at HL hdd
          rw [hf] at HL c2
          have HP2 : Hid (∀ j, j < i + 1 → ls T s j = false) := Lib.hid (fun j hj => by
            by_cases e : j = i
            · subst e; rw [HL.out]; rfl
            · exact HP.out j (by omega))
          clear hb hx hf
          go_wp2
          exact ⟨⟨i + 1, by omega, by go_num, by first | rfl | trivial, HP2⟩, by simp [intOf]; omega⟩
      · obtain rfl : i = n := by omega
        have HF := Lib.hid (fdv_no (fnd_none.2 HP.out))
        go_wp2
        go_ret
        rw [HF.out]
        exact ⟨rfl, by first | rfl | trivial⟩
  · rw [if_pos rfl]
    go_enter Try.func30, Try.ntmps30
    go_wp2
    go_loopw [13] (fun iv wr => ∃ i : Nat, i ≤ n ∧ iv = .int .i64 (i : Int) ∧ wr = w ∧ Hid (∀ j, j < i → mo T s j = false)) (fun iv _ => n - (intOf iv).toNat)
    case atStart => exact ⟨0, Nat.zero_le _, rfl, rfl, Lib.hid (fun j hj => absurd hj (by omega))⟩
    case round =>
      obtain ⟨i, hi, rfl, rfl, HP⟩ := hrel
      by_cases hlt : (i : Int) < (n : Int)
      · have hi0 : (0 : Int) ≤ (i : Int) := by omega
        have hin : i < n := by omega
        have c1 := HH.out.get hin
        have c2 := HD.out.get hin
        have HL : Hid (mo T s i = (!s.fl i && decide (T.toNat < (s.has i).toNat))) := Lib.hid rfl
        have hdd := dlt T (s.has i)
        obtain ⟨x, hx⟩ : ∃ x, s.has i = x := ⟨_, rfl⟩
        rw [hx] at c1 HL hdd
        rcases hb : decide (T.toNat < x.toNat) with _ | _ <;> rcases hf : s.fl i with _ | _
        · rw [hb] at HL hdd
          rw [hf] at HL c2
          have HP2 : Hid (∀ j, j < i + 1 → mo T s j = false) := Lib.hid (fun j hj => by
            by_cases e : j = i
            · subst e; rw [HL.out]; rfl
            · exact HP.out j (by omega))
          clear hb hx hf
          go_wp2
          exact ⟨⟨i + 1, by omega, by go_num, by first | rfl | trivial, HP2⟩, by simp [intOf]; omega⟩
        · rw [hb] at HL hdd
          rw [hf] at HL c2
          have HP2 : Hid (∀ j, j < i + 1 → mo T s j = false) := Lib.hid (fun j hj => by
            by_cases e : j = i
            · subst e; rw [HL.out]; rfl
            · exact HP.out j (by omega))
          clear hb hx hf
          go_wp2
          exact ⟨⟨i + 1, by omega, by go_num, by first | rfl | trivial, HP2⟩, by simp [intOf]; omega⟩
        · rw [hb] at HL hdd
          rw [hf] at HL c2
          have HF := Lib.hid (fdv_at (fnd_at hin HL.out HP.out))
          clear hb hx hf
          go_wp2
          go_ret
          rw [HF.out]
          exact ⟨rfl, by first | rfl | trivial⟩
        · rw [hb] at HL hdd
          rw [hf] at HL c2
          have HP2 : Hid (∀ j, j < i + 1 → mo T s j = false) := Lib.hid (fun j hj => by
            by_cases e : j = i
            · subst e; rw [HL.out]; rfl
            · exact HP.out j (by omega))
          clear hb hx hf
          go_wp2
          exact ⟨⟨i + 1, by omega, by go_num, by first | rfl | trivial, HP2⟩, by simp [intOf]; omega⟩
      · obtain rfl : i = n := by omega
        have HF := Lib.hid (fdv_no (fnd_none.2 HP.out))
        go_wp2
        go_ret
        rw [HF.out]
        exact ⟨rfl, by first | rfl | trivial⟩
end Go.Proofs.Ytbjclkjikclljaa
