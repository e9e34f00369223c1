import Derived.Test.YtebcfbcfipmahaaGreatZ3FamS
/- Layer 27: family.Shift. -/
namespace Go.Proofs.YtebcfbcfipmahaaGreat
open Go Go.RowKit Go.Bv Go.Tab
set_option linter.unusedVariables false
set_option maxRecDepth 100000
/-- a seed of the kind, or what is wrong -/
def FSR (k b : Int) (w w' : World) (n : Nat) (e : Ending) (E : Int) (L : List (BitVec 64)) : Prop :=
  ((E ≠ 0 ∧ e = .returned (.tuple #[.agg (sdc 0 0 none 0 0), .int .i64 E])) ∨ (E = 0 ∧ ∃ a' c', e = .returned (.tuple #[.agg (sdc k b a' n c'), .int .i64 0]) ∧ QRow w' a' n c' L)) ∧ New w w'
theorem put3_27 {w : World} {q : Nat} {T : TypeId} {u0 u1 u2 : Value} (v0 v1 v2 : Value) (h : w.heap[q]? = some (.cells #[u0, u1, u2] T (0, 0))) :
    (((w.setCell ⟨q, 0, none⟩ v0).setCell ⟨q, 1, none⟩ v1).setCell ⟨q, 2, none⟩ v2).heap[q]? = some (.cells #[v0, v1, v2] T (0, 0)) ∧
    (∀ j, j ≠ q → (((w.setCell ⟨q, 0, none⟩ v0).setCell ⟨q, 1, none⟩ v1).setCell ⟨q, 2, none⟩ v2).heap[j]? = w.heap[j]?) ∧
    (∀ W : World, New W w → W.heap.size ≤ q → New W (((w.setCell ⟨q, 0, none⟩ v0).setCell ⟨q, 1, none⟩ v1).setCell ⟨q, 2, none⟩ v2)) :=
  ⟨heap_setCell_same _ _ 2 _ _ _ (heap_setCell_same _ _ 1 _ _ _ (heap_setCell_same _ _ 0 _ _ _ h)),
   fun j hj => by rw [heap_setCell_other _ _ _ _ hj, heap_setCell_other _ _ _ _ hj, heap_setCell_other _ _ _ _ hj],
   fun W hn hq => ((hn.setCell (by exact hq) _).setCell (by exact hq) _).setCell (by exact hq) _⟩
/-- a row is not in the box of a seed -/
theorem row_past27 {w w' : World} {a : Option Addr} {n c : Nat} {l : List (BitVec 64)} (h : QRow w a n c l) {q : Nat} {x y : Int} {s : Option Addr} {m d : Nat} {T : TypeId} (hq : w.heap[q]? = some (.cells #[.int .i64 x, .int .i64 y, .slice s m d] T (0, 0))) (ho : ∀ j, j ≠ q → w'.heap[j]? = w.heap[j]?) : QRow w' a n c l := by
  have hno : ∀ (j : Nat) (v : Int), (#[.int .i64 x, .int .i64 y, .slice s m d] : Array Value)[j]? ≠ some (.int .u64 v) := by
    intro j v hj
    match j with
    | 0 => simp at hj
    | 1 => simp at hj
    | 2 => simp at hj
    | j + 3 => simp at hj
  have hne : ∀ b off, a = some ⟨b, off, Option.none⟩ → 0 < n → b ≠ q := by
    intro b off e h0 hb
    subst hb
    have hc := h.cell b off e 0 h0
    unfold World.cell? at hc
    simp only [hq] at hc
    exact hno _ _ hc
  have hcell : ∀ b off, a = some ⟨b, off, Option.none⟩ → ∀ i, i < n → w'.cell? ⟨b, off + i, Option.none⟩ = some (.int .u64 (W64 (l.getD i 0))) := by
    intro b off e i hi
    have hc := h.cell b off e i hi
    rw [← hc]
    unfold World.cell?
    simp only [ho b (hne b off e (by omega))]
  refine ⟨h.len_eq, h.le, h.most, h.room, h.none, hcell, h.spot, fun z e h0 => ?_⟩
  obtain ⟨b, off, sp⟩ := z
  obtain rfl : sp = Option.none := h.spot _ e h0
  exact cell_block (hcell b off e 0 h0)
theorem fsh_bad (k b : Int) (a x y : Option Addr) (n c nx cx ny cy : Nat) (l xl yl : List (BitVec 64)) (w : World) (h : QRow w a n c l) (hx : QRow w x nx cx xl) (hy : QRow w y ny cy yl) (hz : ¬ chF k b l = 0) : Calls Tryz.prog 23 #[.agg (sdc k b a n c), .slice x nx cx, .slice y ny cy] w fun e w' => FSR k b w w' n e (chF k b l) l := by
  generalize hW : (w.alloc (.cells (sdc k b a n c) 30)).alloc (.cells #[.int .i64 0, .int .i64 0, .slice none 0 0] 30) = w0
  have HB : Hid (w0.heap[w.heap.size]? = some (.cells (sdc k b a n c) 30 (0, 0))) := Lib.hid (by rw [← hW]; exact ((New.refl _).alloc _).block _ (lt_of_block (heap_alloc_new w _)) |>.trans (heap_alloc_new w _))
  have HRB : Hid (w0.heap[w.heap.size + 1]? = some (.cells #[.int .i64 0, .int .i64 0, .slice none 0 0] 30 (0, 0))) := Lib.hid (by rw [← hW]; exact first_blockF w _ _)
  have HN : Hid (New w w0) := Lib.hid (by rw [← hW]; exact ((New.refl w).alloc _).alloc _)
  have HROW := Lib.hid (h.stay HN.out)
  have HF := Lib.hid (fos_err k b a n c l w0 HROW.out hz)
  have HZ := Lib.hid hz
  have hzz : (chF k b l != 0) = true := bne_iff_ne.2 hz
  obtain ⟨E, hE⟩ : ∃ E, chF k b l = E := ⟨_, rfl⟩
  rw [hE] at HF HZ hzz ⊢
  clear hE hz h hx hy HROW
  have c0 := cell_of_row _ _ 0 _ _ _ HB.out
  have c1 := cell_of_row _ _ 1 _ _ _ HB.out
  have c2 := cell_of_row _ _ 2 _ _ _ HB.out
  go_enter Tryz.func23, Tryz.ntmps23
  go_wp2_with fail
  refine HF.out.mono ?_
  rintro e w1 ⟨rfl, hn⟩
  have HN1 := Lib.hid (HN.out.trans hn)
  have hnz := hn.alloc (.cells fzc 52)
  have hrb := (hnz.block _ (lt_of_block HRB.out)).trans HRB.out
  have r0 := cell_of_row _ _ 0 _ _ _ hrb
  have r1 := cell_of_row _ _ 1 _ _ _ hrb
  have r2 := cell_of_row _ _ 2 _ _ _ hrb
  have rf := fun i => frozen_of_row _ _ i _ _ hrb
  clear HF c0 c1 c2 hn
  go_wp2_with fail
  have hp := put3_27 (.int .i64 0) (.int .i64 0) (.slice none 0 0) hrb
  refine bodyPost_ret (by simp [results, Tryz.results23, go_sem, r0, r1, r2]; try rfl) rfl ?_
  exact ⟨.inl ⟨HZ.out, rfl⟩, hp.2.2 _ (HN1.out.alloc _) (Nat.le_succ _)⟩
theorem fsh_kind (k b : Int) (a x y : Option Addr) (n c nx cx ny cy : Nat) (l xl yl : List (BitVec 64)) (w : World) (h : QRow w a n c l) (hx : QRow w x nx cx xl) (hy : QRow w y ny cy yl) (hz : chF k b l = 0) (ht : tgK k n = 0) : Calls Tryz.prog 23 #[.agg (sdc k b a n c), .slice x nx cx, .slice y ny cy] w fun e w' => FSR k b w w' n e 6 l := by
  generalize hW : (w.alloc (.cells (sdc k b a n c) 30)).alloc (.cells #[.int .i64 0, .int .i64 0, .slice none 0 0] 30) = w0
  have HB : Hid (w0.heap[w.heap.size]? = some (.cells (sdc k b a n c) 30 (0, 0))) := Lib.hid (by rw [← hW]; exact ((New.refl _).alloc _).block _ (lt_of_block (heap_alloc_new w _)) |>.trans (heap_alloc_new w _))
  have HRB : Hid (w0.heap[w.heap.size + 1]? = some (.cells #[.int .i64 0, .int .i64 0, .slice none 0 0] 30 (0, 0))) := Lib.hid (by rw [← hW]; exact first_blockF w _ _)
  have HN : Hid (New w w0) := Lib.hid (by rw [← hW]; exact ((New.refl w).alloc _).alloc _)
  have HROW := Lib.hid (h.stay HN.out)
  have HF := Lib.hid (fos_fine k b a n c l w0 HROW.out hz)
  have HT := Lib.hid ht
  have HP := Lib.hid (n_pos h.len_eq hz)
  clear hz h hx hy ht HROW
  have c0 := cell_of_row _ _ 0 _ _ _ HB.out
  have c1 := cell_of_row _ _ 1 _ _ _ HB.out
  have c2 := cell_of_row _ _ 2 _ _ _ HB.out
  go_enter Tryz.func23, Tryz.ntmps23
  go_wp2_with fail
  refine HF.out.mono ?_
  rintro e w1 ⟨⟨f, rfl, hg⟩, hn⟩
  have HN1 := Lib.hid (HN.out.trans hn)
  have hI := hg.now
  clear HF c0 c1 c2
  cases hI with
  | poly =>
    exact absurd (show (n : Int) = 0 from HT.out) (by have := HP.out; omega)
  | odd bq hq =>
    have HTG := Lib.hid (tg_const 2 b a n c 0 bq (w1.alloc (.cells #[.string (nmF 2), .int .i64 (lsF 2), .int .i64 (msF 2), .int .i64 (lbF 2), .int .i64 (mbF 2), .int .i64 (kyF 2), (.func (Fn.func 77) #[] #[]), (.func (Fn.func 124) #[] #[.pointer (some ⟨bq, 0, none⟩)]), (.func (Fn.func 80) #[] #[]), .nilFunc] 52)) (((New.refl w1).alloc (.cells #[.string (nmF 2), .int .i64 (lsF 2), .int .i64 (msF 2), .int .i64 (lbF 2), .int .i64 (mbF 2), .int .i64 (kyF 2), (.func (Fn.func 77) #[] #[]), (.func (Fn.func 124) #[] #[.pointer (some ⟨bq, 0, none⟩)]), (.func (Fn.func 80) #[] #[]), .nilFunc] 52)).block _ (lt_of_block hq) |>.trans hq))
    have hs := ((hn.alloc (.cells #[.string (nmF 2), .int .i64 (lsF 2), .int .i64 (msF 2), .int .i64 (lbF 2), .int .i64 (mbF 2), .int .i64 (kyF 2), (.func (Fn.func 77) #[] #[]), (.func (Fn.func 124) #[] #[.pointer (some ⟨bq, 0, none⟩)]), (.func (Fn.func 80) #[] #[]), .nilFunc] 52)).block _ (lt_of_block HB.out)).trans HB.out
    have s0 := cell_of_row _ _ 0 _ _ _ hs
    have s1 := cell_of_row _ _ 1 _ _ _ hs
    have s2 := cell_of_row _ _ 2 _ _ _ hs
    have HNX := Lib.hid (hn.alloc (.cells #[.string (nmF 2), .int .i64 (lsF 2), .int .i64 (msF 2), .int .i64 (lbF 2), .int .i64 (mbF 2), .int .i64 (kyF 2), (.func (Fn.func 77) #[] #[]), (.func (Fn.func 124) #[] #[.pointer (some ⟨bq, 0, none⟩)]), (.func (Fn.func 80) #[] #[]), .nilFunc] 52))
    clear hg hn hs
    go_wp2_with fail
    refine HTG.out.mono ?_
    rintro e w2 ⟨rfl, hn2⟩
    have HN2 := Lib.hid ((HN1.out.alloc _).trans hn2)
    have hnz := HNX.out.trans hn2
    have hrb := (hnz.block _ (lt_of_block HRB.out)).trans HRB.out
    have r0 := cell_of_row _ _ 0 _ _ _ hrb
    have r1 := cell_of_row _ _ 1 _ _ _ hrb
    have r2 := cell_of_row _ _ 2 _ _ _ hrb
    have rf := fun i => frozen_of_row _ _ i _ _ hrb
    clear hn2
    go_wp2_with fail
    have hp := put3_27 (.int .i64 0) (.int .i64 0) (.slice none 0 0) hrb
    refine bodyPost_ret (by simp [results, Tryz.results23, go_sem, r0, r1, r2]; try rfl) rfl ?_
    exact ⟨.inl ⟨by decide, rfl⟩, hp.2.2 _ HN2.out (Nat.le_succ _)⟩
  | str bq hq =>
    have HTG := Lib.hid (tg_const 8 b a n c 0 bq (w1.alloc (.cells #[.string (nmF 8), .int .i64 (lsF 8), .int .i64 (msF 8), .int .i64 (lbF 8), .int .i64 (mbF 8), .int .i64 (kyF 8), (.func (Fn.func 105) #[] #[]), (.func (Fn.func 124) #[] #[.pointer (some ⟨bq, 0, none⟩)]), (.func (Fn.func 106) #[] #[]), .nilFunc] 52)) (((New.refl w1).alloc (.cells #[.string (nmF 8), .int .i64 (lsF 8), .int .i64 (msF 8), .int .i64 (lbF 8), .int .i64 (mbF 8), .int .i64 (kyF 8), (.func (Fn.func 105) #[] #[]), (.func (Fn.func 124) #[] #[.pointer (some ⟨bq, 0, none⟩)]), (.func (Fn.func 106) #[] #[]), .nilFunc] 52)).block _ (lt_of_block hq) |>.trans hq))
    have hs := ((hn.alloc (.cells #[.string (nmF 8), .int .i64 (lsF 8), .int .i64 (msF 8), .int .i64 (lbF 8), .int .i64 (mbF 8), .int .i64 (kyF 8), (.func (Fn.func 105) #[] #[]), (.func (Fn.func 124) #[] #[.pointer (some ⟨bq, 0, none⟩)]), (.func (Fn.func 106) #[] #[]), .nilFunc] 52)).block _ (lt_of_block HB.out)).trans HB.out
    have s0 := cell_of_row _ _ 0 _ _ _ hs
    have s1 := cell_of_row _ _ 1 _ _ _ hs
    have s2 := cell_of_row _ _ 2 _ _ _ hs
    have HNX := Lib.hid (hn.alloc (.cells #[.string (nmF 8), .int .i64 (lsF 8), .int .i64 (msF 8), .int .i64 (lbF 8), .int .i64 (mbF 8), .int .i64 (kyF 8), (.func (Fn.func 105) #[] #[]), (.func (Fn.func 124) #[] #[.pointer (some ⟨bq, 0, none⟩)]), (.func (Fn.func 106) #[] #[]), .nilFunc] 52))
    clear hg hn hs
    go_wp2_with fail
    refine HTG.out.mono ?_
    rintro e w2 ⟨rfl, hn2⟩
    have HN2 := Lib.hid ((HN1.out.alloc _).trans hn2)
    have hnz := HNX.out.trans hn2
    have hrb := (hnz.block _ (lt_of_block HRB.out)).trans HRB.out
    have r0 := cell_of_row _ _ 0 _ _ _ hrb
    have r1 := cell_of_row _ _ 1 _ _ _ hrb
    have r2 := cell_of_row _ _ 2 _ _ _ hrb
    have rf := fun i => frozen_of_row _ _ i _ _ hrb
    clear hn2
    go_wp2_with fail
    have hp := put3_27 (.int .i64 0) (.int .i64 0) (.slice none 0 0) hrb
    refine bodyPost_ret (by simp [results, Tryz.results23, go_sem, r0, r1, r2]; try rfl) rfl ?_
    exact ⟨.inl ⟨by decide, rfl⟩, hp.2.2 _ HN2.out (Nat.le_succ _)⟩
  | sum k hk bq b9 hq h9 =>
    exact absurd (show (2 : Int) = 0 from by have := HT.out; rcases hk with rfl | rfl <;> exact this) (by decide)
  | table k hk bq be bs hq he hs2 =>
    exact absurd (show (3 : Int) = 0 from by have := HT.out; rcases hk with rfl | rfl | rfl <;> exact this) (by decide)
set_option maxHeartbeats 4000000 in
theorem fsh_len (k b : Int) (a x y : Option Addr) (n c nx cx ny cy : Nat) (l xl yl : List (BitVec 64)) (w : World) (h : QRow w a n c l) (hx : QRow w x nx cx xl) (hy : QRow w y ny cy yl) (hz : chF k b l = 0) (ht : tgK k n ≠ 0) (hl : (nx : Int) < 1 ∨ tgK k n < (nx : Int) ∨ nx ≠ ny) : Calls Tryz.prog 23 #[.agg (sdc k b a n c), .slice x nx cx, .slice y ny cy] w fun e w' => FSR k b w w' n e 1 l := by
  generalize hW : (w.alloc (.cells (sdc k b a n c) 30)).alloc (.cells #[.int .i64 0, .int .i64 0, .slice none 0 0] 30) = w0
  have HB : Hid (w0.heap[w.heap.size]? = some (.cells (sdc k b a n c) 30 (0, 0))) := Lib.hid (by rw [← hW]; exact ((New.refl _).alloc _).block _ (lt_of_block (heap_alloc_new w _)) |>.trans (heap_alloc_new w _))
  have HRB : Hid (w0.heap[w.heap.size + 1]? = some (.cells #[.int .i64 0, .int .i64 0, .slice none 0 0] 30 (0, 0))) := Lib.hid (by rw [← hW]; exact first_blockF w _ _)
  have HN : Hid (New w w0) := Lib.hid (by rw [← hW]; exact ((New.refl w).alloc _).alloc _)
  have HROW := Lib.hid (h.stay HN.out)
  have HF := Lib.hid (fos_fine k b a n c l w0 HROW.out hz)
  have HT := Lib.hid ht
  have HL : Hid (((nx : Int) == 0) = true ∨ ((nx : Int) == 0) = false ∧ decide (tgK k n < (nx : Int)) = true ∨ ((nx : Int) == 0) = false ∧ decide (tgK k n < (nx : Int)) = false ∧ ((ny : Int) != (nx : Int)) = true) := Lib.hid (by
    by_cases h1 : (nx : Int) = 0
    · exact .inl (beq_iff_eq.2 h1)
    · by_cases h2 : tgK k n < (nx : Int)
      · exact .inr (.inl ⟨beq_false_of_ne h1, decide_eq_true h2⟩)
      · exact .inr (.inr ⟨beq_false_of_ne h1, decide_eq_false h2, bne_iff_ne.2 (by omega)⟩))
  clear hz h hx hy ht HROW hl
  have c0 := cell_of_row _ _ 0 _ _ _ HB.out
  have c1 := cell_of_row _ _ 1 _ _ _ HB.out
  have c2 := cell_of_row _ _ 2 _ _ _ HB.out
  go_enter Tryz.func23, Tryz.ntmps23
  go_wp2_with fail
  refine HF.out.mono ?_
  rintro e w1 ⟨⟨f, rfl, hg⟩, hn⟩
  have HN1 := Lib.hid (HN.out.trans hn)
  have hI := hg.now
  clear HF c0 c1 c2
  cases hI with
  | poly =>
    have htg : tgK 1 n = (n : Int) := rfl
    have hL := HL.out
    have hT := HT.out
    rw [htg] at hL hT
    have t0 : (((n : Int) : Int) == 0) = false := beq_false_of_ne hT
    clear HL HT hT htg
    have HTG := Lib.hid (tg_poly 1 b a n c (w1.alloc (.cells #[.string (nmF 1), .int .i64 (lsF 1), .int .i64 (msF 1), .int .i64 (lbF 1), .int .i64 (mbF 1), .int .i64 (kyF 1), (.func (Fn.func 70) #[] #[]), (.func (Fn.func 72) #[] #[]), (.func (Fn.func 73) #[] #[]), (.func (Fn.func 75) #[] #[])] 52)))
    have hs := ((hn.alloc (.cells #[.string (nmF 1), .int .i64 (lsF 1), .int .i64 (msF 1), .int .i64 (lbF 1), .int .i64 (mbF 1), .int .i64 (kyF 1), (.func (Fn.func 70) #[] #[]), (.func (Fn.func 72) #[] #[]), (.func (Fn.func 73) #[] #[]), (.func (Fn.func 75) #[] #[])] 52)).block _ (lt_of_block HB.out)).trans HB.out
    have s0 := cell_of_row _ _ 0 _ _ _ hs
    have s1 := cell_of_row _ _ 1 _ _ _ hs
    have s2 := cell_of_row _ _ 2 _ _ _ hs
    have HNX := Lib.hid (hn.alloc (.cells #[.string (nmF 1), .int .i64 (lsF 1), .int .i64 (msF 1), .int .i64 (lbF 1), .int .i64 (mbF 1), .int .i64 (kyF 1), (.func (Fn.func 70) #[] #[]), (.func (Fn.func 72) #[] #[]), (.func (Fn.func 73) #[] #[]), (.func (Fn.func 75) #[] #[])] 52))
    clear hg hn hs
    rcases hL with q0 | ⟨q0, q1⟩ | ⟨q0, q1, q2⟩
    · go_wp2_with fail
      refine HTG.out.mono ?_
      rintro e w2 ⟨rfl, hn2⟩
      have HN2 := Lib.hid ((HN1.out.alloc _).trans hn2)
      have hnz := HNX.out.trans hn2
      have hrb := (hnz.block _ (lt_of_block HRB.out)).trans HRB.out
      have r0 := cell_of_row _ _ 0 _ _ _ hrb
      have r1 := cell_of_row _ _ 1 _ _ _ hrb
      have r2 := cell_of_row _ _ 2 _ _ _ hrb
      have rf := fun i => frozen_of_row _ _ i _ _ hrb
      clear hn2
      go_wp2_with fail
      have hp := put3_27 (.int .i64 0) (.int .i64 0) (.slice none 0 0) hrb
      refine bodyPost_ret (by simp [results, Tryz.results23, go_sem, r0, r1, r2]; try rfl) rfl ?_
      exact ⟨.inl ⟨by decide, rfl⟩, hp.2.2 _ HN2.out (Nat.le_succ _)⟩
    · replace q1 := decide_eq_true (Int.ofNat_lt.1 (of_decide_eq_true q1))
      go_wp2_with fail
      refine HTG.out.mono ?_
      rintro e w2 ⟨rfl, hn2⟩
      have HN2 := Lib.hid ((HN1.out.alloc _).trans hn2)
      have hnz := HNX.out.trans hn2
      have hrb := (hnz.block _ (lt_of_block HRB.out)).trans HRB.out
      have r0 := cell_of_row _ _ 0 _ _ _ hrb
      have r1 := cell_of_row _ _ 1 _ _ _ hrb
      have r2 := cell_of_row _ _ 2 _ _ _ hrb
      have rf := fun i => frozen_of_row _ _ i _ _ hrb
      clear hn2
      go_wp2_with fail
      have hp := put3_27 (.int .i64 0) (.int .i64 0) (.slice none 0 0) hrb
      refine bodyPost_ret (by simp [results, Tryz.results23, go_sem, r0, r1, r2]; try rfl) rfl ?_
      exact ⟨.inl ⟨by decide, rfl⟩, hp.2.2 _ HN2.out (Nat.le_succ _)⟩
    · replace q1 : decide (n < nx) = false := decide_eq_false (fun h => absurd (Int.ofNat_lt.2 h) (of_decide_eq_false q1))
      go_wp2_with fail
      refine HTG.out.mono ?_
      rintro e w2 ⟨rfl, hn2⟩
      have HN2 := Lib.hid ((HN1.out.alloc _).trans hn2)
      have hnz := HNX.out.trans hn2
      have hrb := (hnz.block _ (lt_of_block HRB.out)).trans HRB.out
      have r0 := cell_of_row _ _ 0 _ _ _ hrb
      have r1 := cell_of_row _ _ 1 _ _ _ hrb
      have r2 := cell_of_row _ _ 2 _ _ _ hrb
      have rf := fun i => frozen_of_row _ _ i _ _ hrb
      clear hn2
      go_wp2_with fail
      have hp := put3_27 (.int .i64 0) (.int .i64 0) (.slice none 0 0) hrb
      refine bodyPost_ret (by simp [results, Tryz.results23, go_sem, r0, r1, r2]; try rfl) rfl ?_
      exact ⟨.inl ⟨by decide, rfl⟩, hp.2.2 _ HN2.out (Nat.le_succ _)⟩
  | odd bq hq =>
    exact absurd rfl HT.out
  | str bq hq =>
    exact absurd rfl HT.out
  | sum k hk bq b9 hq h9 =>
    have htg : tgK k n = 2 := by rcases hk with rfl | rfl <;> rfl
    have hL := HL.out
    have hT := HT.out
    rw [htg] at hL hT
    have t0 : ((2 : Int) == 0) = false := beq_false_of_ne hT
    clear HL HT hT htg
    have HTG := Lib.hid (tg_const k b a n c 2 bq (w1.alloc (.cells #[.string (nmF k), .int .i64 (lsF k), .int .i64 (msF k), .int .i64 (lbF k), .int .i64 (mbF k), .int .i64 (kyF k), (.func (Fn.func 82) #[] #[]), (.func (Fn.func 124) #[] #[.pointer (some ⟨bq, 0, none⟩)]), (.func (Fn.func 83) #[] #[]), (.func (Fn.func 86) #[] #[.pointer (some ⟨b9, 0, none⟩)])] 52)) (((New.refl w1).alloc (.cells #[.string (nmF k), .int .i64 (lsF k), .int .i64 (msF k), .int .i64 (lbF k), .int .i64 (mbF k), .int .i64 (kyF k), (.func (Fn.func 82) #[] #[]), (.func (Fn.func 124) #[] #[.pointer (some ⟨bq, 0, none⟩)]), (.func (Fn.func 83) #[] #[]), (.func (Fn.func 86) #[] #[.pointer (some ⟨b9, 0, none⟩)])] 52)).block _ (lt_of_block hq) |>.trans hq))
    have hs := ((hn.alloc (.cells #[.string (nmF k), .int .i64 (lsF k), .int .i64 (msF k), .int .i64 (lbF k), .int .i64 (mbF k), .int .i64 (kyF k), (.func (Fn.func 82) #[] #[]), (.func (Fn.func 124) #[] #[.pointer (some ⟨bq, 0, none⟩)]), (.func (Fn.func 83) #[] #[]), (.func (Fn.func 86) #[] #[.pointer (some ⟨b9, 0, none⟩)])] 52)).block _ (lt_of_block HB.out)).trans HB.out
    have s0 := cell_of_row _ _ 0 _ _ _ hs
    have s1 := cell_of_row _ _ 1 _ _ _ hs
    have s2 := cell_of_row _ _ 2 _ _ _ hs
    have HNX := Lib.hid (hn.alloc (.cells #[.string (nmF k), .int .i64 (lsF k), .int .i64 (msF k), .int .i64 (lbF k), .int .i64 (mbF k), .int .i64 (kyF k), (.func (Fn.func 82) #[] #[]), (.func (Fn.func 124) #[] #[.pointer (some ⟨bq, 0, none⟩)]), (.func (Fn.func 83) #[] #[]), (.func (Fn.func 86) #[] #[.pointer (some ⟨b9, 0, none⟩)])] 52))
    clear hg hn hs
    rcases hL with q0 | ⟨q0, q1⟩ | ⟨q0, q1, q2⟩
    · go_wp2_with fail
      refine HTG.out.mono ?_
      rintro e w2 ⟨rfl, hn2⟩
      have HN2 := Lib.hid ((HN1.out.alloc _).trans hn2)
      have hnz := HNX.out.trans hn2
      have hrb := (hnz.block _ (lt_of_block HRB.out)).trans HRB.out
      have r0 := cell_of_row _ _ 0 _ _ _ hrb
      have r1 := cell_of_row _ _ 1 _ _ _ hrb
      have r2 := cell_of_row _ _ 2 _ _ _ hrb
      have rf := fun i => frozen_of_row _ _ i _ _ hrb
      clear hn2
      go_wp2_with fail
      have hp := put3_27 (.int .i64 0) (.int .i64 0) (.slice none 0 0) hrb
      refine bodyPost_ret (by simp [results, Tryz.results23, go_sem, r0, r1, r2]; try rfl) rfl ?_
      exact ⟨.inl ⟨by decide, rfl⟩, hp.2.2 _ HN2.out (Nat.le_succ _)⟩
    · go_wp2_with fail
      refine HTG.out.mono ?_
      rintro e w2 ⟨rfl, hn2⟩
      have HN2 := Lib.hid ((HN1.out.alloc _).trans hn2)
      have hnz := HNX.out.trans hn2
      have hrb := (hnz.block _ (lt_of_block HRB.out)).trans HRB.out
      have r0 := cell_of_row _ _ 0 _ _ _ hrb
      have r1 := cell_of_row _ _ 1 _ _ _ hrb
      have r2 := cell_of_row _ _ 2 _ _ _ hrb
      have rf := fun i => frozen_of_row _ _ i _ _ hrb
      clear hn2
      go_wp2_with fail
      have hp := put3_27 (.int .i64 0) (.int .i64 0) (.slice none 0 0) hrb
      refine bodyPost_ret (by simp [results, Tryz.results23, go_sem, r0, r1, r2]; try rfl) rfl ?_
      exact ⟨.inl ⟨by decide, rfl⟩, hp.2.2 _ HN2.out (Nat.le_succ _)⟩
    · go_wp2_with fail
      refine HTG.out.mono ?_
      rintro e w2 ⟨rfl, hn2⟩
      have HN2 := Lib.hid ((HN1.out.alloc _).trans hn2)
      have hnz := HNX.out.trans hn2
      have hrb := (hnz.block _ (lt_of_block HRB.out)).trans HRB.out
      have r0 := cell_of_row _ _ 0 _ _ _ hrb
      have r1 := cell_of_row _ _ 1 _ _ _ hrb
      have r2 := cell_of_row _ _ 2 _ _ _ hrb
      have rf := fun i => frozen_of_row _ _ i _ _ hrb
      clear hn2
      go_wp2_with fail
      have hp := put3_27 (.int .i64 0) (.int .i64 0) (.slice none 0 0) hrb
      refine bodyPost_ret (by simp [results, Tryz.results23, go_sem, r0, r1, r2]; try rfl) rfl ?_
      exact ⟨.inl ⟨by decide, rfl⟩, hp.2.2 _ HN2.out (Nat.le_succ _)⟩
  | table k hk bq be bs hq he hs2 =>
    have htg : tgK k n = 3 := by rcases hk with rfl | rfl | rfl <;> rfl
    have hL := HL.out
    have hT := HT.out
    rw [htg] at hL hT
    have t0 : ((3 : Int) == 0) = false := beq_false_of_ne hT
    clear HL HT hT htg
    have HTG := Lib.hid (tg_const k b a n c 3 bq (w1.alloc (.cells #[.string (nmF k), .int .i64 (lsF k), .int .i64 (msF k), .int .i64 (lbF k), .int .i64 (mbF k), .int .i64 (kyF k), (.func (Fn.func 82) #[] #[]), (.func (Fn.func 124) #[] #[.pointer (some ⟨bq, 0, none⟩)]), (.func (Fn.func 88) #[] #[.pointer (some ⟨be, 0, none⟩)]), (.func (Fn.func 89) #[] #[.pointer (some ⟨bs, 0, none⟩)])] 52)) (((New.refl w1).alloc (.cells #[.string (nmF k), .int .i64 (lsF k), .int .i64 (msF k), .int .i64 (lbF k), .int .i64 (mbF k), .int .i64 (kyF k), (.func (Fn.func 82) #[] #[]), (.func (Fn.func 124) #[] #[.pointer (some ⟨bq, 0, none⟩)]), (.func (Fn.func 88) #[] #[.pointer (some ⟨be, 0, none⟩)]), (.func (Fn.func 89) #[] #[.pointer (some ⟨bs, 0, none⟩)])] 52)).block _ (lt_of_block hq) |>.trans hq))
    have hs := ((hn.alloc (.cells #[.string (nmF k), .int .i64 (lsF k), .int .i64 (msF k), .int .i64 (lbF k), .int .i64 (mbF k), .int .i64 (kyF k), (.func (Fn.func 82) #[] #[]), (.func (Fn.func 124) #[] #[.pointer (some ⟨bq, 0, none⟩)]), (.func (Fn.func 88) #[] #[.pointer (some ⟨be, 0, none⟩)]), (.func (Fn.func 89) #[] #[.pointer (some ⟨bs, 0, none⟩)])] 52)).block _ (lt_of_block HB.out)).trans HB.out
    have s0 := cell_of_row _ _ 0 _ _ _ hs
    have s1 := cell_of_row _ _ 1 _ _ _ hs
    have s2 := cell_of_row _ _ 2 _ _ _ hs
    have HNX := Lib.hid (hn.alloc (.cells #[.string (nmF k), .int .i64 (lsF k), .int .i64 (msF k), .int .i64 (lbF k), .int .i64 (mbF k), .int .i64 (kyF k), (.func (Fn.func 82) #[] #[]), (.func (Fn.func 124) #[] #[.pointer (some ⟨bq, 0, none⟩)]), (.func (Fn.func 88) #[] #[.pointer (some ⟨be, 0, none⟩)]), (.func (Fn.func 89) #[] #[.pointer (some ⟨bs, 0, none⟩)])] 52))
    clear hg hn hs
    rcases hL with q0 | ⟨q0, q1⟩ | ⟨q0, q1, q2⟩
    · go_wp2_with fail
      refine HTG.out.mono ?_
      rintro e w2 ⟨rfl, hn2⟩
      have HN2 := Lib.hid ((HN1.out.alloc _).trans hn2)
      have hnz := HNX.out.trans hn2
      have hrb := (hnz.block _ (lt_of_block HRB.out)).trans HRB.out
      have r0 := cell_of_row _ _ 0 _ _ _ hrb
      have r1 := cell_of_row _ _ 1 _ _ _ hrb
      have r2 := cell_of_row _ _ 2 _ _ _ hrb
      have rf := fun i => frozen_of_row _ _ i _ _ hrb
      clear hn2
      go_wp2_with fail
      have hp := put3_27 (.int .i64 0) (.int .i64 0) (.slice none 0 0) hrb
      refine bodyPost_ret (by simp [results, Tryz.results23, go_sem, r0, r1, r2]; try rfl) rfl ?_
      exact ⟨.inl ⟨by decide, rfl⟩, hp.2.2 _ HN2.out (Nat.le_succ _)⟩
    · go_wp2_with fail
      refine HTG.out.mono ?_
      rintro e w2 ⟨rfl, hn2⟩
      have HN2 := Lib.hid ((HN1.out.alloc _).trans hn2)
      have hnz := HNX.out.trans hn2
      have hrb := (hnz.block _ (lt_of_block HRB.out)).trans HRB.out
      have r0 := cell_of_row _ _ 0 _ _ _ hrb
      have r1 := cell_of_row _ _ 1 _ _ _ hrb
      have r2 := cell_of_row _ _ 2 _ _ _ hrb
      have rf := fun i => frozen_of_row _ _ i _ _ hrb
      clear hn2
      go_wp2_with fail
      have hp := put3_27 (.int .i64 0) (.int .i64 0) (.slice none 0 0) hrb
      refine bodyPost_ret (by simp [results, Tryz.results23, go_sem, r0, r1, r2]; try rfl) rfl ?_
      exact ⟨.inl ⟨by decide, rfl⟩, hp.2.2 _ HN2.out (Nat.le_succ _)⟩
    · go_wp2_with fail
      refine HTG.out.mono ?_
      rintro e w2 ⟨rfl, hn2⟩
      have HN2 := Lib.hid ((HN1.out.alloc _).trans hn2)
      have hnz := HNX.out.trans hn2
      have hrb := (hnz.block _ (lt_of_block HRB.out)).trans HRB.out
      have r0 := cell_of_row _ _ 0 _ _ _ hrb
      have r1 := cell_of_row _ _ 1 _ _ _ hrb
      have r2 := cell_of_row _ _ 2 _ _ _ hrb
      have rf := fun i => frozen_of_row _ _ i _ _ hrb
      clear hn2
      go_wp2_with fail
      have hp := put3_27 (.int .i64 0) (.int .i64 0) (.slice none 0 0) hrb
      refine bodyPost_ret (by simp [results, Tryz.results23, go_sem, r0, r1, r2]; try rfl) rfl ?_
      exact ⟨.inl ⟨by decide, rfl⟩, hp.2.2 _ HN2.out (Nat.le_succ _)⟩
set_option maxHeartbeats 4000000 in
theorem fsh_call (k b : Int) (g off n c px ox nx cx py oy ny cy : Nat) (l xl yl : List (BitVec 64)) (w : World) (h : QRow w (some ⟨g, off, none⟩) n c l) (hx : QRow w (some ⟨px, ox, none⟩) nx cx xl) (hy : QRow w (some ⟨py, oy, none⟩) ny cy yl) (hA : AmL k b l xl yl) (E : Int) (L : List (BitVec 64)) (hS : ShC k b l xl yl E L) : Calls Tryz.prog 23 #[.agg (sdc k b (some ⟨g, off, none⟩) n c), .slice (some ⟨px, ox, none⟩) nx cx, .slice (some ⟨py, oy, none⟩) ny cy] w fun e w' => FSR k b w w' n e E L := by
  obtain ⟨n1, n2, n3⟩ := hA.len
  have HT := Lib.hid hA.tg
  have HF := Lib.hid (fun (w0 : World) hr => fos_fine k b (some ⟨g, off, none⟩) n c l w0 hr hA.ch)
  rw [h.len_eq] at n2 HT
  rw [hx.len_eq] at n1 n2 n3
  rw [hy.len_eq] at n3
  have HS := Lib.hid hS
  have q0 : ((nx : Int) == 0) = false := beq_false_of_ne (by omega)
  have HQ1 : Hid (decide (tgK k n < (nx : Int)) = false) := Lib.hid (decide_eq_false (by omega))
  have q2 : ((ny : Int) != (nx : Int)) = false := by rw [n3]; exact bne_self_eq_false _
  generalize hW : (w.alloc (.cells (sdc k b (some ⟨g, off, none⟩) n c) 30)).alloc (.cells #[.int .i64 0, .int .i64 0, .slice none 0 0] 30) = w0
  have HB : Hid (w0.heap[w.heap.size]? = some (.cells (sdc k b (some ⟨g, off, none⟩) n c) 30 (0, 0))) := Lib.hid (by rw [← hW]; exact ((New.refl _).alloc _).block _ (lt_of_block (heap_alloc_new w _)) |>.trans (heap_alloc_new w _))
  have HRB : Hid (w0.heap[w.heap.size + 1]? = some (.cells #[.int .i64 0, .int .i64 0, .slice none 0 0] 30 (0, 0))) := Lib.hid (by rw [← hW]; exact first_blockF w _ _)
  have HN : Hid (New w w0) := Lib.hid (by rw [← hW]; exact ((New.refl w).alloc _).alloc _)
  have HROW := Lib.hid (h.stay HN.out)
  have HRX := Lib.hid (hx.stay HN.out)
  have HRY := Lib.hid (hy.stay HN.out)
  have HF2 := Lib.hid (HF.out w0 HROW.out)
  clear h hx hy hA hS n1 n2 n3 HF
  have c0 := cell_of_row _ _ 0 _ _ _ HB.out
  have c1 := cell_of_row _ _ 1 _ _ _ HB.out
  have c2 := cell_of_row _ _ 2 _ _ _ HB.out
  go_enter Tryz.func23, Tryz.ntmps23
  go_wp2_with fail
  refine HF2.out.mono ?_
  rintro e w1 ⟨⟨f, rfl, hg⟩, hn⟩
  have HN1 := Lib.hid (HN.out.trans hn)
  have hI := hg.now
  clear HF2 c0 c1 c2
  cases hI with
  | poly =>
    have htg : tgK 1 n = (n : Int) := rfl
    have q1 := HQ1.out
    have hT := HT.out
    rw [htg] at q1 hT
    replace q1 : decide (n < nx) = false := decide_eq_false (fun h => absurd (Int.ofNat_lt.2 h) (of_decide_eq_false q1))
    have t0 : (((n : Int) : Int) == 0) = false := beq_false_of_ne hT
    clear HT hT htg
    have HTG := Lib.hid (tg_poly 1 b (some ⟨g, off, none⟩) n c (w1.alloc (.cells #[.string (nmF 1), .int .i64 (lsF 1), .int .i64 (msF 1), .int .i64 (lbF 1), .int .i64 (mbF 1), .int .i64 (kyF 1), (.func (Fn.func 70) #[] #[]), (.func (Fn.func 72) #[] #[]), (.func (Fn.func 73) #[] #[]), (.func (Fn.func 75) #[] #[])] 52)))
    have HB2 := Lib.hid (((hn.alloc (.cells #[.string (nmF 1), .int .i64 (lsF 1), .int .i64 (msF 1), .int .i64 (lbF 1), .int .i64 (mbF 1), .int .i64 (kyF 1), (.func (Fn.func 70) #[] #[]), (.func (Fn.func 72) #[] #[]), (.func (Fn.func 73) #[] #[]), (.func (Fn.func 75) #[] #[])] 52)).block _ (lt_of_block HB.out)).trans HB.out)
    have HNX := Lib.hid (hn.alloc (.cells #[.string (nmF 1), .int .i64 (lsF 1), .int .i64 (msF 1), .int .i64 (lbF 1), .int .i64 (mbF 1), .int .i64 (kyF 1), (.func (Fn.func 70) #[] #[]), (.func (Fn.func 72) #[] #[]), (.func (Fn.func 73) #[] #[]), (.func (Fn.func 75) #[] #[])] 52))
    have s0 := cell_of_row _ _ 0 _ _ _ HB2.out
    have s1 := cell_of_row _ _ 1 _ _ _ HB2.out
    have s2 := cell_of_row _ _ 2 _ _ _ HB2.out
    clear hg
    go_wp2_with fail
    refine HTG.out.mono ?_
    rintro e w2 ⟨rfl, hn2⟩
    have HN2 := Lib.hid (HNX.out.trans hn2)
    have HN12 := Lib.hid (((New.refl w1).alloc (.cells #[.string (nmF 1), .int .i64 (lsF 1), .int .i64 (msF 1), .int .i64 (lbF 1), .int .i64 (mbF 1), .int .i64 (kyF 1), (.func (Fn.func 70) #[] #[]), (.func (Fn.func 72) #[] #[]), (.func (Fn.func 73) #[] #[]), (.func (Fn.func 75) #[] #[])] 52)).trans hn2)
    have HSH := Lib.hid (HS.out.poly rfl w2 g off n c px ox nx cx py oy ny cy (HROW.out.stay HN2.out) (HRX.out.stay HN2.out) (HRY.out.stay HN2.out))
    have f9 := cell_of_row _ _ 9 _ _ _ ((hn2.block _ (lt_of_block (heap_alloc_new w1 (.cells #[.string (nmF 1), .int .i64 (lsF 1), .int .i64 (msF 1), .int .i64 (lbF 1), .int .i64 (mbF 1), .int .i64 (kyF 1), (.func (Fn.func 70) #[] #[]), (.func (Fn.func 72) #[] #[]), (.func (Fn.func 73) #[] #[]), (.func (Fn.func 75) #[] #[])] 52)))).trans (heap_alloc_new w1 (.cells #[.string (nmF 1), .int .i64 (lsF 1), .int .i64 (msF 1), .int .i64 (lbF 1), .int .i64 (mbF 1), .int .i64 (kyF 1), (.func (Fn.func 70) #[] #[]), (.func (Fn.func 72) #[] #[]), (.func (Fn.func 73) #[] #[]), (.func (Fn.func 75) #[] #[])] 52)))
    clear s0 s1 s2
    have s0 := cell_of_row _ _ 0 _ _ _ ((hn2.block _ (lt_of_block HB2.out)).trans HB2.out)
    have s1 := cell_of_row _ _ 1 _ _ _ ((hn2.block _ (lt_of_block HB2.out)).trans HB2.out)
    have s2 := cell_of_row _ _ 2 _ _ _ ((hn2.block _ (lt_of_block HB2.out)).trans HB2.out)
    clear HTG hn2 hn
    go_wp2_with fail
    refine HSH.out.mono ?_
    rintro e w3 ⟨(⟨hE, rfl⟩ | ⟨rfl, a', c', rfl, hr⟩), hn3⟩
    · have HE := Lib.hid hE
      have hEE : (E != 0) = true := bne_iff_ne.2 hE
      have HN3 := Lib.hid (HN.out.trans (HN2.out.trans hn3))
      have hnz := HN2.out.trans hn3
      clear hE hn3 s0 s1 s2
      have hrb := (hnz.block _ (lt_of_block HRB.out)).trans HRB.out
      have r0 := cell_of_row _ _ 0 _ _ _ hrb
      have r1 := cell_of_row _ _ 1 _ _ _ hrb
      have r2 := cell_of_row _ _ 2 _ _ _ hrb
      have rf := fun i => frozen_of_row _ _ i _ _ hrb
      go_wp2_with fail
      have hp := put3_27 (.int .i64 0) (.int .i64 0) (.slice none 0 0) hrb
      refine bodyPost_ret (by simp [results, Tryz.results23, go_sem, r0, r1, r2]; try rfl) rfl ?_
      exact ⟨.inl ⟨HE.out, rfl⟩, hp.2.2 _ HN3.out (Nat.le_succ _)⟩
    · have HR := Lib.hid hr
      have HN3 := Lib.hid (HN.out.trans (HN2.out.trans hn3))
      have hnz := HN2.out.trans hn3
      have u0 := cell_of_row _ _ 0 _ _ _ ((hn3.block _ (lt_of_block ((HN2.out.block _ (lt_of_block HB.out)).trans HB.out))).trans ((HN2.out.block _ (lt_of_block HB.out)).trans HB.out))
      have u1 := cell_of_row _ _ 1 _ _ _ ((hn3.block _ (lt_of_block ((HN2.out.block _ (lt_of_block HB.out)).trans HB.out))).trans ((HN2.out.block _ (lt_of_block HB.out)).trans HB.out))
      clear hr hn3 s0 s1 s2
      have hrb := (hnz.block _ (lt_of_block HRB.out)).trans HRB.out
      have r0 := cell_of_row _ _ 0 _ _ _ hrb
      have r1 := cell_of_row _ _ 1 _ _ _ hrb
      have r2 := cell_of_row _ _ 2 _ _ _ hrb
      have rf := fun i => frozen_of_row _ _ i _ _ hrb
      go_wp2_with fail
      have hp := put3_27 (.int .i64 1) (.int .i64 b) (.slice a' n c') hrb
      refine bodyPost_ret (by simp [results, Tryz.results23, go_sem, r0, r1, r2]; try rfl) rfl ?_
      exact ⟨.inr ⟨rfl, a', c', rfl, row_past27 HR.out hrb hp.2.1⟩, hp.2.2 _ HN3.out (Nat.le_succ _)⟩
  | odd bq hq =>
    exact absurd rfl HT.out
  | str bq hq =>
    exact absurd rfl HT.out
  | sum k hk bq b9 hq h9 =>
    have htg : tgK k n = 2 := by rcases hk with rfl | rfl <;> rfl
    have q1 := HQ1.out
    have hT := HT.out
    rw [htg] at q1 hT
    skip
    have t0 : ((2 : Int) == 0) = false := beq_false_of_ne hT
    clear HT hT htg
    have HTG := Lib.hid (tg_const k b (some ⟨g, off, none⟩) n c 2 bq (w1.alloc (.cells #[.string (nmF k), .int .i64 (lsF k), .int .i64 (msF k), .int .i64 (lbF k), .int .i64 (mbF k), .int .i64 (kyF k), (.func (Fn.func 82) #[] #[]), (.func (Fn.func 124) #[] #[.pointer (some ⟨bq, 0, none⟩)]), (.func (Fn.func 83) #[] #[]), (.func (Fn.func 86) #[] #[.pointer (some ⟨b9, 0, none⟩)])] 52)) (((New.refl w1).alloc (.cells #[.string (nmF k), .int .i64 (lsF k), .int .i64 (msF k), .int .i64 (lbF k), .int .i64 (mbF k), .int .i64 (kyF k), (.func (Fn.func 82) #[] #[]), (.func (Fn.func 124) #[] #[.pointer (some ⟨bq, 0, none⟩)]), (.func (Fn.func 83) #[] #[]), (.func (Fn.func 86) #[] #[.pointer (some ⟨b9, 0, none⟩)])] 52)).block _ (lt_of_block hq) |>.trans hq))
    have HB2 := Lib.hid (((hn.alloc (.cells #[.string (nmF k), .int .i64 (lsF k), .int .i64 (msF k), .int .i64 (lbF k), .int .i64 (mbF k), .int .i64 (kyF k), (.func (Fn.func 82) #[] #[]), (.func (Fn.func 124) #[] #[.pointer (some ⟨bq, 0, none⟩)]), (.func (Fn.func 83) #[] #[]), (.func (Fn.func 86) #[] #[.pointer (some ⟨b9, 0, none⟩)])] 52)).block _ (lt_of_block HB.out)).trans HB.out)
    have HNX := Lib.hid (hn.alloc (.cells #[.string (nmF k), .int .i64 (lsF k), .int .i64 (msF k), .int .i64 (lbF k), .int .i64 (mbF k), .int .i64 (kyF k), (.func (Fn.func 82) #[] #[]), (.func (Fn.func 124) #[] #[.pointer (some ⟨bq, 0, none⟩)]), (.func (Fn.func 83) #[] #[]), (.func (Fn.func 86) #[] #[.pointer (some ⟨b9, 0, none⟩)])] 52))
    have s0 := cell_of_row _ _ 0 _ _ _ HB2.out
    have s1 := cell_of_row _ _ 1 _ _ _ HB2.out
    have s2 := cell_of_row _ _ 2 _ _ _ HB2.out
    clear hg
    go_wp2_with fail
    refine HTG.out.mono ?_
    rintro e w2 ⟨rfl, hn2⟩
    have HN2 := Lib.hid (HNX.out.trans hn2)
    have HN12 := Lib.hid (((New.refl w1).alloc (.cells #[.string (nmF k), .int .i64 (lsF k), .int .i64 (msF k), .int .i64 (lbF k), .int .i64 (mbF k), .int .i64 (kyF k), (.func (Fn.func 82) #[] #[]), (.func (Fn.func 124) #[] #[.pointer (some ⟨bq, 0, none⟩)]), (.func (Fn.func 83) #[] #[]), (.func (Fn.func 86) #[] #[.pointer (some ⟨b9, 0, none⟩)])] 52)).trans hn2)
    have HSH := Lib.hid (HS.out.sum hk w2 g off n c px ox nx cx py oy ny cy bq b9 (HROW.out.stay HN2.out) (HRX.out.stay HN2.out) (HRY.out.stay HN2.out) ((HN12.out.block _ (lt_of_block h9)).trans h9))
    have f9 := cell_of_row _ _ 9 _ _ _ ((hn2.block _ (lt_of_block (heap_alloc_new w1 (.cells #[.string (nmF k), .int .i64 (lsF k), .int .i64 (msF k), .int .i64 (lbF k), .int .i64 (mbF k), .int .i64 (kyF k), (.func (Fn.func 82) #[] #[]), (.func (Fn.func 124) #[] #[.pointer (some ⟨bq, 0, none⟩)]), (.func (Fn.func 83) #[] #[]), (.func (Fn.func 86) #[] #[.pointer (some ⟨b9, 0, none⟩)])] 52)))).trans (heap_alloc_new w1 (.cells #[.string (nmF k), .int .i64 (lsF k), .int .i64 (msF k), .int .i64 (lbF k), .int .i64 (mbF k), .int .i64 (kyF k), (.func (Fn.func 82) #[] #[]), (.func (Fn.func 124) #[] #[.pointer (some ⟨bq, 0, none⟩)]), (.func (Fn.func 83) #[] #[]), (.func (Fn.func 86) #[] #[.pointer (some ⟨b9, 0, none⟩)])] 52)))
    clear s0 s1 s2
    have s0 := cell_of_row _ _ 0 _ _ _ ((hn2.block _ (lt_of_block HB2.out)).trans HB2.out)
    have s1 := cell_of_row _ _ 1 _ _ _ ((hn2.block _ (lt_of_block HB2.out)).trans HB2.out)
    have s2 := cell_of_row _ _ 2 _ _ _ ((hn2.block _ (lt_of_block HB2.out)).trans HB2.out)
    clear HTG hn2 hn
    go_wp2_with fail
    refine HSH.out.mono ?_
    rintro e w3 ⟨(⟨hE, rfl⟩ | ⟨rfl, a', c', rfl, hr⟩), hn3⟩
    · have HE := Lib.hid hE
      have hEE : (E != 0) = true := bne_iff_ne.2 hE
      have HN3 := Lib.hid (HN.out.trans (HN2.out.trans hn3))
      have hnz := HN2.out.trans hn3
      clear hE hn3 s0 s1 s2
      have hrb := (hnz.block _ (lt_of_block HRB.out)).trans HRB.out
      have r0 := cell_of_row _ _ 0 _ _ _ hrb
      have r1 := cell_of_row _ _ 1 _ _ _ hrb
      have r2 := cell_of_row _ _ 2 _ _ _ hrb
      have rf := fun i => frozen_of_row _ _ i _ _ hrb
      go_wp2_with fail
      have hp := put3_27 (.int .i64 0) (.int .i64 0) (.slice none 0 0) hrb
      refine bodyPost_ret (by simp [results, Tryz.results23, go_sem, r0, r1, r2]; try rfl) rfl ?_
      exact ⟨.inl ⟨HE.out, rfl⟩, hp.2.2 _ HN3.out (Nat.le_succ _)⟩
    · have HR := Lib.hid hr
      have HN3 := Lib.hid (HN.out.trans (HN2.out.trans hn3))
      have hnz := HN2.out.trans hn3
      have u0 := cell_of_row _ _ 0 _ _ _ ((hn3.block _ (lt_of_block ((HN2.out.block _ (lt_of_block HB.out)).trans HB.out))).trans ((HN2.out.block _ (lt_of_block HB.out)).trans HB.out))
      have u1 := cell_of_row _ _ 1 _ _ _ ((hn3.block _ (lt_of_block ((HN2.out.block _ (lt_of_block HB.out)).trans HB.out))).trans ((HN2.out.block _ (lt_of_block HB.out)).trans HB.out))
      clear hr hn3 s0 s1 s2
      have hrb := (hnz.block _ (lt_of_block HRB.out)).trans HRB.out
      have r0 := cell_of_row _ _ 0 _ _ _ hrb
      have r1 := cell_of_row _ _ 1 _ _ _ hrb
      have r2 := cell_of_row _ _ 2 _ _ _ hrb
      have rf := fun i => frozen_of_row _ _ i _ _ hrb
      go_wp2_with fail
      have hp := put3_27 (.int .i64 k) (.int .i64 b) (.slice a' n c') hrb
      refine bodyPost_ret (by simp [results, Tryz.results23, go_sem, r0, r1, r2]; try rfl) rfl ?_
      exact ⟨.inr ⟨rfl, a', c', rfl, row_past27 HR.out hrb hp.2.1⟩, hp.2.2 _ HN3.out (Nat.le_succ _)⟩
  | table k hk bq be bs hq he hs2 =>
    have htg : tgK k n = 3 := by rcases hk with rfl | rfl | rfl <;> rfl
    have q1 := HQ1.out
    have hT := HT.out
    rw [htg] at q1 hT
    skip
    have t0 : ((3 : Int) == 0) = false := beq_false_of_ne hT
    clear HT hT htg
    have HTG := Lib.hid (tg_const k b (some ⟨g, off, none⟩) n c 3 bq (w1.alloc (.cells #[.string (nmF k), .int .i64 (lsF k), .int .i64 (msF k), .int .i64 (lbF k), .int .i64 (mbF k), .int .i64 (kyF k), (.func (Fn.func 82) #[] #[]), (.func (Fn.func 124) #[] #[.pointer (some ⟨bq, 0, none⟩)]), (.func (Fn.func 88) #[] #[.pointer (some ⟨be, 0, none⟩)]), (.func (Fn.func 89) #[] #[.pointer (some ⟨bs, 0, none⟩)])] 52)) (((New.refl w1).alloc (.cells #[.string (nmF k), .int .i64 (lsF k), .int .i64 (msF k), .int .i64 (lbF k), .int .i64 (mbF k), .int .i64 (kyF k), (.func (Fn.func 82) #[] #[]), (.func (Fn.func 124) #[] #[.pointer (some ⟨bq, 0, none⟩)]), (.func (Fn.func 88) #[] #[.pointer (some ⟨be, 0, none⟩)]), (.func (Fn.func 89) #[] #[.pointer (some ⟨bs, 0, none⟩)])] 52)).block _ (lt_of_block hq) |>.trans hq))
    have HB2 := Lib.hid (((hn.alloc (.cells #[.string (nmF k), .int .i64 (lsF k), .int .i64 (msF k), .int .i64 (lbF k), .int .i64 (mbF k), .int .i64 (kyF k), (.func (Fn.func 82) #[] #[]), (.func (Fn.func 124) #[] #[.pointer (some ⟨bq, 0, none⟩)]), (.func (Fn.func 88) #[] #[.pointer (some ⟨be, 0, none⟩)]), (.func (Fn.func 89) #[] #[.pointer (some ⟨bs, 0, none⟩)])] 52)).block _ (lt_of_block HB.out)).trans HB.out)
    have HNX := Lib.hid (hn.alloc (.cells #[.string (nmF k), .int .i64 (lsF k), .int .i64 (msF k), .int .i64 (lbF k), .int .i64 (mbF k), .int .i64 (kyF k), (.func (Fn.func 82) #[] #[]), (.func (Fn.func 124) #[] #[.pointer (some ⟨bq, 0, none⟩)]), (.func (Fn.func 88) #[] #[.pointer (some ⟨be, 0, none⟩)]), (.func (Fn.func 89) #[] #[.pointer (some ⟨bs, 0, none⟩)])] 52))
    have s0 := cell_of_row _ _ 0 _ _ _ HB2.out
    have s1 := cell_of_row _ _ 1 _ _ _ HB2.out
    have s2 := cell_of_row _ _ 2 _ _ _ HB2.out
    clear hg
    go_wp2_with fail
    refine HTG.out.mono ?_
    rintro e w2 ⟨rfl, hn2⟩
    have HN2 := Lib.hid (HNX.out.trans hn2)
    have HN12 := Lib.hid (((New.refl w1).alloc (.cells #[.string (nmF k), .int .i64 (lsF k), .int .i64 (msF k), .int .i64 (lbF k), .int .i64 (mbF k), .int .i64 (kyF k), (.func (Fn.func 82) #[] #[]), (.func (Fn.func 124) #[] #[.pointer (some ⟨bq, 0, none⟩)]), (.func (Fn.func 88) #[] #[.pointer (some ⟨be, 0, none⟩)]), (.func (Fn.func 89) #[] #[.pointer (some ⟨bs, 0, none⟩)])] 52)).trans hn2)
    have HSH := Lib.hid (HS.out.tab hk w2 g off n c px ox nx cx py oy ny cy bs (HROW.out.stay HN2.out) (HRX.out.stay HN2.out) (HRY.out.stay HN2.out) ((HN12.out.block _ (lt_of_block hs2)).trans hs2))
    have f9 := cell_of_row _ _ 9 _ _ _ ((hn2.block _ (lt_of_block (heap_alloc_new w1 (.cells #[.string (nmF k), .int .i64 (lsF k), .int .i64 (msF k), .int .i64 (lbF k), .int .i64 (mbF k), .int .i64 (kyF k), (.func (Fn.func 82) #[] #[]), (.func (Fn.func 124) #[] #[.pointer (some ⟨bq, 0, none⟩)]), (.func (Fn.func 88) #[] #[.pointer (some ⟨be, 0, none⟩)]), (.func (Fn.func 89) #[] #[.pointer (some ⟨bs, 0, none⟩)])] 52)))).trans (heap_alloc_new w1 (.cells #[.string (nmF k), .int .i64 (lsF k), .int .i64 (msF k), .int .i64 (lbF k), .int .i64 (mbF k), .int .i64 (kyF k), (.func (Fn.func 82) #[] #[]), (.func (Fn.func 124) #[] #[.pointer (some ⟨bq, 0, none⟩)]), (.func (Fn.func 88) #[] #[.pointer (some ⟨be, 0, none⟩)]), (.func (Fn.func 89) #[] #[.pointer (some ⟨bs, 0, none⟩)])] 52)))
    clear s0 s1 s2
    have s0 := cell_of_row _ _ 0 _ _ _ ((hn2.block _ (lt_of_block HB2.out)).trans HB2.out)
    have s1 := cell_of_row _ _ 1 _ _ _ ((hn2.block _ (lt_of_block HB2.out)).trans HB2.out)
    have s2 := cell_of_row _ _ 2 _ _ _ ((hn2.block _ (lt_of_block HB2.out)).trans HB2.out)
    clear HTG hn2 hn
    go_wp2_with fail
    refine HSH.out.mono ?_
    rintro e w3 ⟨(⟨hE, rfl⟩ | ⟨rfl, a', c', rfl, hr⟩), hn3⟩
    · have HE := Lib.hid hE
      have hEE : (E != 0) = true := bne_iff_ne.2 hE
      have HN3 := Lib.hid (HN.out.trans (HN2.out.trans hn3))
      have hnz := HN2.out.trans hn3
      clear hE hn3 s0 s1 s2
      have hrb := (hnz.block _ (lt_of_block HRB.out)).trans HRB.out
      have r0 := cell_of_row _ _ 0 _ _ _ hrb
      have r1 := cell_of_row _ _ 1 _ _ _ hrb
      have r2 := cell_of_row _ _ 2 _ _ _ hrb
      have rf := fun i => frozen_of_row _ _ i _ _ hrb
      go_wp2_with fail
      have hp := put3_27 (.int .i64 0) (.int .i64 0) (.slice none 0 0) hrb
      refine bodyPost_ret (by simp [results, Tryz.results23, go_sem, r0, r1, r2]; try rfl) rfl ?_
      exact ⟨.inl ⟨HE.out, rfl⟩, hp.2.2 _ HN3.out (Nat.le_succ _)⟩
    · have HR := Lib.hid hr
      have HN3 := Lib.hid (HN.out.trans (HN2.out.trans hn3))
      have hnz := HN2.out.trans hn3
      have u0 := cell_of_row _ _ 0 _ _ _ ((hn3.block _ (lt_of_block ((HN2.out.block _ (lt_of_block HB.out)).trans HB.out))).trans ((HN2.out.block _ (lt_of_block HB.out)).trans HB.out))
      have u1 := cell_of_row _ _ 1 _ _ _ ((hn3.block _ (lt_of_block ((HN2.out.block _ (lt_of_block HB.out)).trans HB.out))).trans ((HN2.out.block _ (lt_of_block HB.out)).trans HB.out))
      clear hr hn3 s0 s1 s2
      have hrb := (hnz.block _ (lt_of_block HRB.out)).trans HRB.out
      have r0 := cell_of_row _ _ 0 _ _ _ hrb
      have r1 := cell_of_row _ _ 1 _ _ _ hrb
      have r2 := cell_of_row _ _ 2 _ _ _ hrb
      have rf := fun i => frozen_of_row _ _ i _ _ hrb
      go_wp2_with fail
      have hp := put3_27 (.int .i64 k) (.int .i64 b) (.slice a' n c') hrb
      refine bodyPost_ret (by simp [results, Tryz.results23, go_sem, r0, r1, r2]; try rfl) rfl ?_
      exact ⟨.inr ⟨rfl, a', c', rfl, row_past27 HR.out hrb hp.2.1⟩, hp.2.2 _ HN3.out (Nat.le_succ _)⟩
end Go.Proofs.YtebcfbcfipmahaaGreat
