import Derived.Test.YtadcihkpnpemeaaGreatTapQ
import Derived.Test.YtadcihkpnpemeaaGreatGsY
section
/- Tapes that a generator feeds: their memory, and what is told of them. -/
namespace Go.Proofs.YtadcihkpnpemeaaGreat
open Go.RowKit Go.Bv
set_option linter.unusedVariables false
set_option maxRecDepth 100000
/-- the cells of the box of a tape that is fed -/
def fedCells (kd : Int) (q : W4) (v : Value) (left : Int) : Array Value := #[.func (Fn.func 19) #[] #[], .int .i64 kd, .int .u64 (W64 q.a), .int .u64 (W64 q.b), .int .u64 (W64 q.c), .int .u64 (W64 q.d), v, .int .i64 left]
structure FedIn (w : World) (b g : Nat) (kd : Int) (q : W4) (m k : Nat) (v : Value) : Prop where
  box : w.heap[b]? = some (.cells (fedCells kd (wsK kd q k) v ((m - k : Nat) : Int)) 52 (0, 0))
  le : k ≤ m
  most : m ≤ 4096
  good : chkK kd q = 0
  taken : w.ownsRow 0 22 1 v k ((wlK kd q k).map fun x => .int .u64 (W64 x))
  own : ∀ g', v.ownBlock = some g' → g' = g ∧ g' ≠ b
  nil : v.ownBlock = none → g = b
def Fed (w : World) (b g : Nat) (kd : Int) (q : W4) (m k : Nat) : Prop := ∃ v, FedIn w b g kd q m k v
theorem FedIn.stay {w w' : World} {b g : Nat} {kd : Int} {q : W4} {m k : Nat} {v : Value} (h : FedIn w b g kd q m k v) (hn : New w w') : FedIn w' b g kd q m k v where
  box := (hn.block _ (lt_of_block h.box)).trans h.box
  le := h.le
  most := h.most
  good := h.good
  taken := own_words h.taken w' fun g' e => hn.block _ (h.taken.lt g' e).2
  own := h.own
  nil := h.nil
theorem Fed.stay {w w' : World} {b g : Nat} {kd : Int} {q : W4} {m k : Nat} (h : Fed w b g kd q m k) (hn : New w w') : Fed w' b g kd q m k := by
  obtain ⟨v, h⟩ := h
  exact ⟨v, h.stay hn⟩
set_option maxHeartbeats 1000000 in
theorem made_f (b g : Nat) (kd : Int) (q : W4) (m k : Nat) (w : World) (h : Fed w b g kd q m k) :
    Calls Tryz.prog 25 #[.pointer (some ⟨b, 0, none⟩)] w fun e w' => e = .returned (.bool true) ∧ w' = w := by
  obtain ⟨v, h⟩ := h
  have c0 : w.cell? ⟨b, 0, none⟩ = some (.func (Fn.func 19) #[] #[]) := cell_of_row _ _ 0 _ _ _ h.box
  clear h
  have hne : ∀ (w : World), (binOp .neq 50 (.func (Fn.func 19) #[] #[]) .nilFunc).run Tryz.prog w = .ok (.bool true) w := fun w => by
    kernel_rfl
  go_enter Tryz.func25, Tryz.ntmps25
  go_wp2
  go_ret
  exact ⟨rfl, rfl⟩
set_option maxHeartbeats 1000000 in
theorem left_f (b g : Nat) (kd : Int) (q : W4) (m k : Nat) (w : World) (h : Fed w b g kd q m k) :
    Calls Tryz.prog 17 #[.pointer (some ⟨b, 0, none⟩)] w fun e w' => e = .returned (.int .i64 ((m - k : Nat) : Int)) ∧ w' = w := by
  have HM := Lib.hid (made_f b g kd q m k w h)
  obtain ⟨v, h⟩ := h
  have c7 : w.cell? ⟨b, 7, none⟩ = some (.int .i64 ((m - k : Nat) : Int)) := cell_of_row _ _ 7 _ _ _ h.box
  clear h
  go_enter Tryz.func17, Tryz.ntmps17
  go_wp2_with fail
  refine HM.out.mono ?_
  rintro e w' ⟨rfl, rfl⟩
  go_wp2
  go_ret
  exact ⟨rfl, rfl⟩
set_option maxHeartbeats 1000000 in
theorem used_f (b g : Nat) (kd : Int) (q : W4) (m k : Nat) (w : World) (h : Fed w b g kd q m k) :
    Calls Tryz.prog 13 #[.pointer (some ⟨b, 0, none⟩)] w fun e w' => e = .returned (.int .i64 (k : Int)) ∧ w' = w := by
  have HM := Lib.hid (made_f b g kd q m k w h)
  obtain ⟨v, h⟩ := h
  obtain ⟨x, cap2, rfl, _⟩ := own_len h.taken
  have c6 : w.cell? ⟨b, 6, none⟩ = some (.slice x k cap2) := cell_of_row _ _ 6 _ _ _ h.box
  clear h
  go_enter Tryz.func13, Tryz.ntmps13
  go_wp2_with fail
  refine HM.out.mono ?_
  rintro e w' ⟨rfl, rfl⟩
  go_wp2
  go_ret
  exact ⟨rfl, rfl⟩
set_option maxHeartbeats 1000000 in
theorem taken_f (b g : Nat) (kd : Int) (q : W4) (m k : Nat) (w : World) (h : Fed w b g kd q m k) :
    Calls Tryz.prog 15 #[.pointer (some ⟨b, 0, none⟩)] w fun e w' => ∃ a cap, e = .returned (.slice a k cap) ∧ QRow w' a k cap (wlK kd q k) ∧ New w w' := by
  have HM := Lib.hid (made_f b g kd q m k w h)
  obtain ⟨v, h⟩ := h
  have hmost := h.most
  have hk := h.le
  obtain ⟨x, cap2, rfl, hq⟩ := QRow.of_owns h.taken (by omega)
  have c6 : w.cell? ⟨b, 6, none⟩ = some (.slice x k cap2) := cell_of_row _ _ 6 _ _ _ h.box
  have HC := Lib.hid (clone_q x k cap2 (wlK kd q k) w hq)
  clear h hq
  go_enter Tryz.func15, Tryz.ntmps15
  go_wp2_with fail
  refine HM.out.mono ?_
  rintro e w' ⟨rfl, rfl⟩
  go_wp2_with fail
  refine HC.out.mono ?_
  rintro e w1 ⟨v, rfl, how, hn⟩
  obtain ⟨a3, cap3, rfl, hq3⟩ := QRow.of_owns how (by omega)
  have HQ := Lib.hid (And.intro hq3 hn)
  clear how hq3 hn
  go_wp2
  go_ret
  exact ⟨_, _, rfl, HQ.out⟩
set_option maxHeartbeats 1000000 in
theorem next_none_f (b g : Nat) (kd : Int) (q : W4) (m : Nat) (w : World) (h : Fed w b g kd q m m) :
    Calls Tryz.prog 11 #[.pointer (some ⟨b, 0, none⟩)] w fun e w' => e = .returned (.tuple #[.int .u64 0, .int .i64 7]) ∧ w' = w := by
  have HM := Lib.hid (made_f b g kd q m m w h)
  obtain ⟨v, h⟩ := h
  have c7 : w.cell? ⟨b, 7, none⟩ = some (.int .i64 0) := by
    have := cell_of_row _ _ 7 _ _ _ h.box
    rw [Nat.sub_self] at this
    exact this
  clear h
  go_enter Tryz.func11, Tryz.ntmps11
  go_wp2_with fail
  refine HM.out.mono ?_
  rintro e w' ⟨rfl, rfl⟩
  go_wp2
  go_ret2
  exact ⟨rfl, rfl⟩
/-- a block that holds a state -/
def BQ (w : World) (b : Nat) (kd : Int) (q : W4) : Prop := w.heap[b]? = some (.cells (stc kd q) 25 (0, 0))
theorem BQ.stay {w w' : World} {b : Nat} {kd : Int} {q : W4} (h : BQ w b kd q) (hn : New w w') : BQ w' b kd q := (hn.block _ (lt_of_block h)).trans h
theorem BQ.c {w : World} {b : Nat} {kd : Int} {q : W4} (h : BQ w b kd q) : w.cell? ⟨b, 0, none⟩ = some (.int .i64 kd) ∧ w.cell? ⟨b, 1, none⟩ = some (.int .u64 (W64 q.a)) ∧ w.cell? ⟨b, 2, none⟩ = some (.int .u64 (W64 q.b)) ∧ w.cell? ⟨b, 3, none⟩ = some (.int .u64 (W64 q.c)) ∧ w.cell? ⟨b, 4, none⟩ = some (.int .u64 (W64 q.d)) :=
  ⟨cell_of_row _ _ 0 _ _ _ h, cell_of_row _ _ 1 _ _ _ h, cell_of_row _ _ 2 _ _ _ h, cell_of_row _ _ 3 _ _ _ h, cell_of_row _ _ 4 _ _ _ h⟩
theorem BQ.free {w : World} {b : Nat} {kd : Int} {q : W4} (h : BQ w b kd q) : ∀ i, w.frozen? ⟨b, i, none⟩ = false := fun i => frozen_of_row _ _ _ _ _ h
theorem BS.putQ {w : World} {b : Nat} (kd : Int) (q : W4) (h : BS w b) : BQ ((((((w.setCell ⟨b, 0, none⟩ (.int .i64 kd)).setCell ⟨b, 1, none⟩ (.int .u64 (W64 q.a))).setCell ⟨b, 2, none⟩ (.int .u64 (W64 q.b))).setCell ⟨b, 3, none⟩ (.int .u64 (W64 q.c))).setCell ⟨b, 4, none⟩ (.int .u64 (W64 q.d)))) b kd q := by
  have h1 := heap_setCell_same w b 0 _ _ (.int .i64 kd) h
  have h2 := heap_setCell_same _ b 1 _ _ (.int .u64 (W64 q.a)) h1
  have h3 := heap_setCell_same _ b 2 _ _ (.int .u64 (W64 q.b)) h2
  have h4 := heap_setCell_same _ b 3 _ _ (.int .u64 (W64 q.c)) h3
  exact heap_setCell_same _ b 4 _ _ (.int .u64 (W64 q.d)) h4
theorem putQ_new {W w : World} {b : Nat} {kd : Int} {q : W4} (hn : New W w) (hb : W.heap.size ≤ b) : New W ((((((w.setCell ⟨b, 0, none⟩ (.int .i64 kd)).setCell ⟨b, 1, none⟩ (.int .u64 (W64 q.a))).setCell ⟨b, 2, none⟩ (.int .u64 (W64 q.b))).setCell ⟨b, 3, none⟩ (.int .u64 (W64 q.c))).setCell ⟨b, 4, none⟩ (.int .u64 (W64 q.d)))) :=
  ((((hn.setCell hb _).setCell hb _).setCell hb _).setCell hb _).setCell hb _
/-- the generator's next word -/
theorem word_f (i : Int) (kd : Int) (q : W4) (hk : chkK kd q = 0) (w : World) :
    Calls Tryz.prog 19 #[.int .i64 i, .agg (stc kd q)] w fun e w' => e = .returned (.tuple #[.int .u64 (W64 (ouK kd q)), .agg (stc kd (nxK kd q))]) ∧ New w w' := by
  have HNX := Lib.hid (fun w => next_of kd q _ _ hk (nx_all hk) w)
  obtain ⟨x, hx⟩ : ∃ x, ouK kd q = x := ⟨_, rfl⟩
  obtain ⟨p, hp⟩ : ∃ x, nxK kd q = x := ⟨_, rfl⟩
  rw [hx, hp] at HNX ⊢
  have hz := two_blocksG w (.cells (stc kd q) 25) (.cells zst 25)
  have HZ := Lib.hid hz
  clear hz hx hp hk
  go_enter Tryz.func19, Tryz.ntmps19
  go_wp2_with fail
  refine (HNX.out _).mono ?_
  rintro e w1 ⟨rfl, n1⟩
  have n2 := n1.alloc (.cells (stc kd p) 25)
  have hq := heap_alloc_new w1 (.cells (stc kd p) 25)
  have hy := (n2.block _ (lt_of_block HZ.out.2.1)).trans HZ.out.2.1
  have q0 := cell_of_row _ _ 0 _ _ _ hq
  have q1 := cell_of_row _ _ 1 _ _ _ hq
  have q2 := cell_of_row _ _ 2 _ _ _ hq
  have q3 := cell_of_row _ _ 3 _ _ _ hq
  have q4 := cell_of_row _ _ 4 _ _ _ hq
  have d0 := cell_of_row _ _ 0 _ _ _ hy
  have d1 := cell_of_row _ _ 1 _ _ _ hy
  have d2 := cell_of_row _ _ 2 _ _ _ hy
  have d3 := cell_of_row _ _ 3 _ _ _ hy
  have d4 := cell_of_row _ _ 4 _ _ _ hy
  have df := fun i => frozen_of_row _ _ i _ _ hy
  have HY := Lib.hid hy
  have HN := Lib.hid (HZ.out.2.2.trans n2)
  clear hq hy n1 n2 HZ
  go_wp2_with fail
  generalize hw5 : World.alloc w1 _ = w5 at *
  clear hw5
  first
    | (go_region
       go_wp2)
    | go_wp2
  have hp := put5_facts (.int .i64 kd) (.int .u64 (W64 p.a)) (.int .u64 (W64 p.b)) (.int .u64 (W64 p.c)) (.int .u64 (W64 p.d)) HY.out
  refine bodyPost_ret (by simp [results, Tryz.results19, go_sem, d0, d1, d2, d3, d4]; try rfl) rfl ?_
  first | exact ⟨rfl, (hp.2.2.1 _ HN.out (by omega)).drew⟩ | exact ⟨rfl, hp.2.2.1 _ HN.out (by omega)⟩
theorem drew_heap (Z : World) : Z.drew.heap = Z.heap := rfl
theorem six_put {w : World} {b : Nat} {u0 u1 u2 u3 u4 u5 u6 u7 : Value} {T : TypeId} (v1 v2 v3 v4 v5 v7 : Value) (h : w.heap[b]? = some (.cells #[u0, u1, u2, u3, u4, u5, u6, u7] T (0, 0))) : ((((((w.setCell ⟨b, 1, none⟩ v1).setCell ⟨b, 2, none⟩ v2).setCell ⟨b, 3, none⟩ v3).setCell ⟨b, 4, none⟩ v4).setCell ⟨b, 5, none⟩ v5).setCell ⟨b, 7, none⟩ v7).heap[b]? = some (.cells #[u0, v1, v2, v3, v4, v5, u6, v7] T (0, 0)) := by
  have h1 : (w.setCell ⟨b, 1, none⟩ v1).heap[b]? = some (.cells #[u0, v1, u2, u3, u4, u5, u6, u7] T (0, 0)) := heap_setCell_same _ b 1 _ _ v1 h
  have h2 : ((w.setCell ⟨b, 1, none⟩ v1).setCell ⟨b, 2, none⟩ v2).heap[b]? = some (.cells #[u0, v1, v2, u3, u4, u5, u6, u7] T (0, 0)) := heap_setCell_same _ b 2 _ _ v2 h1
  have h3 : (((w.setCell ⟨b, 1, none⟩ v1).setCell ⟨b, 2, none⟩ v2).setCell ⟨b, 3, none⟩ v3).heap[b]? = some (.cells #[u0, v1, v2, v3, u4, u5, u6, u7] T (0, 0)) := heap_setCell_same _ b 3 _ _ v3 h2
  have h4 : ((((w.setCell ⟨b, 1, none⟩ v1).setCell ⟨b, 2, none⟩ v2).setCell ⟨b, 3, none⟩ v3).setCell ⟨b, 4, none⟩ v4).heap[b]? = some (.cells #[u0, v1, v2, v3, v4, u5, u6, u7] T (0, 0)) := heap_setCell_same _ b 4 _ _ v4 h3
  have h5 : (((((w.setCell ⟨b, 1, none⟩ v1).setCell ⟨b, 2, none⟩ v2).setCell ⟨b, 3, none⟩ v3).setCell ⟨b, 4, none⟩ v4).setCell ⟨b, 5, none⟩ v5).heap[b]? = some (.cells #[u0, v1, v2, v3, v4, v5, u6, u7] T (0, 0)) := heap_setCell_same _ b 5 _ _ v5 h4
  have h7 : ((((((w.setCell ⟨b, 1, none⟩ v1).setCell ⟨b, 2, none⟩ v2).setCell ⟨b, 3, none⟩ v3).setCell ⟨b, 4, none⟩ v4).setCell ⟨b, 5, none⟩ v5).setCell ⟨b, 7, none⟩ v7).heap[b]? = some (.cells #[u0, v1, v2, v3, v4, v5, u6, v7] T (0, 0)) := heap_setCell_same _ b 7 _ _ v7 h5
  exact h7
theorem state_put {w : World} {b : Nat} {kd : Int} {q p : W4} {v : Value} {L : Int} (g : Nat) (m : Int) (h : w.heap[b]? = some (.cells (fedCells kd q v L) 52 (0, 0))) (W : World)
    (hW : (((((((w.setCell ⟨b, 1, none⟩ (.int .i64 kd)).setCell ⟨b, 2, none⟩ (.int .u64 (W64 p.a))).setCell ⟨b, 3, none⟩ (.int .u64 (W64 p.b))).setCell ⟨b, 4, none⟩ (.int .u64 (W64 p.c))).setCell ⟨b, 5, none⟩ (.int .u64 (W64 p.d)))).setCell ⟨b, 7, none⟩ (.int .i64 m)).drew = W) :
    W.heap[b]? = some (.cells (fedCells kd p v m) 52 (0, 0)) ∧ (∀ i, i ≠ b → W.heap[i]? = w.heap[i]?) ∧ W.heap.size = w.heap.size ∧ But2 b g w W := by
  subst hW
  have h0 : w.heap[b]? = some (.cells #[.func (Fn.func 19) #[] #[], .int .i64 kd, .int .u64 (W64 q.a), .int .u64 (W64 q.b), .int .u64 (W64 q.c), .int .u64 (W64 q.d), v, .int .i64 L] 52 (0, 0)) := h
  have h6 := six_put (.int .i64 kd) (.int .u64 (W64 p.a)) (.int .u64 (W64 p.b)) (.int .u64 (W64 p.c)) (.int .u64 (W64 p.d)) (.int .i64 m) h0
  refine ⟨by rw [drew_heap]; exact h6, fun i hi => ?_, ?_, ?_⟩
  all_goals (try rw [drew_heap])
  · exact (heap_setCell_other _ _ _ _ hi).trans ((heap_setCell_other _ _ _ _ hi).trans ((heap_setCell_other _ _ _ _ hi).trans ((heap_setCell_other _ _ _ _ hi).trans ((heap_setCell_other _ _ _ _ hi).trans (heap_setCell_other _ _ _ _ hi)))))
  · simp [World.setCell]
  · exact (((((((But2.refl b g w).setCell (Or.inl rfl) _).setCell (Or.inl rfl) _).setCell (Or.inl rfl) _).setCell (Or.inl rfl) _).setCell (Or.inl rfl) _).setCell (Or.inl rfl) _).then (New.refl _).drew
set_option maxHeartbeats 1000000 in
theorem next_some_f (b g : Nat) (kd : Int) (q : W4) (mm k : Nat) (hk : k < mm) (w : World) (h : Fed w b g kd q mm k) :
    Calls Tryz.prog 11 #[.pointer (some ⟨b, 0, none⟩)] w fun e w' => e = .returned (.tuple #[.int .u64 (W64 (wdK kd q k)), .int .i64 0]) ∧ ∃ g', Fed w' b g' kd q mm (k + 1) ∧ But2 b g w w' ∧ (g' = g ∨ w.heap.size ≤ g') := by
  have HM := Lib.hid (made_f b g kd q mm k w h)
  obtain ⟨v, h⟩ := h
  have H := Lib.hid h
  have HW := Lib.hid (fun (w' : World) => word_f k kd (wsK kd q k) (chk_ws h.good k) w')
  have HWS : Hid (wsK kd q (k + 1) = nxK kd (wsK kd q k)) := Lib.hid rfl
  have HWL := Lib.hid (wlK_succ kd q k)
  obtain ⟨qk, hqk⟩ : ∃ z, wsK kd q k = z := ⟨_, rfl⟩
  obtain ⟨qn, hqn⟩ : ∃ z, nxK kd (wsK kd q k) = z := ⟨_, rfl⟩
  obtain ⟨z, hz⟩ : ∃ z, wdK kd q k = z := ⟨_, rfl⟩
  have hz2 : ouK kd (wsK kd q k) = z := hz
  rw [hz2, hqn, hqk] at HW
  rw [hqn] at HWS
  obtain ⟨m, hm⟩ : ∃ m, mm - k = m + 1 := ⟨mm - k - 1, by omega⟩
  have hm2 : mm - (k + 1) = m := by omega
  have hmost : m ≤ 17592186044416 := by have := h.most; omega
  have hmostk : k + 1 ≤ 17592186044416 := by have := h.most; omega
  obtain ⟨x, cap2, hv, _⟩ := own_len h.taken
  have hb := h.box
  rw [hm, hqk] at hb
  rw [hz] at HWL ⊢
  have hL : (((m + 1 : Nat) : Int) == 0) = false := by simp; omega
  have HB := Lib.hid hb
  have HM2 := Lib.hid hm2
  have HHM := Lib.hid hm
  obtain ⟨L, hLe⟩ : ∃ L : Int, ((m + 1 : Nat) : Int) = L := ⟨_, rfl⟩
  rw [hLe] at hL HB hb
  have hLm : L = m + 1 := by omega
  clear hz hz2 hqk hqn hm hm2 h hk hLe
  subst hv
  have HALL : ∀ w', New w w' → (w'.cell? ⟨b, 0, none⟩ = some (.func (Fn.func 19) #[] #[]) ∧ w'.cell? ⟨b, 1, none⟩ = some (.int .i64 kd) ∧ w'.cell? ⟨b, 2, none⟩ = some (.int .u64 (W64 qk.a)) ∧ w'.cell? ⟨b, 3, none⟩ = some (.int .u64 (W64 qk.b)) ∧ w'.cell? ⟨b, 4, none⟩ = some (.int .u64 (W64 qk.c)) ∧ w'.cell? ⟨b, 5, none⟩ = some (.int .u64 (W64 qk.d)) ∧ w'.cell? ⟨b, 6, none⟩ = some (.slice x k cap2) ∧ w'.cell? ⟨b, 7, none⟩ = some (.int .i64 L)) := by
    intro w' hn
    have hb' := (hn.block _ (lt_of_block HB.out)).trans HB.out
    exact ⟨cell_of_row _ _ 0 _ _ _ hb', cell_of_row _ _ 1 _ _ _ hb', cell_of_row _ _ 2 _ _ _ hb', cell_of_row _ _ 3 _ _ _ hb', cell_of_row _ _ 4 _ _ _ hb', cell_of_row _ _ 5 _ _ _ hb', cell_of_row _ _ 6 _ _ _ hb', cell_of_row _ _ 7 _ _ _ hb'⟩
  have HAL := Lib.hid HALL
  obtain ⟨c0, c1, c2, c3, c4, c5, c6, c7⟩ := HALL w (New.refl w)
  clear hb HALL
  go_enter Tryz.func11, Tryz.ntmps11
  go_wp2_with fail
  refine HM.out.mono ?_
  rintro e w' ⟨rfl, rfl⟩
  go_wp2_with fail
  go_cut [4, 5] (fun x p wx => x = .int .u64 (W64 z) ∧ ∃ s, p = .pointer (some ⟨s, 0, none⟩) ∧ w'.heap.size ≤ s ∧ BQ wx s kd qn ∧ New w' wx)
  case first =>
    have SK := Lib.hid (fun (w1 : World) (hn : New w' w1) => And.intro hn (HAL.out w1 hn))
    go_region_held3 (fun w1 => New w' w1 ∧ (w1.cell? ⟨b, 0, none⟩ = some (.func (Fn.func 19) #[] #[]) ∧ w1.cell? ⟨b, 1, none⟩ = some (.int .i64 kd) ∧ w1.cell? ⟨b, 2, none⟩ = some (.int .u64 (W64 qk.a)) ∧ w1.cell? ⟨b, 3, none⟩ = some (.int .u64 (W64 qk.b)) ∧ w1.cell? ⟨b, 4, none⟩ = some (.int .u64 (W64 qk.c)) ∧ w1.cell? ⟨b, 5, none⟩ = some (.int .u64 (W64 qk.d)) ∧ w1.cell? ⟨b, 6, none⟩ = some (.slice x k cap2) ∧ w1.cell? ⟨b, 7, none⟩ = some (.int .i64 L)))
      ((refine SK.out _ ?_; first | with_reducible assumption | with_reducible exact (New.refl _).drew | with_reducible exact (New.refl _).drew.alloc _ | with_reducible exact ((New.refl _).alloc _).drew | with_reducible exact New.alloc (by assumption) _ | with_reducible exact putQ_new (by assumption) (Nat.le_refl _) | with_reducible exact putQ_new (New.alloc (by assumption) _) (by assumption) | with_reducible exact New.drew (by assumption)))
      (first
      | (go_at_call 19
         refine (HW.out _).mono ?_
         rintro e w2 ⟨rfl, hn2⟩
         first
         | (with_reducible have hsn := bs_of_alloc hn2
            obtain ⟨hs, hn3⟩ := hsn
            have hsf := hs.free
            obtain ⟨s0, s1, s2, s3, s4⟩ := hs.c
            have HS := Lib.hid hs
            clear hs)
         | (have hn3 : New w' w2 := by with_reducible exact drew_left hn2
            have hn4 : Hid (w'.heap.size ≤ w2.heap.size) := Lib.hid hn3.le)
         clear hn2))
    all_goals (
      go_wp2_with fail
      go_meet
      case rel => first
        | exact ⟨rfl, _, rfl, hn4.out, heap_alloc_new _ _, hn3.alloc _⟩
        | exact ⟨rfl, _, rfl, Nat.le_refl _, BS.putQ kd qn HS.out, putQ_new hn3 (Nat.le_refl _)⟩)
  case rest =>
    obtain ⟨rfl, s, rfl, hs, hbs, hn⟩ := hcut
    have hsf := hbs.free
    obtain ⟨s0, s1, s2, s3, s4⟩ := hbs.c
    have hboxc := (hn.block _ (lt_of_block HB.out)).trans HB.out
    have hbf : ∀ i, wc.frozen? ⟨b, i, none⟩ = false := fun i => frozen_of_row _ _ _ _ _ hboxc
    clear c0 c1 c2 c3 c4 c5 c6 c7
    obtain ⟨c0, c1, c2, c3, c4, c5, c6, c7⟩ := HAL.out wc hn
    have HN := Lib.hid hn
    have HBX := Lib.hid hboxc
    have HT := Lib.hid (H.out.stay hn)
    clear hbs hn hboxc HW HAL HM HB
    go_wp2_with fail
    go_region
    clear s0 s1 s2 s3 s4 c0 c1 c2 c3 c4 c5 c6 c7 hbf hsf
    obtain ⟨i0, hi, hz0, hz1, hz2⟩ := info_parts info8_cq
    obtain ⟨w6, hw6⟩ : ∃ w6, ((((((wc.setCell ⟨b, 1, none⟩ (.int .i64 kd)).setCell ⟨b, 2, none⟩ (.int .u64 (W64 qn.a))).setCell ⟨b, 3, none⟩ (.int .u64 (W64 qn.b))).setCell ⟨b, 4, none⟩ (.int .u64 (W64 qn.c))).setCell ⟨b, 5, none⟩ (.int .u64 (W64 qn.d))).setCell ⟨b, 7, none⟩ (.int .i64 m)).drew = w6 := ⟨_, rfl⟩
    obtain ⟨hb6, ho6, hs6, hbut⟩ := state_put g m HBX.out w6 hw6
    rw [hw6]
    clear hw6
    have HB6 := Lib.hid hb6
    have HO6 := Lib.hid ho6
    have HS6 := Lib.hid hs6
    have HBUT := Lib.hid ((But2.of_new HN.out).trans hbut)
    have hown : w6.ownsRow 0 22 1 (.slice x k cap2) k ((wlK kd q k).map fun x => .int .u64 (W64 x)) := own_words HT.out.taken w6 fun g' e => HO6.out g' (HT.out.own g' e).2
    have c6 : w6.cell? ⟨b, 6, none⟩ = some (.slice x k cap2) := cell_of_row _ _ 6 _ _ _ HB6.out
    have hbl : b < w6.heap.size := lt_of_block HB6.out
    clear hb6 ho6 hs6 hbut
    go_wp2_with (at_builtin; refine wpList_append_lies _ rfl _ _ 32 rfl 0 22 i0 (.int .u64 0) 1 8 Tryz.underlying32 hi hz0 hz1 hz2 rfl (by decide) _ k _ rfl (hown.alloc _) ⟨w6.heap.size, 0, none⟩ 1 1 [.int .u64 (W64 z)] rfl rfl ?c1 ?c2 (by decide) ?c3 ?c4 (Nat.zero_le _) (w6.heap.size + 1) (by simp) ?_)
    case c1 => exact new_cells_t w6 _ _
    case c2 => intro u hu; simp at hu; subst hu; rfl
    case c3 => unfold maxLen; omega
    case c4 => omega
    intro g2 cap3 w7 how hgr hat hlt
    have hb7 : w7.heap[b]? = some (.cells (fedCells kd qn (.slice x k cap2) m) 52 (0, 0)) := by
      rw [hgr.block b (by simp; omega) (fun e => (HT.out.own b e.symm).2 rfl)]
      exact (((New.refl w6).alloc _).block _ hbl).trans HB6.out
    have c6' : w7.cell? ⟨b, 6, none⟩ = some (.slice x k cap2) := cell_of_row _ _ 6 _ _ _ hb7
    have hbf : ∀ i, w7.frozen? ⟨b, i, none⟩ = false := fun i => frozen_of_row _ _ _ _ _ hb7
    have HB7 := Lib.hid hb7
    have HOW := Lib.hid how
    have HGR := Lib.hid hgr
    have HAT := Lib.hid hat
    clear hb7 how hgr hat hown c6
    go_wp2
    go_ret2
    refine ⟨rfl, g2, ?_, ?_, ?_⟩
    · have hg2 : g2 ≠ b := by
        rcases HAT.out with e | e
        · exact (HT.out.own g2 e).2
        · omega
      refine ⟨.slice (some ⟨g2, 0, none⟩) (k + 1) cap3, ?_, by have := HHM.out; omega, HT.out.most, HT.out.good, ?_, ?_, (fun e => by cases e)⟩
      · rw [HM2.out, HWS.out]
        exact heap_setCell_same w7 b 6 _ _ _ HB7.out
      · refine own_words (w := w7) ?_ _ (fun g' e => ?_)
        · have h1 := HOW.out
          rw [HWL.out, List.map_append]
          exact h1
        · cases e
          exact heap_setCell_other _ _ _ _ hg2
      · intro g' e
        cases e
        exact ⟨rfl, hg2⟩
    · refine But2.setCell (But2.grown (HBUT.out.then ((New.refl w6).alloc _)) HGR.out (fun i e => (HT.out.own i e).1)) (Or.inl rfl) _
    · rcases HAT.out with e | e
      · exact Or.inl (HT.out.own g2 e).1
      · right; have := HBUT.out.size; omega
end Go.Proofs.YtadcihkpnpemeaaGreat
end
section
/- Layer 37: two tapes side by side: Next, Clone, Put; tapes that nobody made. -/
namespace Go.Proofs.YtadcihkpnpemeaaGreat
open Go.RowKit Go.Bv
set_option linter.unusedVariables false
set_option maxRecDepth 100000
/-- a tape whose words lie in the box c, as the slice a -/
def Tp (w : World) (b g c : Nat) (a : Option Addr) (cap : Nat) (l : List (BitVec 64)) (k : Nat) : Prop := ∃ v, TapeIn w b g l k c v a cap
theorem Tp.tape {w : World} {b g c : Nat} {a : Option Addr} {cap : Nat} {l : List (BitVec 64)} {k : Nat} (h : Tp w b g c a cap l k) : Tape w b g l k := by
  obtain ⟨v, h⟩ := h
  exact ⟨c, v, a, cap, h⟩
theorem Tape.tp {w : World} {b g : Nat} {l : List (BitVec 64)} {k : Nat} (h : Tape w b g l k) : ∃ c a cap, Tp w b g c a cap l k ∧ c < b ∧ ∀ x, a = some x → 0 < l.length → x.block < b := by
  obtain ⟨c, v, a, cap, h⟩ := h
  exact ⟨c, a, cap, ⟨v, h⟩, h.low⟩
theorem Tp.stay {w w' : World} {b g c : Nat} {a : Option Addr} {cap : Nat} {l : List (BitVec 64)} {k : Nat} (h : Tp w b g c a cap l k) (hn : New w w') : Tp w' b g c a cap l k := by
  obtain ⟨v, h⟩ := h
  exact ⟨v, h.stay hn⟩
/-- another tape goes on: this one stays -/
theorem Tp.but {w w' : World} {b g c b3 g3 : Nat} {a : Option Addr} {cap : Nat} {l : List (BitVec 64)} {k : Nat} (h : Tp w b g c a cap l k) (hb : But2 b3 g3 w w') (h1 : b ≠ b3) (h2 : b ≠ g3) (h3 : g ≠ b3) (h4 : g ≠ g3) (h5 : c ≠ b3) (h6 : c ≠ g3) (h7 : ∀ x, a = some x → 0 < l.length → x.block ≠ b3 ∧ x.block ≠ g3) : Tp w' b g c a cap l k := by
  obtain ⟨v, h⟩ := h
  refine ⟨v, ?_, ?_, h.cb, ?_, h.wb, h.le, ?_, h.own, h.nil, h.low⟩
  · exact (hb.block _ (lt_of_block h.box) h1 h2).trans h.box
  · exact (hb.block _ (lt_of_block h.cell) h5 h6).trans h.cell
  · exact QRow.held h.words hb.size fun y e h0 => hb.block _ (h.words.old y e h0) (h7 y e h0).1 (h7 y e h0).2
  · refine own_words h.taken w' fun g' e => ?_
    obtain ⟨rfl, -⟩ := h.own g' e
    exact hb.block _ (h.taken.lt g' e).2 h3 h4
theorem Fed.but {w w' : World} {b g b3 g3 : Nat} {kd : Int} {q : W4} {m k : Nat} (h : Fed w b g kd q m k) (hb : But2 b3 g3 w w') (h1 : b ≠ b3) (h2 : b ≠ g3) (h3 : g ≠ b3) (h4 : g ≠ g3) : Fed w' b g kd q m k := by
  obtain ⟨v, h⟩ := h
  refine ⟨v, ?_, h.le, h.most, h.good, ?_, h.own, h.nil⟩
  · exact (hb.block _ (lt_of_block h.box) h1 h2).trans h.box
  · refine own_words h.taken w' fun g' e => ?_
    obtain ⟨rfl, -⟩ := h.own g' e
    exact hb.block _ (h.taken.lt g' e).2 h3 h4
theorem Tp.lt {w : World} {b g c : Nat} {a : Option Addr} {cap : Nat} {l : List (BitVec 64)} {k : Nat} (h : Tp w b g c a cap l k) : b < w.heap.size ∧ g < w.heap.size := by
  obtain ⟨v, h⟩ := h
  refine ⟨lt_of_block h.box, ?_⟩
  cases hv : v.ownBlock with
  | none => rw [h.nil hv]; exact lt_of_block h.box
  | some g' => obtain ⟨rfl, -⟩ := h.own g' hv; exact (h.taken.lt _ hv).2
theorem Fed.lt {w : World} {b g : Nat} {kd : Int} {q : W4} {m k : Nat} (h : Fed w b g kd q m k) : b < w.heap.size ∧ g < w.heap.size := by
  obtain ⟨v, h⟩ := h
  refine ⟨lt_of_block h.box, ?_⟩
  cases hv : v.ownBlock with
  | none => rw [h.nil hv]; exact lt_of_block h.box
  | some g' => obtain ⟨rfl, -⟩ := h.own g' hv; exact (h.taken.lt _ hv).2
set_option maxHeartbeats 400000 in
theorem next_some_i (b g : Nat) (l : List (BitVec 64)) (k : Nat) (hk : k < l.length) (c : Nat) (v : Value) (a : Option Addr) (cap : Nat) (w : World) (h : TapeIn w b g l k c v a cap) :
    Calls Tryz.prog 11 #[.pointer (some ⟨b, 0, none⟩)] w fun e w' => e = .returned (.tuple #[.int .u64 (W64 (l.getD k 0)), .int .i64 0]) ∧ ∃ g', Tp w' b g' c a cap l (k + 1) ∧ But2 b g w w' ∧ (g' = g ∨ w.heap.size ≤ g') := by
  have HM := Lib.hid (made_t b g l k w ⟨c, v, a, cap, h⟩)
  have H := Lib.hid h
  have HW := Lib.hid (fun (w' : World) (hn : New w w') => word_t k k c a cap l w' rfl hk (h.stay hn).cell (h.stay hn).words)
  obtain ⟨z, hz⟩ : ∃ z, l.getD k 0 = z := ⟨_, rfl⟩
  obtain ⟨m, hm⟩ : ∃ m, l.length - k = m + 1 := ⟨l.length - k - 1, by omega⟩
  have hm2 : l.length - (k + 1) = m := by omega
  have hmost : m ≤ 17592186044416 := by have := h.words.most; omega
  have hmostk : k + 1 ≤ 17592186044416 := by have := h.words.most; omega
  obtain ⟨x, cap2, hv, _⟩ := own_len h.taken
  have hb := h.box
  rw [hm] at hb
  rw [hz] at HW ⊢
  have hL : (((m + 1 : Nat) : Int) == 0) = false := by simp; omega
  have HZ := Lib.hid hz
  have HB := Lib.hid hb
  have HM2 := Lib.hid hm2
  have HHM := Lib.hid hm
  obtain ⟨L, hLe⟩ : ∃ L : Int, ((m + 1 : Nat) : Int) = L := ⟨_, rfl⟩
  rw [hLe] at hL HB hb
  have hLm : L = m + 1 := by omega
  clear hz hm hm2 h hk hLe
  subst hv
  have HALL : ∀ w', New w w' → (w'.cell? ⟨b, 0, none⟩ = some (.func (Fn.func 24) #[] #[.pointer (some ⟨c, 0, none⟩)]) ∧ w'.cell? ⟨b, 1, none⟩ = some (.int .i64 0) ∧ w'.cell? ⟨b, 2, none⟩ = some (.int .u64 0) ∧ w'.cell? ⟨b, 3, none⟩ = some (.int .u64 0) ∧ w'.cell? ⟨b, 4, none⟩ = some (.int .u64 0) ∧ w'.cell? ⟨b, 5, none⟩ = some (.int .u64 0) ∧ w'.cell? ⟨b, 6, none⟩ = some (.slice x k cap2) ∧ w'.cell? ⟨b, 7, none⟩ = some (.int .i64 L)) := by
    intro w' hn
    have hb' := (hn.block _ (lt_of_block HB.out)).trans HB.out
    exact ⟨cell_of_row _ _ 0 _ _ _ hb', cell_of_row _ _ 1 _ _ _ hb', cell_of_row _ _ 2 _ _ _ hb', cell_of_row _ _ 3 _ _ _ hb', cell_of_row _ _ 4 _ _ _ hb', cell_of_row _ _ 5 _ _ _ hb', cell_of_row _ _ 6 _ _ _ hb', cell_of_row _ _ 7 _ _ _ hb'⟩
  have HAL := Lib.hid HALL
  obtain ⟨c0, c1, c2, c3, c4, c5, c6, c7⟩ := HALL w (New.refl w)
  clear hb HALL
  go_enter Tryz.func11, Tryz.ntmps11
  go_wp2_with fail
  refine HM.out.mono ?_
  rintro e w' ⟨rfl, rfl⟩
  go_wp2_with fail
  go_cut [4, 5] (fun x p wx => x = .int .u64 (W64 z) ∧ ∃ s, p = .pointer (some ⟨s, 0, none⟩) ∧ w'.heap.size ≤ s ∧ BS wx s ∧ New w' wx)
  case first =>
    have SK := Lib.hid (fun (w1 : World) (hn : New w' w1) => And.intro hn (HAL.out w1 hn))
    go_region_held3 (fun w1 => New w' w1 ∧ (w1.cell? ⟨b, 0, none⟩ = some (.func (Fn.func 24) #[] #[.pointer (some ⟨c, 0, none⟩)]) ∧ w1.cell? ⟨b, 1, none⟩ = some (.int .i64 0) ∧ w1.cell? ⟨b, 2, none⟩ = some (.int .u64 0) ∧ w1.cell? ⟨b, 3, none⟩ = some (.int .u64 0) ∧ w1.cell? ⟨b, 4, none⟩ = some (.int .u64 0) ∧ w1.cell? ⟨b, 5, none⟩ = some (.int .u64 0) ∧ w1.cell? ⟨b, 6, none⟩ = some (.slice x k cap2) ∧ w1.cell? ⟨b, 7, none⟩ = some (.int .i64 L)))
      ((refine SK.out _ ?_; first | with_reducible assumption | with_reducible exact (New.refl _).drew | with_reducible exact (New.refl _).drew.alloc _ | with_reducible exact ((New.refl _).alloc _).drew | with_reducible exact New.alloc (by assumption) _ | with_reducible exact put5_new (by assumption) (Nat.le_refl _) | with_reducible exact put5_new (New.alloc (by assumption) _) (by assumption) | with_reducible exact New.drew (by assumption)))
      (first
      | (go_at_call 24
         refine (HW.out _ (by first | with_reducible exact (New.refl _).drew | with_reducible exact (New.refl _).drew.alloc _ | with_reducible exact ((New.refl _).alloc _).drew)).mono ?_
         rintro e w2 ⟨rfl, hn2⟩
         first
         | (with_reducible have hsn := bs_of_alloc hn2
            obtain ⟨hs, hn3⟩ := hsn
            have hsf := hs.free
            obtain ⟨s0, s1, s2, s3, s4⟩ := hs.c
            have HS := Lib.hid hs
            clear hs)
         | (have hn3 : New w' w2 := by with_reducible exact drew_left hn2
            have hn4 : Hid (w'.heap.size ≤ w2.heap.size) := Lib.hid hn3.le)
         clear hn2))
    all_goals (
      go_wp2_with fail
      go_meet
      case rel => first
        | exact ⟨rfl, _, rfl, hn4.out, heap_alloc_new _ _, hn3.alloc _⟩
        | exact ⟨rfl, _, rfl, Nat.le_refl _, BS.put HS.out, put5_new hn3 (Nat.le_refl _)⟩)
  case rest =>
    obtain ⟨rfl, s, rfl, hs, hbs, hn⟩ := hcut
    have hsf := hbs.free
    obtain ⟨s0, s1, s2, s3, s4⟩ := hbs.c
    have hboxc := (hn.block _ (lt_of_block HB.out)).trans HB.out
    have hbf : ∀ i, wc.frozen? ⟨b, i, none⟩ = false := fun i => frozen_of_row _ _ _ _ _ hboxc
    clear c0 c1 c2 c3 c4 c5 c6 c7
    obtain ⟨c0, c1, c2, c3, c4, c5, c6, c7⟩ := HAL.out wc hn
    have HN := Lib.hid hn
    have HBX := Lib.hid hboxc
    have HT := Lib.hid (H.out.stay hn)
    clear hbs hn hboxc HW HAL HM HB
    go_wp2_with fail
    go_region
    clear s0 s1 s2 s3 s4 c0 c1 c2 c3 c4 c5 c6 c7 hbf hsf
    obtain ⟨i0, hi, hz0, hz1, hz2⟩ := info_parts info8_cq
    obtain ⟨w6, hw6⟩ : ∃ w6, ((((((wc.setCell ⟨b, 1, none⟩ (.int .i64 0)).setCell ⟨b, 2, none⟩ (.int .u64 0)).setCell ⟨b, 3, none⟩ (.int .u64 0)).setCell ⟨b, 4, none⟩ (.int .u64 0)).setCell ⟨b, 5, none⟩ (.int .u64 0)).setCell ⟨b, 7, none⟩ (.int .i64 m)).drew = w6 := ⟨_, rfl⟩
    obtain ⟨hb6, ho6, hs6, hbut⟩ := left_put g m HBX.out w6 hw6
    rw [hw6]
    clear hw6
    have HB6 := Lib.hid hb6
    have HO6 := Lib.hid ho6
    have HS6 := Lib.hid hs6
    have HBUT := Lib.hid ((But2.of_new HN.out).trans hbut)
    have hown : w6.ownsRow 0 22 1 (.slice x k cap2) k ((l.take k).map fun x => .int .u64 (W64 x)) := own_words HT.out.taken w6 fun g' e => HO6.out g' (HT.out.own g' e).2.1
    have c6 : w6.cell? ⟨b, 6, none⟩ = some (.slice x k cap2) := cell_of_row _ _ 6 _ _ _ HB6.out
    have hbl : b < w6.heap.size := lt_of_block HB6.out
    clear hb6 ho6 hs6 hbut
    go_wp2_with (at_builtin; refine wpList_append_lies _ rfl _ _ 32 rfl 0 22 i0 (.int .u64 0) 1 8 Tryz.underlying32 hi hz0 hz1 hz2 rfl (by decide) _ k _ rfl (hown.alloc _) ⟨w6.heap.size, 0, none⟩ 1 1 [.int .u64 (W64 z)] rfl rfl ?c1 ?c2 (by decide) ?c3 ?c4 (Nat.zero_le _) (w6.heap.size + 1) (by simp) ?_)
    case c1 => exact new_cells_t w6 _ _
    case c2 => intro u hu; simp at hu; subst hu; rfl
    case c3 => unfold maxLen; omega
    case c4 => omega
    intro g2 cap3 w7 how hgr hat hlt
    have hb7 : w7.heap[b]? = some (.cells (tapeCells c (.slice x k cap2) m) 52 (0, 0)) := by
      rw [hgr.block b (by simp; omega) (fun e => (HT.out.own b e.symm).2.1 rfl)]
      exact (((New.refl w6).alloc _).block _ hbl).trans HB6.out
    have c6' : w7.cell? ⟨b, 6, none⟩ = some (.slice x k cap2) := cell_of_row _ _ 6 _ _ _ hb7
    have hbf : ∀ i, w7.frozen? ⟨b, i, none⟩ = false := fun i => frozen_of_row _ _ _ _ _ hb7
    have HB7 := Lib.hid hb7
    have HOW := Lib.hid how
    have HGR := Lib.hid hgr
    have HAT := Lib.hid hat
    clear hb7 how hgr hat hown c6
    go_wp2
    go_ret2
    refine ⟨rfl, g2, ?_, ?_, ?_⟩
    · have hle := HT.out.le
      have hwl := HT.out.words
      have hcl : c < wc.heap.size := lt_of_block HT.out.cell
      have hsz : w6.heap.size = wc.heap.size := HS6.out
      have hother : ∀ i, i < wc.heap.size → i ≠ b → (∀ g', Value.ownBlock (.slice x k cap2) = some g' → g' ≠ i) → (w7.setCell ⟨b, 6, none⟩ (.slice (some ⟨g2, 0, none⟩) (k + 1) cap3)).heap[i]? = wc.heap[i]? := by
        intro i hil hib hio
        rw [heap_setCell_other _ _ _ _ hib, HGR.out.block i (by simp; omega) (fun e => hio i e.symm rfl)]
        exact (((New.refl w6).alloc _).block _ (by omega)).trans (HO6.out i hib)
      have hg2 : g2 ≠ b ∧ g2 ≠ c ∧ ∀ x, a = some x → 0 < l.length → x.block ≠ g2 := by
        rcases HAT.out with e | e
        · exact (HT.out.own g2 e).2
        · refine ⟨by omega, by omega, fun x e2 h0 => ?_⟩
          have := hwl.old x e2 h0
          omega
      refine ⟨.slice (some ⟨g2, 0, none⟩) (k + 1) cap3, ?_, ?_, HT.out.cb, ?_, HT.out.wb, by have := HHM.out; omega, ?_, ?_, (fun e => by cases e), HT.out.low⟩
      · rw [HM2.out]
        exact heap_setCell_same w7 b 6 _ _ _ HB7.out
      · rw [hother c hcl HT.out.cb (fun g' e => (HT.out.own g' e).2.2.1)]; exact HT.out.cell
      · refine QRow.held hwl (by rw [show (World.setCell _ _ _).heap.size = w7.heap.size by simp [World.setCell]]; have := HGR.out.size; simp at this; omega) fun y e h0 => ?_
        exact hother _ (hwl.old y e h0) (HT.out.wb y e h0) (fun g' e2 e3 => (HT.out.own g' e2).2.2.2 y e h0 e3.symm)
      · refine own_words (w := w7) ?_ _ (fun g' e => ?_)
        · have h1 := HOW.out
          have h2 : (l.take (k + 1)).map (fun x => Value.int .u64 (W64 x)) = (l.take k).map (fun x => Value.int .u64 (W64 x)) ++ [.int .u64 (W64 z)] := by
            have hkl : k < l.length := by have := HHM.out; omega
            rw [List.take_add_one, List.map_append, List.getElem?_eq_getElem hkl, ← HZ.out, List.getD_eq_getElem?_getD, List.getElem?_eq_getElem hkl]; rfl
          rw [h2]
          first | exact h1 | (rw [List.map_take]; exact h1)
        · cases e
          exact heap_setCell_other _ _ _ _ hg2.1
      · intro g' e
        cases e
        exact ⟨rfl, hg2⟩
    · refine But2.setCell (But2.grown (HBUT.out.then ((New.refl w6).alloc _)) HGR.out (fun i e => (HT.out.own i e).1)) (Or.inl rfl) _
    · rcases HAT.out with e | e
      · exact Or.inl (HT.out.own g2 e).1
      · right; have := HBUT.out.size; omega
theorem next_some_p (b g c : Nat) (a : Option Addr) (cap : Nat) (l : List (BitVec 64)) (k : Nat) (hk : k < l.length) (w : World) (h : Tp w b g c a cap l k) :
    Calls Tryz.prog 11 #[.pointer (some ⟨b, 0, none⟩)] w fun e w' => e = .returned (.tuple #[.int .u64 (W64 (l.getD k 0)), .int .i64 0]) ∧ ∃ g', Tp w' b g' c a cap l (k + 1) ∧ But2 b g w w' ∧ (g' = g ∨ w.heap.size ≤ g') := by
  obtain ⟨v, h⟩ := h
  exact next_some_i b g l k hk c v a cap w h
theorem own_base0 {w : World} {base : Nat} {e : TypeId} {v : Value} {n : Nat} {xs : List Value} (h : w.ownsRow base e 1 v n xs) : w.ownsRow 0 e 1 v n xs := by
  refine ⟨h.1, ?_⟩
  rcases h.2 with h2 | ⟨g, cap, cur, hv, hb, rest⟩
  · exact .inl h2
  · exact .inr ⟨g, cap, cur, hv, Nat.zero_le _, rest⟩
theorem own_at {w : World} {base : Nat} {e : TypeId} {v : Value} {n : Nat} {xs : List Value} (h : w.ownsRow base e 1 v n xs) (x : Nat) : ∃ g, (∀ g', v.ownBlock = some g' → g' = g ∧ base ≤ g') ∧ (v.ownBlock = none → g = x) ∧ (g = x ∨ base ≤ g) := by
  rcases h.2 with ⟨rfl, rfl⟩ | ⟨g, cap, cur, rfl, hb, rest⟩
  · exact ⟨x, (fun g' e => by cases e), (fun _ => rfl), Or.inl rfl⟩
  · exact ⟨g, (fun g' e => by cases e; exact ⟨rfl, hb⟩), (fun e => by cases e), Or.inr hb⟩
theorem own_box {w : World} {base : Nat} {e : TypeId} {v : Value} {n : Nat} {xs : List Value} (h : w.ownsRow base e 1 v n xs) {b i : Nat} (hb : b < base) (u : Value) : (w.setCell ⟨b, i, none⟩ u).ownsRow base e 1 v n xs := owg_far h (fun e2 => by
  obtain ⟨g, h1, -, -⟩ := own_at h b
  have := (h1 _ e2).2
  simp at this
  omega) u
set_option maxHeartbeats 2000000 in
theorem clone_p (b g c : Nat) (a : Option Addr) (cap : Nat) (l : List (BitVec 64)) (k : Nat) (w : World) (h : Tp w b g c a cap l k) :
    Calls Tryz.prog 12 #[.pointer (some ⟨b, 0, none⟩)] w fun e w' => ∃ b2 g2, e = .returned (.pointer (some ⟨b2, 0, none⟩)) ∧ Tp w' b2 g2 c a cap l k ∧ w.heap.size ≤ b2 ∧ w.heap.size ≤ g2 ∧ New w w' := by
  have HM := Lib.hid (made_t b g l k w h.tape)
  obtain ⟨v, h⟩ := h
  have hmost := h.words.most
  have hk := h.le
  obtain ⟨x, cap2, rfl, hq⟩ := QRow.of_owns h.taken (by omega)
  have HC := Lib.hid (fun w' (hn : New w w') => clone_q x k cap2 (l.take k) w' (hq.stay hn))
  obtain ⟨L, hL⟩ : ∃ L : Int, ((l.length - k : Nat) : Int) = L := ⟨_, rfl⟩
  have hbox := h.box
  rw [hL] at hbox
  have H := Lib.hid h
  have HL := Lib.hid hL
  have c0 : w.cell? ⟨b, 0, none⟩ = some (.func (Fn.func 24) #[] #[.pointer (some ⟨c, 0, none⟩)]) := cell_of_row _ _ 0 _ _ _ hbox
  have c1 : w.cell? ⟨b, 1, none⟩ = some (.int .i64 0) := cell_of_row _ _ 1 _ _ _ hbox
  have c2 : w.cell? ⟨b, 2, none⟩ = some (.int .u64 0) := cell_of_row _ _ 2 _ _ _ hbox
  have c3 : w.cell? ⟨b, 3, none⟩ = some (.int .u64 0) := cell_of_row _ _ 3 _ _ _ hbox
  have c4 : w.cell? ⟨b, 4, none⟩ = some (.int .u64 0) := cell_of_row _ _ 4 _ _ _ hbox
  have c5 : w.cell? ⟨b, 5, none⟩ = some (.int .u64 0) := cell_of_row _ _ 5 _ _ _ hbox
  have c6 : w.cell? ⟨b, 6, none⟩ = some (.slice x k cap2) := cell_of_row _ _ 6 _ _ _ hbox
  have c7 : w.cell? ⟨b, 7, none⟩ = some (.int .i64 L) := cell_of_row _ _ 7 _ _ _ hbox
  have c66 : ∀ o : Obj, (w.alloc o).cell? ⟨b, 6, none⟩ = some (.slice x k cap2) := fun o => cell_old c6 o
  clear h hq hL hbox
  go_enter Tryz.func12, Tryz.ntmps12
  go_wp2_with fail
  refine HM.out.mono ?_
  rintro e w' ⟨rfl, rfl⟩
  go_wp2_with fail
  refine (HC.out _ ((New.refl w').alloc _)).mono ?_
  rintro e w1 ⟨v, rfl, how, hn⟩
  obtain ⟨y6, cap6, rfl, -⟩ := own_len how
  have hbx := (hn.block _ (lt_of_block (heap_alloc_new w' (.cells (tapeCells c (.slice x k cap2) L) 52)))).trans (heap_alloc_new w' (.cells (tapeCells c (.slice x k cap2) L) 52))
  have d0 : w1.cell? ⟨w'.heap.size, 0, none⟩ = some (.func (Fn.func 24) #[] #[.pointer (some ⟨c, 0, none⟩)]) := cell_of_row _ _ 0 _ _ _ hbx
  have d1 : w1.cell? ⟨w'.heap.size, 1, none⟩ = some (.int .i64 0) := cell_of_row _ _ 1 _ _ _ hbx
  have d2 : w1.cell? ⟨w'.heap.size, 2, none⟩ = some (.int .u64 0) := cell_of_row _ _ 2 _ _ _ hbx
  have d3 : w1.cell? ⟨w'.heap.size, 3, none⟩ = some (.int .u64 0) := cell_of_row _ _ 3 _ _ _ hbx
  have d4 : w1.cell? ⟨w'.heap.size, 4, none⟩ = some (.int .u64 0) := cell_of_row _ _ 4 _ _ _ hbx
  have d5 : w1.cell? ⟨w'.heap.size, 5, none⟩ = some (.int .u64 0) := cell_of_row _ _ 5 _ _ _ hbx
  have d6 : w1.cell? ⟨w'.heap.size, 6, none⟩ = some (.slice x k cap2) := cell_of_row _ _ 6 _ _ _ hbx
  have d7 : w1.cell? ⟨w'.heap.size, 7, none⟩ = some (.int .i64 L) := cell_of_row _ _ 7 _ _ _ hbx
  have df := fun i => frozen_of_row _ _ i _ _ hbx
  have HBX := Lib.hid hbx
  have HOW := Lib.hid how
  have HN := Lib.hid hn
  clear hbx how hn HC HM c66 c0 c1 c2 c3 c4 c5 c6 c7
  go_wp2
  go_ret
  have hw2 : New w' w1 := ((New.refl w').alloc _).trans HN.out
  have hsz : (w'.alloc (.cells (tapeCells c (.slice x k cap2) L) 52)).heap.size = w'.heap.size + 1 := by simp
  have how := HOW.out
  have how' : w1.ownsRow (w'.heap.size + 1) 22 1 (.slice y6 k cap6) k ((l.take k).map fun x => .int .u64 (W64 x)) := by rw [← hsz]; exact how
  obtain ⟨g2, hg1, hg2, hg3⟩ := own_at how' w'.heap.size
  have hc : c < w'.heap.size := lt_of_block H.out.cell
  refine ⟨w'.heap.size, g2, rfl, ⟨.slice y6 k cap6, ?_⟩, Nat.le_refl _, by omega, hw2.setCell (Nat.le_refl _) _⟩
  have hnw : New w' (w1.setCell ⟨w'.heap.size, 6, none⟩ (.slice y6 k cap6)) := hw2.setCell (Nat.le_refl _) _
  refine ⟨?_, (hnw.block _ hc).trans H.out.cell, by omega, H.out.words.stay hnw, fun y e h0 => by have := H.out.words.old y e h0; omega, H.out.le, own_base0 (own_box how' (by omega) _), fun g' e => ?_, hg2, ⟨hc, fun y e h0 => H.out.words.old y e h0⟩⟩
  · rw [HL.out]
    exact heap_setCell_same w1 _ 6 _ _ _ HBX.out
  · have h1 := hg1 g' e
    refine ⟨h1.1, by omega, by omega, fun y e2 h0 => ?_⟩
    have := H.out.words.old y e2 h0
    omega
set_option maxHeartbeats 2000000 in
theorem clone_f (b g : Nat) (kd : Int) (q : W4) (m k : Nat) (w : World) (h : Fed w b g kd q m k) :
    Calls Tryz.prog 12 #[.pointer (some ⟨b, 0, none⟩)] w fun e w' => ∃ b2 g2, e = .returned (.pointer (some ⟨b2, 0, none⟩)) ∧ Fed w' b2 g2 kd q m k ∧ w.heap.size ≤ b2 ∧ w.heap.size ≤ g2 ∧ New w w' := by
  have HM := Lib.hid (made_f b g kd q m k w h)
  obtain ⟨v, h⟩ := h
  have hmost := h.most
  have hk := h.le
  obtain ⟨x, cap2, rfl, hq⟩ := QRow.of_owns h.taken (by omega)
  have HC := Lib.hid (fun w' (hn : New w w') => clone_q x k cap2 (wlK kd q k) w' (hq.stay hn))
  obtain ⟨L, hL⟩ : ∃ L : Int, ((m - k : Nat) : Int) = L := ⟨_, rfl⟩
  obtain ⟨qk, hqk⟩ : ∃ z, wsK kd q k = z := ⟨_, rfl⟩
  have hbox := h.box
  rw [hL, hqk] at hbox
  have H := Lib.hid h
  have HL := Lib.hid hL
  have HQK := Lib.hid hqk
  have c0 : w.cell? ⟨b, 0, none⟩ = some (.func (Fn.func 19) #[] #[]) := cell_of_row _ _ 0 _ _ _ hbox
  have c1 : w.cell? ⟨b, 1, none⟩ = some (.int .i64 kd) := cell_of_row _ _ 1 _ _ _ hbox
  have c2 : w.cell? ⟨b, 2, none⟩ = some (.int .u64 (W64 qk.a)) := cell_of_row _ _ 2 _ _ _ hbox
  have c3 : w.cell? ⟨b, 3, none⟩ = some (.int .u64 (W64 qk.b)) := cell_of_row _ _ 3 _ _ _ hbox
  have c4 : w.cell? ⟨b, 4, none⟩ = some (.int .u64 (W64 qk.c)) := cell_of_row _ _ 4 _ _ _ hbox
  have c5 : w.cell? ⟨b, 5, none⟩ = some (.int .u64 (W64 qk.d)) := cell_of_row _ _ 5 _ _ _ hbox
  have c6 : w.cell? ⟨b, 6, none⟩ = some (.slice x k cap2) := cell_of_row _ _ 6 _ _ _ hbox
  have c7 : w.cell? ⟨b, 7, none⟩ = some (.int .i64 L) := cell_of_row _ _ 7 _ _ _ hbox
  have c66 : ∀ o : Obj, (w.alloc o).cell? ⟨b, 6, none⟩ = some (.slice x k cap2) := fun o => cell_old c6 o
  clear h hq hL hqk hbox
  go_enter Tryz.func12, Tryz.ntmps12
  go_wp2_with fail
  refine HM.out.mono ?_
  rintro e w' ⟨rfl, rfl⟩
  go_wp2_with fail
  refine (HC.out _ ((New.refl w').alloc _)).mono ?_
  rintro e w1 ⟨v, rfl, how, hn⟩
  obtain ⟨y6, cap6, rfl, -⟩ := own_len how
  have hbx := (hn.block _ (lt_of_block (heap_alloc_new w' (.cells (fedCells kd qk (.slice x k cap2) L) 52)))).trans (heap_alloc_new w' (.cells (fedCells kd qk (.slice x k cap2) L) 52))
  have d0 : w1.cell? ⟨w'.heap.size, 0, none⟩ = some (.func (Fn.func 19) #[] #[]) := cell_of_row _ _ 0 _ _ _ hbx
  have d1 : w1.cell? ⟨w'.heap.size, 1, none⟩ = some (.int .i64 kd) := cell_of_row _ _ 1 _ _ _ hbx
  have d2 : w1.cell? ⟨w'.heap.size, 2, none⟩ = some (.int .u64 (W64 qk.a)) := cell_of_row _ _ 2 _ _ _ hbx
  have d3 : w1.cell? ⟨w'.heap.size, 3, none⟩ = some (.int .u64 (W64 qk.b)) := cell_of_row _ _ 3 _ _ _ hbx
  have d4 : w1.cell? ⟨w'.heap.size, 4, none⟩ = some (.int .u64 (W64 qk.c)) := cell_of_row _ _ 4 _ _ _ hbx
  have d5 : w1.cell? ⟨w'.heap.size, 5, none⟩ = some (.int .u64 (W64 qk.d)) := cell_of_row _ _ 5 _ _ _ hbx
  have d6 : w1.cell? ⟨w'.heap.size, 6, none⟩ = some (.slice x k cap2) := cell_of_row _ _ 6 _ _ _ hbx
  have d7 : w1.cell? ⟨w'.heap.size, 7, none⟩ = some (.int .i64 L) := cell_of_row _ _ 7 _ _ _ hbx
  have df := fun i => frozen_of_row _ _ i _ _ hbx
  have HBX := Lib.hid hbx
  have HOW := Lib.hid how
  have HN := Lib.hid hn
  clear hbx how hn HC HM c66 c0 c1 c2 c3 c4 c5 c6 c7
  go_wp2
  go_ret
  have hw2 : New w' w1 := ((New.refl w').alloc _).trans HN.out
  have hsz : (w'.alloc (.cells (fedCells kd qk (.slice x k cap2) L) 52)).heap.size = w'.heap.size + 1 := by simp
  have how := HOW.out
  have how' : w1.ownsRow (w'.heap.size + 1) 22 1 (.slice y6 k cap6) k ((wlK kd q k).map fun x => .int .u64 (W64 x)) := by rw [← hsz]; exact how
  obtain ⟨g2, hg1, hg2, hg3⟩ := own_at how' w'.heap.size
  refine ⟨w'.heap.size, g2, rfl, ⟨.slice y6 k cap6, ?_⟩, Nat.le_refl _, by omega, hw2.setCell (Nat.le_refl _) _⟩
  refine ⟨?_, H.out.le, H.out.most, H.out.good, own_base0 (own_box how' (by omega) _), fun g' e => ?_, hg2⟩
  · rw [HL.out, HQK.out]
    exact heap_setCell_same w1 _ 6 _ _ _ HBX.out
  · have h1 := hg1 g' e
    exact ⟨h1.1, by omega⟩
theorem made_nil (w : World) : Calls Tryz.prog 25 #[.pointer none] w fun e w' => e = .returned (.bool false) ∧ w' = w := by
  go_enter Tryz.func25, Tryz.ntmps25
  go_wp2
  go_ret
  exact ⟨rfl, rfl⟩
theorem next_nil (w : World) : Calls Tryz.prog 11 #[.pointer none] w fun e w' => e = .returned (.tuple #[.int .u64 0, .int .i64 10]) ∧ w' = w := by
  go_enter Tryz.func11, Tryz.ntmps11
  go_wp2_with fail
  refine (made_nil _).mono ?_
  rintro e w' ⟨rfl, hw⟩
  replace hw := hw.symm
  subst hw
  go_wp2
  go_ret2
  exact ⟨rfl, rfl⟩
theorem used_nil (w : World) : Calls Tryz.prog 13 #[.pointer none] w fun e w' => e = .returned (.int .i64 0) ∧ w' = w := by
  go_enter Tryz.func13, Tryz.ntmps13
  go_wp2_with fail
  refine (made_nil _).mono ?_
  rintro e w' ⟨rfl, hw⟩
  replace hw := hw.symm
  subst hw
  go_wp2
  go_ret
  exact ⟨rfl, rfl⟩
theorem left_nil (w : World) : Calls Tryz.prog 17 #[.pointer none] w fun e w' => e = .returned (.int .i64 0) ∧ w' = w := by
  go_enter Tryz.func17, Tryz.ntmps17
  go_wp2_with fail
  refine (made_nil _).mono ?_
  rintro e w' ⟨rfl, hw⟩
  replace hw := hw.symm
  subst hw
  go_wp2
  go_ret
  exact ⟨rfl, rfl⟩
theorem taken_nil (w : World) : Calls Tryz.prog 15 #[.pointer none] w fun e w' => e = .returned (.slice none 0 0) ∧ w' = w := by
  go_enter Tryz.func15, Tryz.ntmps15
  go_wp2_with fail
  refine (made_nil _).mono ?_
  rintro e w' ⟨rfl, hw⟩
  replace hw := hw.symm
  subst hw
  go_wp2
  go_ret
  exact ⟨rfl, rfl⟩
theorem clone_nil (w : World) : Calls Tryz.prog 12 #[.pointer none] w fun e w' => e = .returned (.pointer none) ∧ w' = w := by
  go_enter Tryz.func12, Tryz.ntmps12
  go_wp2_with fail
  refine (made_nil _).mono ?_
  rintro e w' ⟨rfl, hw⟩
  replace hw := hw.symm
  subst hw
  go_wp2
  go_ret
  exact ⟨rfl, rfl⟩
set_option maxHeartbeats 1000000 in
theorem put_no (a : Option Addr) (len cap : Nat) (i : Int) (x : BitVec 64) (hi : i < 0 ∨ (len : Int) ≤ i) (w : World) :
    Calls Tryz.prog 16 #[.slice a len cap, .int .i64 i, .int .u64 (W64 x)] w fun e w' => e = .returned (.tuple #[.slice none 0 0, .int .i64 2]) ∧ w' = w := by
  rcases hi with h0 | h1
  · go_enter Tryz.func16, Tryz.ntmps16
    go_wp2
    go_ret2
    exact ⟨rfl, rfl⟩
  · have h0 : ¬ i < 0 := by omega
    go_enter Tryz.func16, Tryz.ntmps16
    go_wp2
    go_ret2
    exact ⟨rfl, rfl⟩
set_option maxHeartbeats 1000000 in
theorem put_at (a : Option Addr) (len cap : Nat) (l : List (BitVec 64)) (i : Nat) (x : BitVec 64) (hi : i < len) (w : World) (h : QRow w a len cap l) :
    Calls Tryz.prog 16 #[.slice a len cap, .int .i64 (i : Int), .int .u64 (W64 x)] w fun e w' => ∃ a2 c2, e = .returned (.tuple #[.slice a2 len c2, .int .i64 0]) ∧ QRow w' a2 len c2 (l.set i x) ∧ New w w' := by
  have hmost := h.most
  have h0 : ¬ (i : Int) < 0 := by omega
  have h1 : ¬ (len : Int) ≤ (i : Int) := by omega
  have h2 : (i : Int) < (len : Int) := by omega
  have HC := Lib.hid (clone_q a len cap l w h)
  have HLL := Lib.hid h.len_eq
  clear h
  go_enter Tryz.func16, Tryz.ntmps16
  go_wp2_with fail
  refine HC.out.mono ?_
  rintro e w1 ⟨v, rfl, how, hn⟩
  obtain ⟨g, cap2, rfl, hg, hfz⟩ : ∃ g cap2, v = .slice (some ⟨g, 0, none⟩) len cap2 ∧ w.heap.size ≤ g ∧ w1.frozen? ⟨g, (i : Nat), none⟩ = false := by
    rcases how.2 with ⟨rfl, h2⟩ | ⟨g, cap2, cur, rfl, hb, hrow, rest⟩
    · exfalso
      have h3 := how.1
      rw [h2] at h3
      simp at h3
      omega
    · exact ⟨g, cap2, rfl, hb, frozen_of_row _ _ i _ _ hrow⟩
  obtain ⟨a3, c3, e3, hq3⟩ := QRow.of_owns how (by omega)
  cases e3
  obtain ⟨p, off, e4, hcell⟩ := hq3.addr (by omega)
  cases e4
  have hci := hcell i hi
  rw [Nat.zero_add] at hci
  have HS := Lib.hid (own_set how i (.int .u64 (W64 x)))
  have HN := Lib.hid hn
  have HG := Lib.hid hg
  clear hcell how hq3 hn hg HC
  go_wp2
  go_ret2
  have hs := HS.out
  rw [← List.map_set (f := fun y : BitVec 64 => Value.int .u64 (W64 y))] at hs
  obtain ⟨a4, c4, e5, hq5⟩ := QRow.of_owns hs (by omega)
  cases e5
  exact ⟨_, _, rfl, hq5, HN.out.setCell HG.out _⟩
end Go.Proofs.YtadcihkpnpemeaaGreat
end
section
/- The law TapeTells: what its loop finds. -/
namespace Go.Proofs.YtadcihkpnpemeaaGreat
open Go.RowKit Go.Bv
set_option linter.unusedVariables false
/-- the loop's memory -/
structure TakS (w wr : World) (b g : Nat) (a : Option Addr) (len cap : Nat) (l : List (BitVec 64)) (k : Nat) : Prop where
  tape : Tape wr b g l k
  new : New w wr
  gb : w.heap.size ≤ g
theorem wrap_sub (n k : Nat) (h : k ≤ n) (hn : n ≤ 17592186044416) : IntKind.i64.wrap ((n : Int) - (k : Int)) = (n : Int) - (k : Int) := by
  rw [show ((n : Int) - (k : Int)) = ((n - k : Nat) : Int) by omega]
  have h2 : n - k ≤ 17592186044416 := by omega
  generalize n - k = m at *
  simp [IntKind.wrap, IntKind.signed, IntKind.bits]
  omega
theorem drew_add {W w : World} (h : New W.drew w) : New W w := (New.refl W).drew.trans h
set_option maxHeartbeats 1000000 in
theorem taken_37 (b : Nat) (a : Option Addr) (len cap : Nat) (l : List (BitVec 64)) (W w : World) (ht : Tape w b b l 0) (hq : QRow W a len cap l) (hw : New W w) (hb : W.heap.size ≤ b) :
    Calls Tryz.prog 9 #[.pointer (some ⟨b, 0, none⟩), .slice a len cap] w fun e w' => e = .returned (.bool true) ∧ New W w' := by
  have hle := hq.le
  have hmost := hq.most
  have hroom := hq.room
  obtain rfl := hq.len_eq
  have HS0 := Lib.hid (show TakS W w b b a l.length cap l 0 from ⟨ht, hw, hb⟩)
  have HQ := Lib.hid hq
  clear ht hq hw
  go_enter Tryz.func9, Tryz.ntmps9
  go_wp2_with fail
  go_loopw [13] (fun i wr => ∃ k g : Nat, k ≤ l.length ∧ i = .int .i64 k ∧ TakS W wr b g a l.length cap l k) (fun i _ => l.length - (intOf i).toNat)
  case atStart => exact ⟨0, b, by omega, rfl, HS0.out⟩
  case round =>
    obtain ⟨k, g, hk, rfl, hst⟩ := hrel
    by_cases hlt : (k : Int) < (l.length : Int)
    · obtain ⟨p, off, rfl, hcell⟩ := (HQ.out.stay hst.new).addr (by omega)
      have hck := hcell k (by omega)
      have HROW := Lib.hid (fun w1 (hn : New wr w1) => QRow.take (HQ.out.stay (hst.new.trans hn)) k (by omega))
      have HNX := Lib.hid (next_some b g l k (by omega))
      obtain ⟨z, hz⟩ : ∃ z, l.getD k 0 = z := ⟨_, rfl⟩
      rw [hz] at hck HNX
      have HU := Lib.hid (fun w1 (hn : New wr w1) => used_t b g l k w1 (hst.tape.stay hn))
      have HL := Lib.hid (fun w1 (hn : New wr w1) => left_t b g l k w1 (hst.tape.stay hn))
      have HTK := Lib.hid (fun w1 (hn : New wr w1) => taken_t b g l k w1 (hst.tape.stay hn))
      have hwr : IntKind.i64.wrap ((l.length : Int) - (k : Int)) = (l.length : Int) - (k : Int) := wrap_sub _ _ hk hmost
      have hsub : (((l.length - k : Nat) : Int) != IntKind.i64.wrap ((l.length : Int) - (k : Int))) = false := by rw [hwr, bne_eq_false_iff_eq]; omega
      clear hwr
      have hkc : (k : Int) ≤ (cap : Int) := by omega
      have hk0 : (0 : Int) ≤ (k : Int) := by omega
      have HST := Lib.hid hst
      clear hcell hz hst
      obtain ⟨d, hd⟩ : ∃ d : Int, ((l.length - k : Nat) : Int) = d := ⟨_, rfl⟩
      rw [hd] at HL hsub
      clear hd
      have HBACK : Hid (New wr wr.drew) := Lib.hid (New.refl _).drew
      go_wp2_with fail
      go_cut [39] (fun x wx => x = .bool false ∧ New wr wx)
      case first =>
        go_region_held3 (fun w1 => New wr w1)
          ((first | with_reducible assumption | with_reducible exact (New.refl _).drew | with_reducible exact New.drew (by assumption)))
          (first
          | (go_at_call 13
             refine (HU.out _ (by first | with_reducible exact (New.refl _).drew | with_reducible assumption)).mono ?_
             rintro e w2 ⟨rfl, rfl⟩)
          | (go_at_call 17
             refine (HL.out _ (by first | with_reducible exact (New.refl _).drew | with_reducible assumption)).mono ?_
             rintro e w2 ⟨rfl, rfl⟩)
          | (go_at_call 15
             refine (HTK.out _ (by first | with_reducible exact (New.refl _).drew | with_reducible assumption)).mono ?_
             rintro e w2 ⟨a3, cap3, rfl, hq3, hn2⟩
             have HQ3 := Lib.hid hq3
             have hn3 : New wr w2 := by with_reducible exact drew_add hn2
             clear hq3 hn2)
          | (go_at_call 14
             refine (words_ref _ _ _ _ _ _ _ _ wr _ HQ3.out (HROW.out _ hn3) hn3).mono ?_
             rintro e w3 ⟨rfl, _, hn4⟩
             rw [beq_self_eq_true]))
        go_wp2_with fail
        go_meet
        case rel => exact ⟨rfl, hn4⟩
      case rest =>
        obtain ⟨rfl, hn⟩ := hcut
        have HTP := Lib.hid (HST.out.tape.stay hn)
        have HNW := Lib.hid (HST.out.new.trans hn)
        have hgb := HST.out.gb
        clear hn HU HL HTK HROW HBACK HST HS0 hck
        go_wp2_with fail
        refine (HNX.out _ HTP.out).mono ?_
        rintro e w5 ⟨rfl, g2, ht2, hbut, hg2⟩
        have HS5 := Lib.hid (show TakS W w5 b g2 (some ⟨p, off, none⟩) l.length cap l (k + 1) from ⟨ht2, hbut.new W HNW.out hb hgb, by have := HNW.out.le; omega⟩)
        clear ht2 hbut hg2
        go_wp2
        exact ⟨⟨k + 1, g2, by omega, by go_num, HS5.out⟩, by simp [intOf]; omega⟩
    · obtain rfl : k = l.length := by omega
      have HNX := Lib.hid (next_none b g l wr hst.tape)
      have HU := Lib.hid (fun w1 (hn : New wr w1) => used_t b g l l.length w1 (hst.tape.stay hn))
      have HL := Lib.hid (fun w1 (hn : New wr w1) => left_t b g l l.length w1 (hst.tape.stay hn))
      have HTK := Lib.hid (fun w1 (hn : New wr w1) => taken_t b g l l.length w1 (hst.tape.stay hn))
      rw [List.take_length] at HTK
      rw [Nat.sub_self] at HL
      have HNW := Lib.hid hst.new
      clear hst HS0
      go_wp2_with fail
      refine HNX.out.mono ?_
      rintro e w2 ⟨rfl, rfl⟩
      go_wp2_with fail
      refine (HU.out _ (New.refl _)).mono ?_
      rintro e w2 ⟨rfl, rfl⟩
      go_wp2_with fail
      refine (HL.out _ (New.refl _)).mono ?_
      rintro e w2 ⟨rfl, rfl⟩
      go_wp2_with fail
      refine (HTK.out _ (New.refl _)).mono ?_
      rintro e w3 ⟨a3, cap3, rfl, hq3, hn3⟩
      have HQ3 := Lib.hid hq3
      have HN3 := Lib.hid (HNW.out.trans hn3)
      clear hq3 hn3
      go_wp2_with fail
      refine (words_ref _ _ _ _ _ _ _ _ W _ HQ3.out (HQ.out.stay HN3.out) HN3.out).mono ?_
      rintro e w4 ⟨rfl, _, hn4⟩
      rw [beq_self_eq_true]
      have HN4 := Lib.hid hn4
      clear hn4
      go_wp2
      go_ret
      exact ⟨rfl, HN4.out⟩
end Go.Proofs.YtadcihkpnpemeaaGreat
end
section
/- The statement TapeFed: for every state and every number. -/
namespace Go.Proofs.YtadcihkpnpemeaaGreat
open Go.RowKit Go.Bv
set_option linter.unusedVariables false
set_option maxRecDepth 100000
/-- the loop's memory -/
structure TakF (w wr : World) (b g : Nat) (a : Option Addr) (cap : Nat) (kd : Int) (q : W4) (m k : Nat) : Prop where
  tape : Fed wr b g kd q m k
  new : New w wr
  gb : w.heap.size ≤ g
  row : QRow wr a m cap (wlK kd q m)
  ne : ∀ x, a = some x → 0 < m → x.block ≠ b ∧ x.block ≠ g
theorem wl_len (kd : Int) (q : W4) (m : Nat) : (wlK kd q m).length = m := by simp [wlK]
theorem wl_at (kd : Int) (q : W4) {m k : Nat} (h : k < m) : (wlK kd q m).getD k 0 = wdK kd q k := by
  unfold wlK
  rw [List.getD_eq_getElem?_getD, List.getElem?_map, List.getElem?_range h]; rfl
theorem wl_take (kd : Int) (q : W4) {m k : Nat} (h : k ≤ m) : (wlK kd q m).take k = wlK kd q k := by
  unfold wlK
  rw [← List.map_take, List.take_range, Nat.min_eq_left h]
set_option maxHeartbeats 1000000 in
theorem taken_f37 (b : Nat) (a : Option Addr) (cap : Nat) (kd : Int) (q : W4) (m : Nat) (W w : World) (ht : Fed w b b kd q m 0) (hq : QRow w a m cap (wlK kd q m)) (hne : ∀ x, a = some x → 0 < m → x.block ≠ b) (hw : New W w) (hb : W.heap.size ≤ b) :
    Calls Tryz.prog 9 #[.pointer (some ⟨b, 0, none⟩), .slice a m cap] w fun e w' => e = .returned (.bool true) ∧ New W w' := by
  have hle := hq.le
  have hmost := hq.most
  have hroom := hq.room
  have HS0 := Lib.hid (show TakF W w b b a cap kd q m 0 from ⟨ht, hw, hb, hq, fun x e h0 => ⟨hne x e h0, hne x e h0⟩⟩)
  clear ht hq hw hne
  go_enter Tryz.func9, Tryz.ntmps9
  go_wp2_with fail
  go_loopw [13] (fun i wr => ∃ k g : Nat, k ≤ m ∧ i = .int .i64 k ∧ TakF W wr b g a cap kd q m k) (fun i _ => m - (intOf i).toNat)
  case atStart => exact ⟨0, b, by omega, rfl, HS0.out⟩
  case round =>
    obtain ⟨k, g, hk, rfl, hst⟩ := hrel
    by_cases hlt : (k : Int) < (m : Int)
    · obtain ⟨p, off, rfl, hcell⟩ := hst.row.addr (by omega)
      have hck := hcell k (by omega)
      have HROW := Lib.hid (fun w1 (hn : New wr w1) => QRow.take (hst.row.stay hn) k (by omega))
      rw [wl_take kd q (show k ≤ m by omega)] at HROW
      have HNX := Lib.hid (next_some_f b g kd q m k (by omega))
      rw [wl_at kd q (show k < m by omega)] at hck
      obtain ⟨z, hz⟩ : ∃ z, wdK kd q k = z := ⟨_, rfl⟩
      rw [hz] at hck HNX
      have HU := Lib.hid (fun w1 (hn : New wr w1) => used_f b g kd q m k w1 (hst.tape.stay hn))
      have HL := Lib.hid (fun w1 (hn : New wr w1) => left_f b g kd q m k w1 (hst.tape.stay hn))
      have HTK := Lib.hid (fun w1 (hn : New wr w1) => taken_f b g kd q m k w1 (hst.tape.stay hn))
      have hwr : IntKind.i64.wrap ((m : Int) - (k : Int)) = (m : Int) - (k : Int) := wrap_sub _ _ hk hmost
      have hsub : (((m - k : Nat) : Int) != IntKind.i64.wrap ((m : Int) - (k : Int))) = false := by rw [hwr, bne_eq_false_iff_eq]; omega
      clear hwr
      have hkc : (k : Int) ≤ (cap : Int) := by omega
      have hk0 : (0 : Int) ≤ (k : Int) := by omega
      have HST := Lib.hid hst
      clear hcell hz hst
      obtain ⟨d, hd⟩ : ∃ d : Int, ((m - k : Nat) : Int) = d := ⟨_, rfl⟩
      rw [hd] at HL hsub
      clear hd
      have HBACK : Hid (New wr wr.drew) := Lib.hid (New.refl _).drew
      go_wp2_with fail
      go_cut [39] (fun x wx => x = .bool false ∧ New wr wx)
      case first =>
        go_region_held3 (fun w1 => New wr w1)
          ((first | with_reducible assumption | with_reducible exact (New.refl _).drew | with_reducible exact New.drew (by assumption)))
          (first
          | (go_at_call 13
             refine (HU.out _ (by first | with_reducible exact (New.refl _).drew | with_reducible assumption)).mono ?_
             rintro e w2 ⟨rfl, rfl⟩)
          | (go_at_call 17
             refine (HL.out _ (by first | with_reducible exact (New.refl _).drew | with_reducible assumption)).mono ?_
             rintro e w2 ⟨rfl, rfl⟩)
          | (go_at_call 15
             refine (HTK.out _ (by first | with_reducible exact (New.refl _).drew | with_reducible assumption)).mono ?_
             rintro e w2 ⟨a3, cap3, rfl, hq3, hn2⟩
             have HQ3 := Lib.hid hq3
             have hn3 : New wr w2 := by with_reducible exact drew_add hn2
             clear hq3 hn2)
          | (go_at_call 14
             refine (words_ref _ _ _ _ _ _ _ _ wr _ HQ3.out (HROW.out _ hn3) hn3).mono ?_
             rintro e w3 ⟨rfl, _, hn4⟩
             rw [beq_self_eq_true]))
        go_wp2_with fail
        go_meet
        case rel => exact ⟨rfl, hn4⟩
      case rest =>
        obtain ⟨rfl, hn⟩ := hcut
        have HTP := Lib.hid (HST.out.tape.stay hn)
        have HNW := Lib.hid (HST.out.new.trans hn)
        have hgb := HST.out.gb
        have HRW := Lib.hid (HST.out.row.stay hn)
        have HNE := Lib.hid HST.out.ne
        clear hn HU HL HTK HROW HBACK HST HS0 hck
        go_wp2_with fail
        refine (HNX.out _ HTP.out).mono ?_
        rintro e w5 ⟨rfl, g2, ht2, hbut, hg2⟩
        have HS5 := Lib.hid (show TakF W w5 b g2 (some ⟨p, off, none⟩) cap kd q m (k + 1) from ⟨ht2, hbut.new W HNW.out hb hgb, by have := HNW.out.le; omega, QRow.held HRW.out hbut.size (fun x e h0 => hbut.block _ (HRW.out.old x e h0) (HNE.out x e h0).1 (HNE.out x e h0).2), fun x e h0 => ⟨(HNE.out x e h0).1, (by rcases hg2 with e2 | e2; (rw [e2]; exact (HNE.out x e h0).2); (have := HRW.out.old x e h0; omega))⟩⟩)
        clear ht2 hbut hg2
        go_wp2
        exact ⟨⟨k + 1, g2, by omega, by go_num, HS5.out⟩, by simp [intOf]; omega⟩
    · obtain rfl : m = k := by omega
      have HNX := Lib.hid (next_none_f b g kd q m wr hst.tape)
      have HU := Lib.hid (fun w1 (hn : New wr w1) => used_f b g kd q m m w1 (hst.tape.stay hn))
      have HL := Lib.hid (fun w1 (hn : New wr w1) => left_f b g kd q m m w1 (hst.tape.stay hn))
      have HTK := Lib.hid (fun w1 (hn : New wr w1) => taken_f b g kd q m m w1 (hst.tape.stay hn))
      rw [Nat.sub_self] at HL
      have HNW := Lib.hid hst.new
      have HRW := Lib.hid hst.row
      clear hst HS0
      go_wp2_with fail
      refine HNX.out.mono ?_
      rintro e w2 ⟨rfl, rfl⟩
      go_wp2_with fail
      refine (HU.out _ (New.refl _)).mono ?_
      rintro e w2 ⟨rfl, rfl⟩
      go_wp2_with fail
      refine (HL.out _ (New.refl _)).mono ?_
      rintro e w2 ⟨rfl, rfl⟩
      go_wp2_with fail
      refine (HTK.out _ (New.refl _)).mono ?_
      rintro e w3 ⟨a3, cap3, rfl, hq3, hn3⟩
      have HQ3 := Lib.hid hq3
      have HN3 := Lib.hid (HNW.out.trans hn3)
      have HRW3 := Lib.hid (HRW.out.stay hn3)
      clear hq3 hn3
      go_wp2_with fail
      refine (words_ref _ _ _ _ _ _ _ _ W _ HQ3.out HRW3.out HN3.out).mono ?_
      rintro e w4 ⟨rfl, _, hn4⟩
      rw [beq_self_eq_true]
      have HN4 := Lib.hid hn4
      clear hn4
      go_wp2
      go_ret
      exact ⟨rfl, HN4.out⟩
set_option maxHeartbeats 1000000 in
theorem fed_bad (kd : Int) (q : W4) (n : Int) (hk : ¬ chkK kd q = 0) (w : World) : Calls Tryz.prog 6 #[.agg (stc kd q), .int .i64 n] w fun e w' => e = .returned (.tuple #[.pointer none, .int .i64 (chkK kd q)]) ∧ New w w' := by
  have HCK := Lib.hid (fun w => check_any kd q w)
  obtain ⟨c, hc⟩ : ∃ c, chkK kd q = c := ⟨_, rfl⟩
  rw [hc] at HCK hk ⊢
  have hcz : (c != 0) = true := by simpa using hk
  have HN0 := Lib.hid ((New.refl w).alloc (.cells (stc kd q) 25))
  clear hc hk
  go_enter Tryz.func6, Tryz.ntmps6
  go_wp2_with fail
  refine (HCK.out _).mono ?_
  rintro e w1 ⟨rfl, n1⟩
  have HN := Lib.hid (HN0.out.trans n1)
  clear n1
  go_wp2
  go_ret2
  exact ⟨rfl, HN.out⟩
set_option maxHeartbeats 2000000 in
theorem fed_ok (kd : Int) (q : W4) (n : Int) (m : Nat) (hnm : (n < 0 ∧ m = 0) ∨ n = (m : Int)) (hm : m ≤ 4096) (hk : chkK kd q = 0) (w : World) :
    Calls Tryz.prog 6 #[.agg (stc kd q), .int .i64 n] w fun e w' => ∃ b, e = .returned (.tuple #[.pointer (some ⟨b, 0, none⟩), .int .i64 0]) ∧ w.heap.size ≤ b ∧ Fed w' b b kd q m 0 ∧ New w w' := by
  have hmf : ∀ (fn : Fn) (first cap : Array Value) (w : World), (Instr.makeFunc fn first cap).run Tryz.prog w = .ok (.func fn first cap) w := fun _ _ _ _ => rfl
  have HCK := Lib.hid (fun w => check_any kd q w)
  rw [hk] at HCK
  have hcm : min (max n 0) 4096 = (m : Int) := by
    rcases hnm with ⟨h1, h2⟩ | h1 <;> omega
  have HB0 := Lib.hid (heap_alloc_new w (.cells (stc kd q) 25))
  have HN0 := Lib.hid ((New.refl w).alloc (.cells (stc kd q) 25))
  have HK := Lib.hid hk
  have HM := Lib.hid hm
  clear hk hnm hm
  go_enter Tryz.func6, Tryz.ntmps6
  go_wp2_with fail
  refine (HCK.out _).mono ?_
  rintro e w1 ⟨rfl, n1⟩
  have hb := (n1.block _ (lt_of_block HB0.out)).trans HB0.out
  have x0 := cell_of_row _ _ 0 _ _ _ hb
  have x1 := cell_of_row _ _ 1 _ _ _ hb
  have x2 := cell_of_row _ _ 2 _ _ _ hb
  have x3 := cell_of_row _ _ 3 _ _ _ hb
  have x4 := cell_of_row _ _ 4 _ _ _ hb
  have HN := Lib.hid (HN0.out.trans n1)
  clear hb n1
  go_wp2
  go_ret2
  refine ⟨w1.heap.size, rfl, by have := HN.out.le; omega, ⟨.slice none 0 0, ?_⟩, HN.out.alloc _⟩
  refine ⟨?_, Nat.zero_le _, HM.out, HK.out, World.ownsRow_nil _ _ _ _, (fun g' e => by cases e), fun _ => rfl⟩
  rw [Nat.sub_zero]
  exact heap_alloc_new w1 _
set_option maxHeartbeats 2000000 in
theorem TapeFed_walk (W : World) (x0_0 : Int) (b0_0 : -9223372036854775808 ≤ x0_0 ∧ x0_0 ≤ 9223372036854775807) (x0_1 : BitVec 64) (x0_2 : BitVec 64) (x0_3 : BitVec 64) (x0_4 : BitVec 64) (a1 : Int) (w1 : (Lit.int .i64 a1).wf = true) :
    Calls Tryz.prog 3 #[.agg #[.int .i64 x0_0, .int .u64 (W64 x0_1), .int .u64 (W64 x0_2), .int .u64 (W64 x0_3), .int .u64 (W64 x0_4)], .int .i64 a1] W fun e w' => e = .returned (.bool true) ∧ Below W.heap.size W w' := by
  obtain ⟨q, hq⟩ : ∃ q : W4, q = ⟨x0_1, x0_2, x0_3, x0_4⟩ := ⟨_, rfl⟩
  have hcells : #[Value.int .i64 x0_0, .int .u64 (W64 x0_1), .int .u64 (W64 x0_2), .int .u64 (W64 x0_3), .int .u64 (W64 x0_4)] = stc x0_0 q := by rw [hq]
  rw [hcells]
  clear hcells hq w1 b0_0
  have HB0 := Lib.hid (heap_alloc_new W (.cells (stc x0_0 q) 25))
  have HN0 := Lib.hid ((New.refl W).alloc (.cells (stc x0_0 q) 25))
  by_cases h100 : 100 < a1
  · go_enter Tryz.func3, Tryz.ntmps3
    go_wp2_with fail
    refine (awake_37 _).mono ?_
    rintro e w1 ⟨rfl, n1⟩
    have HN := Lib.hid (HN0.out.trans n1)
    clear n1
    go_wp2
    go_ret
    exact ⟨rfl, HN.out⟩
  · have HRC := Lib.hid (fun w => rcheck_any x0_0 q w)
    by_cases hk : chkK x0_0 q = 0
    · obtain ⟨m, hm, hnm⟩ : ∃ m : Nat, m ≤ 4096 ∧ ((a1 < 0 ∧ m = 0) ∨ a1 = (m : Int)) := by
        by_cases h : a1 < 0
        · exact ⟨0, by omega, Or.inl ⟨h, rfl⟩⟩
        · exact ⟨a1.toNat, by omega, Or.inr (by omega)⟩
      have HF := Lib.hid (fun w => fed_ok x0_0 q a1 m hnm hm hk w)
      have HRW := Lib.hid (fun w => rwords_of x0_0 q hk a1 m hnm hm w)
      rw [hk] at HRC
      clear hnm hk
      go_enter Tryz.func3, Tryz.ntmps3
      go_wp2_with fail
      refine (awake_37 _).mono ?_
      rintro e w1 ⟨rfl, n1⟩
      have hb := (n1.block _ (lt_of_block HB0.out)).trans HB0.out
      have x0 := cell_of_row _ _ 0 _ _ _ hb
      have x1 := cell_of_row _ _ 1 _ _ _ hb
      have x2 := cell_of_row _ _ 2 _ _ _ hb
      have x3 := cell_of_row _ _ 3 _ _ _ hb
      have x4 := cell_of_row _ _ 4 _ _ _ hb
      have HB1 := Lib.hid hb
      have HN1 := Lib.hid (HN0.out.trans n1)
      clear hb n1
      go_wp2_with fail
      refine (HF.out _).mono ?_
      rintro e w2 ⟨b, rfl, hbl, hfed, n2⟩
      have hb := (n2.block _ (lt_of_block HB1.out)).trans HB1.out
      have x0 := cell_of_row _ _ 0 _ _ _ hb
      have x1 := cell_of_row _ _ 1 _ _ _ hb
      have x2 := cell_of_row _ _ 2 _ _ _ hb
      have x3 := cell_of_row _ _ 3 _ _ _ hb
      have x4 := cell_of_row _ _ 4 _ _ _ hb
      have HB2 := Lib.hid hb
      have HFD := Lib.hid hfed
      have HBL : Hid (W.heap.size ≤ b) := Lib.hid (by have := HN1.out.le; omega)
      have HN2 := Lib.hid (HN1.out.trans n2)
      clear hb n2 hfed hbl
      go_wp2_with fail
      refine (HRC.out _).mono ?_
      rintro e w3 ⟨rfl, n3⟩
      have hb := (n3.block _ (lt_of_block HB2.out)).trans HB2.out
      have x0 := cell_of_row _ _ 0 _ _ _ hb
      have x1 := cell_of_row _ _ 1 _ _ _ hb
      have x2 := cell_of_row _ _ 2 _ _ _ hb
      have x3 := cell_of_row _ _ 3 _ _ _ hb
      have x4 := cell_of_row _ _ 4 _ _ _ hb
      have HFD3 := Lib.hid (HFD.out.stay n3)
      have HN3 := Lib.hid (HN2.out.trans n3)
      clear hb n3
      go_wp2_with fail
      refine (HRW.out _).mono ?_
      rintro e w4 ⟨a, c, rfl, hrow, hfar, n4⟩
      have hapart : Fed w3 b b x0_0 q m 0 → ∀ x, a = some x → 0 < m → x.block ≠ b := fun hf x e h0 => by have h1 := hfar x e; obtain ⟨v, hv⟩ := hf; have h2 := lt_of_block hv.box; omega
      have n5 := (New.refl w4).alloc (.cells (stc x0_0 (wsK x0_0 q m)) 25)
      have HRW4 := Lib.hid (hrow.stay n5)
      have HFD4 := Lib.hid (HFD3.out.stay (n4.trans n5))
      have HN4 := Lib.hid (HN3.out.trans (n4.trans n5))
      have HNE4 : Hid (∀ x, a = some x → 0 < m → x.block ≠ b) := Lib.hid (hapart HFD3.out)
      clear hrow n4 n5 x0 x1 x2 x3 x4
      go_wp2_with fail
      refine (taken_f37 b a c x0_0 q m W _ HFD4.out HRW4.out HNE4.out HN4.out HBL.out).mono ?_
      rintro e w5 ⟨rfl, hn5⟩
      have HN5 := Lib.hid hn5
      clear hn5
      go_wp2
      go_ret
      exact ⟨rfl, HN5.out⟩
    · have HF := Lib.hid (fun w => fed_bad x0_0 q a1 hk w)
      obtain ⟨c, hc⟩ : ∃ c, chkK x0_0 q = c := ⟨_, rfl⟩
      rw [hc] at HF HRC hk
      have hcz : (c != 0) = true := by simpa using hk
      have hcc : (c == c) = true := by simp
      clear hk hc
      go_enter Tryz.func3, Tryz.ntmps3
      go_wp2_with fail
      refine (awake_37 _).mono ?_
      rintro e w1 ⟨rfl, n1⟩
      have hb := (n1.block _ (lt_of_block HB0.out)).trans HB0.out
      have x0 := cell_of_row _ _ 0 _ _ _ hb
      have x1 := cell_of_row _ _ 1 _ _ _ hb
      have x2 := cell_of_row _ _ 2 _ _ _ hb
      have x3 := cell_of_row _ _ 3 _ _ _ hb
      have x4 := cell_of_row _ _ 4 _ _ _ hb
      have HB1 := Lib.hid hb
      have HN1 := Lib.hid (HN0.out.trans n1)
      clear hb n1
      go_wp2_with fail
      refine (HF.out _).mono ?_
      rintro e w2 ⟨rfl, n2⟩
      have hb := (n2.block _ (lt_of_block HB1.out)).trans HB1.out
      have x0 := cell_of_row _ _ 0 _ _ _ hb
      have x1 := cell_of_row _ _ 1 _ _ _ hb
      have x2 := cell_of_row _ _ 2 _ _ _ hb
      have x3 := cell_of_row _ _ 3 _ _ _ hb
      have x4 := cell_of_row _ _ 4 _ _ _ hb
      have HN2 := Lib.hid (HN1.out.trans n2)
      clear hb n2
      go_wp2_with fail
      refine (HRC.out _).mono ?_
      rintro e w3 ⟨rfl, n3⟩
      have HN3 := Lib.hid (HN2.out.trans n3)
      clear n3
      go_wp2
      go_ret
      exact ⟨rfl, HN3.out⟩
end Go.Proofs.YtadcihkpnpemeaaGreat
end
