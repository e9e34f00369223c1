/- Tapes that a generator feeds: their memory, and what is told of them. -/
import Derived.Test.YtadcihkpnpemeaaGreatTapQ
import Derived.Test.YtadcihkpnpemeaaGreatGsY
namespace Go.Proofs.YtadcihkpnpemeaaGreat
open Go.RowKit Go.Bv
set_option linter.unusedVariables false
set_option maxRecDepth 100000
/-- the cells of the box of a tape that is fed -/
def fedCells (kd : Int) (q : W4) (v : Value) (left : Int) : Array Value := #[.func (Fn.func 19) #[] #[], .int .i64 kd, .int .u64 (W64 q.a), .int .u64 (W64 q.b), .int .u64 (W64 q.c), .int .u64 (W64 q.d), v, .int .i64 left]
structure FedIn (w : World) (b g : Nat) (kd : Int) (q : W4) (m k : Nat) (v : Value) : Prop where
  box : w.heap[b]? = some (.cells (fedCells kd (wsK kd q k) v ((m - k : Nat) : Int)) 52 (0, 0))
  le : k ≤ m
  most : m ≤ 4096
  good : chkK kd q = 0
  taken : w.ownsRow 0 22 1 v k ((wlK kd q k).map fun x => .int .u64 (W64 x))
  own : ∀ g', v.ownBlock = some g' → g' = g ∧ g' ≠ b
  nil : v.ownBlock = none → g = b
def Fed (w : World) (b g : Nat) (kd : Int) (q : W4) (m k : Nat) : Prop := ∃ v, FedIn w b g kd q m k v
theorem FedIn.stay {w w' : World} {b g : Nat} {kd : Int} {q : W4} {m k : Nat} {v : Value} (h : FedIn w b g kd q m k v) (hn : New w w') : FedIn w' b g kd q m k v where
  box := (hn.block _ (lt_of_block h.box)).trans h.box
  le := h.le
  most := h.most
  good := h.good
  taken := own_words h.taken w' fun g' e => hn.block _ (h.taken.lt g' e).2
  own := h.own
  nil := h.nil
theorem Fed.stay {w w' : World} {b g : Nat} {kd : Int} {q : W4} {m k : Nat} (h : Fed w b g kd q m k) (hn : New w w') : Fed w' b g kd q m k := by
  obtain ⟨v, h⟩ := h
  exact ⟨v, h.stay hn⟩
set_option maxHeartbeats 1000000 in
theorem made_f (b g : Nat) (kd : Int) (q : W4) (m k : Nat) (w : World) (h : Fed w b g kd q m k) :
    Calls Tryz.prog 25 #[.pointer (some ⟨b, 0, none⟩)] w fun e w' => e = .returned (.bool true) ∧ w' = w := by
  obtain ⟨v, h⟩ := h
  have c0 : w.cell? ⟨b, 0, none⟩ = some (.func (Fn.func 19) #[] #[]) := cell_of_row _ _ 0 _ _ _ h.box
  clear h
  have hne : ∀ (w : World), (binOp .neq 50 (.func (Fn.func 19) #[] #[]) .nilFunc).run Tryz.prog w = .ok (.bool true) w := fun w => by
    kernel_rfl
  go_enter Tryz.func25, Tryz.ntmps25
  go_wp2
  go_ret
  exact ⟨rfl, rfl⟩
set_option maxHeartbeats 1000000 in
theorem left_f (b g : Nat) (kd : Int) (q : W4) (m k : Nat) (w : World) (h : Fed w b g kd q m k) :
    Calls Tryz.prog 17 #[.pointer (some ⟨b, 0, none⟩)] w fun e w' => e = .returned (.int .i64 ((m - k : Nat) : Int)) ∧ w' = w := by
  have HM := Lib.hid (made_f b g kd q m k w h)
  obtain ⟨v, h⟩ := h
  have c7 : w.cell? ⟨b, 7, none⟩ = some (.int .i64 ((m - k : Nat) : Int)) := cell_of_row _ _ 7 _ _ _ h.box
  clear h
  go_enter Tryz.func17, Tryz.ntmps17
  go_wp2_with fail
  refine HM.out.mono ?_
  rintro e w' ⟨rfl, rfl⟩
  go_wp2
  go_ret
  exact ⟨rfl, rfl⟩
set_option maxHeartbeats 1000000 in
theorem used_f (b g : Nat) (kd : Int) (q : W4) (m k : Nat) (w : World) (h : Fed w b g kd q m k) :
    Calls Tryz.prog 13 #[.pointer (some ⟨b, 0, none⟩)] w fun e w' => e = .returned (.int .i64 (k : Int)) ∧ w' = w := by
  have HM := Lib.hid (made_f b g kd q m k w h)
  obtain ⟨v, h⟩ := h
  obtain ⟨x, cap2, rfl, _⟩ := own_len h.taken
  have c6 : w.cell? ⟨b, 6, none⟩ = some (.slice x k cap2) := cell_of_row _ _ 6 _ _ _ h.box
  clear h
  go_enter Tryz.func13, Tryz.ntmps13
  go_wp2_with fail
  refine HM.out.mono ?_
  rintro e w' ⟨rfl, rfl⟩
  go_wp2
  go_ret
  exact ⟨rfl, rfl⟩
set_option maxHeartbeats 1000000 in
theorem taken_f (b g : Nat) (kd : Int) (q : W4) (m k : Nat) (w : World) (h : Fed w b g kd q m k) :
    Calls Tryz.prog 15 #[.pointer (some ⟨b, 0, none⟩)] w fun e w' => ∃ a cap, e = .returned (.slice a k cap) ∧ QRow w' a k cap (wlK kd q k) ∧ New w w' := by
  have HM := Lib.hid (made_f b g kd q m k w h)
  obtain ⟨v, h⟩ := h
  have hmost := h.most
  have hk := h.le
  obtain ⟨x, cap2, rfl, hq⟩ := QRow.of_owns h.taken (by omega)
  have c6 : w.cell? ⟨b, 6, none⟩ = some (.slice x k cap2) := cell_of_row _ _ 6 _ _ _ h.box
  have HC := Lib.hid (clone_q x k cap2 (wlK kd q k) w hq)
  clear h hq
  go_enter Tryz.func15, Tryz.ntmps15
  go_wp2_with fail
  refine HM.out.mono ?_
  rintro e w' ⟨rfl, rfl⟩
  go_wp2_with fail
  refine HC.out.mono ?_
  rintro e w1 ⟨v, rfl, how, hn⟩
  obtain ⟨a3, cap3, rfl, hq3⟩ := QRow.of_owns how (by omega)
  have HQ := Lib.hid (And.intro hq3 hn)
  clear how hq3 hn
  go_wp2
  go_ret
  exact ⟨_, _, rfl, HQ.out⟩
set_option maxHeartbeats 1000000 in
theorem next_none_f (b g : Nat) (kd : Int) (q : W4) (m : Nat) (w : World) (h : Fed w b g kd q m m) :
    Calls Tryz.prog 11 #[.pointer (some ⟨b, 0, none⟩)] w fun e w' => e = .returned (.tuple #[.int .u64 0, .int .i64 7]) ∧ w' = w := by
  have HM := Lib.hid (made_f b g kd q m m w h)
  obtain ⟨v, h⟩ := h
  have c7 : w.cell? ⟨b, 7, none⟩ = some (.int .i64 0) := by
    have := cell_of_row _ _ 7 _ _ _ h.box
    rw [Nat.sub_self] at this
    exact this
  clear h
  go_enter Tryz.func11, Tryz.ntmps11
  go_wp2_with fail
  refine HM.out.mono ?_
  rintro e w' ⟨rfl, rfl⟩
  go_wp2
  go_ret2
  exact ⟨rfl, rfl⟩
/-- a block that holds a state -/
def BQ (w : World) (b : Nat) (kd : Int) (q : W4) : Prop := w.heap[b]? = some (.cells (stc kd q) 25 (0, 0))
theorem BQ.stay {w w' : World} {b : Nat} {kd : Int} {q : W4} (h : BQ w b kd q) (hn : New w w') : BQ w' b kd q := (hn.block _ (lt_of_block h)).trans h
theorem BQ.c {w : World} {b : Nat} {kd : Int} {q : W4} (h : BQ w b kd q) : w.cell? ⟨b, 0, none⟩ = some (.int .i64 kd) ∧ w.cell? ⟨b, 1, none⟩ = some (.int .u64 (W64 q.a)) ∧ w.cell? ⟨b, 2, none⟩ = some (.int .u64 (W64 q.b)) ∧ w.cell? ⟨b, 3, none⟩ = some (.int .u64 (W64 q.c)) ∧ w.cell? ⟨b, 4, none⟩ = some (.int .u64 (W64 q.d)) :=
  ⟨cell_of_row _ _ 0 _ _ _ h, cell_of_row _ _ 1 _ _ _ h, cell_of_row _ _ 2 _ _ _ h, cell_of_row _ _ 3 _ _ _ h, cell_of_row _ _ 4 _ _ _ h⟩
theorem BQ.free {w : World} {b : Nat} {kd : Int} {q : W4} (h : BQ w b kd q) : ∀ i, w.frozen? ⟨b, i, none⟩ = false := fun i => frozen_of_row _ _ _ _ _ h
theorem BS.putQ {w : World} {b : Nat} (kd : Int) (q : W4) (h : BS w b) : BQ ((((((w.setCell ⟨b, 0, none⟩ (.int .i64 kd)).setCell ⟨b, 1, none⟩ (.int .u64 (W64 q.a))).setCell ⟨b, 2, none⟩ (.int .u64 (W64 q.b))).setCell ⟨b, 3, none⟩ (.int .u64 (W64 q.c))).setCell ⟨b, 4, none⟩ (.int .u64 (W64 q.d)))) b kd q := by
  have h1 := heap_setCell_same w b 0 _ _ (.int .i64 kd) h
  have h2 := heap_setCell_same _ b 1 _ _ (.int .u64 (W64 q.a)) h1
  have h3 := heap_setCell_same _ b 2 _ _ (.int .u64 (W64 q.b)) h2
  have h4 := heap_setCell_same _ b 3 _ _ (.int .u64 (W64 q.c)) h3
  exact heap_setCell_same _ b 4 _ _ (.int .u64 (W64 q.d)) h4
theorem putQ_new {W w : World} {b : Nat} {kd : Int} {q : W4} (hn : New W w) (hb : W.heap.size ≤ b) : New W ((((((w.setCell ⟨b, 0, none⟩ (.int .i64 kd)).setCell ⟨b, 1, none⟩ (.int .u64 (W64 q.a))).setCell ⟨b, 2, none⟩ (.int .u64 (W64 q.b))).setCell ⟨b, 3, none⟩ (.int .u64 (W64 q.c))).setCell ⟨b, 4, none⟩ (.int .u64 (W64 q.d)))) :=
  ((((hn.setCell hb _).setCell hb _).setCell hb _).setCell hb _).setCell hb _
/-- the generator's next word -/
theorem word_f (i : Int) (kd : Int) (q : W4) (hk : chkK kd q = 0) (w : World) :
    Calls Tryz.prog 19 #[.int .i64 i, .agg (stc kd q)] w fun e w' => e = .returned (.tuple #[.int .u64 (W64 (ouK kd q)), .agg (stc kd (nxK kd q))]) ∧ New w w' := by
  have HNX := Lib.hid (fun w => next_of kd q _ _ hk (nx_all hk) w)
  obtain ⟨x, hx⟩ : ∃ x, ouK kd q = x := ⟨_, rfl⟩
  obtain ⟨p, hp⟩ : ∃ x, nxK kd q = x := ⟨_, rfl⟩
  rw [hx, hp] at HNX ⊢
  have hz := two_blocksG w (.cells (stc kd q) 25) (.cells zst 25)
  have HZ := Lib.hid hz
  clear hz hx hp hk
  go_enter Tryz.func19, Tryz.ntmps19
  go_wp2_with fail
  refine (HNX.out _).mono ?_
  rintro e w1 ⟨rfl, n1⟩
  have n2 := n1.alloc (.cells (stc kd p) 25)
  have hq := heap_alloc_new w1 (.cells (stc kd p) 25)
  have hy := (n2.block _ (lt_of_block HZ.out.2.1)).trans HZ.out.2.1
  have q0 := cell_of_row _ _ 0 _ _ _ hq
  have q1 := cell_of_row _ _ 1 _ _ _ hq
  have q2 := cell_of_row _ _ 2 _ _ _ hq
  have q3 := cell_of_row _ _ 3 _ _ _ hq
  have q4 := cell_of_row _ _ 4 _ _ _ hq
  have d0 := cell_of_row _ _ 0 _ _ _ hy
  have d1 := cell_of_row _ _ 1 _ _ _ hy
  have d2 := cell_of_row _ _ 2 _ _ _ hy
  have d3 := cell_of_row _ _ 3 _ _ _ hy
  have d4 := cell_of_row _ _ 4 _ _ _ hy
  have df := fun i => frozen_of_row _ _ i _ _ hy
  have HY := Lib.hid hy
  have HN := Lib.hid (HZ.out.2.2.trans n2)
  clear hq hy n1 n2 HZ
  go_wp2_with fail
  generalize hw5 : World.alloc w1 _ = w5 at *
  clear hw5
  first
    | (go_region
       go_wp2)
    | go_wp2
  have hp := put5_facts (.int .i64 kd) (.int .u64 (W64 p.a)) (.int .u64 (W64 p.b)) (.int .u64 (W64 p.c)) (.int .u64 (W64 p.d)) HY.out
  refine bodyPost_ret (by simp [results, Tryz.results19, go_sem, d0, d1, d2, d3, d4]; try rfl) rfl ?_
  first | exact ⟨rfl, (hp.2.2.1 _ HN.out (by omega)).drew⟩ | exact ⟨rfl, hp.2.2.1 _ HN.out (by omega)⟩
theorem drew_heap (Z : World) : Z.drew.heap = Z.heap := rfl
theorem six_put {w : World} {b : Nat} {u0 u1 u2 u3 u4 u5 u6 u7 : Value} {T : TypeId} (v1 v2 v3 v4 v5 v7 : Value) (h : w.heap[b]? = some (.cells #[u0, u1, u2, u3, u4, u5, u6, u7] T (0, 0))) : ((((((w.setCell ⟨b, 1, none⟩ v1).setCell ⟨b, 2, none⟩ v2).setCell ⟨b, 3, none⟩ v3).setCell ⟨b, 4, none⟩ v4).setCell ⟨b, 5, none⟩ v5).setCell ⟨b, 7, none⟩ v7).heap[b]? = some (.cells #[u0, v1, v2, v3, v4, v5, u6, v7] T (0, 0)) := by
  have h1 : (w.setCell ⟨b, 1, none⟩ v1).heap[b]? = some (.cells #[u0, v1, u2, u3, u4, u5, u6, u7] T (0, 0)) := heap_setCell_same _ b 1 _ _ v1 h
  have h2 : ((w.setCell ⟨b, 1, none⟩ v1).setCell ⟨b, 2, none⟩ v2).heap[b]? = some (.cells #[u0, v1, v2, u3, u4, u5, u6, u7] T (0, 0)) := heap_setCell_same _ b 2 _ _ v2 h1
  have h3 : (((w.setCell ⟨b, 1, none⟩ v1).setCell ⟨b, 2, none⟩ v2).setCell ⟨b, 3, none⟩ v3).heap[b]? = some (.cells #[u0, v1, v2, v3, u4, u5, u6, u7] T (0, 0)) := heap_setCell_same _ b 3 _ _ v3 h2
  have h4 : ((((w.setCell ⟨b, 1, none⟩ v1).setCell ⟨b, 2, none⟩ v2).setCell ⟨b, 3, none⟩ v3).setCell ⟨b, 4, none⟩ v4).heap[b]? = some (.cells #[u0, v1, v2, v3, v4, u5, u6, u7] T (0, 0)) := heap_setCell_same _ b 4 _ _ v4 h3
  have h5 : (((((w.setCell ⟨b, 1, none⟩ v1).setCell ⟨b, 2, none⟩ v2).setCell ⟨b, 3, none⟩ v3).setCell ⟨b, 4, none⟩ v4).setCell ⟨b, 5, none⟩ v5).heap[b]? = some (.cells #[u0, v1, v2, v3, v4, v5, u6, u7] T (0, 0)) := heap_setCell_same _ b 5 _ _ v5 h4
  have h7 : ((((((w.setCell ⟨b, 1, none⟩ v1).setCell ⟨b, 2, none⟩ v2).setCell ⟨b, 3, none⟩ v3).setCell ⟨b, 4, none⟩ v4).setCell ⟨b, 5, none⟩ v5).setCell ⟨b, 7, none⟩ v7).heap[b]? = some (.cells #[u0, v1, v2, v3, v4, v5, u6, v7] T (0, 0)) := heap_setCell_same _ b 7 _ _ v7 h5
  exact h7
theorem state_put {w : World} {b : Nat} {kd : Int} {q p : W4} {v : Value} {L : Int} (g : Nat) (m : Int) (h : w.heap[b]? = some (.cells (fedCells kd q v L) 52 (0, 0))) (W : World)
    (hW : (((((((w.setCell ⟨b, 1, none⟩ (.int .i64 kd)).setCell ⟨b, 2, none⟩ (.int .u64 (W64 p.a))).setCell ⟨b, 3, none⟩ (.int .u64 (W64 p.b))).setCell ⟨b, 4, none⟩ (.int .u64 (W64 p.c))).setCell ⟨b, 5, none⟩ (.int .u64 (W64 p.d)))).setCell ⟨b, 7, none⟩ (.int .i64 m)).drew = W) :
    W.heap[b]? = some (.cells (fedCells kd p v m) 52 (0, 0)) ∧ (∀ i, i ≠ b → W.heap[i]? = w.heap[i]?) ∧ W.heap.size = w.heap.size ∧ But2 b g w W := by
  subst hW
  have h0 : w.heap[b]? = some (.cells #[.func (Fn.func 19) #[] #[], .int .i64 kd, .int .u64 (W64 q.a), .int .u64 (W64 q.b), .int .u64 (W64 q.c), .int .u64 (W64 q.d), v, .int .i64 L] 52 (0, 0)) := h
  have h6 := six_put (.int .i64 kd) (.int .u64 (W64 p.a)) (.int .u64 (W64 p.b)) (.int .u64 (W64 p.c)) (.int .u64 (W64 p.d)) (.int .i64 m) h0
  refine ⟨by rw [drew_heap]; exact h6, fun i hi => ?_, ?_, ?_⟩
  all_goals (try rw [drew_heap])
  · exact (heap_setCell_other _ _ _ _ hi).trans ((heap_setCell_other _ _ _ _ hi).trans ((heap_setCell_other _ _ _ _ hi).trans ((heap_setCell_other _ _ _ _ hi).trans ((heap_setCell_other _ _ _ _ hi).trans (heap_setCell_other _ _ _ _ hi)))))
  · simp [World.setCell]
  · exact (((((((But2.refl b g w).setCell (Or.inl rfl) _).setCell (Or.inl rfl) _).setCell (Or.inl rfl) _).setCell (Or.inl rfl) _).setCell (Or.inl rfl) _).setCell (Or.inl rfl) _).then (New.refl _).drew
set_option maxHeartbeats 1000000 in
theorem next_some_f (b g : Nat) (kd : Int) (q : W4) (mm k : Nat) (hk : k < mm) (w : World) (h : Fed w b g kd q mm k) :
    Calls Tryz.prog 11 #[.pointer (some ⟨b, 0, none⟩)] w fun e w' => e = .returned (.tuple #[.int .u64 (W64 (wdK kd q k)), .int .i64 0]) ∧ ∃ g', Fed w' b g' kd q mm (k + 1) ∧ But2 b g w w' ∧ (g' = g ∨ w.heap.size ≤ g') := by
  have HM := Lib.hid (made_f b g kd q mm k w h)
  obtain ⟨v, h⟩ := h
  have H := Lib.hid h
  have HW := Lib.hid (fun (w' : World) => word_f k kd (wsK kd q k) (chk_ws h.good k) w')
  have HWS : Hid (wsK kd q (k + 1) = nxK kd (wsK kd q k)) := Lib.hid rfl
  have HWL := Lib.hid (wlK_succ kd q k)
  obtain ⟨qk, hqk⟩ : ∃ z, wsK kd q k = z := ⟨_, rfl⟩
  obtain ⟨qn, hqn⟩ : ∃ z, nxK kd (wsK kd q k) = z := ⟨_, rfl⟩
  obtain ⟨z, hz⟩ : ∃ z, wdK kd q k = z := ⟨_, rfl⟩
  have hz2 : ouK kd (wsK kd q k) = z := hz
  rw [hz2, hqn, hqk] at HW
  rw [hqn] at HWS
  obtain ⟨m, hm⟩ : ∃ m, mm - k = m + 1 := ⟨mm - k - 1, by omega⟩
  have hm2 : mm - (k + 1) = m := by omega
  have hmost : m ≤ 17592186044416 := by have := h.most; omega
  have hmostk : k + 1 ≤ 17592186044416 := by have := h.most; omega
  obtain ⟨x, cap2, hv, _⟩ := own_len h.taken
  have hb := h.box
  rw [hm, hqk] at hb
  rw [hz] at HWL ⊢
  have hL : (((m + 1 : Nat) : Int) == 0) = false := by simp; omega
  have HB := Lib.hid hb
  have HM2 := Lib.hid hm2
  have HHM := Lib.hid hm
  obtain ⟨L, hLe⟩ : ∃ L : Int, ((m + 1 : Nat) : Int) = L := ⟨_, rfl⟩
  rw [hLe] at hL HB hb
  have hLm : L = m + 1 := by omega
  clear hz hz2 hqk hqn hm hm2 h hk hLe
  subst hv
  have HALL : ∀ w', New w w' → (w'.cell? ⟨b, 0, none⟩ = some (.func (Fn.func 19) #[] #[]) ∧ w'.cell? ⟨b, 1, none⟩ = some (.int .i64 kd) ∧ w'.cell? ⟨b, 2, none⟩ = some (.int .u64 (W64 qk.a)) ∧ w'.cell? ⟨b, 3, none⟩ = some (.int .u64 (W64 qk.b)) ∧ w'.cell? ⟨b, 4, none⟩ = some (.int .u64 (W64 qk.c)) ∧ w'.cell? ⟨b, 5, none⟩ = some (.int .u64 (W64 qk.d)) ∧ w'.cell? ⟨b, 6, none⟩ = some (.slice x k cap2) ∧ w'.cell? ⟨b, 7, none⟩ = some (.int .i64 L)) := by
    intro w' hn
    have hb' := (hn.block _ (lt_of_block HB.out)).trans HB.out
    exact ⟨cell_of_row _ _ 0 _ _ _ hb', cell_of_row _ _ 1 _ _ _ hb', cell_of_row _ _ 2 _ _ _ hb', cell_of_row _ _ 3 _ _ _ hb', cell_of_row _ _ 4 _ _ _ hb', cell_of_row _ _ 5 _ _ _ hb', cell_of_row _ _ 6 _ _ _ hb', cell_of_row _ _ 7 _ _ _ hb'⟩
  have HAL := Lib.hid HALL
  obtain ⟨c0, c1, c2, c3, c4, c5, c6, c7⟩ := HALL w (New.refl w)
  clear hb HALL
  go_enter Tryz.func11, Tryz.ntmps11
  go_wp2_with fail
  refine HM.out.mono ?_
  rintro e w' ⟨rfl, rfl⟩
  go_wp2_with fail
  go_cut [4, 5] (fun x p wx => x = .int .u64 (W64 z) ∧ ∃ s, p = .pointer (some ⟨s, 0, none⟩) ∧ w'.heap.size ≤ s ∧ BQ wx s kd qn ∧ New w' wx)
  case first =>
    have SK := Lib.hid (fun (w1 : World) (hn : New w' w1) => And.intro hn (HAL.out w1 hn))
    go_region_held3 (fun w1 => New w' w1 ∧ (w1.cell? ⟨b, 0, none⟩ = some (.func (Fn.func 19) #[] #[]) ∧ w1.cell? ⟨b, 1, none⟩ = some (.int .i64 kd) ∧ w1.cell? ⟨b, 2, none⟩ = some (.int .u64 (W64 qk.a)) ∧ w1.cell? ⟨b, 3, none⟩ = some (.int .u64 (W64 qk.b)) ∧ w1.cell? ⟨b, 4, none⟩ = some (.int .u64 (W64 qk.c)) ∧ w1.cell? ⟨b, 5, none⟩ = some (.int .u64 (W64 qk.d)) ∧ w1.cell? ⟨b, 6, none⟩ = some (.slice x k cap2) ∧ w1.cell? ⟨b, 7, none⟩ = some (.int .i64 L)))
      ((refine SK.out _ ?_; first | with_reducible assumption | with_reducible exact (New.refl _).drew | with_reducible exact (New.refl _).drew.alloc _ | with_reducible exact ((New.refl _).alloc _).drew | with_reducible exact New.alloc (by assumption) _ | with_reducible exact putQ_new (by assumption) (Nat.le_refl _) | with_reducible exact putQ_new (New.alloc (by assumption) _) (by assumption) | with_reducible exact New.drew (by assumption)))
      (first
      | (go_at_call 19
         refine (HW.out _).mono ?_
         rintro e w2 ⟨rfl, hn2⟩
         first
         | (with_reducible have hsn := bs_of_alloc hn2
            obtain ⟨hs, hn3⟩ := hsn
            have hsf := hs.free
            obtain ⟨s0, s1, s2, s3, s4⟩ := hs.c
            have HS := Lib.hid hs
            clear hs)
         | (have hn3 : New w' w2 := by with_reducible exact drew_left hn2
            have hn4 : Hid (w'.heap.size ≤ w2.heap.size) := Lib.hid hn3.le)
         clear hn2))
    all_goals (
      go_wp2_with fail
      go_meet
      case rel => first
        | exact ⟨rfl, _, rfl, hn4.out, heap_alloc_new _ _, hn3.alloc _⟩
        | exact ⟨rfl, _, rfl, Nat.le_refl _, BS.putQ kd qn HS.out, putQ_new hn3 (Nat.le_refl _)⟩)
  case rest =>
    obtain ⟨rfl, s, rfl, hs, hbs, hn⟩ := hcut
    have hsf := hbs.free
    obtain ⟨s0, s1, s2, s3, s4⟩ := hbs.c
    have hboxc := (hn.block _ (lt_of_block HB.out)).trans HB.out
    have hbf : ∀ i, wc.frozen? ⟨b, i, none⟩ = false := fun i => frozen_of_row _ _ _ _ _ hboxc
    clear c0 c1 c2 c3 c4 c5 c6 c7
    obtain ⟨c0, c1, c2, c3, c4, c5, c6, c7⟩ := HAL.out wc hn
    have HN := Lib.hid hn
    have HBX := Lib.hid hboxc
    have HT := Lib.hid (H.out.stay hn)
    clear hbs hn hboxc HW HAL HM HB
    go_wp2_with fail
    go_region
    clear s0 s1 s2 s3 s4 c0 c1 c2 c3 c4 c5 c6 c7 hbf hsf
    obtain ⟨i0, hi, hz0, hz1, hz2⟩ := info_parts info8_cq
    obtain ⟨w6, hw6⟩ : ∃ w6, ((((((wc.setCell ⟨b, 1, none⟩ (.int .i64 kd)).setCell ⟨b, 2, none⟩ (.int .u64 (W64 qn.a))).setCell ⟨b, 3, none⟩ (.int .u64 (W64 qn.b))).setCell ⟨b, 4, none⟩ (.int .u64 (W64 qn.c))).setCell ⟨b, 5, none⟩ (.int .u64 (W64 qn.d))).setCell ⟨b, 7, none⟩ (.int .i64 m)).drew = w6 := ⟨_, rfl⟩
    obtain ⟨hb6, ho6, hs6, hbut⟩ := state_put g m HBX.out w6 hw6
    rw [hw6]
    clear hw6
    have HB6 := Lib.hid hb6
    have HO6 := Lib.hid ho6
    have HS6 := Lib.hid hs6
    have HBUT := Lib.hid ((But2.of_new HN.out).trans hbut)
    have hown : w6.ownsRow 0 22 1 (.slice x k cap2) k ((wlK kd q k).map fun x => .int .u64 (W64 x)) := own_words HT.out.taken w6 fun g' e => HO6.out g' (HT.out.own g' e).2
    have c6 : w6.cell? ⟨b, 6, none⟩ = some (.slice x k cap2) := cell_of_row _ _ 6 _ _ _ HB6.out
    have hbl : b < w6.heap.size := lt_of_block HB6.out
    clear hb6 ho6 hs6 hbut
    go_wp2_with (at_builtin; refine wpList_append_lies _ rfl _ _ 32 rfl 0 22 i0 (.int .u64 0) 1 8 Tryz.underlying32 hi hz0 hz1 hz2 rfl (by decide) _ k _ rfl (hown.alloc _) ⟨w6.heap.size, 0, none⟩ 1 1 [.int .u64 (W64 z)] rfl rfl ?c1 ?c2 (by decide) ?c3 ?c4 (Nat.zero_le _) (w6.heap.size + 1) (by simp) ?_)
    case c1 => exact new_cells_t w6 _ _
    case c2 => intro u hu; simp at hu; subst hu; rfl
    case c3 => unfold maxLen; omega
    case c4 => omega
    intro g2 cap3 w7 how hgr hat hlt
    have hb7 : w7.heap[b]? = some (.cells (fedCells kd qn (.slice x k cap2) m) 52 (0, 0)) := by
      rw [hgr.block b (by simp; omega) (fun e => (HT.out.own b e.symm).2 rfl)]
      exact (((New.refl w6).alloc _).block _ hbl).trans HB6.out
    have c6' : w7.cell? ⟨b, 6, none⟩ = some (.slice x k cap2) := cell_of_row _ _ 6 _ _ _ hb7
    have hbf : ∀ i, w7.frozen? ⟨b, i, none⟩ = false := fun i => frozen_of_row _ _ _ _ _ hb7
    have HB7 := Lib.hid hb7
    have HOW := Lib.hid how
    have HGR := Lib.hid hgr
    have HAT := Lib.hid hat
    clear hb7 how hgr hat hown c6
    go_wp2
    go_ret2
    refine ⟨rfl, g2, ?_, ?_, ?_⟩
    · have hg2 : g2 ≠ b := by
        rcases HAT.out with e | e
        · exact (HT.out.own g2 e).2
        · omega
      refine ⟨.slice (some ⟨g2, 0, none⟩) (k + 1) cap3, ?_, by have := HHM.out; omega, HT.out.most, HT.out.good, ?_, ?_, (fun e => by cases e)⟩
      · rw [HM2.out, HWS.out]
        exact heap_setCell_same w7 b 6 _ _ _ HB7.out
      · refine own_words (w := w7) ?_ _ (fun g' e => ?_)
        · have h1 := HOW.out
          rw [HWL.out, List.map_append]
          exact h1
        · cases e
          exact heap_setCell_other _ _ _ _ hg2
      · intro g' e
        cases e
        exact ⟨rfl, hg2⟩
    · refine But2.setCell (But2.grown (HBUT.out.then ((New.refl w6).alloc _)) HGR.out (fun i e => (HT.out.own i e).1)) (Or.inl rfl) _
    · rcases HAT.out with e | e
      · exact Or.inl (HT.out.own g2 e).1
      · right; have := HBUT.out.size; omega
end Go.Proofs.YtadcihkpnpemeaaGreat
