import Derived.Test.YtdjlbpgjbgepdaaGreatYSdsC
/- Layer 44: one word of a seed, drawn. -/
namespace Go.Proofs.YtdjlbpgjbgepdaaGreat
open Go Go.RowKit Go.Bv
set_option linter.unusedVariables false
set_option maxRecDepth 100000
abbrev PPw : BitVec 64 := 2305843009213693951#64
theorem lt_takO {x n : BitVec 64} (h : ¬ n = 0#64) : takO x n = takN x n := by unfold takO; rw [if_neg h]
theorem PPw_ne : ¬ PPw = 0#64 := by decide
theorem PPw_lit : W64 PPw = 2305843009213693951 := by decide
/-- a draw of a word that is any, or odd -/
def dOf (c : Nat) (x : BitVec 64) : Drw := if c = 1 then (x ||| 1#64, x &&& 1#64, 1) else (x, 0#64, 1)
/-- the next draw of a tape's words from k on -/
def stp (c : Nat) (l : List (BitVec 64)) (k : Nat) : Option (Drw × Nat) :=
  if c = 0 then (if fstT l PPw k < l.length then some (drw l PPw k (fstT l PPw k), fstT l PPw k + 1) else none)
  else if k < l.length then some (dOf c (l.getD k 0), k + 1) else none
theorem stp_yes {l : List (BitVec 64)} {k j : Nat} (h1 : k ≤ j) (h2 : j < l.length) (h3 : ∀ i, k ≤ i → i < j → takN (l.getD i 0) PPw = false) (h4 : takN (l.getD j 0) PPw = true) : stp 0 l k = some (drw l PPw k j, j + 1) := by
  unfold stp
  have e := fstT_yes h1 h2 (fun i a b => by rw [lt_takO PPw_ne]; exact h3 i a b) (by rw [lt_takO PPw_ne]; exact h4)
  rw [if_pos rfl, e, if_pos h2]
theorem stp_no {l : List (BitVec 64)} {k : Nat} (hk : k ≤ l.length) (h : ∀ i, k ≤ i → i < l.length → takN (l.getD i 0) PPw = false) : stp 0 l k = none := by
  unfold stp
  have e := fstT_no hk (fun i a b => by rw [lt_takO PPw_ne]; exact h i a b)
  rw [if_pos rfl, e, if_neg (by omega)]
theorem stp_word {c : Nat} (hc : c ≠ 0) {l : List (BitVec 64)} {k : Nat} (hk : k < l.length) : stp c l k = some (dOf c (l.getD k 0), k + 1) := by
  unfold stp; rw [if_neg hc, if_pos hk]
theorem stp_few {c : Nat} (hc : c ≠ 0) {l : List (BitVec 64)} : stp c l l.length = none := by
  unfold stp; rw [if_neg hc, if_neg (by omega)]
theorem put3_at {w : World} {q : Nat} {T : TypeId} {u0 u1 u2 : Value} (v0 v1 v2 : Value) (h : w.heap[q]? = some (.cells #[u0, u1, u2] T (0, 0))) :
    (((w.setCell ⟨q, 0, none⟩ v0).setCell ⟨q, 1, none⟩ v1).setCell ⟨q, 2, none⟩ v2).heap[q]? = some (.cells #[v0, v1, v2] T (0, 0)) := (put3_44 v0 v1 v2 h).1
theorem After.res {w w1 : World} {b g0 r : Nat} {l : List (BitVec 64)} {j : Nat} (v0 v1 v2 : Value) (o : Obj) (h : After (w.alloc o) w1 b g0 l j) (hb : b < w.heap.size) (hg0 : g0 < w.heap.size) (hr : r = w.heap.size) :
    After w (((w1.setCell ⟨r, 0, none⟩ v0).setCell ⟨r, 1, none⟩ v1).setCell ⟨r, 2, none⟩ v2) b g0 l j := by
  subst hr
  obtain ⟨g, ht, hb2, hg⟩ := h
  have hs : (w.alloc o).heap.size = w.heap.size + 1 := by simp
  have hne : w.heap.size ≠ g := by rcases hg with e | e <;> omega
  refine ⟨g, ((ht.put hb hne _ _).put hb hne _ _).put hb hne _ _, ((((But2.of_new ((New.refl w).alloc o)).trans hb2).fresh (by exact Nat.le_refl _) _).fresh (by exact Nat.le_refl _) _).fresh (by exact Nat.le_refl _) _, ?_⟩
  rcases hg with e | e
  · exact .inl e
  · exact .inr (by omega)
theorem After.stays {w w1 w2 : World} {b g0 : Nat} {l : List (BitVec 64)} {j : Nat} (h : After w w1 b g0 l j) (hn : New w1 w2) : After w w2 b g0 l j := by
  obtain ⟨g, ht, hb2, hg⟩ := h
  exact ⟨g, ht.stay hn, hb2.then hn, hg⟩
theorem After.row3 {w w1 : World} {b g0 : Nat} {l : List (BitVec 64)} {j : Nat} {o : Obj} (h : After w w1 b g0 l j) {q : Nat} (ho : w.heap[q]? = some o) (h1 : q ≠ b) (h2 : q ≠ g0) : w1.heap[q]? = some o := by
  obtain ⟨g, ht, hb2, hg⟩ := h
  exact (hb2.block q (lt_of_block ho) h1 h2).trans ho
set_option maxHeartbeats 4000000 in
theorem tk_p44 (b g0 k : Nat) (l : List (BitVec 64)) (w : World) (ht : Tape w b g0 l k) : Calls Tryz.prog 43 #[.pointer (some ⟨b, 0, none⟩)] w fun e w' =>
    (∃ d k', stp 0 l k = some (d, k') ∧ e = .returned (.tuple #[.agg #[.int .u64 (W64 d.1), .int .u64 (W64 d.2.1), .int .i64 (d.2.2 : Int)], .int .i64 0]) ∧ After w w' b g0 l k') ∨ (stp 0 l k = none ∧ e = .returned (.tuple #[.agg #[.int .u64 0, .int .u64 0, .int .i64 0], .int .i64 7]) ∧ After w w' b g0 l l.length) := by
  have HLT := Lib.hid ht.lt
  have hkl : Hid (k ≤ l.length) := Lib.hid (by obtain ⟨c, v, a, cap, h⟩ := ht; exact h.le)
  have HR0 := Lib.hid (heap_alloc_new w (.cells #[.int .u64 0, .int .u64 0, .int .i64 0] 53))
  have HT := Lib.hid (take_l b g0 l k PPw PPw_ne (w.alloc (.cells #[.int .u64 0, .int .u64 0, .int .i64 0] 53)) (ht.stay ((New.refl w).alloc _)))
  rw [PPw_lit] at HT
  clear ht
  go_enter Tryz.func43, Tryz.ntmps43
  go_wp2_with fail
  refine HT.out.mono ?_
  rintro e w1 (⟨j, h1, h2, h3, h4, rfl, hA⟩ | ⟨h3, rfl, hA⟩)
  · have HA := Lib.hid hA
    have HS := Lib.hid (stp_yes h1 h2 h3 h4)
    have HRB := Lib.hid (hA.row3 HR0.out (by have := HLT.out; omega) (by have := HLT.out; omega))
    have r0 := cell_of_row _ _ 0 _ _ _ HRB.out
    have r1 := cell_of_row _ _ 1 _ _ _ HRB.out
    have r2 := cell_of_row _ _ 2 _ _ _ HRB.out
    have rf := fun i => frozen_of_row _ _ i _ _ HRB.out
    clear hA h1 h2 h3 h4 HT
    go_wp2_with fail
    refine bodyPost_ret (by simp [results, Tryz.results43, go_sem, r0, r1, r2]; try rfl) rfl ?_
    exact Or.inl ⟨_, _, HS.out, rfl, After.res _ _ _ _ HA.out HLT.out.1 HLT.out.2 rfl⟩
  · have HA := Lib.hid hA
    have HS := Lib.hid (stp_no hkl.out h3)
    have HRB := Lib.hid (hA.row3 HR0.out (by have := HLT.out; omega) (by have := HLT.out; omega))
    have r0 := cell_of_row _ _ 0 _ _ _ HRB.out
    have r1 := cell_of_row _ _ 1 _ _ _ HRB.out
    have r2 := cell_of_row _ _ 2 _ _ _ HRB.out
    have rf := fun i => frozen_of_row _ _ i _ _ HRB.out
    clear hA h3 HT
    go_wp2_with fail
    refine bodyPost_ret (by simp [results, Tryz.results43, go_sem, r0, r1, r2]; try rfl) rfl ?_
    exact Or.inr ⟨HS.out, rfl, After.res _ _ _ _ HA.out HLT.out.1 HLT.out.2 rfl⟩
theorem of_odd44 (x : BitVec 64) (w : World) : Calls Tryz.prog 48 #[.int .u64 (W64 x)] w fun e w' => e = .returned (.agg #[.int .u64 (W64 (dOf 1 x).1), .int .u64 (W64 (dOf 1 x).2.1), .int .i64 ((dOf 1 x).2.2 : Int)]) ∧ New w w' := by
  show Calls Tryz.prog 48 #[.int .u64 (W64 x)] w fun e w' => e = .returned (.agg #[.int .u64 (W64 (x ||| 1#64)), .int .u64 (W64 (x &&& 1#64)), .int .i64 1]) ∧ New w w'
  go_enter Tryz.func48, Tryz.ntmps48
  go_wp2
  go_returns
  exact ⟨rfl, (New.refl w).alloc _⟩
theorem of_any44 (x : BitVec 64) (w : World) : Calls Tryz.prog 50 #[.int .u64 (W64 x)] w fun e w' => e = .returned (.agg #[.int .u64 (W64 (dOf 2 x).1), .int .u64 (W64 (dOf 2 x).2.1), .int .i64 ((dOf 2 x).2.2 : Int)]) ∧ New w w' := by
  show Calls Tryz.prog 50 #[.int .u64 (W64 x)] w fun e w' => e = .returned (.agg #[.int .u64 (W64 x), .int .u64 0, .int .i64 1]) ∧ New w w'
  go_enter Tryz.func50, Tryz.ntmps50
  go_wp2
  go_returns
  exact ⟨rfl, (New.refl w).alloc _⟩
theorem tk_few44 (b g0 k p : Nat) (l : List (BitVec 64)) (hk : k = l.length) (w : World) (ht : Tape w b g0 l k) : Calls Tryz.prog 80 #[.pointer (some ⟨b, 0, none⟩), .pointer (some ⟨p, 0, none⟩)] w fun e w' =>
    e = .returned (.tuple #[.agg #[.int .u64 0, .int .u64 0, .int .i64 0], .int .i64 7]) ∧ New w w' := by
  subst hk
  have HT := Lib.hid (next_none b g0 l (w.alloc (.cells #[.int .u64 0, .int .u64 0, .int .i64 0] 53)) (ht.stay ((New.refl w).alloc _)))
  clear ht
  go_enter Tryz.func80, Tryz.ntmps80
  go_wp2_with fail
  refine HT.out.mono ?_
  rintro e w1 ⟨rfl, rfl⟩
  clear HT
  go_wp2
  go_returns
  exact ⟨rfl, (New.refl w).alloc _⟩
set_option maxHeartbeats 4000000 in
theorem tk_odd44 (b g0 k p : Nat) (l : List (BitVec 64)) (hk : k < l.length) (w : World) (ht : Tape w b g0 l k) (hp : w.heap[p]? = some (.cells #[.func (Fn.func 48) #[] #[]] 96 (0, 0))) (hpb : p ≠ b) (hpg : p ≠ g0) : Calls Tryz.prog 80 #[.pointer (some ⟨b, 0, none⟩), .pointer (some ⟨p, 0, none⟩)] w fun e w' =>
    e = .returned (.tuple #[.agg #[.int .u64 (W64 (dOf 1 (l.getD k 0)).1), .int .u64 (W64 (dOf 1 (l.getD k 0)).2.1), .int .i64 ((dOf 1 (l.getD k 0)).2.2 : Int)], .int .i64 0]) ∧ After w w' b g0 l (k + 1) := by
  have HLT := Lib.hid ht.lt
  have HR0 := Lib.hid (heap_alloc_new w (.cells #[.int .u64 0, .int .u64 0, .int .i64 0] 53))
  have HP0 := Lib.hid ((((New.refl w).alloc (.cells #[.int .u64 0, .int .u64 0, .int .i64 0] 53)).block _ (lt_of_block hp)).trans hp)
  have HT := Lib.hid (next_some b g0 l k hk (w.alloc (.cells #[.int .u64 0, .int .u64 0, .int .i64 0] 53)) (ht.stay ((New.refl w).alloc _)))
  have HPN := Lib.hid (And.intro hpb hpg)
  have HO := Lib.hid (fun w => of_odd44 (l.getD k 0) w)
  generalize l.getD k 0 = x at *
  generalize hd : dOf 1 x = d at *
  clear ht hp hpb hpg hd hk
  go_enter Tryz.func80, Tryz.ntmps80
  go_wp2_with fail
  refine HT.out.mono ?_
  rintro e w1 ⟨rfl, hA⟩
  have HA : Hid (After (w.alloc (.cells #[.int .u64 0, .int .u64 0, .int .i64 0] 53)) w1 b g0 l (k + 1)) := Lib.hid hA
  have HRB := Lib.hid (HA.out.row3 HR0.out (by have := HLT.out; omega) (by have := HLT.out; omega))
  have p0 := cell_of_row _ _ 0 _ _ _ (HA.out.row3 HP0.out HPN.out.1 HPN.out.2)
  clear hA HT
  go_wp2_with fail
  refine (HO.out _).mono ?_
  rintro e w2 ⟨rfl, hn2⟩
  have HA2 := Lib.hid (HA.out.stays hn2)
  have HRB2 := Lib.hid ((hn2.block _ (lt_of_block HRB.out)).trans HRB.out)
  have r0 := cell_of_row _ _ 0 _ _ _ HRB2.out
  have r1 := cell_of_row _ _ 1 _ _ _ HRB2.out
  have r2 := cell_of_row _ _ 2 _ _ _ HRB2.out
  have rf := fun i => frozen_of_row _ _ i _ _ HRB2.out
  clear hn2 p0
  go_wp2_with fail
  refine bodyPost_ret (by simp [results, Tryz.results80, go_sem, r0, r1, r2]; try rfl) rfl ?_
  exact ⟨rfl, After.res _ _ _ _ HA2.out HLT.out.1 HLT.out.2 rfl⟩
set_option maxHeartbeats 4000000 in
theorem tk_any44 (b g0 k p : Nat) (l : List (BitVec 64)) (hk : k < l.length) (w : World) (ht : Tape w b g0 l k) (hp : w.heap[p]? = some (.cells #[.func (Fn.func 50) #[] #[]] 96 (0, 0))) (hpb : p ≠ b) (hpg : p ≠ g0) : Calls Tryz.prog 80 #[.pointer (some ⟨b, 0, none⟩), .pointer (some ⟨p, 0, none⟩)] w fun e w' =>
    e = .returned (.tuple #[.agg #[.int .u64 (W64 (dOf 2 (l.getD k 0)).1), .int .u64 (W64 (dOf 2 (l.getD k 0)).2.1), .int .i64 ((dOf 2 (l.getD k 0)).2.2 : Int)], .int .i64 0]) ∧ After w w' b g0 l (k + 1) := by
  have HLT := Lib.hid ht.lt
  have HR0 := Lib.hid (heap_alloc_new w (.cells #[.int .u64 0, .int .u64 0, .int .i64 0] 53))
  have HP0 := Lib.hid ((((New.refl w).alloc (.cells #[.int .u64 0, .int .u64 0, .int .i64 0] 53)).block _ (lt_of_block hp)).trans hp)
  have HT := Lib.hid (next_some b g0 l k hk (w.alloc (.cells #[.int .u64 0, .int .u64 0, .int .i64 0] 53)) (ht.stay ((New.refl w).alloc _)))
  have HPN := Lib.hid (And.intro hpb hpg)
  have HO := Lib.hid (fun w => of_any44 (l.getD k 0) w)
  generalize l.getD k 0 = x at *
  generalize hd : dOf 2 x = d at *
  clear ht hp hpb hpg hd hk
  go_enter Tryz.func80, Tryz.ntmps80
  go_wp2_with fail
  refine HT.out.mono ?_
  rintro e w1 ⟨rfl, hA⟩
  have HA : Hid (After (w.alloc (.cells #[.int .u64 0, .int .u64 0, .int .i64 0] 53)) w1 b g0 l (k + 1)) := Lib.hid hA
  have HRB := Lib.hid (HA.out.row3 HR0.out (by have := HLT.out; omega) (by have := HLT.out; omega))
  have p0 := cell_of_row _ _ 0 _ _ _ (HA.out.row3 HP0.out HPN.out.1 HPN.out.2)
  clear hA HT
  go_wp2_with fail
  refine (HO.out _).mono ?_
  rintro e w2 ⟨rfl, hn2⟩
  have HA2 := Lib.hid (HA.out.stays hn2)
  have HRB2 := Lib.hid ((hn2.block _ (lt_of_block HRB.out)).trans HRB.out)
  have r0 := cell_of_row _ _ 0 _ _ _ HRB2.out
  have r1 := cell_of_row _ _ 1 _ _ _ HRB2.out
  have r2 := cell_of_row _ _ 2 _ _ _ HRB2.out
  have rf := fun i => frozen_of_row _ _ i _ _ HRB2.out
  clear hn2 p0
  go_wp2_with fail
  refine bodyPost_ret (by simp [results, Tryz.results80, go_sem, r0, r1, r2]; try rfl) rfl ?_
  exact ⟨rfl, After.res _ _ _ _ HA2.out HLT.out.1 HLT.out.2 rfl⟩
/-- a word of a kind's seed, whatever the kind -/
theorem tk_n44 (c : Nat) (hc : c = 1 ∨ c = 2) (b g0 k p : Nat) (l : List (BitVec 64)) (w : World) (ht : Tape w b g0 l k) (hp : w.heap[p]? = some (.cells #[ofV c] 96 (0, 0))) (hpb : p ≠ b) (hpg : p ≠ g0) : Calls Tryz.prog 80 #[.pointer (some ⟨b, 0, none⟩), .pointer (some ⟨p, 0, none⟩)] w fun e w' =>
    (∃ d k', stp c l k = some (d, k') ∧ e = .returned (.tuple #[.agg #[.int .u64 (W64 d.1), .int .u64 (W64 d.2.1), .int .i64 (d.2.2 : Int)], .int .i64 0]) ∧ After w w' b g0 l k') ∨ (stp c l k = none ∧ e = .returned (.tuple #[.agg #[.int .u64 0, .int .u64 0, .int .i64 0], .int .i64 7]) ∧ After w w' b g0 l l.length) := by
  have hkl : k ≤ l.length := by obtain ⟨c, v, a, cap, h⟩ := ht; exact h.le
  have hc0 : c ≠ 0 := by omega
  rcases Nat.lt_or_ge k l.length with hk | hk
  · rcases hc with rfl | rfl
    · exact (tk_odd44 b g0 k p l hk w ht hp hpb hpg).mono fun e w' h => Or.inl ⟨_, _, stp_word hc0 hk, h.1, h.2⟩
    · exact (tk_any44 b g0 k p l hk w ht hp hpb hpg).mono fun e w' h => Or.inl ⟨_, _, stp_word hc0 hk, h.1, h.2⟩
  · obtain rfl : k = l.length := by omega
    exact (tk_few44 b g0 l.length p l rfl w ht).mono fun e w' h => Or.inr ⟨stp_few hc0, h.1, ⟨g0, ht.stay h.2, But2.of_new h.2, .inl rfl⟩⟩
end Go.Proofs.YtdjlbpgjbgepdaaGreat
