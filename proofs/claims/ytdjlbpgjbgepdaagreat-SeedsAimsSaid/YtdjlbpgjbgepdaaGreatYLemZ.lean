import Derived.Test.YtdjlbpgjbgepdaaGreatYLemG
import Derived.Test.YtdjlbpgjbgepdaaGreatYMskQ
import Derived.Test.YtdjlbpgjbgepdaaGreatYTapP
import Derived.Test.YtdjlbpgjbgepdaaGreatWords
/- Contract of layer 38: Aim. · The law LemireAims, walked. -/
namespace Go.Proofs.YtdjlbpgjbgepdaaGreat
open Go.RowKit Go.Bv
set_option linter.unusedVariables false
end Go.Proofs.YtdjlbpgjbgepdaaGreat
namespace Go.Proofs.YtdjlbpgjbgepdaaGreat
open Go.RowKit Go.Bv
set_option linter.unusedVariables false
theorem wrdN_tel (v r n : BitVec 64) (h : ¬ n = 0#64) (hv : v.toNat < n.toNat) (hr : r.toNat < eachN n) : telN (wrdN v r n) n = v := (wrdN_all v r n h hv hr).2.1
theorem wrdN_rnk (v r n : BitVec 64) (h : ¬ n = 0#64) (hv : v.toNat < n.toNat) (hr : r.toNat < eachN n) : rnkN (wrdN v r n) n = r := (wrdN_all v r n h hv hr).2.2
/-- whether a word is taken for any limit -/
def takO (x n : BitVec 64) : Bool := if n = 0#64 then false else takN x n
theorem takO_zero (x : BitVec 64) : takO x 0#64 = false := if_pos rfl
theorem takO_ne {x n : BitVec 64} (h : takO x n = true) : ¬ n = 0#64 := fun e => by subst e; cases h
theorem takO_tak {x n : BitVec 64} (h : takO x n = true) : takN x n = true := by
  unfold takO at h; rw [if_neg (takO_ne h)] at h; exact h
theorem rtakes_any (x n : BitVec 64) (w : World) : Calls Tryz.prog 41 #[.int .u64 (W64 x), .int .u64 (W64 n)] w fun e w' => e = .returned (.bool (takO x n)) ∧ New w w' := by
  by_cases h : n = 0#64
  · subst h
    rw [takO_zero, show W64 0#64 = 0 by decide]
    exact rtakes_zero_l x w
  · rw [show takO x n = takN x n from if_neg h]; exact rtakes_l x n h w
set_option maxHeartbeats 1000000 in
theorem rtake_any (a : Option Addr) (len cap : Nat) (l : List (BitVec 64)) (n : BitVec 64) (w : World) (hq : QRow w a len cap l) :
    Calls Tryz.prog 31 #[.slice a len cap, .int .u64 (W64 n)] w fun e w' =>
      ((∃ j, j < l.length ∧ (∀ i, i < j → takO (l.getD i 0) n = false) ∧ takO (l.getD j 0) n = true ∧ e = .returned (.tuple #[.agg #[.int .u64 (W64 (telN (l.getD j 0) n)), .int .u64 (W64 (rnkN (l.getD j 0) n)), .int .i64 ((j : Int) + 1)], .bool true])) ∨
      ((∀ i, i < l.length → takO (l.getD i 0) n = false) ∧ e = .returned (.tuple #[.agg #[.int .u64 0, .int .u64 0, .int .i64 0], .bool false]))) ∧ New w w' := by
  have hmost := hq.most
  obtain rfl := hq.len_eq
  have hr := heap_alloc_new w (.cells #[.int .u64 0, .int .u64 0, .int .i64 0] 53)
  have hnw := (New.refl w).alloc (.cells #[.int .u64 0, .int .u64 0, .int .i64 0] 53)
  have HQ := Lib.hid hq
  have HR0 := Lib.hid hr
  have HN0 := Lib.hid hnw
  have hsz : (w.alloc (.cells #[.int .u64 0, .int .u64 0, .int .i64 0] 53)).heap.size = w.heap.size + 1 := by simp
  clear hq hr hnw
  go_enter Tryz.func31, Tryz.ntmps31
  go_wp2_with fail
  generalize w.alloc (.cells #[.int .u64 0, .int .u64 0, .int .i64 0] 53) = w0 at *
  go_loopw [12] (fun u wr => ∃ j : Nat, j ≤ l.length ∧ u = .int .i64 j ∧ New w0 wr ∧ Hid (∀ i, i < j → takO (l.getD i 0) n = false)) (fun u _ => l.length - (intOf u).toNat)
  case atStart => exact ⟨0, Nat.zero_le _, rfl, New.refl _, Lib.hid (fun i h => by omega)⟩
  case round =>
    obtain ⟨j, hj, rfl, hnr, HNO⟩ := hrel
    have hrr := (hnr.block w.heap.size (by omega)).trans HR0.out
    have HNR := Lib.hid hnr
    by_cases hlt : (j : Int) < (l.length : Int)
    · obtain ⟨b, off, rfl, hcell⟩ := ((HQ.out.stay HN0.out).stay hnr).addr (by omega)
      have hck := hcell j (by omega)
      have HTK := Lib.hid (rtakes_any (l.getD j 0) n)
      have HTL := Lib.hid (fun ht : takO (l.getD j 0) n = true => rrank_l (l.getD j 0) n (takO_ne ht) (takO_tak ht))
      obtain ⟨z, hz⟩ : ∃ z, l.getD j 0 = z := ⟨_, rfl⟩
      rw [hz] at hck HTK HTL
      have HZ := Lib.hid hz
      have HRR := Lib.hid hrr
      clear hcell hz hnr hrr
      go_wp2_with fail
      refine (HTK.out _).mono ?_
      rintro e w1 ⟨rfl, hn1⟩
      have HN1 := Lib.hid (HNR.out.trans hn1)
      have HR1 := Lib.hid ((hn1.block _ (lt_of_block HRR.out)).trans HRR.out)
      clear hn1 HRR hck
      rcases htk : takO z n
      · have HNO2 : Hid (∀ i, i < j + 1 → takO (l.getD i 0) n = false) := Lib.hid (fun i h1 => by
          by_cases e : i = j
          · subst e; rw [HZ.out]; exact htk
          · exact HNO.out i (by omega))
        clear htk
        go_wp2
        exact ⟨⟨j + 1, by omega, by go_num, HN1.out, HNO2⟩, by simp [intOf]; omega⟩
      · have HTT := Lib.hid htk
        clear htk
        go_wp2_with fail
        refine (HTL.out HTT.out _).mono ?_
        rintro e w2 ⟨rfl, hn2⟩
        have HN2 := Lib.hid (HN1.out.trans hn2)
        have hrr := (hn2.block _ (lt_of_block HR1.out)).trans HR1.out
        have r0 := cell_of_row _ _ 0 _ _ _ hrr
        have r1 := cell_of_row _ _ 1 _ _ _ hrr
        have r2 := cell_of_row _ _ 2 _ _ _ hrr
        have rf : ∀ i, w2.frozen? ⟨w.heap.size, i, none⟩ = false := fun i => frozen_of_row _ _ _ _ _ hrr
        clear hn2 hrr
        go_wp2
        refine bodyPost_ret (by simp [results, Tryz.results31, go_sem, r0, r1, r2]; try rfl) rfl ?_
        refine ⟨Or.inl ⟨j, by omega, HNO.out, by rw [HZ.out]; exact HTT.out, by rw [HZ.out]⟩, (((HN0.out.trans HN2.out).setCell (Nat.le_refl _) _).setCell (Nat.le_refl _) _).setCell (Nat.le_refl _) _⟩
    · obtain rfl : j = l.length := by omega
      have r0 := cell_of_row _ _ 0 _ _ _ hrr
      have r1 := cell_of_row _ _ 1 _ _ _ hrr
      have r2 := cell_of_row _ _ 2 _ _ _ hrr
      have rf : ∀ i, wr.frozen? ⟨w.heap.size, i, none⟩ = false := fun i => frozen_of_row _ _ _ _ _ hrr
      clear hrr hnr
      go_wp2
      refine bodyPost_ret (by simp [results, Tryz.results31, go_sem, r0, r1, r2]; try rfl) rfl ?_
      refine ⟨Or.inr ⟨HNO.out, rfl⟩, (((HN0.out.trans HNR.out).setCell (Nat.le_refl _) _).setCell (Nat.le_refl _) _).setCell (Nat.le_refl _) _⟩
/-- what the aimed tape tells -/
theorem aimed (l : List (BitVec 64)) (n v : BitVec 64) (j : Nat) (hn0 : ¬ n = 0#64) (hj : j < l.length) (hno : ∀ i, i < j → takN (l.getD i 0) n = false) (htk : takN (l.getD j 0) n = true) (hv : v.toNat < n.toNat) (y : BitVec 64) (hy : wrdN v (rnkN (l.getD j 0) n) n = y) :
    (∀ i, i < j → takN ((l.set j y).getD i 0) n = false) ∧ (l.set j y).getD j 0 = y ∧ takN y n = true ∧ telN y n = v ∧ rnkN y n = rnkN (l.getD j 0) n ∧ (l.set j y).set j (wrdN (telN (l.getD j 0) n) (rnkN y n) n) = l ∧ (l.set j y).length = l.length ∧ (telN (l.getD j 0) n).toNat < n.toNat := by
  have hr := rnk_ltN (l.getD j 0) n hn0 htk
  have e1 : telN y n = v := hy ▸ wrdN_tel v (rnkN (l.getD j 0) n) n hn0 hv hr
  have e2 : rnkN y n = rnkN (l.getD j 0) n := hy ▸ wrdN_rnk v (rnkN (l.getD j 0) n) n hn0 hv hr
  have e3 : (l.set j y).getD j 0 = y := by rw [List.getD_eq_getElem?_getD, List.getElem?_set, if_pos rfl, if_pos hj]; rfl
  have e4 : takN y n = true := hy ▸ (wrdN_all v (rnkN (l.getD j 0) n) n hn0 hv hr).1
  refine ⟨fun i hi => ?_, e3, e4, e1, e2, ?_, List.length_set, tel_lt (l.getD j 0) n hn0⟩
  · rw [List.getD_eq_getElem?_getD, List.getElem?_set, if_neg (by omega), ← List.getD_eq_getElem?_getD]; exact hno i hi
  · rw [List.set_set, e2, show wrdN (telN (l.getD j 0) n) (rnkN (l.getD j 0) n) n = l.getD j 0 from wrdN_back (l.getD j 0) n hn0 htk]
    apply List.ext_getElem (by rw [List.length_set])
    intro i h1 h2
    rw [List.getElem_set]
    by_cases e : j = i
    · subst e; rw [if_pos rfl, List.getD_eq_getElem?_getD, List.getElem?_eq_getElem hj]; rfl
    · rw [if_neg e]
end Go.Proofs.YtdjlbpgjbgepdaaGreat
