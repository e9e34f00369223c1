import Derived.Test.YthkmcnlciefnfaaGreatZ5AliC
import Derived.Test.YthkmcnlciefnfaaGreatZ5Gro2
/- Layer 43: fill. -/
namespace Go.Proofs.YthkmcnlciefnfaaGreat
open Go Go.RowKit Go.Bv Go.Ali
set_option linter.unusedVariables false
set_option maxRecDepth 100000
theorem info_i43 : (Tryz.prog.info? 3).map (fun i => (i.zero, i.size, i.bytes)) = some (some (.int .i64 0), 1, 8) := by kernel_rfl
theorem info_b43 : (Tryz.prog.info? 4).map (fun i => (i.zero, i.size, i.bytes)) = some (some (.bool false), 1, 1) := by kernel_rfl
theorem make_w43 (n : Nat) (hn : n ≤ 1000000) (W : World) : (Instr.makeSlice 25 (.int .i64 (n : Int)) (.int .i64 (n : Int))).run Tryz.prog W = .ok (.slice (some ⟨W.heap.size, 0, none⟩) n n) (W.alloc (.cells (madeCells #[.int .u64 0] n) 22)) := by
  obtain ⟨i0, hi, hz0, hz1, hz2⟩ := info_parts info_cr
  exact run_make_row (P := Tryz.prog) 25 22 i0 (.int .u64 0) Tryz.underlying25 hi hz0 hz1 rfl .i64 .i64 n (by rw [hz2]; omega) (by omega) W
theorem make_i43 (n : Nat) (hn : n ≤ 1000000) (W : World) : (Instr.makeSlice 73 (.int .i64 (n : Int)) (.int .i64 (n : Int))).run Tryz.prog W = .ok (.slice (some ⟨W.heap.size, 0, none⟩) n n) (W.alloc (.cells (madeCells #[.int .i64 0] n) 3)) := by
  obtain ⟨i0, hi, hz0, hz1, hz2⟩ := info_parts info_i43
  exact run_make_row (P := Tryz.prog) 73 3 i0 (.int .i64 0) Tryz.underlying73 hi hz0 hz1 rfl .i64 .i64 n (by rw [hz2]; omega) (by omega) W
theorem make_b43 (n : Nat) (hn : n ≤ 1000000) (W : World) : (Instr.makeSlice 116 (.int .i64 (n : Int)) (.int .i64 (n : Int))).run Tryz.prog W = .ok (.slice (some ⟨W.heap.size, 0, none⟩) n n) (W.alloc (.cells (madeCells #[.bool false] n) 4)) := by
  obtain ⟨i0, hi, hz0, hz1, hz2⟩ := info_parts info_b43
  exact run_make_row (P := Tryz.prog) 116 4 i0 (.bool false) Tryz.underlying116 hi hz0 hz1 rfl .i64 .i64 n (by rw [hz2]; omega) (by omega) W
abbrev TB (v0 v1 v2 : Value) : Obj := .cells #[v0, v1, v2] 78
theorem tri (w : World) (A B C : Obj) : ((((w.alloc A).alloc B).alloc C).heap[w.heap.size]? = some A) ∧ ((((w.alloc A).alloc B).alloc C).heap[w.heap.size + 1]? = some B) ∧ ((((w.alloc A).alloc B).alloc C).heap[w.heap.size + 1 + 1]? = some C) ∧ New w (((w.alloc A).alloc B).alloc C) := by
  have e1 : (w.alloc A).heap.size = w.heap.size + 1 := by simp
  have e2 : ((w.alloc A).alloc B).heap.size = w.heap.size + 1 + 1 := by simp
  refine ⟨?_, ?_, ?_, (((New.refl w).alloc _).alloc _).alloc _⟩
  · rw [(((New.refl (w.alloc A)).alloc B).alloc C).block _ (by rw [e1]; omega)]; exact heap_alloc_new _ _
  · rw [((New.refl ((w.alloc A).alloc B)).alloc C).block _ (by rw [e2]; omega), ← e1]; exact heap_alloc_new _ _
  · rw [← e2]; exact heap_alloc_new _ _
theorem quad (w : World) (A B C D : Obj) : (((((w.alloc A).alloc B).alloc C).alloc D).heap[w.heap.size]? = some A) ∧ (((((w.alloc A).alloc B).alloc C).alloc D).heap[w.heap.size + 1]? = some B) ∧ (((((w.alloc A).alloc B).alloc C).alloc D).heap[w.heap.size + 1 + 1]? = some C) ∧ (((((w.alloc A).alloc B).alloc C).alloc D).heap[w.heap.size + 1 + 1 + 1]? = some D) ∧ New w ((((w.alloc A).alloc B).alloc C).alloc D) := by
  obtain ⟨t1, t2, t3, t4⟩ := tri w A B C
  have e3 : (((w.alloc A).alloc B).alloc C).heap.size = w.heap.size + 1 + 1 + 1 := by simp
  have hn := (New.refl (((w.alloc A).alloc B).alloc C)).alloc D
  exact ⟨blk_stay t1 hn, blk_stay t2 hn, blk_stay t3 hn, by rw [← e3]; exact heap_alloc_new _ _, t4.alloc _⟩
theorem ris_made {w : World} {g n : Nat} {z : Value} {t : TypeId} (h : w.heap[g]? = some (.cells (madeCells #[z] n) t (0, 0))) : w.rowIs g t n (fun _ => z) := ⟨_, h, size_madeCells _ _, fun i hi => by simp [madeCells, hi, Nat.mod_one]⟩
set_option maxHeartbeats 8000000 in
theorem fill_q (a : Option Addr) (n c : Nat) (l : List (BitVec 64)) (T : BitVec 64) (w : World) (h : QRow w a n c l) (hn0 : 0 < n) (hn : n ≤ 256) :
    Calls Tryz.prog 53 #[.slice a n c, .int .u64 (W64 T)] w fun e w' => ∃ g1 g2, e = .returned (.agg #[.int .u64 (W64 T), .slice (some ⟨g1, 0, none⟩) n n, .slice (some ⟨g2, 0, none⟩) n n]) ∧ w'.rowIs g1 22 n (fun i => .int .u64 (W64 ((run n T n (st0 n T (fun i => l.getD i 0))).be i))) ∧ w'.rowIs g2 3 n (fun i => .int .i64 (((run n T n (st0 n T (fun i => l.getD i 0))).al i : Nat) : Int)) ∧ New w w' := by
  have hm1 := make_w43 n (by omega)
  have hm2 := make_i43 n (by omega)
  have hm3 := make_b43 n (by omega)
  have HA := Lib.hid h
  clear h
  go_enter Tryz.func53, Tryz.ntmps53
  have e1 : (w.alloc (.cells #[.int .u64 (W64 T)] 22)).heap.size = w.heap.size + 1 := by simp
  have hbt := (((New.refl (w.alloc (.cells #[.int .u64 (W64 T)] 22))).alloc (TB (.int .u64 0) (.slice none 0 0) (.slice none 0 0))).block _ (by rw [e1]; omega)).trans (heap_alloc_new w (.cells #[.int .u64 (W64 T)] 22))
  have hrs : ((w.alloc (.cells #[.int .u64 (W64 T)] 22)).alloc (TB (.int .u64 0) (.slice none 0 0) (.slice none 0 0))).heap[w.heap.size + 1]? = some (.cells #[.int .u64 0, .slice none 0 0, .slice none 0 0] 78 (0, 0)) := by rw [← e1]; exact heap_alloc_new _ _
  have hn2 : New w ((w.alloc (.cells #[.int .u64 (W64 T)] 22)).alloc (TB (.int .u64 0) (.slice none 0 0) (.slice none 0 0))) := ((New.refl w).alloc _).alloc _
  have hsz2 : ((w.alloc (.cells #[.int .u64 (W64 T)] 22)).alloc (TB (.int .u64 0) (.slice none 0 0) (.slice none 0 0))).heap.size = w.heap.size + 2 := by simp
  go_wp2_with fail
  obtain ⟨w2, hw2⟩ : ∃ w2, (w.alloc (.cells #[.int .u64 (W64 T)] 22)).alloc (TB (.int .u64 0) (.slice none 0 0) (.slice none 0 0)) = w2 := ⟨_, rfl⟩
  rw [hw2] at hbt hrs hn2 hsz2 ⊢
  have HBT := Lib.hid hbt
  have HRS := Lib.hid hrs
  have HN2 := Lib.hid hn2
  have HSZ2 := Lib.hid hsz2
  have ct := cell_of_row _ _ 0 _ _ _ hbt
  have SK : Hid (∀ w', New w2 w' → New w2 w' ∧ w'.cell? ⟨w.heap.size, 0, none⟩ = some (.int .u64 (W64 T))) := Lib.hid (fun w' hn => ⟨hn, cell_of_row _ _ 0 _ _ _ (blk_stay HBT.out hn)⟩)
  clear e1 hbt hrs hn2 hsz2 hw2
  go_step3
  go_wp2_with fail
  go_cut [5] (fun p wx => ∃ b g1 g2, p = .pointer (some ⟨b, 0, none⟩) ∧ wx.heap[b]? = some (.cells #[.int .u64 (W64 T), .slice (some ⟨g1, 0, none⟩) n n, .slice (some ⟨g2, 0, none⟩) n n] 78 (0, 0)) ∧ wx.rowIs g1 22 n (fun _ => .int .u64 0) ∧ wx.rowIs g2 3 n (fun _ => .int .i64 0) ∧ w2.heap.size ≤ b ∧ w2.heap.size ≤ g1 ∧ w2.heap.size ≤ g2 ∧ New w2 wx)
  case first =>
    go_region_held3 (fun w' => New w2 w' ∧ w'.cell? ⟨w.heap.size, 0, none⟩ = some (.int .u64 (W64 T)))
      ((refine SK.out _ ?_; repeat (first | with_reducible assumption | with_reducible exact New.refl _ | with_reducible apply New.drew | with_reducible refine New.alloc ?_ _)))
      (fail)
    all_goals (
      go_wp2_with fail
      go_meet
      case rel =>
        first
          | exact ⟨_, _, _, rfl, (tri w2 _ _ _).1, ris_made ((tri w2 _ _ _).2.1), ris_made ((tri w2 _ _ _).2.2.1), by omega, by omega, by omega, (tri w2 _ _ _).2.2.2.drew⟩
          | exact ⟨_, _, _, rfl, (tri w2 _ _ _).1, ris_made ((tri w2 _ _ _).2.1), ris_made ((tri w2 _ _ _).2.2.1), by omega, by omega, by omega, (tri w2 _ _ _).2.2.2⟩
          | exact ⟨_, _, _, rfl, (tri w2 _ _ _).1, ris_made ((tri w2 _ _ _).2.2.1), ris_made ((tri w2 _ _ _).2.1), by omega, by omega, by omega, (tri w2 _ _ _).2.2.2.drew⟩
          | exact ⟨_, _, _, rfl, (tri w2 _ _ _).1, ris_made ((tri w2 _ _ _).2.2.1), ris_made ((tri w2 _ _ _).2.1), by omega, by omega, by omega, (tri w2 _ _ _).2.2.2⟩
          | exact ⟨_, _, _, rfl, (tri w2 _ _ _).2.1, ris_made ((tri w2 _ _ _).1), ris_made ((tri w2 _ _ _).2.2.1), by omega, by omega, by omega, (tri w2 _ _ _).2.2.2.drew⟩
          | exact ⟨_, _, _, rfl, (tri w2 _ _ _).2.1, ris_made ((tri w2 _ _ _).1), ris_made ((tri w2 _ _ _).2.2.1), by omega, by omega, by omega, (tri w2 _ _ _).2.2.2⟩
          | exact ⟨_, _, _, rfl, (tri w2 _ _ _).2.1, ris_made ((tri w2 _ _ _).2.2.1), ris_made ((tri w2 _ _ _).1), by omega, by omega, by omega, (tri w2 _ _ _).2.2.2.drew⟩
          | exact ⟨_, _, _, rfl, (tri w2 _ _ _).2.1, ris_made ((tri w2 _ _ _).2.2.1), ris_made ((tri w2 _ _ _).1), by omega, by omega, by omega, (tri w2 _ _ _).2.2.2⟩
          | exact ⟨_, _, _, rfl, (tri w2 _ _ _).2.2.1, ris_made ((tri w2 _ _ _).1), ris_made ((tri w2 _ _ _).2.1), by omega, by omega, by omega, (tri w2 _ _ _).2.2.2.drew⟩
          | exact ⟨_, _, _, rfl, (tri w2 _ _ _).2.2.1, ris_made ((tri w2 _ _ _).1), ris_made ((tri w2 _ _ _).2.1), by omega, by omega, by omega, (tri w2 _ _ _).2.2.2⟩
          | exact ⟨_, _, _, rfl, (tri w2 _ _ _).2.2.1, ris_made ((tri w2 _ _ _).2.1), ris_made ((tri w2 _ _ _).1), by omega, by omega, by omega, (tri w2 _ _ _).2.2.2.drew⟩
          | exact ⟨_, _, _, rfl, (tri w2 _ _ _).2.2.1, ris_made ((tri w2 _ _ _).2.1), ris_made ((tri w2 _ _ _).1), by omega, by omega, by omega, (tri w2 _ _ _).2.2.2⟩)
  case rest =>
    obtain ⟨b, g1, g2, rfl, hb, hr1, hr2, hbl, hg1, hg2, hn3⟩ := hcut
    have HN3 := Lib.hid (HN2.out.trans hn3)
    have HB3 := Lib.hid hb
    have HR1 := Lib.hid hr1
    have HR2 := Lib.hid hr2
    have HBT3 := Lib.hid (blk_stay HBT.out hn3)
    have HRS3 := Lib.hid (blk_stay HRS.out hn3)
    have HLE3 : Hid (w.heap.size + 2 ≤ b ∧ w.heap.size + 2 ≤ g1 ∧ w.heap.size + 2 ≤ g2 ∧ b ≠ g1 ∧ b ≠ g2 ∧ g1 ≠ g2) := Lib.hid (by
      have hs := HSZ2.out
      refine ⟨by omega, by omega, by omega, ?_, ?_, ?_⟩
      · intro e; subst e; obtain ⟨cs, h1, _⟩ := hr1; rw [hb] at h1; cases h1
      · intro e; subst e; obtain ⟨cs, h1, _⟩ := hr2; rw [hb] at h1; cases h1
      · intro e; subst e; obtain ⟨cs, h1, _⟩ := hr1; obtain ⟨cs2, h2, _⟩ := hr2; rw [h1] at h2; cases h2)
    clear hb hr1 hr2 hbl hg1 hg2 hn3 HN2 HBT HRS HSZ2 SK ct hm2
    obtain ⟨w3, hw3⟩ : ∃ w3, w3 = wc := ⟨_, rfl⟩
    rw [← hw3] at HN3 HB3 HR1 HR2 HBT3 HRS3 ⊢
    clear hw3
    go_wp2_with fail
    go_cut [6, 7] (fun p q wx => ∃ bh bf gh gf, p = .pointer (some ⟨bh, 0, none⟩) ∧ q = .pointer (some ⟨bf, 0, none⟩) ∧ wx.heap[bh]? = some (.cells #[.slice (some ⟨gh, 0, none⟩) n n] 25 (0, 0)) ∧ wx.heap[bf]? = some (.cells #[.slice (some ⟨gf, 0, none⟩) n n] 116 (0, 0)) ∧ wx.rowIs gh 22 n (fun _ => .int .u64 0) ∧ wx.rowIs gf 4 n (fun _ => .bool false) ∧ w3.heap.size ≤ bh ∧ w3.heap.size ≤ bf ∧ w3.heap.size ≤ gh ∧ w3.heap.size ≤ gf ∧ New w3 wx)
    case first =>
      go_region_held3 (fun w' => New w3 w')
        (repeat (first | with_reducible assumption | with_reducible exact New.refl _ | with_reducible apply New.drew | with_reducible refine New.alloc ?_ _))
        (fail)
      all_goals (
        go_wp2_with fail
        go_meet
        case rel =>
          first
            | exact ⟨_, _, _, _, rfl, rfl, (quad w3 _ _ _ _).1, (quad w3 _ _ _ _).2.1, ris_made ((quad w3 _ _ _ _).2.2.1), ris_made ((quad w3 _ _ _ _).2.2.2.1), by omega, by omega, by omega, by omega, (quad w3 _ _ _ _).2.2.2.2.drew⟩
            | exact ⟨_, _, _, _, rfl, rfl, (quad w3 _ _ _ _).1, (quad w3 _ _ _ _).2.1, ris_made ((quad w3 _ _ _ _).2.2.2.1), ris_made ((quad w3 _ _ _ _).2.2.1), by omega, by omega, by omega, by omega, (quad w3 _ _ _ _).2.2.2.2.drew⟩
            | exact ⟨_, _, _, _, rfl, rfl, (quad w3 _ _ _ _).1, (quad w3 _ _ _ _).2.2.1, ris_made ((quad w3 _ _ _ _).2.1), ris_made ((quad w3 _ _ _ _).2.2.2.1), by omega, by omega, by omega, by omega, (quad w3 _ _ _ _).2.2.2.2.drew⟩
            | exact ⟨_, _, _, _, rfl, rfl, (quad w3 _ _ _ _).1, (quad w3 _ _ _ _).2.2.1, ris_made ((quad w3 _ _ _ _).2.2.2.1), ris_made ((quad w3 _ _ _ _).2.1), by omega, by omega, by omega, by omega, (quad w3 _ _ _ _).2.2.2.2.drew⟩
            | exact ⟨_, _, _, _, rfl, rfl, (quad w3 _ _ _ _).1, (quad w3 _ _ _ _).2.2.2.1, ris_made ((quad w3 _ _ _ _).2.1), ris_made ((quad w3 _ _ _ _).2.2.1), by omega, by omega, by omega, by omega, (quad w3 _ _ _ _).2.2.2.2.drew⟩
            | exact ⟨_, _, _, _, rfl, rfl, (quad w3 _ _ _ _).1, (quad w3 _ _ _ _).2.2.2.1, ris_made ((quad w3 _ _ _ _).2.2.1), ris_made ((quad w3 _ _ _ _).2.1), by omega, by omega, by omega, by omega, (quad w3 _ _ _ _).2.2.2.2.drew⟩
            | exact ⟨_, _, _, _, rfl, rfl, (quad w3 _ _ _ _).2.1, (quad w3 _ _ _ _).1, ris_made ((quad w3 _ _ _ _).2.2.1), ris_made ((quad w3 _ _ _ _).2.2.2.1), by omega, by omega, by omega, by omega, (quad w3 _ _ _ _).2.2.2.2.drew⟩
            | exact ⟨_, _, _, _, rfl, rfl, (quad w3 _ _ _ _).2.1, (quad w3 _ _ _ _).1, ris_made ((quad w3 _ _ _ _).2.2.2.1), ris_made ((quad w3 _ _ _ _).2.2.1), by omega, by omega, by omega, by omega, (quad w3 _ _ _ _).2.2.2.2.drew⟩
            | exact ⟨_, _, _, _, rfl, rfl, (quad w3 _ _ _ _).2.1, (quad w3 _ _ _ _).2.2.1, ris_made ((quad w3 _ _ _ _).1), ris_made ((quad w3 _ _ _ _).2.2.2.1), by omega, by omega, by omega, by omega, (quad w3 _ _ _ _).2.2.2.2.drew⟩
            | exact ⟨_, _, _, _, rfl, rfl, (quad w3 _ _ _ _).2.1, (quad w3 _ _ _ _).2.2.1, ris_made ((quad w3 _ _ _ _).2.2.2.1), ris_made ((quad w3 _ _ _ _).1), by omega, by omega, by omega, by omega, (quad w3 _ _ _ _).2.2.2.2.drew⟩
            | exact ⟨_, _, _, _, rfl, rfl, (quad w3 _ _ _ _).2.1, (quad w3 _ _ _ _).2.2.2.1, ris_made ((quad w3 _ _ _ _).1), ris_made ((quad w3 _ _ _ _).2.2.1), by omega, by omega, by omega, by omega, (quad w3 _ _ _ _).2.2.2.2.drew⟩
            | exact ⟨_, _, _, _, rfl, rfl, (quad w3 _ _ _ _).2.1, (quad w3 _ _ _ _).2.2.2.1, ris_made ((quad w3 _ _ _ _).2.2.1), ris_made ((quad w3 _ _ _ _).1), by omega, by omega, by omega, by omega, (quad w3 _ _ _ _).2.2.2.2.drew⟩
            | exact ⟨_, _, _, _, rfl, rfl, (quad w3 _ _ _ _).2.2.1, (quad w3 _ _ _ _).1, ris_made ((quad w3 _ _ _ _).2.1), ris_made ((quad w3 _ _ _ _).2.2.2.1), by omega, by omega, by omega, by omega, (quad w3 _ _ _ _).2.2.2.2.drew⟩
            | exact ⟨_, _, _, _, rfl, rfl, (quad w3 _ _ _ _).2.2.1, (quad w3 _ _ _ _).1, ris_made ((quad w3 _ _ _ _).2.2.2.1), ris_made ((quad w3 _ _ _ _).2.1), by omega, by omega, by omega, by omega, (quad w3 _ _ _ _).2.2.2.2.drew⟩
            | exact ⟨_, _, _, _, rfl, rfl, (quad w3 _ _ _ _).2.2.1, (quad w3 _ _ _ _).2.1, ris_made ((quad w3 _ _ _ _).1), ris_made ((quad w3 _ _ _ _).2.2.2.1), by omega, by omega, by omega, by omega, (quad w3 _ _ _ _).2.2.2.2.drew⟩
            | exact ⟨_, _, _, _, rfl, rfl, (quad w3 _ _ _ _).2.2.1, (quad w3 _ _ _ _).2.1, ris_made ((quad w3 _ _ _ _).2.2.2.1), ris_made ((quad w3 _ _ _ _).1), by omega, by omega, by omega, by omega, (quad w3 _ _ _ _).2.2.2.2.drew⟩
            | exact ⟨_, _, _, _, rfl, rfl, (quad w3 _ _ _ _).2.2.1, (quad w3 _ _ _ _).2.2.2.1, ris_made ((quad w3 _ _ _ _).1), ris_made ((quad w3 _ _ _ _).2.1), by omega, by omega, by omega, by omega, (quad w3 _ _ _ _).2.2.2.2.drew⟩
            | exact ⟨_, _, _, _, rfl, rfl, (quad w3 _ _ _ _).2.2.1, (quad w3 _ _ _ _).2.2.2.1, ris_made ((quad w3 _ _ _ _).2.1), ris_made ((quad w3 _ _ _ _).1), by omega, by omega, by omega, by omega, (quad w3 _ _ _ _).2.2.2.2.drew⟩
            | exact ⟨_, _, _, _, rfl, rfl, (quad w3 _ _ _ _).2.2.2.1, (quad w3 _ _ _ _).1, ris_made ((quad w3 _ _ _ _).2.1), ris_made ((quad w3 _ _ _ _).2.2.1), by omega, by omega, by omega, by omega, (quad w3 _ _ _ _).2.2.2.2.drew⟩
            | exact ⟨_, _, _, _, rfl, rfl, (quad w3 _ _ _ _).2.2.2.1, (quad w3 _ _ _ _).1, ris_made ((quad w3 _ _ _ _).2.2.1), ris_made ((quad w3 _ _ _ _).2.1), by omega, by omega, by omega, by omega, (quad w3 _ _ _ _).2.2.2.2.drew⟩
            | exact ⟨_, _, _, _, rfl, rfl, (quad w3 _ _ _ _).2.2.2.1, (quad w3 _ _ _ _).2.1, ris_made ((quad w3 _ _ _ _).1), ris_made ((quad w3 _ _ _ _).2.2.1), by omega, by omega, by omega, by omega, (quad w3 _ _ _ _).2.2.2.2.drew⟩
            | exact ⟨_, _, _, _, rfl, rfl, (quad w3 _ _ _ _).2.2.2.1, (quad w3 _ _ _ _).2.1, ris_made ((quad w3 _ _ _ _).2.2.1), ris_made ((quad w3 _ _ _ _).1), by omega, by omega, by omega, by omega, (quad w3 _ _ _ _).2.2.2.2.drew⟩
            | exact ⟨_, _, _, _, rfl, rfl, (quad w3 _ _ _ _).2.2.2.1, (quad w3 _ _ _ _).2.2.1, ris_made ((quad w3 _ _ _ _).1), ris_made ((quad w3 _ _ _ _).2.1), by omega, by omega, by omega, by omega, (quad w3 _ _ _ _).2.2.2.2.drew⟩
            | exact ⟨_, _, _, _, rfl, rfl, (quad w3 _ _ _ _).2.2.2.1, (quad w3 _ _ _ _).2.2.1, ris_made ((quad w3 _ _ _ _).2.1), ris_made ((quad w3 _ _ _ _).1), by omega, by omega, by omega, by omega, (quad w3 _ _ _ _).2.2.2.2.drew⟩)
    case rest =>
      obtain ⟨bh, bf, gh, gf, rfl, rfl, hbh, hbf, hrh, hrf, hl1, hl2, hl3, hl4, hn4⟩ := hcut
      have hAD : AD w.heap.size b bh bf gh gf g1 g2 := by
        obtain ⟨q1, q2, q3, q4, q5, q6⟩ := HLE3.out
        have v1 := lt_of_block HB3.out
        have v2 := HR1.out.lt
        have v3 := HR2.out.lt
        refine ⟨q1, by omega, by omega, by omega, by omega, q2, q3, ⟨q4, q5, q6⟩, ⟨?_, ?_, ?_, ?_, ?_, ?_⟩, ⟨by omega, by omega, by omega, by omega⟩, ⟨by omega, by omega, by omega, by omega⟩, ⟨by omega, by omega, by omega, by omega⟩⟩
        · intro e; subst e; rw [hbh] at hbf; cases hbf
        · intro e; subst e; obtain ⟨cs, h1, _⟩ := hrh; rw [hbh] at h1; cases h1
        · intro e; subst e; obtain ⟨cs, h1, _⟩ := hrf; rw [hbh] at h1; cases h1
        · intro e; subst e; obtain ⟨cs, h1, _⟩ := hrh; rw [hbf] at h1; cases h1
        · intro e; subst e; obtain ⟨cs, h1, _⟩ := hrf; rw [hbf] at h1; cases h1
        · intro e; subst e; obtain ⟨cs, h1, _⟩ := hrh; obtain ⟨cs2, h2, _⟩ := hrf; rw [h1] at h2; cases h2
      have HAD := Lib.hid hAD
      have hst : FX w wc b bh bf gh gf g1 g2 n T (stK n T (fun i => l.getD i 0) 0) :=
        ⟨HN3.out.trans hn4, blk_stay HB3.out hn4, blk_stay HRS3.out hn4, ⟨hbf, hbh, blk_stay HBT3.out hn4, hrf, hrh.congr (fun i _ => by rw [(stK_zero n T _ i).1]; exact wz43)⟩, (ris_stay HR1.out hn4).congr (fun i _ => by rw [(stK_zero n T _ i).2.1]; exact wz43), (ris_stay HR2.out hn4).congr (fun i _ => by rw [(stK_zero n T _ i).2.2]; rfl)⟩
      have HST := Lib.hid hst
      have hcv : IntKind.u64.wrap (n : Int) = W64 (BitVec.ofNat 64 n) := by rw [wrap_u64]; rfl
      clear hbh hbf hrh hrf hl1 hl2 hl3 hl4 hn4 hAD hst HLE3 HRS3 HBT3 HR2 HR1 HB3 HN3 hm1 hm3
      go_wp2_with fail
      go_loopw [31] (fun iv wr => ∃ k : Nat, k ≤ n ∧ iv = .int .i64 (k : Int) ∧ Hid (FX w wr b bh bf gh gf g1 g2 n T (stK n T (fun i => l.getD i 0) k))) (fun iv _ => n - (intOf iv).toNat)
      case atStart => exact ⟨0, Nat.zero_le _, rfl, HST⟩
      case round =>
        clear HST
        obtain ⟨k, hk, rfl, HI⟩ := hrel
        by_cases hlt : (k : Int) < (n : Int)
        · have hk0 : (0 : Int) ≤ (k : Int) := by omega
          have hkn : k < n := by omega
          obtain ⟨p1, o1, e1, d1⟩ := (HA.out.stay HI.out.new).addr (by omega)
          subst e1
          replace d1 := d1 k hkn
          have HRD := Lib.hid (HI.out.round HAD.out)
          have h7 := Lib.hid (HI.out.putH HAD.out k (BitVec.ofNat 64 n * l.getD k 0))
          have c2 := cell_of_row _ _ 0 _ _ _ HI.out.fm.b2
          have c3 := HI.out.fm.hs.cell hkn
          have c4 := HI.out.fm.hs.frozen k
          obtain ⟨x, hx⟩ : ∃ x, l.getD k 0 = x := ⟨_, rfl⟩
          rw [hx] at d1 h7
          have HRD2 : Hid (FX w (((wr.setCell ⟨gh, k, none⟩ (.int .u64 (W64 (BitVec.ofNat 64 n * x)))).setCell ⟨g1, k, none⟩ (.int .u64 (W64 T))).setCell ⟨g2, k, none⟩ (.int .i64 (k : Int))) b bh bf gh gf g1 g2 n T (stK n T (fun i => l.getD i 0) (k + 1))) := Lib.hid (by rw [← hx]; exact HRD.out)
          clear HRD hx
          go_wp2_with fail
          obtain ⟨w7, hw7⟩ : ∃ w7, wr.setCell ⟨gh, k, none⟩ (.int .u64 (W64 (BitVec.ofNat 64 n * x))) = w7 := ⟨_, rfl⟩
          rw [hw7] at h7 HRD2 ⊢
          have f1 := cell_of_row _ _ 1 _ _ _ h7.out.tb
          have f2 := cell_of_row _ _ 2 _ _ _ h7.out.tb
          have f3 := cell_of_row _ _ 0 _ _ _ h7.out.fm.b3
          have f4 := h7.out.be.cell hkn
          have f5 := h7.out.be.frozen k
          have f6 := fun v : Value => (h7.out.al.setOther (a := ⟨g1, k, none⟩) (Ne.symm HAD.out.n1.2.2) v).cell hkn
          have f7 := fun v : Value => (h7.out.al.setOther (a := ⟨g1, k, none⟩) (Ne.symm HAD.out.n1.2.2) v).frozen k
          have f8 := fun v : Value => (h7.out.be.setOther (a := ⟨g2, k, none⟩) HAD.out.n1.2.2 v).cell hkn
          have f9 := fun v : Value => (h7.out.be.setOther (a := ⟨g2, k, none⟩) HAD.out.n1.2.2 v).frozen k
          have e1 := fun v : Value => cell_of_row _ _ 1 _ _ _ (hso (i := k) (v := v) h7.out.tb HAD.out.n1.1)
          have e2 := fun v : Value => cell_of_row _ _ 2 _ _ _ (hso (i := k) (v := v) h7.out.tb HAD.out.n1.1)
          have e3 := fun v : Value => cell_of_row _ _ 0 _ _ _ (hso (i := k) (v := v) h7.out.fm.b3 (b := g1) (by have := HAD.out.l6; omega))
          have e4 := fun v : Value => cell_of_row _ _ 1 _ _ _ (hso (i := k) (v := v) h7.out.tb HAD.out.n1.2.1)
          have e5 := fun v : Value => cell_of_row _ _ 2 _ _ _ (hso (i := k) (v := v) h7.out.tb HAD.out.n1.2.1)
          have e6 := fun v : Value => cell_of_row _ _ 0 _ _ _ (hso (i := k) (v := v) h7.out.fm.b3 (b := g2) (by have := HAD.out.l7; omega))
          have f10 := h7.out.al.cell hkn
          have f11 := h7.out.al.frozen k
          clear hw7 c2 c3 c4 d1
          have HRD3 := Lib.hid (HRD2.out.stay (New.refl _).drew)
          go_region
          go_wp2
          first
            | exact ⟨⟨k + 1, by omega, by go_num, HRD2⟩, by simp [intOf]; omega⟩
            | exact ⟨⟨k + 1, by omega, by go_num, HRD3⟩, by simp [intOf]; omega⟩
        · obtain rfl : k = n := by omega
          have hst2 := HI.out.congr (s' := st0 k T (fun i => l.getD i 0)) (fun i hi => (stK_end k T _ i hi).1) (fun i _ => rfl) (fun i hi => (stK_end k T _ i hi).2.1) (fun i hi => (stK_end k T _ i hi).2.2)
          have HST2 := Lib.hid hst2
          have hmf : ∀ (fn : Fn) (first cap : Array Value) (w : World), (Instr.makeFunc fn first cap).run Tryz.prog w = .ok (.func fn first cap) w := fun _ _ _ _ => rfl
          obtain ⟨F, hF⟩ : ∃ F, run k T k (st0 k T (fun i => l.getD i 0)) = F := ⟨_, rfl⟩
          have HFF := Lib.hid hF
          have HRUN : Hid (unf (st0 k T (fun i => l.getD i 0)).fl k ≤ k ∧ run k T k (st0 k T (fun i => l.getD i 0)) = F) := Lib.hid ⟨Nat.le_of_eq (unf_all k), hF⟩
          obtain ⟨s0, hs0⟩ : ∃ s0, st0 k T (fun i => l.getD i 0) = s0 := ⟨_, rfl⟩
          rw [hs0] at HST2 HRUN
          clear hst2 HI hF hs0 HA
          go_wp2_with fail
          go_step3
          go_wp2_with fail
          go_loopw [12] (fun _ wr => ∃ (s : St) (m : Nat), Hid (FX w wr b bh bf gh gf g1 g2 k T s) ∧ Hid (unf s.fl k ≤ m ∧ run k T m s = F)) (fun _ wr => msFA gf k wr)
          case atStart => exact ⟨s0, k, HST2, HRUN⟩
          case round =>
            clear HST2 HRUN hmf
            obtain ⟨s, m, HX, HM⟩ := hrel
            have hG1 : ∀ (x : Value) (uw : World), (callFunc 70 (#[x] ++ #[.pointer (some ⟨bf, 0, none⟩), .pointer (some ⟨bh, 0, none⟩), .pointer (some ⟨w.heap.size, 0, none⟩)])).run Tryz.prog uw = .ok (.enter 70 (#[x] ++ #[.pointer (some ⟨bf, 0, none⟩), .pointer (some ⟨bh, 0, none⟩), .pointer (some ⟨w.heap.size, 0, none⟩)])) uw := fun x uw => by kernel_rfl
            have hG2 : ∀ (x : Value) (uw : World), (callFunc 71 (#[x] ++ #[.pointer (some ⟨bf, 0, none⟩), .pointer (some ⟨bh, 0, none⟩), .pointer (some ⟨w.heap.size, 0, none⟩)])).run Tryz.prog uw = .ok (.enter 71 (#[x] ++ #[.pointer (some ⟨bf, 0, none⟩), .pointer (some ⟨bh, 0, none⟩), .pointer (some ⟨w.heap.size, 0, none⟩)])) uw := fun x uw => by kernel_rfl
            have HL := Lib.hid (first_q k (by omega) 70 #[.pointer (some ⟨bf, 0, none⟩), .pointer (some ⟨bh, 0, none⟩), .pointer (some ⟨w.heap.size, 0, none⟩)] (ls T s) (fun w' => New wr w') wr hG1 (New.refl _) (fun i w' hi hn' => (less_q bf bh w.heap.size gf gh k i hi (by omega) T s w' (HX.out.fm.stay hn')).mono (fun e w'' h => ⟨h.1, hn'.trans h.2⟩)))
            have HMO : Hid (∀ w5, New wr w5 → Calls Tryz.prog 72 #[.int .i64 (k : Int), .func (Fn.func 71) #[] #[.pointer (some ⟨bf, 0, none⟩), .pointer (some ⟨bh, 0, none⟩), .pointer (some ⟨w.heap.size, 0, none⟩)]] w5 fun e w' => e = .returned (.tuple #[.int .i64 (((fnd (mo T s) k).getD 0 : Nat) : Int), .bool (fnd (mo T s) k).isSome]) ∧ New w5 w') := Lib.hid (fun w5 h5 => first_q k (by omega) 71 #[.pointer (some ⟨bf, 0, none⟩), .pointer (some ⟨bh, 0, none⟩), .pointer (some ⟨w.heap.size, 0, none⟩)] (mo T s) (fun w' => New w5 w') w5 hG2 (New.refl _) (fun i w' hi hn' => (more_q bf bh w.heap.size gf gh k i hi (by omega) T s w' (HX.out.fm.stay (h5.trans hn'))).mono (fun e w'' h => ⟨h.1, hn'.trans h.2⟩)))
            clear hG1 hG2
            rcases hl : fnd (ls T s) k with _ | j
            · rw [hl] at HL
              have HFS : Hid (F = s) := Lib.hid (by rw [← HM.out.2, run_none (stp_no hl)])
              clear hl HMO
              go_wp2_with fail
              refine HL.out.mono ?_
              rintro e w5 ⟨rfl, n5⟩
              have HX5 := Lib.hid (HX.out.stay n5)
              clear n5 HL
              have t0 := cell_of_row _ _ 0 _ _ _ HX5.out.tb
              have t1 := cell_of_row _ _ 1 _ _ _ HX5.out.tb
              have t2 := cell_of_row _ _ 2 _ _ _ HX5.out.tb
              have r0 := cell_of_row _ _ 0 _ _ _ HX5.out.rs
              have r1 := cell_of_row _ _ 1 _ _ _ HX5.out.rs
              have r2 := cell_of_row _ _ 2 _ _ _ HX5.out.rs
              have rf := fun i => frozen_of_row _ _ i _ _ HX5.out.rs
              have HRES : Hid (∀ v0 v1 v2 : Value, New w (((w5.setCell ⟨w.heap.size + 1, 0, none⟩ v0).setCell ⟨w.heap.size + 1, 1, none⟩ v1).setCell ⟨w.heap.size + 1, 2, none⟩ v2) ∧ (((w5.setCell ⟨w.heap.size + 1, 0, none⟩ v0).setCell ⟨w.heap.size + 1, 1, none⟩ v1).setCell ⟨w.heap.size + 1, 2, none⟩ v2).rowIs g1 22 k (fun i => .int .u64 (W64 (s.be i))) ∧ (((w5.setCell ⟨w.heap.size + 1, 0, none⟩ v0).setCell ⟨w.heap.size + 1, 1, none⟩ v1).setCell ⟨w.heap.size + 1, 2, none⟩ v2).rowIs g2 3 k (fun i => .int .i64 ((s.al i : Nat) : Int))) := Lib.hid (fun v0 v1 v2 => by
                have a6 := HAD.out.l6
                have a7 := HAD.out.l7
                have hle : ∀ i : Nat, w.heap.size ≤ (⟨w.heap.size + 1, i, none⟩ : Addr).block := fun i => by show w.heap.size ≤ w.heap.size + 1; omega
                have h1 : g1 ≠ w.heap.size + 1 := by omega
                have h2 : g2 ≠ w.heap.size + 1 := by omega
                exact ⟨((HX5.out.new.setCell (hle 0) _).setCell (hle 1) _).setCell (hle 2) _, ((HX5.out.be.setOther h1 _).setOther h1 _).setOther h1 _, ((HX5.out.al.setOther h2 _).setOther h2 _).setOther h2 _⟩)
              simp only [Option.getD, Option.isSome]
              go_wp2
              rw [Exit.noGoto_ret]
              refine bodyPost_ret (by simp [results, Tryz.results53, go_sem, r0, r1, r2]; try rfl) rfl ?_
              rw [HFF.out, HFS.out]
              obtain ⟨q1, q2, q3⟩ := HRES.out _ _ _
              exact ⟨g1, g2, rfl, q2, q3, q1⟩
            · rw [hl] at HL
              rcases hm : fnd (mo T s) k with _ | g
              · rw [hm] at HMO
                have HFS : Hid (F = s) := Lib.hid (by rw [← HM.out.2, run_none (stp_no2 hm)])
                clear hl hm
                go_wp2_with fail
                refine HL.out.mono ?_
                rintro e w4 ⟨rfl, n4⟩
                have HC4 := Lib.hid (HMO.out _ n4)
                have HN4 := Lib.hid n4
                clear n4 HL HMO
                simp only [Option.getD, Option.isSome]
                go_wp2_with fail
                refine HC4.out.mono ?_
                rintro e w5 ⟨rfl, n5⟩
                have HX5 := Lib.hid (HX.out.stay (HN4.out.trans n5))
                clear n5 HC4 HN4
                have t0 := cell_of_row _ _ 0 _ _ _ HX5.out.tb
                have t1 := cell_of_row _ _ 1 _ _ _ HX5.out.tb
                have t2 := cell_of_row _ _ 2 _ _ _ HX5.out.tb
                have r0 := cell_of_row _ _ 0 _ _ _ HX5.out.rs
                have r1 := cell_of_row _ _ 1 _ _ _ HX5.out.rs
                have r2 := cell_of_row _ _ 2 _ _ _ HX5.out.rs
                have rf := fun i => frozen_of_row _ _ i _ _ HX5.out.rs
                have HRES : Hid (∀ v0 v1 v2 : Value, New w (((w5.setCell ⟨w.heap.size + 1, 0, none⟩ v0).setCell ⟨w.heap.size + 1, 1, none⟩ v1).setCell ⟨w.heap.size + 1, 2, none⟩ v2) ∧ (((w5.setCell ⟨w.heap.size + 1, 0, none⟩ v0).setCell ⟨w.heap.size + 1, 1, none⟩ v1).setCell ⟨w.heap.size + 1, 2, none⟩ v2).rowIs g1 22 k (fun i => .int .u64 (W64 (s.be i))) ∧ (((w5.setCell ⟨w.heap.size + 1, 0, none⟩ v0).setCell ⟨w.heap.size + 1, 1, none⟩ v1).setCell ⟨w.heap.size + 1, 2, none⟩ v2).rowIs g2 3 k (fun i => .int .i64 ((s.al i : Nat) : Int))) := Lib.hid (fun v0 v1 v2 => by
                  have a6 := HAD.out.l6
                  have a7 := HAD.out.l7
                  have hle : ∀ i : Nat, w.heap.size ≤ (⟨w.heap.size + 1, i, none⟩ : Addr).block := fun i => by show w.heap.size ≤ w.heap.size + 1; omega
                  have h1 : g1 ≠ w.heap.size + 1 := by omega
                  have h2 : g2 ≠ w.heap.size + 1 := by omega
                  exact ⟨((HX5.out.new.setCell (hle 0) _).setCell (hle 1) _).setCell (hle 2) _, ((HX5.out.be.setOther h1 _).setOther h1 _).setOther h1 _, ((HX5.out.al.setOther h2 _).setOther h2 _).setOther h2 _⟩)
                simp only [Option.getD, Option.isSome]
                go_wp2
                rw [Exit.noGoto_ret]
                refine bodyPost_ret (by simp [results, Tryz.results53, go_sem, r0, r1, r2]; try rfl) rfl ?_
                rw [HFF.out, HFS.out]
                obtain ⟨q1, q2, q3⟩ := HRES.out _ _ _
                exact ⟨g1, g2, rfl, q2, q3, q1⟩
              · rw [hm] at HMO
                obtain ⟨f1, f2, l1, l2, hne, c1, c2, c3⟩ := put_has hl hm
                have hst := stp_yes hl hm
                have HNX : Hid (unf (put T s j g).fl k + 1 = unf s.fl k ∧ ∃ m', unf (put T s j g).fl k ≤ m' ∧ run k T m' (put T s j g) = F) := Lib.hid (by
                  have hu : unf (put T s j g).fl k + 1 = unf s.fl k := unf_put s.fl j f1 k l1
                  refine ⟨hu, ?_⟩
                  obtain ⟨h1, h2⟩ := HM.out
                  rcases m with _ | m'
                  · omega
                  · rw [run_some hst] at h2
                    exact ⟨m', by omega, h2⟩)
                have HJG : Hid (j ≠ g) := Lib.hid hne
                clear hl hm f1 f2 c1 c2 c3 hst HM hne
                go_wp2_with fail
                refine HL.out.mono ?_
                rintro e w4 ⟨rfl, n4⟩
                have HC4 := Lib.hid (HMO.out _ n4)
                have HN4 := Lib.hid n4
                clear n4 HL HMO
                simp only [Option.getD, Option.isSome]
                go_wp2_with fail
                refine HC4.out.mono ?_
                rintro e w5 ⟨rfl, n5⟩
                have HX5 := Lib.hid (HX.out.stay (HN4.out.trans n5))
                clear n5 HC4 HN4
                simp only [Option.getD, Option.isSome]
                have hj0 : (0 : Int) ≤ (j : Int) := by omega
                have hjk : (j : Int) < (k : Int) := by omega
                have hg0 : (0 : Int) ≤ (g : Int) := by omega
                have hgk : (g : Int) < (k : Int) := by omega
                have a1 := cell_of_row _ _ 1 _ _ _ HX5.out.tb
                have a2 := cell_of_row _ _ 2 _ _ _ HX5.out.tb
                have a3 := cell_of_row _ _ 0 _ _ _ HX5.out.fm.b1
                have a4 := cell_of_row _ _ 0 _ _ _ HX5.out.fm.b2
                have a5 := HX5.out.fm.hs.cell l1
                have a6 := HX5.out.be.cell l1
                have a7 := HX5.out.be.frozen j
                have b2 := fun v : Value => cell_of_row _ _ 2 _ _ _ (hso (i := j) (v := v) HX5.out.tb HAD.out.n1.1)
                have b3 := fun v : Value => cell_of_row _ _ 0 _ _ _ (hso (i := j) (v := v) HX5.out.fm.b1 (Ne.symm HAD.out.n4.2.1))
                have b4 := fun v : Value => (HX5.out.al.setOther (a := ⟨g1, j, none⟩) (Ne.symm HAD.out.n1.2.2) v).cell l1
                have b5 := fun v : Value => (HX5.out.al.setOther (a := ⟨g1, j, none⟩) (Ne.symm HAD.out.n1.2.2) v).frozen j
                have c3 := fun v u : Value => cell_of_row _ _ 0 _ _ _ (hso (i := j) (v := u) (hso (i := j) (v := v) HX5.out.fm.b1 (Ne.symm HAD.out.n4.2.1)) (Ne.symm HAD.out.n5.2.1))
                have c4 := fun v u : Value => ((HX5.out.fm.fl.setOther (a := ⟨g1, j, none⟩) (Ne.symm HAD.out.n4.2.2.2) v).setOther (a := ⟨g2, j, none⟩) (Ne.symm HAD.out.n5.2.2.2) u).cell l1
                have c5 := fun v u : Value => ((HX5.out.fm.fl.setOther (a := ⟨g1, j, none⟩) (Ne.symm HAD.out.n4.2.2.2) v).setOther (a := ⟨g2, j, none⟩) (Ne.symm HAD.out.n5.2.2.2) u).frozen j
                have hx10 := ((HX5.out.putB HAD.out j (s.has j)).putA HAD.out j g).putF HAD.out j true
                obtain ⟨x, hx⟩ : ∃ x, s.has j = x := ⟨_, rfl⟩
                rw [hx] at a5 hx10
                have HX10 := Lib.hid hx10
                clear hx10
                have HXV := Lib.hid hx
                clear hx
                go_wp2_with fail
                go_region
                have hx11 := HX10.out.stay (New.refl _).drew
                obtain ⟨w10, hw10⟩ : ∃ w10, (((w5.setCell ⟨g1, j, none⟩ (.int .u64 (W64 x))).setCell ⟨g2, j, none⟩ (.int .i64 (g : Int))).setCell ⟨gf, j, none⟩ (.bool true)).drew = w10 := ⟨_, rfl⟩
                rw [hw10] at hx11 ⊢
                replace HX10 := Lib.hid hx11
                have HXE : Hid (FX w (w10.setCell ⟨gh, g, none⟩ (.int .u64 (W64 (s.has g - (T - s.has j))))) b bh bf gh gf g1 g2 k T (put T s j g)) := Lib.hid (by
                  have h := hx11.putH HAD.out g (s.has g - (T - s.has j))
                  unfold put
                  rw [HXV.out] at h ⊢
                  exact h)
                clear hx11
                rw [HXV.out] at HXE
                clear hw10 a1 a2 a3 a4 a5 a6 a7 b2 b3 b4 b5 c3 c4 c5
                obtain ⟨y, hy⟩ : ∃ y, s.has g = y := ⟨_, rfl⟩
                have HD1 : Hid (∀ w', (∃ z, FX w w' b bh bf gh gf g1 g2 k T ⟨z, upd s.fl j true, upd s.be j x, upd s.al j g⟩) → w'.cell? ⟨bh, 0, none⟩ = some (.slice (some ⟨gh, 0, none⟩) k k)) := Lib.hid (fun w' h => by
                  obtain ⟨z, h⟩ := h
                  exact cell_of_row _ _ 0 _ _ _ h.fm.b2)
                have HD2 : Hid (∀ w', (∃ z, FX w w' b bh bf gh gf g1 g2 k T ⟨z, upd s.fl j true, upd s.be j x, upd s.al j g⟩) → w'.cell? ⟨w.heap.size, 0, none⟩ = some (.int .u64 (W64 T))) := Lib.hid (fun w' h => by
                  obtain ⟨z, h⟩ := h
                  exact cell_of_row _ _ 0 _ _ _ h.fm.b3)
                have HD3 : Hid (∀ w', FX w w' b bh bf gh gf g1 g2 k T ⟨s.has, upd s.fl j true, upd s.be j x, upd s.al j g⟩ → w'.cell? ⟨gh, j, none⟩ = some (.int .u64 (W64 x))) := Lib.hid (fun w' h => by
                  rw [h.fm.hs.cell l1]; exact congrArg (fun z => some (Value.int .u64 (W64 z))) HXV.out)
                have HD4 : Hid (∀ w', FX w w' b bh bf gh gf g1 g2 k T ⟨s.has, upd s.fl j true, upd s.be j x, upd s.al j g⟩ → w'.cell? ⟨gh, g, none⟩ = some (.int .u64 (W64 y))) := Lib.hid (fun w' h => by
                  rw [h.fm.hs.cell l2]; exact congrArg (fun z => some (Value.int .u64 (W64 z))) hy)
                have HPT : Hid ((⟨upd s.has g (y - (T - x)), upd s.fl j true, upd s.be j x, upd s.al j g⟩ : St) = put T s j g) := Lib.hid (by unfold put; rw [HXV.out, hy])
                have HMS : Hid (∀ w', FX w w' b bh bf gh gf g1 g2 k T (put T s j g) → msFA gf k w' < msFA gf k wr) := Lib.hid (fun w' hw' => by
                  rw [msF_is hw'.fm.fl, msF_is HX.out.fm.fl]
                  have := HNX.out.1
                  omega)
                clear hy HXE HXV
                go_wp2_with fail
                refine Gro2.wp_region_gro2S (fun w' => ∃ z, FX w w' b bh bf gh gf g1 g2 k T ⟨z, upd s.fl j true, upd s.be j x, upd s.al j g⟩) (fun w' => FX w w' b bh bf gh gf g1 g2 k T ⟨s.has, upd s.fl j true, upd s.be j x, upd s.al j g⟩) [0,0,0,1,0,0,0,0,1,0,0,0,3] (by kernel_rfl) (by kernel_rfl) (by kernel_rfl) (fun w' hw' => ⟨_, hw'⟩) (HX10.out.stay (New.refl _).drew) ?_
                intro I J _ _ f gw hfa hba hgb hbb
                have HFA := Lib.hid hfa
                have HBA := Lib.hid hba
                have HGB := Lib.hid hgb
                have HBB := Lib.hid hbb
                have d3 := fun n => HD3.out _ ((hgb n))
                have d4 := fun n => HD4.out _ ((hgb n))
                have d1 := fun n => HD1.out _ ((hfa n))
                have d2 := fun n => HD2.out _ ((hfa n))
                clear hfa hba hgb hbb
                refine Gro2.take0 3 (by kernel_rfl) ?_
                simp only [List.take, List.drop, List.length]
                repeat (go_big_quiet_step (fail))
                refine wpQuiet_nil ?_
                refine Gro2.take1 1 (by kernel_rfl) ?_
                simp only [List.take, List.drop, List.length]
                repeat (go_big_quiet_step (fail))
                refine wpQuiet_nil ?_
                refine Gro2.take0 4 (by kernel_rfl) ?_
                simp only [List.take, List.drop, List.length]
                repeat (go_big_quiet_step (fail))
                refine wpQuiet_nil ?_
                refine Gro2.take1 1 (by kernel_rfl) ?_
                simp only [List.take, List.drop, List.length]
                repeat (go_big_quiet_step (fail))
                refine wpQuiet_nil ?_
                refine Gro2.take0 3 (by kernel_rfl) ?_
                simp only [List.take, List.drop, List.length]
                repeat (go_big_quiet_step (fail))
                refine wpQuiet_nil ?_
                refine Gro2.turn (fun v => v = undef) (fun _ w9 => FX w w9 b bh bf gh gf g1 g2 k T ⟨upd s.has g (y - (T - x)), upd s.fl j true, upd s.be j x, upd s.al j g⟩) rfl rfl ⟨_, rfl⟩ (fun w1 hB hG => ?_) (fun v1 A1 hv1 hA => ?_)
                · obtain ⟨nq, rfl⟩ : ∃ nq, w1 = gw nq := hB
                  have hfr := (HGB.out nq).fm.hs.frozen g
                  have hcl := HD4.out _ (HGB.out nq)
                  have HP := Lib.hid ((HGB.out nq).putH HAD.out g (y - (T - x)))
                  clear d1 d2 d3 d4
                  go_simp
                  exact ⟨HBA.out _ ⟨_, HP.out⟩, HP.out⟩
                simp [Act.put] at hA
                subst hA
                refine Gro2.nil ?_
                rintro w9 ⟨n9, rfl⟩ hG
                rw [HPT.out] at hG
                have HEND := Lib.hid hG
                obtain ⟨wz, hwz⟩ : ∃ z, f n9 = z := ⟨_, rfl⟩
                rw [hwz] at HEND ⊢
                clear hwz HFA HBA HGB HBB d1 d2 d3 d4 hG HD1 HD2 HD3 HD4 HPT
                go_wp2
                obtain ⟨m', hm1, hm2⟩ := HNX.out.2
                exact ⟨⟨_, m', HEND, Lib.hid ⟨hm1, hm2⟩⟩, HMS.out _ HEND.out⟩
end Go.Proofs.YthkmcnlciefnfaaGreat
