/- Layer 45: Number, and the document's Number. -/
import Derived.Test.YtoplabhoedloeaaDrvB
import Derived.Deep.RegionHeldLaw
namespace Go.Proofs.Ytoplabhoedloeaa
open Go Go.RowKit Go.Bv Go.Drv
set_option linter.unusedVariables false
set_option maxRecDepth 100000
def kidN (k : BitVec 64 × BitVec 64) (x : BitVec 64) : BitVec 64 × BitVec 64 := kidB k (bytes x 8 ++ [110#8])
set_option maxHeartbeats 1000000 in
theorem put64_cb (x : BitVec 64) (w : World) :
    Calls Try.prog 21 #[.slice none 0 0, .int .u64 (W64 x)] w fun e w' =>
      ∃ g cap, e = .returned (.slice (some ⟨g, 0, none⟩) 8 cap) ∧ w.heap.size ≤ g ∧ CB w' g 8 cap 5 (bytes x 8) ∧ New w w' := by
  have h : BRow w none 0 0 [] := ⟨rfl, Nat.le_refl _, by omega, by omega, fun _ => ⟨rfl, rfl⟩, (fun _ _ e => by cases e), (fun _ e => by cases e), (fun _ e => by cases e)⟩
  obtain ⟨i0, hi, hz0, hz1, hz2⟩ := info_parts info_u8
  go_enter Try.func21, Try.ntmps21
  go_wp2_with fail
  refine (closed_any none 0 0 [] w h).mono ?_
  rintro e w' ⟨rfl, rfl⟩
  have hn : New w' (w'.alloc (.cells #[.int .u8 (W8 (x.setWidth 8)), .int .u8 (W8 ((x >>> 8).setWidth 8)), .int .u8 (W8 ((x >>> 16).setWidth 8)), .int .u8 (W8 ((x >>> 24).setWidth 8)), .int .u8 (W8 ((x >>> 32).setWidth 8)), .int .u8 (W8 ((x >>> 40).setWidth 8)), .int .u8 (W8 ((x >>> 48).setWidth 8)), .int .u8 (W8 ((x >>> 56).setWidth 8))] 5)) := (New.refl w').alloc _
  have hb2 := h.stay hn
  go_wp2_with (at_builtin; refine wpList_append_grows _ rfl _ _ 46 rfl 5 i0 (.int .u8 0) 1 1 Try.underlying46 hi hz0 hz1 hz2 rfl (by decide) none 0 0 (([] : List (BitVec 8)).map fun y => .int .u8 (W8 y)) rfl ?c1 ?c2 ?c3 ⟨w'.heap.size, 0, none⟩ 8 8 ((bytes x 8).map fun y => .int .u8 (W8 y)) rfl ?c4 ?c5 ?c6 (by omega) ?c7 (by omega) ?c8)
  all_goals (try (case c1 => exact fun e => ⟨(h.none e).1, (h.none e).1⟩))
  all_goals (try (case c2 => rw [List.length_map, h.len_eq, Nat.mul_one]))
  all_goals (try (case c3 => exact fun b e => hb2.olds b e))
  all_goals (try (case c4 => rw [List.length_map, bytes_len]))
  all_goals (try (case c5 => intro j u hj; rw [← put8] at hj; exact new_cells w' _ _ j u hj))
  all_goals (try (case c6 => intro u hu; obtain ⟨y, _, rfl⟩ := List.mem_map.1 hu; rfl))
  all_goals (try (case c7 => unfold maxLen; omega))
  case c8 =>
    intro v' w1 how hgr
    obtain ⟨g, cap, rfl, hge, hcb⟩ := CB.of_owns (l := bytes x 8) (show w1.ownsRow _ _ 1 v' 8 _ by simpa using how) (by omega)
    have hge2 : w'.heap.size ≤ g := by first | omega | exact Nat.le_trans hn.le hge
    go_wp2
    go_ret
    exact ⟨g, cap, rfl, hge2, hcb, hn.grown hgr⟩
set_option maxHeartbeats 1000000 in
theorem bytesr_cb (x : BitVec 64) (n : Nat) (h0 : 0 < n) (hn : n ≤ 8) (w : World) :
    Calls Try.prog 23 #[.int .u64 (W64 x), .int .i64 n] w fun e w' =>
      ∃ g cap, e = .returned (.slice (some ⟨g, 0, none⟩) n cap) ∧ w.heap.size ≤ g ∧ CB w' g n cap 5 (bytes x n) ∧ New w w' := by
  obtain ⟨i0, hi, hz0, hz1, hz2⟩ := info_parts info_u8
  go_enter Try.func23, Try.ntmps23
  go_wp2
  go_loopw [0, 5, 6] (fun t v i wr => ∃ k : Nat, k ≤ n ∧ i = .int .i64 k ∧ t = .int .u64 (W64 (x >>> (8 * k))) ∧ wr.ownsRow w.heap.size 5 1 v k ((bytes x k).map fun y => .int .u8 (W8 y)) ∧ New w wr) (fun _ _ i _ => n - (intOf i).toNat)
  case atStart => exact ⟨0, by omega, rfl, by simp, World.ownsRow_nil w _ _ 1, New.refl w⟩
  case round =>
    obtain ⟨k, hk, rfl, rfl, hown, hnew⟩ := hrel
    by_cases hlt : (k : Int) < n
    · go_wp2_with (at_builtin; refine wpList_append_own _ rfl _ _ 46 rfl w.heap.size 5 i0 (.int .u8 0) 1 1 Try.underlying46 hi hz0 hz1 hz2 rfl (by decide) _ k _ rfl (hown.alloc _) ⟨wr.heap.size, 0, none⟩ 1 1 [.int .u8 (W8 ((x >>> (8 * k) % 256#64).setWidth 8))] rfl rfl ?c1 ?c2 ?c3 ?c4 ?c5 ?_)
      case c1 => exact new_cells wr _ _
      case c2 => intro u hu; simp at hu; subst hu; rfl
      case c3 => unfold maxLen; omega
      case c4 => omega
      case c5 => simp; have := hnew.le; omega
      intro v' w1 how hgr _
      have how2 : w1.ownsRow w.heap.size 5 1 v' (k + 1) ((bytes x (k + 1)).map fun y => .int .u8 (W8 y)) := by
        rw [bytes_succ, List.map_append, ← low_byte]; exact how
      have hn1 : New w w1 := (hnew.alloc _).grown' hgr (own_base hown)
      have hdv : x >>> (8 * k) / 256#64 = x >>> (8 * (k + 1)) := div256 x k
      have HD := Lib.hid hdv
      clear how hgr hdv
      go_wp2
      exact ⟨⟨k + 1, by omega, by go_num, by rw [HD.out], how2, hn1⟩, by simp [intOf]; omega⟩
    · obtain rfl : k = n := by omega
      obtain ⟨g, cap, rfl, hge, hcb⟩ := CB.of_owns hown h0
      go_wp2
      go_ret
      exact ⟨g, cap, rfl, hge, hcb, hnew⟩
set_option maxHeartbeats 4000000 in
theorem number_q (k : BitVec 64 × BitVec 64) (x : BitVec 64) (w : World) :
    Calls Try.prog 10 #[.agg #[.int .u64 (W64 k.1), .int .u64 (W64 k.2)], .int .u64 (W64 x)] w fun e w' => e = .returned (.agg #[.int .u64 (W64 (kidN k x).1), .int .u64 (W64 (kidN k x).2)]) ∧ New w w' := by
  have HZ := Lib.hid (two_blocks w (.cells #[.int .u64 (W64 k.1), .int .u64 (W64 k.2)] 24) (.cells #[.int .u64 0, .int .u64 0] 24))
  obtain ⟨i0, hi, hz0, hz1, hz2⟩ := info_parts info_u8
  have HK := Lib.hid (fun w a n c h => one_q k a n c (bytes x 8 ++ [110#8]) w h)
  unfold kidN
  generalize kidB k (bytes x 8 ++ [110#8]) = r at *
  have HKY := Lib.hid HZ.out.1
  have HO := Lib.hid HZ.out.2.1
  have HN := Lib.hid HZ.out.2.2
  go_enter Try.func10, Try.ntmps10
  go_wp2_with fail
  obtain ⟨w0, hw0⟩ : ∃ z, ((w.alloc (.cells #[.int .u64 (W64 k.1), .int .u64 (W64 k.2)] 24)).alloc (.cells #[.int .u64 0, .int .u64 0] 24)) = z := ⟨_, rfl⟩
  rw [hw0] at HN HO HKY
  rw [hw0]
  clear HZ hw0
  have HP : Hid (∀ y, New w0 y → Calls Try.prog 21 #[.slice none 0 0, .int .u64 (W64 x)] y fun e w' => ∃ g cap, e = .returned (.slice (some ⟨g, 0, none⟩) 8 cap) ∧ w0.heap.size ≤ g ∧ CB w' g 8 cap 5 (bytes x 8) ∧ New w0 w' ∧ New y w') := Lib.hid (fun y hy => (put64_cb x y).mono (by
    rintro e w' ⟨g, cap, rfl, h1, h2, h3⟩
    exact ⟨g, cap, rfl, Nat.le_trans hy.le h1, h2, hy.trans h3, h3⟩))
  have SK : Hid (∀ w', New w0 w' → w'.cell? ⟨w.heap.size, 0, none⟩ = some (.int .u64 (W64 k.1)) ∧ w'.cell? ⟨w.heap.size, 1, none⟩ = some (.int .u64 (W64 k.2))) := Lib.hid (fun w' hn => by
    have h1 := (hn.block _ (lt_of_block HKY.out)).trans HKY.out
    exact ⟨cell_of_row _ _ 0 _ _ _ h1, cell_of_row _ _ 1 _ _ _ h1⟩)
  generalize bytes x 8 = m at *
  go_region_held_law (fun w' => w'.cell? ⟨w.heap.size, 0, none⟩ = some (.int .u64 (W64 k.1)) ∧ w'.cell? ⟨w.heap.size, 1, none⟩ = some (.int .u64 (W64 k.2)))
    ((first | with_reducible exact HST.out _ _ | (refine SK.out _ ?_; (repeat (first | with_reducible assumption | with_reducible exact New.refl _ | with_reducible refine New.drew ?_ | with_reducible refine New.alloc ?_ _)))))
    (first
    | (go_at_call_of 21 (Value.slice none 0 0)
       refine (HP.out _ (by (repeat (first | with_reducible assumption | with_reducible exact New.refl _ | with_reducible refine New.drew ?_ | with_reducible refine New.alloc ?_ _)); done)).mono ?_
       rintro e w2 ⟨g, cap, rfl, hge, hcb, hn2, hny⟩)
    | (refine step_app1 (by rfl) (.tmp 7) (.tmp 8) 46 5 (by rfl) i0 Try.underlying46 hi hz0 hz1 hz2 w0 g 8 cap m (by rfl) (by omega) _ 1 (110#8) (by rfl) ?_ ?_ ?_ ?_ ?_
       · first
           | with_reducible exact hcb
           | (refine CB.stay hcb ?_; (repeat (first | with_reducible assumption | with_reducible exact New.refl _ | with_reducible refine New.drew ?_ | with_reducible refine New.alloc ?_ _)); done)
       · ((repeat (first | with_reducible assumption | with_reducible exact New.refl _ | with_reducible refine New.drew ?_ | with_reducible refine New.alloc ?_ _)); done)
       · exact hge
       · first | (rw [show W8 110#8 = 110 from rfl]; with_reducible exact lit_now _ _ _) | (rw [show W8 110#8 = 110 from rfl]; with_reducible exact lit_kept hny) | (rw [show W8 110#8 = 110 from rfl]; exact lit_kept (New.trans (New.drew (New.refl _)) hny))
       intro a' cap' w5 hrow hn5)
    | (go_at_call_of 19 (Value.int IntKind.i64 8)
       refine (HK.out _ _ _ _ hrow).mono ?_
       rintro e w6 ⟨rfl, hn6⟩
       have hn7 := hn5.trans hn6
       have ho6 := (hn7.block _ (lt_of_block HO.out)).trans HO.out
       have z0 := cell_of_row _ _ 0 _ _ _ ho6
       have z1 := cell_of_row _ _ 1 _ _ _ ho6
       have zf := fun i => frozen_of_row _ _ i _ _ ho6
       have HN7 := Lib.hid (HN.out.trans hn7)
       have HST : Hid (∀ u v, ((w6.setCell ⟨w.heap.size + 1, 0, none⟩ u).setCell ⟨w.heap.size + 1, 1, none⟩ v).cell? ⟨w.heap.size, 0, none⟩ = some (.int .u64 (W64 k.1)) ∧ ((w6.setCell ⟨w.heap.size + 1, 0, none⟩ u).setCell ⟨w.heap.size + 1, 1, none⟩ v).cell? ⟨w.heap.size, 1, none⟩ = some (.int .u64 (W64 k.2))) := Lib.hid (fun u v => by
         have h1 := (hn7.block _ (lt_of_block HKY.out)).trans HKY.out
         have h2 := (heap_setCell_other (w6.setCell ⟨w.heap.size + 1, 0, none⟩ u) ⟨w.heap.size + 1, 1, none⟩ w.heap.size v (by show w.heap.size ≠ w.heap.size + 1; omega)).trans ((heap_setCell_other w6 ⟨w.heap.size + 1, 0, none⟩ w.heap.size u (by show w.heap.size ≠ w.heap.size + 1; omega)).trans h1)
         exact ⟨cell_of_row _ _ 0 _ _ _ h2, cell_of_row _ _ 1 _ _ _ h2⟩)
       clear ho6 hn6 hn5 hrow))
  all_goals (
    go_wp2
    refine bodyPost_ret (by simp [results, Try.results10, go_sem, z0, z1]; try rfl) rfl ?_
    exact ⟨rfl, ((HN7.out.setCell (by show w.heap.size ≤ w.heap.size + 1; omega) _).setCell (by show w.heap.size ≤ w.heap.size + 1; omega) _)⟩)
set_option maxHeartbeats 4000000 in
theorem numberr_q (k : BitVec 64 × BitVec 64) (x : BitVec 64) (w : World) :
    Calls Try.prog 11 #[.agg #[.int .u64 (W64 k.1), .int .u64 (W64 k.2)], .int .u64 (W64 x)] w fun e w' => e = .returned (.agg #[.int .u64 (W64 (kidN k x).1), .int .u64 (W64 (kidN k x).2)]) ∧ New w w' := by
  have HZ := Lib.hid (two_blocks w (.cells #[.int .u64 (W64 k.1), .int .u64 (W64 k.2)] 24) (.cells #[.int .u64 0, .int .u64 0] 24))
  obtain ⟨i0, hi, hz0, hz1, hz2⟩ := info_parts info_u8
  have HK := Lib.hid (fun w a n c h => oner_q k a n c (bytes x 8 ++ [110#8]) w h)
  unfold kidN
  generalize kidB k (bytes x 8 ++ [110#8]) = r at *
  have HKY := Lib.hid HZ.out.1
  have HO := Lib.hid HZ.out.2.1
  have HN := Lib.hid HZ.out.2.2
  go_enter Try.func11, Try.ntmps11
  go_wp2_with fail
  obtain ⟨w0, hw0⟩ : ∃ z, ((w.alloc (.cells #[.int .u64 (W64 k.1), .int .u64 (W64 k.2)] 24)).alloc (.cells #[.int .u64 0, .int .u64 0] 24)) = z := ⟨_, rfl⟩
  rw [hw0] at HN HO HKY
  rw [hw0]
  clear HZ hw0
  have HP : Hid (∀ y, New w0 y → Calls Try.prog 23 #[.int .u64 (W64 x), .int .i64 8] y fun e w' => ∃ g cap, e = .returned (.slice (some ⟨g, 0, none⟩) 8 cap) ∧ w0.heap.size ≤ g ∧ CB w' g 8 cap 5 (bytes x 8) ∧ New w0 w' ∧ New y w') := Lib.hid (fun y hy => (bytesr_cb x 8 (by omega) (by omega) y).mono (by
    rintro e w' ⟨g, cap, rfl, h1, h2, h3⟩
    exact ⟨g, cap, rfl, Nat.le_trans hy.le h1, h2, hy.trans h3, h3⟩))
  have SK : Hid (∀ w', New w0 w' → w'.cell? ⟨w.heap.size, 0, none⟩ = some (.int .u64 (W64 k.1)) ∧ w'.cell? ⟨w.heap.size, 1, none⟩ = some (.int .u64 (W64 k.2))) := Lib.hid (fun w' hn => by
    have h1 := (hn.block _ (lt_of_block HKY.out)).trans HKY.out
    exact ⟨cell_of_row _ _ 0 _ _ _ h1, cell_of_row _ _ 1 _ _ _ h1⟩)
  generalize bytes x 8 = m at *
  go_region_held_law (fun w' => w'.cell? ⟨w.heap.size, 0, none⟩ = some (.int .u64 (W64 k.1)) ∧ w'.cell? ⟨w.heap.size, 1, none⟩ = some (.int .u64 (W64 k.2)))
    ((first | with_reducible exact HST.out _ _ | (refine SK.out _ ?_; (repeat (first | with_reducible assumption | with_reducible exact New.refl _ | with_reducible refine New.drew ?_ | with_reducible refine New.alloc ?_ _)))))
    (first
    | (go_at_call_of 23 (Value.int IntKind.u64 (W64 x))
       refine (HP.out _ (by (repeat (first | with_reducible assumption | with_reducible exact New.refl _ | with_reducible refine New.drew ?_ | with_reducible refine New.alloc ?_ _)); done)).mono ?_
       rintro e w2 ⟨g, cap, rfl, hge, hcb, hn2, hny⟩)
    | (refine step_app1 (by rfl) (.tmp 7) (.tmp 8) 46 5 (by rfl) i0 Try.underlying46 hi hz0 hz1 hz2 w0 g 8 cap m (by rfl) (by omega) _ 1 (110#8) (by rfl) ?_ ?_ ?_ ?_ ?_
       · first
           | with_reducible exact hcb
           | (refine CB.stay hcb ?_; (repeat (first | with_reducible assumption | with_reducible exact New.refl _ | with_reducible refine New.drew ?_ | with_reducible refine New.alloc ?_ _)); done)
       · ((repeat (first | with_reducible assumption | with_reducible exact New.refl _ | with_reducible refine New.drew ?_ | with_reducible refine New.alloc ?_ _)); done)
       · exact hge
       · first | (rw [show W8 110#8 = 110 from rfl]; with_reducible exact lit_now _ _ _) | (rw [show W8 110#8 = 110 from rfl]; with_reducible exact lit_kept hny) | (rw [show W8 110#8 = 110 from rfl]; exact lit_kept (New.trans (New.drew (New.refl _)) hny))
       intro a' cap' w5 hrow hn5)
    | (go_at_call_of 22 (Value.int IntKind.i64 8)
       refine (HK.out _ _ _ _ hrow).mono ?_
       rintro e w6 ⟨rfl, hn6⟩
       have hn7 := hn5.trans hn6
       have ho6 := (hn7.block _ (lt_of_block HO.out)).trans HO.out
       have z0 := cell_of_row _ _ 0 _ _ _ ho6
       have z1 := cell_of_row _ _ 1 _ _ _ ho6
       have zf := fun i => frozen_of_row _ _ i _ _ ho6
       have HN7 := Lib.hid (HN.out.trans hn7)
       have HST : Hid (∀ u v, ((w6.setCell ⟨w.heap.size + 1, 0, none⟩ u).setCell ⟨w.heap.size + 1, 1, none⟩ v).cell? ⟨w.heap.size, 0, none⟩ = some (.int .u64 (W64 k.1)) ∧ ((w6.setCell ⟨w.heap.size + 1, 0, none⟩ u).setCell ⟨w.heap.size + 1, 1, none⟩ v).cell? ⟨w.heap.size, 1, none⟩ = some (.int .u64 (W64 k.2))) := Lib.hid (fun u v => by
         have h1 := (hn7.block _ (lt_of_block HKY.out)).trans HKY.out
         have h2 := (heap_setCell_other (w6.setCell ⟨w.heap.size + 1, 0, none⟩ u) ⟨w.heap.size + 1, 1, none⟩ w.heap.size v (by show w.heap.size ≠ w.heap.size + 1; omega)).trans ((heap_setCell_other w6 ⟨w.heap.size + 1, 0, none⟩ w.heap.size u (by show w.heap.size ≠ w.heap.size + 1; omega)).trans h1)
         exact ⟨cell_of_row _ _ 0 _ _ _ h2, cell_of_row _ _ 1 _ _ _ h2⟩)
       clear ho6 hn6 hn5 hrow))
  all_goals (
    go_wp2
    refine bodyPost_ret (by simp [results, Try.results11, go_sem, z0, z1]; try rfl) rfl ?_
    exact ⟨rfl, ((HN7.out.setCell (by show w.heap.size ≤ w.heap.size + 1; omega) _).setCell (by show w.heap.size ≤ w.heap.size + 1; omega) _)⟩)
end Go.Proofs.Ytoplabhoedloeaa
