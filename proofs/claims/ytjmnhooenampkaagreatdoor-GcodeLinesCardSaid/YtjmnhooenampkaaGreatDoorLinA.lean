/- gcode.fromLine of any line. -/
import Derived.Test.YtjmnhooenampkaaGreatDoorLinM
import Derived.Test.YtjmnhooenampkaaGreatDoorBakB
import Derived.BigRegion
namespace Go.Proofs.YtjmnhooenampkaaGreatDoor
open Go Go.RowKit Go.Bv
set_option linter.unusedVariables false
set_option maxRecDepth 100000
/-- the kind of a name -/
def kdL (F : ByteArray) : Int := if nmK 1 = F then 1 else if nmK 2 = F then 2 else if nmK 3 = F then 3 else if nmK 4 = F then 4 else if nmK 5 = F then 5 else if nmK 6 = F then 6 else if nmK 7 = F then 7 else if nmK 8 = F then 8 else 0
theorem kdL_no {F : ByteArray} (h : kdL F = 0) : ∀ j : Int, 1 ≤ j → j ≤ 8 → nmK j ≠ F := by
  intro j h1 h2 e
  unfold kdL at h
  rcases (show j = 1 ∨ j = 2 ∨ j = 3 ∨ j = 4 ∨ j = 5 ∨ j = 6 ∨ j = 7 ∨ j = 8 by omega) with rfl | rfl | rfl | rfl | rfl | rfl | rfl | rfl <;> subst e <;> revert h <;> decide
theorem kdL_yes {F : ByteArray} (h : ¬ kdL F = 0) : okK (kdL F) = true ∧ nmK (kdL F) = F := by
  unfold kdL at h ⊢
  by_cases h1 : nmK 1 = F
  · simp only [if_pos h1]; exact ⟨by decide, h1⟩
  by_cases h2 : nmK 2 = F
  · simp only [if_neg h1, if_pos h2]; exact ⟨by decide, h2⟩
  by_cases h3 : nmK 3 = F
  · simp only [if_neg h1, if_neg h2, if_pos h3]; exact ⟨by decide, h3⟩
  by_cases h4 : nmK 4 = F
  · simp only [if_neg h1, if_neg h2, if_neg h3, if_pos h4]; exact ⟨by decide, h4⟩
  by_cases h5 : nmK 5 = F
  · simp only [if_neg h1, if_neg h2, if_neg h3, if_neg h4, if_pos h5]; exact ⟨by decide, h5⟩
  by_cases h6 : nmK 6 = F
  · simp only [if_neg h1, if_neg h2, if_neg h3, if_neg h4, if_neg h5, if_pos h6]; exact ⟨by decide, h6⟩
  by_cases h7 : nmK 7 = F
  · simp only [if_neg h1, if_neg h2, if_neg h3, if_neg h4, if_neg h5, if_neg h6, if_pos h7]; exact ⟨by decide, h7⟩
  by_cases h8 : nmK 8 = F
  · simp only [if_neg h1, if_neg h2, if_neg h3, if_neg h4, if_neg h5, if_neg h6, if_neg h7, if_pos h8]; exact ⟨by decide, h8⟩
  exact absurd (by simp only [if_neg h1, if_neg h2, if_neg h3, if_neg h4, if_neg h5, if_neg h6, if_neg h7, if_neg h8]) h
/-- a line's words -/
def wL (Gs : List ByteArray) (i : Nat) : BitVec 64 := (unhex (Gs.getD i ⟨#[]⟩)).getD 0#64
def qL (Gs : List ByteArray) (n : Nat) : W4 := ⟨if 0 < n then wL Gs 0 else 0#64, if 1 < n then wL Gs 1 else 0#64, if 2 < n then wL Gs 2 else 0#64, if 3 < n then wL Gs 3 else 0#64⟩
theorem qL_zero (Gs : List ByteArray) (k : Int) : stc k (qL Gs 0) = #[.int .i64 k, .int .u64 0, .int .u64 0, .int .u64 0, .int .u64 0] := by
  have e : W64 0#64 = 0 := by decide
  show #[Value.int .i64 k, .int .u64 (W64 0#64), .int .u64 (W64 0#64), .int .u64 (W64 0#64), .int .u64 (W64 0#64)] = _
  rw [e]
theorem qL_set (Gs : List ByteArray) (k : Int) (i : Nat) (h : i < 4) : (stc k (qL Gs i)).setIfInBounds (1 + i) (.int .u64 (W64 (wL Gs i))) = stc k (qL Gs (i + 1)) := by
  rcases (show i = 0 ∨ i = 1 ∨ i = 2 ∨ i = 3 by omega) with rfl | rfl | rfl | rfl <;> rfl
abbrev sName : ByteArray := ⟨#[110, 97, 109, 101]⟩
abbrev sWords : ByteArray := ⟨#[119, 111, 114, 100, 115]⟩
set_option maxHeartbeats 1000000 in
theorem named_no (S F L K : Addr) (nm : ByteArray) (h0 : kdL nm = 0) (w : World) (hs : SenD S F L K w) : Calls Tryz.prog 43 #[.string nm] w fun e w' => e = .returned (.tuple #[.int .i64 0, senV K]) ∧ New w w' := by
  have HNM := Lib.hid (kdL_no h0)
  have HS := Lib.hid hs
  clear h0 hs
  go_enter Tryz.func43, Tryz.ntmps43
  go_wp2_with fail
  go_loopw [4] (fun iv wr => ∃ j : Nat, 1 ≤ j ∧ j ≤ 9 ∧ iv = .int .i64 (j : Int) ∧ Hid (New w wr)) (fun iv _ => 9 - (intOf iv).toNat)
  case atStart => exact ⟨1, Nat.le_refl _, by omega, rfl, Lib.hid (New.refl _)⟩
  case round =>
    obtain ⟨j, hj1, hj9, rfl, HN⟩ := hrel
    by_cases hlt : (j : Int) ≤ 8
    · have hb : ((nmK (j : Int)).toList == nm.toList) = false := beq_eq_false_iff_ne.2 (fun e => HNM.out j (by omega) hlt (ByteArray.ext (Array.toList_inj.1 (by rw [← Lib.toList_data, ← Lib.toList_data]; exact e))))
      go_wp2_with fail
      refine (name_any (j : Int) _).mono ?_
      rintro e w1 ⟨rfl, hn1⟩
      have HN1 := Lib.hid (HN.out.trans hn1)
      clear hn1
      generalize nmK (j : Int) = nj at *
      go_wp2
      exact ⟨⟨j + 1, by omega, by omega, by go_num, HN1⟩, by simp [intOf]; omega⟩
    · have g0 := (HS.out.stay HN.out).k
      go_wp2
      go_quiet (fail)
      go_wp2
      go_ret2
      exact ⟨rfl, HN.out.drewN nq⟩
theorem named_yes (F : ByteArray) (h : ¬ kdL F = 0) (w : World) : Calls Tryz.prog 43 #[.string F] w fun e w' => e = .returned (.tuple #[.int .i64 (kdL F), .nilIface]) ∧ New w w' := by
  obtain ⟨h1, h2⟩ := kdL_yes h
  have := named_ok (kdL F) h1 w
  rwa [h2] at this
theorem cell_eq17 {w w' : World} {b : Nat} (h : w'.heap[b]? = w.heap[b]?) (i : Nat) : w'.cell? ⟨b, i, none⟩ = w.cell? ⟨b, i, none⟩ := by
  unfold World.cell?
  simp only [h]
def FLpost (t : ByteArray) (w : World) (st : Array Value) (V : Value) : Prop := Calls Tryz.prog 24 #[.string t] w fun e w' => e = .returned (.tuple #[.agg st, V]) ∧ New w w'
set_option maxHeartbeats 1000000 in
theorem fl_short (S F L K : Addr) (t : ByteArray) (h0 : t.size = 0) (w : World) (hs : SenD S F L K w) : Calls Tryz.prog 24 #[.string t] w fun e w' => e = .returned (.tuple #[.agg zStc, senV S]) ∧ New w w' := by
  have he : t.toList.isEmpty = true := by
    rw [Lib.toList_data, List.isEmpty_iff]
    exact List.eq_nil_of_length_eq_zero h0
  obtain ⟨w0, hw0, hb0, hn0⟩ := box5 w zStc
  have HAL := Lib.hid hw0
  have H0 := Lib.hid hn0
  have g0 := (hs.stay hn0).s
  have lt0 : 1 < w.heap.size := World.block_lt_of_cell? _ _ hs.f
  have ne0 : ¬ w.heap.size = 0 := by omega
  have ne0' : ¬ 0 = w.heap.size := by omega
  have ne1 : ¬ w.heap.size = 1 := by omega
  have ne1' : ¬ 1 = w.heap.size := by omega
  have k0 := cell_of_row _ _ 0 _ _ _ hb0
  have k1 := cell_of_row _ _ 1 _ _ _ hb0
  have k2 := cell_of_row _ _ 2 _ _ _ hb0
  have k3 := cell_of_row _ _ 3 _ _ _ hb0
  have k4 := cell_of_row _ _ 4 _ _ _ hb0
  have kf := fun i => frozen_of_row _ _ i _ _ hb0
  clear hw0 hb0 hn0 hs h0
  go_enter Tryz.func24, Tryz.ntmps24
  go_wp2_with fail
  rw [HAL.out]
  have SK : Hid (∀ w', Kb17 w0 w.heap.size w' → Kb17 w0 w.heap.size w' ∧ w'.cell? ⟨0, 0, none⟩ = some (senV S)) := Lib.hid (fun w' h => ⟨h, (cell_eq17 (h.2 0 (World.block_lt_of_cell? _ _ g0) ne0') 0).trans g0⟩)
  have hkb : Kb17 w0 w.heap.size w0 := Kb17.refl _ _
  go_region_held3 (fun w' => Kb17 w0 w.heap.size w' ∧ w'.cell? ⟨0, 0, none⟩ = some (senV S))
    ((refine SK.out _ ?_; repeat (first | with_reducible assumption | with_reducible exact Kb17.refl _ _ | with_reducible refine Kb17.drew ?_ | with_reducible refine Kb17.set ?_ _ _)))
    (fail)
  all_goals
    clear SK
    go_wp2
    refine bodyPost_ret (by simp [results, Tryz.results24, go_sem, k0, k1, k2, k3, k4]; try rfl) rfl ?_
    first | exact ⟨rfl, set5 H0.out (by exact Nat.le_refl _) _ _ _ _ _⟩ | exact ⟨rfl, (set5 H0.out (by exact Nat.le_refl _) _ _ _ _ _).drew⟩ | exact ⟨rfl, set5 H0.out.drew (by exact Nat.le_refl _) _ _ _ _ _⟩
set_option maxHeartbeats 1000000 in
theorem fl_name (S F L K : Addr) (t F0 : ByteArray) (Gs : List ByteArray) (hp : LnP t F0 Gs) (hsz : t.size ≤ 300) (h1 : ¬ t.size = 0) (hk : kdL F0 = 0) (w : World) (hs : SenD S F L K w) (hmx : MaxL w) : Calls Tryz.prog 24 #[.string t] w fun e w' => e = .returned (.tuple #[.agg zStc, inV sName (senV K)]) ∧ New w w' := by
  obtain ⟨hp1, hp2⟩ := hp.parts
  have HSP : Hid (∀ w', New w w' → Calls Tryz.prog 42 #[.string t, .string ⟨#[32]⟩] w' fun e w2 => e = .returned (.slice (some ⟨w'.heap.size, 0, none⟩) (Gs.length + 1) (Gs.length + 1)) ∧ w2 = w'.alloc (.cells ((F0 :: Gs).map Value.string).toArray 9)) := Lib.hid (fun w' hn => by
    obtain ⟨m5, hm5⟩ := hmx.stay hn
    have h := Tryz.strings_Split t ⟨#[32]⟩ m5 w' (by omega) hm5 (by decide)
    rw [hp1, hp2] at h
    exact h)
  have hne : t.toList.isEmpty = false := by
    rw [Lib.toList_data, List.isEmpty_eq_false_iff]
    intro e
    have h9 : t.data.toList.length = 0 := by rw [e]; rfl
    exact h1 h9
  obtain ⟨w0, hw0, hb0, hn0⟩ := box5 w zStc
  have HAL := Lib.hid hw0
  have HB := Lib.hid hb0
  have H0 := Lib.hid hn0
  have HS := Lib.hid hs
  have lt0 : 1 < w.heap.size := World.block_lt_of_cell? _ _ hs.f
  have ne0 : ¬ w.heap.size = 0 := by omega
  have ne0' : ¬ 0 = w.heap.size := by omega
  have ne1 : ¬ w.heap.size = 1 := by omega
  have ne1' : ¬ 1 = w.heap.size := by omega
  have HNM := Lib.hid (fun (w' : World) (hn : New w w') => named_no S F L K F0 hk w' (hs.stay hn))
  clear hw0 hb0 hn0 hs hmx hk hp hp1 hp2 hsz h1
  go_enter Tryz.func24, Tryz.ntmps24
  go_wp2_with fail
  rw [HAL.out]
  refine (HSP.out _ H0.out).mono ?_
  rintro e w1 ⟨rfl, hw1⟩
  have hb1 := heap_alloc_new w0 (.cells ((F0 :: Gs).map Value.string).toArray 9)
  have hn1 := (New.refl w0).alloc (.cells ((F0 :: Gs).map Value.string).toArray 9)
  rw [← hw1] at hb1 hn1
  have HP1 := Lib.hid hb1
  have HN1 := Lib.hid hn1
  have c0 : w1.cell? ⟨w0.heap.size, 0, none⟩ = some (.string F0) := cell_of_row _ _ 0 _ _ _ hb1
  obtain ⟨g, hg⟩ : ∃ g, w0.heap.size = g := ⟨_, rfl⟩
  rw [hg] at HP1 c0 ⊢
  clear hw1 hb1 hn1 hg HAL HSP
  go_wp2_with fail
  refine (HNM.out _ (H0.out.trans HN1.out)).mono ?_
  rintro e w2 ⟨rfl, hn2⟩
  have HP2 := Lib.hid ((hn2.block _ (lt_of_block HP1.out)).trans HP1.out)
  have HN2 := Lib.hid (HN1.out.trans hn2)
  clear hn2 c0 HP1 HN1 HNM
  have hb := (HN2.out.block _ (lt_of_block HB.out)).trans HB.out
  have k0 := cell_of_row _ _ 0 _ _ _ hb
  have k1 := cell_of_row _ _ 1 _ _ _ hb
  have k2 := cell_of_row _ _ 2 _ _ _ hb
  have k3 := cell_of_row _ _ 3 _ _ _ hb
  have k4 := cell_of_row _ _ 4 _ _ _ hb
  have kf := fun i => frozen_of_row _ _ i _ _ hb
  have HNN := Lib.hid (H0.out.trans HN2.out)
  clear hb
  go_wp2_with fail
  refine bodyPost_ret (by simp [results, Tryz.results24, go_sem, k0, k1, k2, k3, k4]; try rfl) rfl ?_
  exact ⟨rfl, set5 HNN.out (by exact Nat.le_refl _) _ _ _ _ _⟩
set_option maxHeartbeats 1000000 in
theorem fl_count (S F L K : Addr) (t F0 : ByteArray) (Gs : List ByteArray) (hp : LnP t F0 Gs) (hsz : t.size ≤ 300) (h1 : ¬ t.size = 0) (hk : ¬ kdL F0 = 0) (m : Nat) (hm : szK (kdL F0) = (m : Int)) (hm1 : 1 ≤ m) (hm4 : m ≤ 4) (hl : ¬ Gs.length = m) (w : World) (hs : SenD S F L K w) (hmx : MaxL w) : Calls Tryz.prog 24 #[.string t] w fun e w' => e = .returned (.tuple #[.agg zStc, inV sWords (senV F)]) ∧ New w w' := by
  obtain ⟨hp1, hp2⟩ := hp.parts
  have HSP : Hid (∀ w', New w w' → Calls Tryz.prog 42 #[.string t, .string ⟨#[32]⟩] w' fun e w2 => e = .returned (.slice (some ⟨w'.heap.size, 0, none⟩) (Gs.length + 1) (Gs.length + 1)) ∧ w2 = w'.alloc (.cells ((F0 :: Gs).map Value.string).toArray 9)) := Lib.hid (fun w' hn => by
    obtain ⟨m5, hm5⟩ := hmx.stay hn
    have h := Tryz.strings_Split t ⟨#[32]⟩ m5 w' (by omega) hm5 (by decide)
    rw [hp1, hp2] at h
    exact h)
  have hne : t.toList.isEmpty = false := by
    rw [Lib.toList_data, List.isEmpty_eq_false_iff]
    intro e
    have h9 : t.data.toList.length = 0 := by rw [e]; rfl
    exact h1 h9
  obtain ⟨w0, hw0, hb0, hn0⟩ := box5 w zStc
  have HAL := Lib.hid hw0
  have HB := Lib.hid hb0
  have H0 := Lib.hid hn0
  have HS := Lib.hid hs
  have lt0 : 1 < w.heap.size := World.block_lt_of_cell? _ _ hs.f
  have ne0 : ¬ w.heap.size = 0 := by omega
  have ne0' : ¬ 0 = w.heap.size := by omega
  have ne1 : ¬ w.heap.size = 1 := by omega
  have ne1' : ¬ 1 = w.heap.size := by omega
  have HNM := Lib.hid (fun (w' : World) (_ : New w w') => named_yes F0 hk w')
  obtain ⟨k, hkk⟩ : ∃ k, kdL F0 = k := ⟨_, rfl⟩
  rw [hkk] at HNM hm
  have HZ := Lib.hid hm
  have HLN : Hid (Gs.length ≤ 100000) := Lib.hid (by
    have := Lib.countB_le ⟨#[32]⟩ (by decide) t.size t (Nat.le_refl _)
    omega)
  generalize hgl : Gs.length = gl at *
  have hl2 : ¬ (gl : Int) = (m : Int) := by omega
  have hl3 : ¬ gl = m := by omega
  have hl4 : (wrap64 (gl : Int) != (m : Int)) = true := by
    have e : wrap64 (gl : Int) = (gl : Int) := by have := HLN.out; unfold wrap64; omega
    rw [e, bne_iff_ne]; omega
  clear hw0 hb0 hn0 hs hmx hk hp hp1 hp2 hsz h1 hm hkk hl
  go_enter Tryz.func24, Tryz.ntmps24
  go_wp2_with fail
  rw [HAL.out]
  refine (HSP.out _ H0.out).mono ?_
  rintro e w1 ⟨rfl, hw1⟩
  have hb1 := heap_alloc_new w0 (.cells ((F0 :: Gs).map Value.string).toArray 9)
  have hn1 := (New.refl w0).alloc (.cells ((F0 :: Gs).map Value.string).toArray 9)
  rw [← hw1] at hb1 hn1
  have HP1 := Lib.hid hb1
  have HN1 := Lib.hid hn1
  have c0 : w1.cell? ⟨w0.heap.size, 0, none⟩ = some (.string F0) := cell_of_row _ _ 0 _ _ _ hb1
  obtain ⟨g, hg⟩ : ∃ g, w0.heap.size = g := ⟨_, rfl⟩
  rw [hg] at HP1 c0 ⊢
  clear hw1 hb1 hn1 hg HAL HSP
  go_wp2_with fail
  refine (HNM.out _ (H0.out.trans HN1.out)).mono ?_
  rintro e w2 ⟨rfl, hn2⟩
  have HP2 := Lib.hid ((hn2.block _ (lt_of_block HP1.out)).trans HP1.out)
  have HN2 := Lib.hid (HN1.out.trans hn2)
  clear hn2 c0 HP1 HN1 HNM
  go_wp2_with fail
  refine (size_any k _).mono ?_
  rintro e w3 ⟨rfl, hn3⟩
  rw [HZ.out]
  have HP3 := Lib.hid ((hn3.block _ (lt_of_block HP2.out)).trans HP2.out)
  have HN3 := Lib.hid (HN2.out.trans hn3)
  clear hn3 HP2 HN2
  have hgb : (gl : Int) ≤ 100000 := by have := HLN.out; omega
  have g0 := (HS.out.stay (H0.out.trans HN3.out)).f
  have hb := (HN3.out.block _ (lt_of_block HB.out)).trans HB.out
  have k0 := cell_of_row _ _ 0 _ _ _ hb
  have k1 := cell_of_row _ _ 1 _ _ _ hb
  have k2 := cell_of_row _ _ 2 _ _ _ hb
  have k3 := cell_of_row _ _ 3 _ _ _ hb
  have k4 := cell_of_row _ _ 4 _ _ _ hb
  have kf := fun i => frozen_of_row _ _ i _ _ hb
  have HNN := Lib.hid (H0.out.trans HN3.out)
  clear hb
  go_wp2_with fail
  have SK : Hid (∀ w', Kb17 w3 w.heap.size w' → Kb17 w3 w.heap.size w' ∧ w'.cell? ⟨1, 0, none⟩ = some (senV F)) := Lib.hid (fun w' h => ⟨h, (cell_eq17 (h.2 1 (World.block_lt_of_cell? _ _ g0) ne1') 0).trans g0⟩)
  have hkb : Kb17 w3 w.heap.size w3 := Kb17.refl _ _
  go_region_held3 (fun w' => Kb17 w3 w.heap.size w' ∧ w'.cell? ⟨1, 0, none⟩ = some (senV F))
    ((refine SK.out _ ?_; repeat (first | with_reducible assumption | with_reducible exact Kb17.refl _ _ | with_reducible refine Kb17.drew ?_ | with_reducible refine Kb17.set ?_ _ _)))
    (fail)
  all_goals
    clear SK
    go_wp2
    refine bodyPost_ret (by simp [results, Tryz.results24, go_sem, k0, k1, k2, k3, k4]; try rfl) rfl ?_
    first | exact ⟨rfl, set5 HNN.out (by exact Nat.le_refl _) _ _ _ _ _⟩ | exact ⟨rfl, (set5 HNN.out (by exact Nat.le_refl _) _ _ _ _ _).drew⟩ | exact ⟨rfl, set5 HNN.out.drew (by exact Nat.le_refl _) _ _ _ _ _⟩
end Go.Proofs.YtjmnhooenampkaaGreatDoor
