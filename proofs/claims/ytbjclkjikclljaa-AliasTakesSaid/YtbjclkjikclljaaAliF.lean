/- Layer 43: the example (awake); what a pair tells. -/
import Derived.Test.YtbjclkjikclljaaAliE
namespace Go.Proofs.Ytbjclkjikclljaa
open Go Go.RowKit Go.Bv Go.Ali
set_option linter.unusedVariables false
set_option maxRecDepth 100000
theorem TR.open {w : World} {v : Value} {T : BitVec 64} {n : Nat} {be : Nat → BitVec 64} {al : Nat → Nat} (h : TR w v T n be al) (hn : n ≤ 256) (ha : ∀ i, i < n → al i < n) : ∃ g1 g2, v = tv T (some ⟨g1, 0, none⟩) n n (some ⟨g2, 0, none⟩) n n ∧ TL w (some ⟨g1, 0, none⟩) n n (some ⟨g2, 0, none⟩) n n ((List.range n).map be) ((List.range n).map fun i => ((al i : Nat) : Int)) := by
  obtain ⟨g1, g2, e, h1, h2⟩ := h
  refine ⟨g1, g2, e, ⟨by simp, Nat.le_refl _, by omega, by omega, (fun e => by cases e), (fun b off e i hi => ?_), (fun x e _ => by cases e; rfl), (fun x e _ => by cases e; exact h1.lt)⟩, ⟨by simp, Nat.le_refl _, by omega, by omega, (fun e => by cases e), (fun b off e i hi => ?_), (fun x e _ => by cases e; rfl), (fun x e _ => by cases e; exact h2.lt), fun z hz => ?_⟩⟩
  · cases e
    rw [Nat.zero_add, h1.cell hi, List.getD_eq_getElem?_getD, List.getElem?_map, List.getElem?_range hi]; rfl
  · cases e
    rw [Nat.zero_add, h2.cell hi, List.getD_eq_getElem?_getD, List.getElem?_map, List.getElem?_range hi]; rfl
  · obtain ⟨i, hi, rfl⟩ := List.mem_map.1 hz
    have := ha i (List.mem_range.1 hi)
    unfold In64; omega
set_option maxHeartbeats 4000000 in
theorem awake43 (w : World) : Calls Try.prog 8 #[] w fun e w' => e = .returned (.bool true) ∧ New w w' := by
  have hE : wE [1#64, 3#64] = 0 := by decide +kernel
  have hT : W64 (tot [1#64, 3#64] 2) = 4 := by decide +kernel
  have hb : W64 ((cols [1#64, 3#64]).be 0) = 2 := by decide +kernel
  have ha : (((cols [1#64, 3#64]).al 0 : Nat) : Int) = 1 := by decide +kernel
  have h1 : W64 1#64 = 1 := W64_lit 1 (by omega)
  have h3 : W64 3#64 = 3 := W64_lit 3 (by omega)
  have hw : QRow (w.alloc (.cells #[.int .u64 1, .int .u64 3] 24)) (some ⟨w.heap.size, 0, none⟩) 2 2 [1#64, 3#64] := by
    have hbk := heap_alloc_new w (.cells #[.int .u64 1, .int .u64 3] 24)
    refine ⟨rfl, Nat.le_refl _, by omega, by omega, (fun e => by cases e), (fun b off e i hi => ?_), (fun x e _ => by cases e; rfl), (fun x e _ => by cases e; exact lt_of_block hbk)⟩
    cases e
    have : i = 0 ∨ i = 1 := by omega
    rcases this with rfl | rfl
    · rw [cell_of_row _ _ _ _ _ _ hbk, show ([1#64, 3#64] : List (BitVec 64)).getD 0 0 = 1#64 from rfl, h1]; rfl
    · rw [cell_of_row _ _ _ _ _ _ hbk, show ([1#64, 3#64] : List (BitVec 64)).getD 1 0 = 3#64 from rfl, h3]; rfl
  have hbd := build_any _ _ _ _ _ hw
  rw [hE] at hbd
  have HB := Lib.hid hbd
  have HT := Lib.hid hT
  have HBE := Lib.hid hb
  have HAL := Lib.hid ha
  have HN1 := Lib.hid ((New.refl w).alloc (.cells #[.int .u64 1, .int .u64 3] 24))
  clear hE hT hb ha h1 h3 hw hbd
  go_enter Try.func8, Try.ntmps8
  go_wp2_with fail
  refine HB.out.mono ?_
  rintro e w2 ⟨v, rfl, hy, _, n2⟩
  obtain ⟨g1, g2, rfl, q1, q2⟩ := (by first | exact hy rfl | exact hy trivial : TR w2 v _ 2 _ _)
  have hbx := heap_alloc_new w2 (TB (.int .u64 (W64 (tot [1#64, 3#64] 2))) (.slice (some ⟨g1, 0, none⟩) 2 2) (.slice (some ⟨g2, 0, none⟩) 2 2))
  have c1 := (ris_stay q1 ((New.refl w2).alloc (TB (.int .u64 (W64 (tot [1#64, 3#64] 2))) (.slice (some ⟨g1, 0, none⟩) 2 2) (.slice (some ⟨g2, 0, none⟩) 2 2)))).cell (i := 0) (by omega)
  have c2 := (ris_stay q2 ((New.refl w2).alloc (TB (.int .u64 (W64 (tot [1#64, 3#64] 2))) (.slice (some ⟨g1, 0, none⟩) 2 2) (.slice (some ⟨g2, 0, none⟩) 2 2)))).cell (i := 0) (by omega)
  rw [HBE.out] at c1
  rw [HAL.out] at c2
  have HN3 := Lib.hid ((HN1.out.trans n2).alloc (TB (.int .u64 (W64 (tot [1#64, 3#64] 2))) (.slice (some ⟨g1, 0, none⟩) 2 2) (.slice (some ⟨g2, 0, none⟩) 2 2)))
  rw [HT.out] at hbx c1 c2 HN3 ⊢
  have k0 := cell_of_row _ _ 0 _ _ _ hbx
  have k1 := cell_of_row _ _ 1 _ _ _ hbx
  have k2 := cell_of_row _ _ 2 _ _ _ hbx
  clear q1 q2 hbx n2 hy
  go_wp2
  go_ret
  exact ⟨rfl, HN3.out⟩
end Go.Proofs.Ytbjclkjikclljaa
