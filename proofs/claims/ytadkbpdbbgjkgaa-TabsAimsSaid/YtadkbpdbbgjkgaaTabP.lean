/- Layer 22: alone: the first row that has an entry of its own. -/
import Derived.Test.YtadkbpdbbgjkgaaTabO
namespace Go.Proofs.Ytadkbpdbbgjkgaa
open Go Go.RowKit Go.Bv Go.Tab
set_option linter.unusedVariables false
set_option maxRecDepth 100000
theorem three_blocks22 (w : World) (A B C : Obj) : ((((w.alloc A).alloc B).alloc C).heap[w.heap.size]? = some A) ∧ ((((w.alloc A).alloc B).alloc C).heap[w.heap.size + 1]? = some B) ∧ ((((w.alloc A).alloc B).alloc C).heap[w.heap.size + 1 + 1]? = some C) ∧ New w (((w.alloc A).alloc B).alloc C) := by
  have e1 : (w.alloc A).heap.size = w.heap.size + 1 := by simp
  have e2 : ((w.alloc A).alloc B).heap.size = w.heap.size + 1 + 1 := by simp
  refine ⟨?_, ?_, ?_, (((New.refl w).alloc _).alloc _).alloc _⟩
  · rw [(((New.refl (w.alloc A)).alloc B).alloc C).block _ (by rw [e1]; omega)]; exact heap_alloc_new _ _
  · rw [((New.refl ((w.alloc A).alloc B)).alloc C).block _ (by rw [e2]; omega), ← e1]; exact heap_alloc_new _ _
  · rw [← e2]; exact heap_alloc_new _ _
/-- what alone's loops keep -/
structure AlI (w wr : World) (left : Nat → Bool) : Prop where
  new : New w wr
  lf : B3 wr w.heap.size 72 left
  rs : wr.heap[w.heap.size + 1]? = some (.cells #[.int .i64 0, .int .i64 0] 61 (0, 0))
  fo : wr.heap[w.heap.size + 1 + 1]? = some (.cells #[.int .i64 0, .int .i64 0] 61 (0, 0))
theorem AlI.stay {w wr w2 : World} {left : Nat → Bool} (h : AlI w wr left) (hn : New wr w2) : AlI w w2 left :=
  ⟨h.new.trans hn, h.lf.stay hn, (hn.block _ (lt_of_block h.rs)).trans h.rs, (hn.block _ (lt_of_block h.fo)).trans h.fo⟩
theorem put2a {w : World} {b : Nat} {u v : Value} {t : TypeId} (x y : Value) (h : w.heap[b]? = some (.cells #[u, v] t (0, 0))) : ((w.setCell ⟨b, 0, none⟩ x).setCell ⟨b, 1, none⟩ y).heap[b]? = some (.cells #[x, y] t (0, 0)) := heap_setCell_same _ b 1 _ _ y (heap_setCell_same w b 0 _ _ x h)
set_option maxHeartbeats 8000000 in
theorem alone_any (g gf n cg m : Nat) (hn : n ≤ 3) (hn0 : 0 < n) (R : Nat → List Int) (left : Nat → Bool) (hR : ∀ j p, j < n → p < m → 0 ≤ (R j).getD p 0) (hex : ∃ i p, i < n ∧ p < m ∧ own n (rn R) left i p = true) (hm : m ≤ 17592186044416) (w : World) (h : Rws w g gf n m R) :
    Calls Try.prog 58 #[.slice (some ⟨g, gf, none⟩) n cg, .agg (b3 left)] w fun e w' => e = .returned (.agg #[.int .i64 ((aloF m n (rn R) left).1 : Int), .int .i64 ((aloF m n (rn R) left).2 : Int)]) ∧ New w w' := by
  obtain ⟨z1, z2, z3, z4⟩ := three_blocks22 w (.cells (b3 left) 72) (.cells #[.int .i64 0, .int .i64 0] 61) (.cells #[.int .i64 0, .int .i64 0] 61)
  have HST : Hid (AlI w (((w.alloc (.cells (b3 left) 72)).alloc (.cells #[.int .i64 0, .int .i64 0] 61)).alloc (.cells #[.int .i64 0, .int .i64 0] 61)) left) := Lib.hid ⟨z4, z1, z2, z3⟩
  have HR := Lib.hid h
  have HEX := Lib.hid hex
  have HRR := Lib.hid hR
  obtain ⟨x, hx⟩ : ∃ x, aloF m n (rn R) left = x := ⟨_, rfl⟩
  have HX := Lib.hid hx
  have hr0 := h.stay z4
  obtain ⟨a0, c0, f0, y0⟩ := hr0.get0 hn0
  have hn0' : (0 : Int) < (n : Int) := by omega
  rw [hx]
  clear h hex hR z1 z2 z3 z4 hr0 hx y0
  go_enter Try.func58, Try.ntmps58
  go_wp2
  go_step3
  go_wp2
  go_step3
  go_wp2
  go_loopw [12] (fun iv wr => ∃ p : Nat, p ≤ m ∧ iv = .int .i64 (p : Int) ∧ Hid (AlI w wr left) ∧ Hid (∀ q, q < p → ∀ j, j < n → own n (rn R) left j q = false)) (fun iv _ => m - (intOf iv).toNat)
  case atStart => exact ⟨0, Nat.zero_le _, rfl, HST, Lib.hid (fun q hq => absurd hq (by omega))⟩
  case round =>
    obtain ⟨p, hp, rfl, HI, HP⟩ := hrel
    clear HST
    by_cases hlt : (p : Int) < (m : Int)
    · go_wp2
      go_loopw [17] (fun iv wr2 => ∃ i : Nat, i ≤ n ∧ iv = .int .i64 (i : Int) ∧ Hid (AlI w wr2 left) ∧ Hid (∀ j, j < i → own n (rn R) left j p = false)) (fun iv _ => n - (intOf iv).toNat)
      case atStart => exact ⟨0, Nat.zero_le _, rfl, HI, Lib.hid (fun j hj => absurd hj (by omega))⟩
      case round =>
        obtain ⟨i, hi, rfl, HJ, HQ⟩ := hrel
        by_cases hlt2 : (i : Int) < (n : Int)
        · have hi3 : (i : Int) < 3 := by omega
          have hi0 : (0 : Int) ≤ (i : Int) := by omega
          have hii : i < n := by omega
          have hpm : p < m := by omega
          obtain ⟨l0, l1, l2⟩ := HJ.out.lf.c
          have li := HJ.out.lf.at (show i < 3 by omega)
          have HOWN := Lib.hid (own_sh hn (R := R) (left := left) (i := i) (p := p) hii (fun j hj => HRR.out j p hj hpm))
          have HSH := Lib.hid (sharing_any g gf n cg m hn R left i p hii hpm _ (HR.out.stay HJ.out.new))
          rcases hli : left i with _ | _
          · rw [hli] at li
            have HQ2 : Hid (∀ j, j < i + 1 → own n (rn R) left j p = false) := Lib.hid (fun j hj => by
              by_cases e : j = i
              · subst e; rw [HOWN.out, hli]; rfl
              · exact HQ.out j (by omega))
            clear HSH
            go_wp2
            exact ⟨⟨i + 1, by omega, by go_num, HJ, HQ2⟩, by simp [intOf]; omega⟩
          · rw [hli] at li
            go_wp2_with fail
            refine HSH.out.mono ?_
            rintro e w5 ⟨rfl, n5⟩
            have HJ5 := Lib.hid (HJ.out.stay n5)
            clear n5 HSH
            go_wp2_with fail
            refine (only_any i (by omega) _).mono ?_
            rintro e w6 ⟨rfl, n6⟩
            have HJ6 := Lib.hid (HJ5.out.stay n6)
            clear n6
            have heq := fun w => eqB3 w (shF n R left i p 0) (shF n R left i p 1) (shF n R left i p 2) (decide (0 = i)) (decide (1 = i)) (decide (2 = i))
            have HO2 : Hid (own n (rn R) left i p = (shF n R left i p 0 == decide (0 = i) && (shF n R left i p 1 == decide (1 = i) && shF n R left i p 2 == decide (2 = i)))) := Lib.hid (by rw [HOWN.out, hli, Bool.true_and])
            obtain ⟨b, hb⟩ : ∃ b, (shF n R left i p 0 == decide (0 = i) && (shF n R left i p 1 == decide (1 = i) && shF n R left i p 2 == decide (2 = i))) = b := ⟨_, rfl⟩
            rw [hb] at heq HO2
            clear hb
            rcases b with _ | _
            · have HQ2 : Hid (∀ j, j < i + 1 → own n (rn R) left j p = false) := Lib.hid (fun j hj => by
                by_cases e : j = i
                · subst e; exact HO2.out
                · exact HQ.out j (by omega))
              go_wp2
              exact ⟨⟨i + 1, by omega, by go_num, HJ6, HQ2⟩, by simp [intOf]; omega⟩
            · obtain rfl : x = (i, p) := HX.out.symm.trans (aloF_at hii hpm HO2.out HP.out HQ.out)
              have o0 := cell_of_row _ _ 0 _ _ _ HJ6.out.fo
              have o1 := cell_of_row _ _ 1 _ _ _ HJ6.out.fo
              have of := fun k => frozen_of_row _ _ k _ _ HJ6.out.fo
              have r0 := cell_of_row _ _ 0 _ _ _ HJ6.out.rs
              have r1 := cell_of_row _ _ 1 _ _ _ HJ6.out.rs
              have rf := fun k => frozen_of_row _ _ k _ _ HJ6.out.rs
              have HN := Lib.hid HJ6.out.new
              go_wp2
              rw [Exit.noGoto_ret]
              refine bodyPost_ret (by simp [results, Try.results58, go_sem, r0, r1]; try rfl) rfl ?_
              exact ⟨rfl, (((HN.out.setCell (by show w.heap.size ≤ w.heap.size + 1 + 1; omega) _).setCell (by show w.heap.size ≤ w.heap.size + 1 + 1; omega) _).setCell (by show w.heap.size ≤ w.heap.size + 1; omega) _).setCell (by show w.heap.size ≤ w.heap.size + 1; omega) _⟩
        · obtain rfl : i = n := by omega
          have HP2 : Hid (∀ q, q < p + 1 → ∀ j, j < i → own i (rn R) left j q = false) := Lib.hid (fun q hq j hj => by
            by_cases e : q = p
            · subst e; exact HQ.out j hj
            · exact HP.out q (by omega) j hj)
          go_wp2
          exact ⟨⟨p + 1, by omega, by go_num, HJ, HP2⟩, by simp [intOf]; omega⟩
    · exfalso
      obtain ⟨i, q, h1, h2, h3⟩ := HEX.out
      have := HP.out q (by omega) i h1
      rw [h3] at this
      cases this
end Go.Proofs.Ytadkbpdbbgjkgaa
