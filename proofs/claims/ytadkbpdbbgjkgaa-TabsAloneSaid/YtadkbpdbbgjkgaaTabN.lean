/- Layer 22: rows of rows, sets of up to three rows: only, sharing. -/
import Derived.Test.YtadkbpdbbgjkgaaTabC
import Derived.Test.YtadkbpdbbgjkgaaTabM
import Derived.Handy
import Derived.BigRegion
import Derived.Deep.RegionHeld3
namespace Go.Bv
open Go Go.RowKit
/-- three bools in a box -/
def B3 (w : World) (b : Nat) (t : TypeId) (f : Nat → Bool) : Prop := w.heap[b]? = some (.cells #[.bool (f 0), .bool (f 1), .bool (f 2)] t (0, 0))
theorem B3.stay {w w' : World} {b : Nat} {t : TypeId} {f : Nat → Bool} (h : B3 w b t f) (hn : New w w') : B3 w' b t f := (hn.block _ (lt_of_block h)).trans h
theorem B3.c {w : World} {b : Nat} {t : TypeId} {f : Nat → Bool} (h : B3 w b t f) : w.cell? ⟨b, 0, none⟩ = some (.bool (f 0)) ∧ w.cell? ⟨b, 1, none⟩ = some (.bool (f 1)) ∧ w.cell? ⟨b, 2, none⟩ = some (.bool (f 2)) := ⟨cell_of_row _ _ 0 _ _ _ h, cell_of_row _ _ 1 _ _ _ h, cell_of_row _ _ 2 _ _ _ h⟩
theorem B3.at {w : World} {b : Nat} {t : TypeId} {f : Nat → Bool} (h : B3 w b t f) {k : Nat} (hk : k < 3) : w.cell? ⟨b, k, none⟩ = some (.bool (f k)) := by
  have : k = 0 ∨ k = 1 ∨ k = 2 := by omega
  rcases this with rfl | rfl | rfl
  · exact h.c.1
  · exact h.c.2.1
  · exact h.c.2.2
theorem B3.free {w : World} {b : Nat} {t : TypeId} {f : Nat → Bool} (h : B3 w b t f) (i : Nat) : w.frozen? ⟨b, i, none⟩ = false := frozen_of_row _ _ _ _ _ h
theorem B3.put {w : World} {b : Nat} {t : TypeId} {f f' : Nat → Bool} (h : B3 w b t f) {k : Nat} (hk : k < 3) (x : Bool) (he : f' k = x) (ho : ∀ j, j < 3 → j ≠ k → f' j = f j) : B3 (w.setCell ⟨b, k, none⟩ (.bool x)) b t f' := by
  have h1 := heap_setCell_same w b k _ t (.bool x) h
  unfold B3
  rw [h1]
  have : k = 0 ∨ k = 1 ∨ k = 2 := by omega
  rcases this with rfl | rfl | rfl
  · rw [he, ho 1 (by omega) (by omega), ho 2 (by omega) (by omega)]; rfl
  · rw [he, ho 0 (by omega) (by omega), ho 2 (by omega) (by omega)]; rfl
  · rw [he, ho 0 (by omega) (by omega), ho 1 (by omega) (by omega)]; rfl
theorem B3.congr {w : World} {b : Nat} {t : TypeId} {f f' : Nat → Bool} (h : B3 w b t f) (he : ∀ j, j < 3 → f' j = f j) : B3 w b t f' := by
  unfold B3; rw [he 0 (by omega), he 1 (by omega), he 2 (by omega)]; exact h
end Go.Bv
namespace Go.Proofs.Ytadkbpdbbgjkgaa
open Go.RowKit Go.Bv Go.Tab
set_option linter.unusedVariables false
set_option maxRecDepth 100000
/-- n rows of m integers: the slice of them lies in the block g, from gf on -/
def Rws (w : World) (g gf n m : Nat) (R : Nat → List Int) : Prop := ∀ i, i < n → ∃ a c, w.cell? ⟨g, gf + i, none⟩ = some (.slice a m c) ∧ ZRow w a m c (R i)
theorem zcell {w w' : World} {a : Addr} {v : Value} (h : w.cell? a = some v) (hn : New w w') : w'.cell? a = some v := by
  rw [hn.cell (cell_block h)]; exact h
theorem Rws.stay {w w' : World} {g gf n m : Nat} {R : Nat → List Int} (h : Rws w g gf n m R) (hn : New w w') : Rws w' g gf n m R := fun i hi => by
  obtain ⟨a, c, e, hz⟩ := h i hi
  exact ⟨a, c, zcell e hn, hz.stay hn⟩
theorem Rws.get {w : World} {g gf n m : Nat} {R : Nat → List Int} (h : Rws w g gf n m R) {i : Nat} (hi : i < n) : ∃ a c, w.cell? ⟨g, gf + i, none⟩ = some (.slice a m c) ∧ ZRow w a m c (R i) := h i hi
theorem Rws.get0 {w : World} {g gf n m : Nat} {R : Nat → List Int} (h : Rws w g gf n m R) (hi : 0 < n) : ∃ a c, w.cell? ⟨g, gf, none⟩ = some (.slice a m c) ∧ ZRow w a m c (R 0) := h 0 hi
abbrev b3 (f : Nat → Bool) : Array Value := #[.bool (f 0), .bool (f 1), .bool (f 2)]
set_option maxHeartbeats 1000000 in
theorem only_any (i : Nat) (hi : i < 3) (w : World) : Calls Try.prog 62 #[.int .i64 (i : Int)] w fun e w' => e = .returned (.agg (b3 fun j => decide (j = i))) ∧ New w w' := by
  have h3 : i = 0 ∨ i = 1 ∨ i = 2 := by omega
  rcases h3 with rfl | rfl | rfl
  all_goals (
    go_enter Try.func62, Try.ntmps62
    go_wp2
    refine bodyPost_ret (by simp [results, Try.results62, go_sem]; try rfl) rfl ?_
    exact ⟨rfl, ((New.refl w).alloc _).alloc _⟩)
/-- which of the rows that are left have the row i's entry at p -/
def shF (n : Nat) (R : Nat → List Int) (left : Nat → Bool) (i p : Nat) : Nat → Bool := fun j => decide (j < n) && left j && decide ((R j).getD p 0 = (R i).getD p 0)
/-- .. so far -/
def shK (n : Nat) (R : Nat → List Int) (left : Nat → Bool) (i p k : Nat) : Nat → Bool := fun j => decide (j < k) && shF n R left i p j
/-- what the loop keeps -/
structure ShI (w wr : World) (n : Nat) (R : Nat → List Int) (left : Nat → Bool) (i p k : Nat) : Prop where
  new : New w wr
  lf : B3 wr w.heap.size 72 left
  rs : B3 wr (w.heap.size + 1) 72 (fun _ => false)
  ou : B3 wr (w.heap.size + 1 + 1) 72 (shK n R left i p k)
theorem ShI.drew {w wr : World} {n : Nat} {R : Nat → List Int} {left : Nat → Bool} {i p k : Nat} (h : ShI w wr n R left i p k) : ShI w wr.drew n R left i p k :=
  ⟨h.new.drew, h.lf.stay (New.refl _).drew, h.rs.stay (New.refl _).drew, h.ou.stay (New.refl _).drew⟩
theorem ShI.next {w wr : World} {n : Nat} {R : Nat → List Int} {left : Nat → Bool} {i p k : Nat} (h : ShI w wr n R left i p k) (hk : k < 3) (v : Bool) (hv : shF n R left i p k = v) : ShI w (wr.setCell ⟨w.heap.size + 1 + 1, k, none⟩ (.bool v)) n R left i p (k + 1) := by
  refine ⟨h.new.setCell (by show w.heap.size ≤ w.heap.size + 1 + 1; omega) _, (heap_setCell_other _ _ _ _ (by show w.heap.size ≠ w.heap.size + 1 + 1; omega)).trans h.lf, (heap_setCell_other _ _ _ _ (by show w.heap.size + 1 ≠ w.heap.size + 1 + 1; omega)).trans h.rs, h.ou.put hk v ?_ fun j hj hjk => ?_⟩
  · unfold shK; rw [decide_eq_true (by omega), Bool.true_and]; exact hv
  · unfold shK
    by_cases e : j < k
    · rw [decide_eq_true e, decide_eq_true (show j < k + 1 by omega)]
    · rw [decide_eq_false e, decide_eq_false (show ¬ j < k + 1 by omega)]
set_option maxHeartbeats 4000000 in
theorem sharing_any (g gf n cg m : Nat) (hn : n ≤ 3) (R : Nat → List Int) (left : Nat → Bool) (i p : Nat) (hi : i < n) (hp : p < m) (w : World) (h : Rws w g gf n m R) :
    Calls Try.prog 61 #[.slice (some ⟨g, gf, none⟩) n cg, .agg (b3 left), .int .i64 (i : Int), .int .i64 (p : Int)] w fun e w' => e = .returned (.agg (b3 (shF n R left i p))) ∧ New w w' := by
  have n3 : New w (((w.alloc (.cells (b3 left) 72)).alloc (.cells (b3 fun _ => false) 72)).alloc (.cells (b3 fun _ => false) 72)) := (((New.refl w).alloc _).alloc _).alloc _
  have n12 := (New.refl (w.alloc (.cells (b3 left) 72))).alloc (.cells (b3 fun _ => false) 72)
  have e1 : (w.alloc (.cells (b3 left) 72)).heap.size = w.heap.size + 1 := by simp
  have e2 : ((w.alloc (.cells (b3 left) 72)).alloc (.cells (b3 fun _ => false) 72)).heap.size = w.heap.size + 1 + 1 := by simp
  have g1 : B3 (w.alloc (.cells (b3 left) 72)) w.heap.size 72 left := heap_alloc_new w _
  have g2 : B3 ((w.alloc (.cells (b3 left) 72)).alloc (.cells (b3 fun _ => false) 72)) (w.heap.size + 1) 72 (fun _ => false) := by rw [← e1]; exact heap_alloc_new _ _
  have g3 : B3 (((w.alloc (.cells (b3 left) 72)).alloc (.cells (b3 fun _ => false) 72)).alloc (.cells (b3 fun _ => false) 72)) (w.heap.size + 1 + 1) 72 (fun _ => false) := by rw [← e2]; exact heap_alloc_new _ _
  have HST : Hid (ShI w (((w.alloc (.cells (b3 left) 72)).alloc (.cells (b3 fun _ => false) 72)).alloc (.cells (b3 fun _ => false) 72)) n R left i p 0) := Lib.hid ⟨n3, (g1.stay ((New.refl _).alloc _)).stay ((New.refl _).alloc _), g2.stay ((New.refl _).alloc _), g3.congr (fun j _ => by unfold shK; simp)⟩
  have HR := Lib.hid h
  clear n3 n12 e1 e2 g1 g2 g3 h
  go_enter Try.func61, Try.ntmps61
  go_wp2
  go_loopw [14] (fun iv wr => ∃ k : Nat, k ≤ n ∧ iv = .int .i64 (k : Int) ∧ Hid (ShI w wr n R left i p k)) (fun iv _ => n - (intOf iv).toNat)
  case atStart => exact ⟨0, Nat.zero_le _, rfl, HST⟩
  case round =>
    obtain ⟨k, hk, rfl, HI⟩ := hrel
    clear HST
    by_cases hlt : (k : Int) < (n : Int)
    · have hk0 : (0 : Int) ≤ (k : Int) := by omega
      have hk3 : (k : Int) < 3 := by omega
      have hi0 : (0 : Int) ≤ (i : Int) := by omega
      have hin : (i : Int) < (n : Int) := by omega
      have hp0 : (0 : Int) ≤ (p : Int) := by omega
      have hpm : (p : Int) < (m : Int) := by omega
      have hr := HR.out.stay HI.out.new
      obtain ⟨a1, c1, f1, z1⟩ := hr.get (show k < n by omega)
      obtain ⟨a2, c2, f2, z2⟩ := hr.get hi
      obtain ⟨p1, o1, rfl, d1⟩ := z1.addr (by omega)
      obtain ⟨p2, o2, rfl, d2⟩ := z2.addr (by omega)
      replace d1 := d1 p hp
      replace d2 := d2 p hp
      have l0 := HI.out.lf.at (show k < 3 by omega)
      have u0 := HI.out.ou.at (show k < 3 by omega)
      have uf := HI.out.ou.free
      obtain ⟨x, hx⟩ : ∃ x, (R k).getD p 0 = x := ⟨_, rfl⟩
      obtain ⟨y, hy⟩ : ∃ y, (R i).getD p 0 = y := ⟨_, rfl⟩
      rw [hx] at d1
      rw [hy] at d2
      have HSH : Hid (shF n R left i p k = (left k && decide (x = y))) := Lib.hid (by unfold shF; rw [hx, hy, decide_eq_true (by omega), Bool.true_and])
      clear hr z1 z2 hx hy
      rcases hlk : left k with _ | _
      · rw [hlk] at l0
        have HN := Lib.hid (HI.out.next (show k < 3 by omega) false (by rw [HSH.out, hlk]; rfl))
        have HD := Lib.hid HN.out.drew
        clear d1 d2 f2
        go_wp2
        go_region
        go_wp2
        first
          | exact ⟨⟨k + 1, by omega, by go_num, HN⟩, by simp [intOf]; omega⟩
          | exact ⟨⟨k + 1, by omega, by go_num, HD⟩, by simp [intOf]; omega⟩
      · rw [hlk] at l0
        by_cases hxy : x = y
        · subst hxy
          have hb : (x == x) = true := by simp
          have HN := Lib.hid (HI.out.next (show k < 3 by omega) true (by rw [HSH.out, hlk]; simp))
          have HD := Lib.hid HN.out.drew
          go_wp2
          go_region
          go_wp2
          first
            | exact ⟨⟨k + 1, by omega, by go_num, HN⟩, by simp [intOf]; omega⟩
            | exact ⟨⟨k + 1, by omega, by go_num, HD⟩, by simp [intOf]; omega⟩
        · have hb : (x == y) = false := by rw [beq_eq_false_iff_ne]; exact hxy
          have HN := Lib.hid (HI.out.next (show k < 3 by omega) false (by rw [HSH.out, hlk, decide_eq_false hxy]; rfl))
          have HD := Lib.hid HN.out.drew
          go_wp2
          go_region
          go_wp2
          first
            | exact ⟨⟨k + 1, by omega, by go_num, HN⟩, by simp [intOf]; omega⟩
            | exact ⟨⟨k + 1, by omega, by go_num, HD⟩, by simp [intOf]; omega⟩
    · obtain rfl : k = n := by omega
      have ho := HI.out.ou.congr (f' := shF k R left i p) (fun j _ => by unfold shK shF; by_cases e : j < k <;> simp [e])
      have hrs := HI.out.rs
      obtain ⟨u0, u1, u2⟩ := ho.c
      obtain ⟨r0, r1, r2⟩ := hrs.c
      have rf := hrs.free
      have HN := Lib.hid HI.out.new
      obtain ⟨f, hf⟩ : ∃ f, shF k R left i p = f := ⟨_, rfl⟩
      rw [hf] at u0 u1 u2
      have HF := Lib.hid hf
      clear ho hrs hf HI
      go_wp2
      refine bodyPost_ret (by simp [results, Try.results61, go_sem, r0, r1, r2]; try rfl) rfl ?_
      rw [HF.out]
      exact ⟨rfl, ((HN.out.setCell (by show w.heap.size ≤ w.heap.size + 1; omega) _).setCell (by show w.heap.size ≤ w.heap.size + 1; omega) _).setCell (by show w.heap.size ≤ w.heap.size + 1; omega) _⟩
end Go.Proofs.Ytadkbpdbbgjkgaa
