import Derived.Test.YtebcfbcfipmahaaGreatZ3BitQ
import Derived.Test.YtebcfbcfipmahaaGreatZ3PolM
import Derived.Deep.RegionLaw
import Derived.Deep.RegionWith
import Derived.Handy
import Derived.Test.YtebcfbcfipmahaaGreatProg
import Derived.Test.YtebcfbcfipmahaaGreatZ3Bv
import Derived.Test.YtebcfbcfipmahaaGreatZ3Grow
import Derived.BigRegion
import Derived.Deep.RegionHeld3
import Derived.Test.YtebcfbcfipmahaaGreatZ3ModC
import Derived.LoopN
import Derived.Deep.OwnRows
import Derived.OneCell
section
/- The example of wide (awake); the walk of the statement WideSums: for all numbers of two words. -/
set_option maxRecDepth 100000
namespace Go.Bv
open Go Go.RowKit
/-- the two words of a number, in a box -/
def Cw2 (w : World) (b : Nat) (x y : BitVec 64) : Prop := w.cell? ⟨b, 0, none⟩ = some (.int .u64 (W64 x)) ∧ w.cell? ⟨b, 1, none⟩ = some (.int .u64 (W64 y))
theorem Cw2.stay {w w' : World} {b : Nat} {x y : BitVec 64} (h : Cw2 w b x y) (hn : New w w') : Cw2 w' b x y := by
  have hb : b < w.heap.size := World.block_lt_of_cell? w ⟨b, 0, none⟩ h.1
  exact ⟨by rw [hn.cell (a := ⟨b, 0, none⟩) hb]; exact h.1, by rw [hn.cell (a := ⟨b, 1, none⟩) hb]; exact h.2⟩
end Go.Bv
namespace Go.Proofs.YtebcfbcfipmahaaGreat
open Go.RowKit Go.Bv
set_option linter.unusedVariables false
end Go.Proofs.YtebcfbcfipmahaaGreat
end
section
/- Contracts of load.Tail, load.Le32, load.Le64 and of the document's own Num and There: what each call returns, for all bytes. -/
namespace Go.Proofs.YtebcfbcfipmahaaGreat
open Go.RowKit Go.Bv
set_option linter.unusedVariables false
end Go.Proofs.YtebcfbcfipmahaaGreat
end
section
/- Contracts of load.Le32, load.Le64 and of the document's own Num, There and Left, Rot32, Rot64, Swap: what each call returns. -/
namespace Go.Proofs.YtebcfbcfipmahaaGreat
open Go.RowKit Go.Bv
set_option linter.unusedVariables false
def rd (l : List (BitVec 8)) (k n : Nat) : BitVec 64 := num (fun i => l.getD (k + i) 0) n
set_option maxHeartbeats 1000000 in
theorem num_ref (a : Option Addr) (len cap : Nat) (l : List (BitVec 8)) (k n : Nat) (w : World) (h : BRow w a len cap l) (hk : k ≤ 140737488355328) (hn : n ≤ 100) :
    Calls Tryz.prog 117 #[.slice a len cap, .int .i64 k, .int .i64 n] w fun e w' => e = .returned (.int .u64 (W64 (rd l k n))) ∧ w' = w := by
  have hm := h.most
  have hl := h.le
  have hll := h.len_eq
  have Hll := Lib.hid hll
  clear hll
  go_enter Tryz.func117, Tryz.ntmps117
  go_wp2
  go_loop [7, 8] (fun t i => ∃ j : Nat, j ≤ n ∧ i = .int .i64 ((j : Int) - 1) ∧ t = .int .u64 (W64 (rd l (k + j) (n - j)))) (fun _ i => (intOf i + 1).toNat)
  case atStart => exact ⟨n, Nat.le_refl _, rfl, by rw [Nat.sub_self]; rfl⟩
  case round =>
    obtain ⟨j, hj, rfl, rfl⟩ := hrel
    by_cases h0 : j = 0
    · subst h0
      go_wp2
      go_ret
      exact ⟨ret64 (by simp), rfl⟩
    · obtain ⟨i, rfl⟩ : ∃ i, j = i + 1 := ⟨j - 1, by omega⟩
      have hstep : rd l (k + i) (n - i) = rd l (k + (i + 1)) (n - (i + 1)) * 256#64 + (l.getD (k + i) 0).setWidth 64 := by
        unfold rd
        rw [show n - i = (n - (i + 1)) + 1 by omega]
        simp only [num]
        congr 2
        exact num_congr _ (fun q _ => by rw [show k + i + (q + 1) = k + (i + 1) + q by omega])
      have HS := Lib.hid hstep
      clear hstep
      by_cases hin : k + i < len
      · obtain ⟨b, off, rfl, hc⟩ := h.addr (by omega)
        have hci := hc (k + i) hin
        clear hc
        have hin2 : (k : Int) + i < len := by omega
        go_wp2
        exact ⟨⟨i, by omega, rfl, by rw [HS.out, List.getD_eq_getElem?_getD]; rfl⟩, by simp [intOf]⟩
      · have hin2 : ¬ (k : Int) + i < len := by omega
        have hz : l.getD (k + i) 0 = 0 := by
          rw [List.getD_eq_getElem?_getD, List.getElem?_eq_none (by rw [Hll.out]; omega)]; rfl
        go_wp2
        exact ⟨⟨i, by omega, rfl, by rw [HS.out, hz]; simp⟩, by simp [intOf]⟩
end Go.Proofs.YtebcfbcfipmahaaGreat
end
section
/- Plain lemmas on worlds: 'But b w v': from w to v nothing has changed but what lies in the block b. -/
namespace Go.Bv
open Go Go.RowKit
/-- nothing of w has changed in v, but what lies in the block b -/
structure But (b : Nat) (w v : World) : Prop where
  size : w.heap.size ≤ v.heap.size
  block : ∀ k, k < w.heap.size → k ≠ b → v.heap[k]? = w.heap[k]?
  new : ∀ W, New W w → W.heap.size ≤ b → New W v
theorem But.refl (b : Nat) (w : World) : But b w w := ⟨Nat.le_refl _, fun _ _ _ => rfl, fun _ h _ => h⟩
theorem But.of_new {b : Nat} {w v : World} (h : New w v) : But b w v := ⟨h.le, fun k hk _ => h.block k hk, fun _ h2 _ => h2.trans h⟩
theorem But.trans {b : Nat} {u w v : World} (h : But b u w) (k : But b w v) : But b u v :=
  ⟨Nat.le_trans h.size k.size, fun i hi hb => (k.block i (Nat.lt_of_lt_of_le hi h.size) hb).trans (h.block i hi hb), fun W h2 hb => k.new W (h.new W h2 hb) hb⟩
theorem But.setCell {b : Nat} {u w : World} (h : But b u w) {p : Addr} (hp : p.block = b) (x : Value) : But b u (w.setCell p x) :=
  ⟨by rw [show (w.setCell p x).heap.size = w.heap.size by simp [World.setCell]]; exact h.size,
   fun i hi hb => (Below.heap_setCell w p x i (by omega)).trans (h.block i hi hb), fun W h2 hb => (h.new W h2 hb).setCell (by omega) _⟩
theorem But.then {b : Nat} {u w v : World} (h : But b u w) (k : New w v) : But b u v := h.trans (But.of_new k)
theorem But.alloc {b : Nat} {u w : World} (h : But b u w) (o : Obj) : But b u (w.alloc o) := h.then ((New.refl _).alloc o)
theorem But.drew {b : Nat} {u w : World} (h : But b u w) : But b u w.drew := h.then (New.refl _).drew
theorem But.keep {b k : Nat} {w v : World} (h : But b w v) {o : Obj} (hk : k ≠ b) (e : w.heap[k]? = some o) : v.heap[k]? = some o := by
  rw [h.block k (lt_of_block e) hk]; exact e
end Go.Bv
end
section
/- Layer 22: rows of rows, sets of up to three rows: only, sharing. -/
namespace Go.Bv
open Go Go.RowKit
/-- three bools in a box -/
def B3 (w : World) (b : Nat) (t : TypeId) (f : Nat → Bool) : Prop := w.heap[b]? = some (.cells #[.bool (f 0), .bool (f 1), .bool (f 2)] t (0, 0))
theorem B3.stay {w w' : World} {b : Nat} {t : TypeId} {f : Nat → Bool} (h : B3 w b t f) (hn : New w w') : B3 w' b t f := (hn.block _ (lt_of_block h)).trans h
theorem B3.c {w : World} {b : Nat} {t : TypeId} {f : Nat → Bool} (h : B3 w b t f) : w.cell? ⟨b, 0, none⟩ = some (.bool (f 0)) ∧ w.cell? ⟨b, 1, none⟩ = some (.bool (f 1)) ∧ w.cell? ⟨b, 2, none⟩ = some (.bool (f 2)) := ⟨cell_of_row _ _ 0 _ _ _ h, cell_of_row _ _ 1 _ _ _ h, cell_of_row _ _ 2 _ _ _ h⟩
theorem B3.at {w : World} {b : Nat} {t : TypeId} {f : Nat → Bool} (h : B3 w b t f) {k : Nat} (hk : k < 3) : w.cell? ⟨b, k, none⟩ = some (.bool (f k)) := by
  have : k = 0 ∨ k = 1 ∨ k = 2 := by omega
  rcases this with rfl | rfl | rfl
  · exact h.c.1
  · exact h.c.2.1
  · exact h.c.2.2
theorem B3.free {w : World} {b : Nat} {t : TypeId} {f : Nat → Bool} (h : B3 w b t f) (i : Nat) : w.frozen? ⟨b, i, none⟩ = false := frozen_of_row _ _ _ _ _ h
theorem B3.put {w : World} {b : Nat} {t : TypeId} {f f' : Nat → Bool} (h : B3 w b t f) {k : Nat} (hk : k < 3) (x : Bool) (he : f' k = x) (ho : ∀ j, j < 3 → j ≠ k → f' j = f j) : B3 (w.setCell ⟨b, k, none⟩ (.bool x)) b t f' := by
  have h1 := heap_setCell_same w b k _ t (.bool x) h
  unfold B3
  rw [h1]
  have : k = 0 ∨ k = 1 ∨ k = 2 := by omega
  rcases this with rfl | rfl | rfl
  · rw [he, ho 1 (by omega) (by omega), ho 2 (by omega) (by omega)]; rfl
  · rw [he, ho 0 (by omega) (by omega), ho 2 (by omega) (by omega)]; rfl
  · rw [he, ho 0 (by omega) (by omega), ho 1 (by omega) (by omega)]; rfl
theorem B3.congr {w : World} {b : Nat} {t : TypeId} {f f' : Nat → Bool} (h : B3 w b t f) (he : ∀ j, j < 3 → f' j = f j) : B3 w b t f' := by
  unfold B3; rw [he 0 (by omega), he 1 (by omega), he 2 (by omega)]; exact h
end Go.Bv
namespace Go.Proofs.YtebcfbcfipmahaaGreat
open Go.RowKit Go.Bv Go.Tab
set_option linter.unusedVariables false
set_option maxRecDepth 100000
/-- n rows of m integers: the slice of them lies in the block g, from gf on -/
def Rws (w : World) (g gf n m : Nat) (R : Nat → List Int) : Prop := ∀ i, i < n → ∃ a c, w.cell? ⟨g, gf + i, none⟩ = some (.slice a m c) ∧ ZRow w a m c (R i)
theorem zcell {w w' : World} {a : Addr} {v : Value} (h : w.cell? a = some v) (hn : New w w') : w'.cell? a = some v := by
  rw [hn.cell (cell_block h)]; exact h
theorem Rws.stay {w w' : World} {g gf n m : Nat} {R : Nat → List Int} (h : Rws w g gf n m R) (hn : New w w') : Rws w' g gf n m R := fun i hi => by
  obtain ⟨a, c, e, hz⟩ := h i hi
  exact ⟨a, c, zcell e hn, hz.stay hn⟩
theorem Rws.get {w : World} {g gf n m : Nat} {R : Nat → List Int} (h : Rws w g gf n m R) {i : Nat} (hi : i < n) : ∃ a c, w.cell? ⟨g, gf + i, none⟩ = some (.slice a m c) ∧ ZRow w a m c (R i) := h i hi
theorem Rws.get0 {w : World} {g gf n m : Nat} {R : Nat → List Int} (h : Rws w g gf n m R) (hi : 0 < n) : ∃ a c, w.cell? ⟨g, gf, none⟩ = some (.slice a m c) ∧ ZRow w a m c (R 0) := h 0 hi
abbrev b3 (f : Nat → Bool) : Array Value := #[.bool (f 0), .bool (f 1), .bool (f 2)]
set_option maxHeartbeats 1000000 in
theorem only_any (i : Nat) (hi : i < 3) (w : World) : Calls Tryz.prog 172 #[.int .i64 (i : Int)] w fun e w' => e = .returned (.agg (b3 fun j => decide (j = i))) ∧ New w w' := by
  have h3 : i = 0 ∨ i = 1 ∨ i = 2 := by omega
  rcases h3 with rfl | rfl | rfl
  all_goals (
    go_enter Tryz.func172, Tryz.ntmps172
    go_wp2
    refine bodyPost_ret (by simp [results, Tryz.results172, go_sem]; try rfl) rfl ?_
    exact ⟨rfl, ((New.refl w).alloc _).alloc _⟩)
/-- which of the rows that are left have the row i's entry at p -/
def shF (n : Nat) (R : Nat → List Int) (left : Nat → Bool) (i p : Nat) : Nat → Bool := fun j => decide (j < n) && left j && decide ((R j).getD p 0 = (R i).getD p 0)
/-- .. so far -/
def shK (n : Nat) (R : Nat → List Int) (left : Nat → Bool) (i p k : Nat) : Nat → Bool := fun j => decide (j < k) && shF n R left i p j
/-- what the loop keeps -/
structure ShI (w wr : World) (n : Nat) (R : Nat → List Int) (left : Nat → Bool) (i p k : Nat) : Prop where
  new : New w wr
  lf : B3 wr w.heap.size 164 left
  rs : B3 wr (w.heap.size + 1) 164 (fun _ => false)
  ou : B3 wr (w.heap.size + 1 + 1) 164 (shK n R left i p k)
theorem ShI.drew {w wr : World} {n : Nat} {R : Nat → List Int} {left : Nat → Bool} {i p k : Nat} (h : ShI w wr n R left i p k) : ShI w wr.drew n R left i p k :=
  ⟨h.new.drew, h.lf.stay (New.refl _).drew, h.rs.stay (New.refl _).drew, h.ou.stay (New.refl _).drew⟩
theorem ShI.next {w wr : World} {n : Nat} {R : Nat → List Int} {left : Nat → Bool} {i p k : Nat} (h : ShI w wr n R left i p k) (hk : k < 3) (v : Bool) (hv : shF n R left i p k = v) : ShI w (wr.setCell ⟨w.heap.size + 1 + 1, k, none⟩ (.bool v)) n R left i p (k + 1) := by
  refine ⟨h.new.setCell (by show w.heap.size ≤ w.heap.size + 1 + 1; omega) _, (heap_setCell_other _ _ _ _ (by show w.heap.size ≠ w.heap.size + 1 + 1; omega)).trans h.lf, (heap_setCell_other _ _ _ _ (by show w.heap.size + 1 ≠ w.heap.size + 1 + 1; omega)).trans h.rs, h.ou.put hk v ?_ fun j hj hjk => ?_⟩
  · unfold shK; rw [decide_eq_true (by omega), Bool.true_and]; exact hv
  · unfold shK
    by_cases e : j < k
    · rw [decide_eq_true e, decide_eq_true (show j < k + 1 by omega)]
    · rw [decide_eq_false e, decide_eq_false (show ¬ j < k + 1 by omega)]
set_option maxHeartbeats 4000000 in
theorem sharing_any (g gf n cg m : Nat) (hn : n ≤ 3) (R : Nat → List Int) (left : Nat → Bool) (i p : Nat) (hi : i < n) (hp : p < m) (w : World) (h : Rws w g gf n m R) :
    Calls Tryz.prog 171 #[.slice (some ⟨g, gf, none⟩) n cg, .agg (b3 left), .int .i64 (i : Int), .int .i64 (p : Int)] w fun e w' => e = .returned (.agg (b3 (shF n R left i p))) ∧ New w w' := by
  have n3 : New w (((w.alloc (.cells (b3 left) 164)).alloc (.cells (b3 fun _ => false) 164)).alloc (.cells (b3 fun _ => false) 164)) := (((New.refl w).alloc _).alloc _).alloc _
  have n12 := (New.refl (w.alloc (.cells (b3 left) 164))).alloc (.cells (b3 fun _ => false) 164)
  have e1 : (w.alloc (.cells (b3 left) 164)).heap.size = w.heap.size + 1 := by simp
  have e2 : ((w.alloc (.cells (b3 left) 164)).alloc (.cells (b3 fun _ => false) 164)).heap.size = w.heap.size + 1 + 1 := by simp
  have g1 : B3 (w.alloc (.cells (b3 left) 164)) w.heap.size 164 left := heap_alloc_new w _
  have g2 : B3 ((w.alloc (.cells (b3 left) 164)).alloc (.cells (b3 fun _ => false) 164)) (w.heap.size + 1) 164 (fun _ => false) := by rw [← e1]; exact heap_alloc_new _ _
  have g3 : B3 (((w.alloc (.cells (b3 left) 164)).alloc (.cells (b3 fun _ => false) 164)).alloc (.cells (b3 fun _ => false) 164)) (w.heap.size + 1 + 1) 164 (fun _ => false) := by rw [← e2]; exact heap_alloc_new _ _
  have HST : Hid (ShI w (((w.alloc (.cells (b3 left) 164)).alloc (.cells (b3 fun _ => false) 164)).alloc (.cells (b3 fun _ => false) 164)) n R left i p 0) := Lib.hid ⟨n3, (g1.stay ((New.refl _).alloc _)).stay ((New.refl _).alloc _), g2.stay ((New.refl _).alloc _), g3.congr (fun j _ => by unfold shK; simp)⟩
  have HR := Lib.hid h
  clear n3 n12 e1 e2 g1 g2 g3 h
  go_enter Tryz.func171, Tryz.ntmps171
  go_wp2
  go_loopw [14] (fun iv wr => ∃ k : Nat, k ≤ n ∧ iv = .int .i64 (k : Int) ∧ Hid (ShI w wr n R left i p k)) (fun iv _ => n - (intOf iv).toNat)
  case atStart => exact ⟨0, Nat.zero_le _, rfl, HST⟩
  case round =>
    obtain ⟨k, hk, rfl, HI⟩ := hrel
    clear HST
    by_cases hlt : (k : Int) < (n : Int)
    · have hk0 : (0 : Int) ≤ (k : Int) := by omega
      have hk3 : (k : Int) < 3 := by omega
      have hi0 : (0 : Int) ≤ (i : Int) := by omega
      have hin : (i : Int) < (n : Int) := by omega
      have hp0 : (0 : Int) ≤ (p : Int) := by omega
      have hpm : (p : Int) < (m : Int) := by omega
      have hr := HR.out.stay HI.out.new
      obtain ⟨a1, c1, f1, z1⟩ := hr.get (show k < n by omega)
      obtain ⟨a2, c2, f2, z2⟩ := hr.get hi
      obtain ⟨p1, o1, rfl, d1⟩ := z1.addr (by omega)
      obtain ⟨p2, o2, rfl, d2⟩ := z2.addr (by omega)
      replace d1 := d1 p hp
      replace d2 := d2 p hp
      have l0 := HI.out.lf.at (show k < 3 by omega)
      have u0 := HI.out.ou.at (show k < 3 by omega)
      have uf := HI.out.ou.free
      obtain ⟨x, hx⟩ : ∃ x, (R k).getD p 0 = x := ⟨_, rfl⟩
      obtain ⟨y, hy⟩ : ∃ y, (R i).getD p 0 = y := ⟨_, rfl⟩
      rw [hx] at d1
      rw [hy] at d2
      have HSH : Hid (shF n R left i p k = (left k && decide (x = y))) := Lib.hid (by unfold shF; rw [hx, hy, decide_eq_true (by omega), Bool.true_and])
      clear hr z1 z2 hx hy
      rcases hlk : left k with _ | _
      · rw [hlk] at l0
        have HN := Lib.hid (HI.out.next (show k < 3 by omega) false (by rw [HSH.out, hlk]; rfl))
        have HD := Lib.hid HN.out.drew
        clear d1 d2 f2
        go_wp2
        go_region
        go_wp2
        first
          | exact ⟨⟨k + 1, by omega, by go_num, HN⟩, by simp [intOf]; omega⟩
          | exact ⟨⟨k + 1, by omega, by go_num, HD⟩, by simp [intOf]; omega⟩
      · rw [hlk] at l0
        by_cases hxy : x = y
        · subst hxy
          have hb : (x == x) = true := by simp
          have HN := Lib.hid (HI.out.next (show k < 3 by omega) true (by rw [HSH.out, hlk]; simp))
          have HD := Lib.hid HN.out.drew
          go_wp2
          go_region
          go_wp2
          first
            | exact ⟨⟨k + 1, by omega, by go_num, HN⟩, by simp [intOf]; omega⟩
            | exact ⟨⟨k + 1, by omega, by go_num, HD⟩, by simp [intOf]; omega⟩
        · have hb : (x == y) = false := by rw [beq_eq_false_iff_ne]; exact hxy
          have HN := Lib.hid (HI.out.next (show k < 3 by omega) false (by rw [HSH.out, hlk, decide_eq_false hxy]; rfl))
          have HD := Lib.hid HN.out.drew
          go_wp2
          go_region
          go_wp2
          first
            | exact ⟨⟨k + 1, by omega, by go_num, HN⟩, by simp [intOf]; omega⟩
            | exact ⟨⟨k + 1, by omega, by go_num, HD⟩, by simp [intOf]; omega⟩
    · obtain rfl : k = n := by omega
      have ho := HI.out.ou.congr (f' := shF k R left i p) (fun j _ => by unfold shK shF; by_cases e : j < k <;> simp [e])
      have hrs := HI.out.rs
      obtain ⟨u0, u1, u2⟩ := ho.c
      obtain ⟨r0, r1, r2⟩ := hrs.c
      have rf := hrs.free
      have HN := Lib.hid HI.out.new
      obtain ⟨f, hf⟩ : ∃ f, shF k R left i p = f := ⟨_, rfl⟩
      rw [hf] at u0 u1 u2
      have HF := Lib.hid hf
      clear ho hrs hf HI
      go_wp2
      refine bodyPost_ret (by simp [results, Tryz.results171, go_sem, r0, r1, r2]; try rfl) rfl ?_
      rw [HF.out]
      exact ⟨rfl, ((HN.out.setCell (by show w.heap.size ≤ w.heap.size + 1; omega) _).setCell (by show w.heap.size ≤ w.heap.size + 1; omega) _).setCell (by show w.heap.size ≤ w.heap.size + 1; omega) _⟩
end Go.Proofs.YtebcfbcfipmahaaGreat
end
section
/- Layer 22: equal rows. -/
namespace Go.Proofs.YtebcfbcfipmahaaGreat
open Go Go.RowKit Go.Bv
set_option linter.unusedVariables false
set_option maxRecDepth 100000
theorem eq_to {la lb : List Int} (hl : la.length = lb.length) (h : ∀ i, i < la.length → la.getD i 0 = lb.getD i 0) : (la == lb) = true := by
  rw [beq_iff_eq]
  refine List.ext_getElem hl fun i h1 h2 => ?_
  have := h i h1
  rw [List.getD_eq_getElem?_getD, List.getD_eq_getElem?_getD, List.getElem?_eq_getElem h1, List.getElem?_eq_getElem h2] at this
  exact this
theorem ne_at {la lb : List Int} {i : Nat} (h : la.getD i 0 ≠ lb.getD i 0) : (la == lb) = false := by
  rw [beq_eq_false_iff_ne]; intro e; rw [e] at h; exact h rfl
set_option maxHeartbeats 4000000 in
theorem equal_any (a b : Option Addr) (m ca cb : Nat) (la lb : List Int) (w : World) (ha : ZRow w a m ca la) (hb : ZRow w b m cb lb) :
    Calls Tryz.prog 160 #[.slice a m ca, .slice b m cb] w fun e w' => e = .returned (.bool (la == lb)) ∧ New w w' := by
  have hla := ha.len_eq
  have hlb := hb.len_eq
  have hmost := ha.most
  have HA := Lib.hid ha
  have HB := Lib.hid hb
  clear ha hb
  go_enter Tryz.func160, Tryz.ntmps160
  go_wp2
  go_loopw [9] (fun iv wr => ∃ k : Nat, k ≤ m ∧ iv = .int .i64 (k : Int) ∧ New w wr ∧ Hid (∀ j, j < k → la.getD j 0 = lb.getD j 0)) (fun iv _ => m - (intOf iv).toNat)
  case atStart => exact ⟨0, Nat.zero_le _, rfl, by first | exact New.refl _ | exact (New.refl _).drew, Lib.hid (fun j hj => absurd hj (by omega))⟩
  case round =>
    obtain ⟨k, hk, rfl, hnew, HE⟩ := hrel
    by_cases hlt : (k : Int) < (m : Int)
    · have hk0 : (0 : Int) ≤ (k : Int) := by omega
      obtain ⟨p1, o1, rfl, d1⟩ := (HA.out.stay hnew).addr (by omega)
      obtain ⟨p2, o2, rfl, d2⟩ := (HB.out.stay hnew).addr (by omega)
      replace d1 := d1 k (by omega)
      replace d2 := d2 k (by omega)
      have HN := Lib.hid hnew
      obtain ⟨x, hx⟩ : ∃ x, la.getD k 0 = x := ⟨_, rfl⟩
      obtain ⟨y, hy⟩ : ∃ y, lb.getD k 0 = y := ⟨_, rfl⟩
      rw [hx] at d1
      rw [hy] at d2
      have HX := Lib.hid hx
      have HY := Lib.hid hy
      clear hx hy hnew
      by_cases hxy : x = y
      · subst hxy
        have hb : (x != x) = false := by simp
        have HE2 : Hid (∀ j, j < k + 1 → la.getD j 0 = lb.getD j 0) := Lib.hid (fun j hj => by
          by_cases e : j = k
          · subst e; rw [HX.out, HY.out]
          · exact HE.out j (by omega))
        go_wp2
        exact ⟨⟨k + 1, by omega, by go_num, HN.out, HE2⟩, by simp [intOf]; omega⟩
      · have hb : (x != y) = true := by rw [bne_iff_ne]; exact hxy
        have HF := Lib.hid (ne_at (la := la) (lb := lb) (i := k) (by rw [HX.out, HY.out]; exact hxy))
        go_wp2
        go_ret
        rw [HF.out]
        exact ⟨rfl, HN.out⟩
    · obtain rfl : k = m := by omega
      have HF := Lib.hid (eq_to (by omega) (fun j hj => HE.out j (by omega)) : (la == lb) = true)
      go_wp2
      go_ret
      rw [HF.out]
      exact ⟨rfl, hnew⟩
end Go.Proofs.YtebcfbcfipmahaaGreat
end
section
/- A row of words in a block of its own, that is written by index. -/
namespace Go.Proofs.YtebcfbcfipmahaaGreat
open Go.RowKit Go.Bv
set_option linter.unusedVariables false
def CR (w : World) (g n : Nat) (l : Nat → BitVec 64) : Prop := ∃ cs : Array Value, w.heap[g]? = some (.cells cs 31 (0, 0)) ∧ n ≤ cs.size ∧ ∀ j, j < n → cs[j]? = some (.int .u64 (W64 (l j)))
theorem CR.stay {w w' : World} {g n : Nat} {l : Nat → BitVec 64} (h : CR w g n l) (hn : New w w') : CR w' g n l := by
  obtain ⟨cs, h1, h2, h3⟩ := h
  exact ⟨cs, (hn.block _ (lt_of_block h1)).trans h1, h2, h3⟩
theorem CR.get {w : World} {g n : Nat} {l : Nat → BitVec 64} (h : CR w g n l) {v : Nat} (hv : v < n) : w.cell? ⟨g, v, none⟩ = some (.int .u64 (W64 (l v))) ∧ w.frozen? ⟨g, v, none⟩ = false := by
  obtain ⟨cs, h1, h2, h3⟩ := h
  exact ⟨(cell_of_row _ _ _ _ _ _ h1).trans (h3 v hv), frozen_of_row _ _ _ _ _ h1⟩
theorem CR.put {w : World} {g n : Nat} {l l' : Nat → BitVec 64} (h : CR w g n l) {v : Nat} (hv : v < n) (x : BitVec 64) (he : l' v = x) (ho : ∀ j, j < n → j ≠ v → l' j = l j) : CR (w.setCell ⟨g, v, none⟩ (.int .u64 (W64 x))) g n l' := by
  obtain ⟨cs, h1, h2, h3⟩ := h
  refine ⟨_, heap_setCell_same w g v cs _ (.int .u64 (W64 x)) h1, by rw [Array.size_setIfInBounds]; exact h2, fun j hj => ?_⟩
  rw [Array.getElem?_setIfInBounds]
  by_cases e : v = j
  · subst e
    rw [if_pos rfl, if_pos (by omega), he]
  · rw [if_neg e, h3 j hj, ho j hj (Ne.symm e)]
theorem CR.keep {w : World} {g n b i : Nat} {l : Nat → BitVec 64} (h : CR w g n l) (hb : g ≠ b) (v : Value) : CR (w.setCell ⟨b, i, none⟩ v) g n l := by
  obtain ⟨cs, h1, h2, h3⟩ := h
  exact ⟨cs, (heap_setCell_other _ _ _ _ hb).trans h1, h2, h3⟩
theorem CR.congr {w : World} {g n : Nat} {l l' : Nat → BitVec 64} (h : CR w g n l) (he : ∀ j, j < n → l' j = l j) : CR w g n l' := by
  obtain ⟨cs, h1, h2, h3⟩ := h
  exact ⟨cs, h1, h2, fun j hj => by rw [he j hj]; exact h3 j hj⟩
theorem CR.lt {w : World} {g n : Nat} {l : Nat → BitVec 64} (h : CR w g n l) : g < w.heap.size := by
  obtain ⟨cs, h1, _⟩ := h
  exact lt_of_block h1
theorem CR.row {w : World} {g n c : Nat} {l : Nat → BitVec 64} (h : CR w g n l) (hn : n ≤ 17592186044416) (hc : n ≤ c) (hc2 : c ≤ 9223372036854775807) : QRow w (some ⟨g, 0, none⟩) n c ((List.range n).map l) where
  len_eq := by simp
  le := hc
  most := hn
  room := hc2
  none := fun e => by cases e
  cell := fun b off e i hi => by
    cases e
    rw [Nat.zero_add, (h.get hi).1]
    simp [List.getD_eq_getElem?_getD, List.getElem?_map, List.getElem?_range hi]
  spot := fun x e _ => by cases e; rfl
  old := fun x e _ => by cases e; exact h.lt
theorem info_cr : (Tryz.prog.info? 31).map (fun i => (i.zero, i.size, i.bytes)) = some (some (.int .u64 0), 1, 8) := by kernel_rfl
theorem zeros_cr (n : Nat) : (madeCells #[Value.int .u64 0] n).size = n ∧ ∀ j, j < n → (madeCells #[Value.int .u64 0] n)[j]? = some (.int .u64 (W64 0#64)) := by
  refine ⟨size_madeCells _ _, fun j hj => ?_⟩
  rw [← Array.getElem?_toList, toList_madeCells_one, List.getElem?_replicate, if_pos hj, W64_lit 0 (by omega)]
  rfl
end Go.Proofs.YtebcfbcfipmahaaGreat
end
