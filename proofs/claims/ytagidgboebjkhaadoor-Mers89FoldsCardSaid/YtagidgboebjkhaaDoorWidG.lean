/- The contract of wide.Full: for all numbers of two words. -/
import Derived.Test.YtagidgboebjkhaaDoorWidQ
import Derived.BigQuiet
namespace Go.Bv
open Go Go.RowKit
def mac (x y p c : BitVec 64) : Nat := x.toNat * y.toNat + p.toNat + c.toNat
theorem mac_bound (x y p c : BitVec 64) : mac x y p c < 340282366920938463463374607431768211456 := by
  have hx := x.isLt
  have hy := y.isLt
  have hp := p.isLt
  have hc := c.isLt
  have h : x.toNat * y.toNat ≤ 18446744073709551615 * 18446744073709551615 := Nat.mul_le_mul (by omega) (by omega)
  unfold mac
  omega
theorem mac_lo (x y p c : BitVec 64) : loN ((loN ((loN (x.toNat * y.toNat)).toNat + p.toNat)).toNat + c.toNat) = loN (mac x y p c) := by
  unfold mac loN
  apply BitVec.eq_of_toNat_eq
  rw [BitVec.toNat_ofNat, BitVec.toNat_ofNat, BitVec.toNat_ofNat, BitVec.toNat_ofNat]
  omega
theorem mac_hi (x y p c : BitVec 64) : hiN (x.toNat * y.toNat) + hiN ((loN (x.toNat * y.toNat)).toNat + p.toNat) + hiN ((loN ((loN (x.toNat * y.toNat)).toNat + p.toNat)).toNat + c.toNat) = hiN (mac x y p c) := by
  have hb := mac_bound x y p c
  unfold mac at hb
  unfold mac loN hiN
  apply BitVec.eq_of_toNat_eq
  rw [BitVec.toNat_add, BitVec.toNat_add, BitVec.toNat_ofNat, BitVec.toNat_ofNat, BitVec.toNat_ofNat, BitVec.toNat_ofNat, BitVec.toNat_ofNat, BitVec.toNat_ofNat]
  have hp := p.isLt
  have hc := c.isLt
  generalize x.toNat * y.toNat = m at *
  omega
theorem lh_parts (N : Nat) (h : N < 340282366920938463463374607431768211456) : N = 2 ^ 64 * (hiN N).toNat + (loN N).toNat ∧ (loN N).toNat < 2 ^ 64 := by
  unfold hiN loN
  rw [BitVec.toNat_ofNat, BitVec.toNat_ofNat]
  omega
theorem full_eq (k x0 x1 y0 y1 h0 l0 h1 l1 h2 l2 h3 l3 : Nat) (e0 : x0 * y0 = k * h0 + l0) (e1 : x0 * y1 + h0 = k * h1 + l1) (e2 : x1 * y0 + l1 = k * h2 + l2) (e3 : x1 * y1 + h1 + h2 = k * h3 + l3) :
    (x1 * k + x0) * (y1 * k + y0) = k * (k * (k * h3 + l3) + l2) + l0 := by grind
/-- the words of a product -/
theorem full_words (x0 x1 y0 y1 p0 c0 p1 c1 q1 c2 q2 c3 : BitVec 64) (hp0 : p0 = loN (mac x0 y0 0#64 0#64)) (hc0 : c0 = hiN (mac x0 y0 0#64 0#64)) (hp1 : p1 = loN (mac x0 y1 0#64 c0)) (hc1 : c1 = hiN (mac x0 y1 0#64 c0))
    (hq1 : q1 = loN (mac x1 y0 p1 0#64)) (hc2 : c2 = hiN (mac x1 y0 p1 0#64)) (hq2 : q2 = loN (mac x1 y1 c1 c2)) (hc3 : c3 = hiN (mac x1 y1 c1 c2)) :
    p0 = BitVec.ofNat 64 (two x1 x0 * two y1 y0) ∧ q1 = BitVec.ofNat 64 (two x1 x0 * two y1 y0 / 2 ^ 64) ∧ q2 = BitVec.ofNat 64 (two x1 x0 * two y1 y0 / 2 ^ 128) ∧ c3 = BitVec.ofNat 64 (two x1 x0 * two y1 y0 / 2 ^ 192) := by
  obtain ⟨e0, b0⟩ := lh_parts _ (mac_bound x0 y0 0#64 0#64)
  obtain ⟨e1, b1⟩ := lh_parts _ (mac_bound x0 y1 0#64 c0)
  obtain ⟨e2, b2⟩ := lh_parts _ (mac_bound x1 y0 p1 0#64)
  obtain ⟨e3, b3⟩ := lh_parts _ (mac_bound x1 y1 c1 c2)
  rw [← hp0, ← hc0] at e0
  rw [← hp1, ← hc1] at e1
  rw [← hq1, ← hc2] at e2
  rw [← hq2, ← hc3] at e3
  rw [← hp0] at b0
  rw [← hq1] at b2
  rw [← hq2] at b3
  unfold mac at e0 e1 e2 e3
  rw [show (0#64).toNat = 0 from rfl] at e0 e1 e2
  simp only [Nat.add_zero] at e0 e1 e2
  have hN := full_eq (2 ^ 64) _ _ _ _ _ _ _ _ _ _ _ _ e0 e1 e2 e3
  have hN : two x1 x0 * two y1 y0 = 2 ^ 64 * (2 ^ 64 * (2 ^ 64 * c3.toNat + q2.toNat) + q1.toNat) + p0.toNat := hN
  have d1 : two x1 x0 * two y1 y0 / 2 ^ 64 = 2 ^ 64 * (2 ^ 64 * c3.toNat + q2.toNat) + q1.toNat := by
    rw [hN, Nat.mul_add_div (Nat.two_pow_pos 64), Nat.div_eq_of_lt b0, Nat.add_zero]
  have d2 : two x1 x0 * two y1 y0 / 2 ^ 128 = 2 ^ 64 * c3.toNat + q2.toNat := by
    rw [show (2 : Nat) ^ 128 = 2 ^ 64 * 2 ^ 64 from by rw [← Nat.pow_add], ← Nat.div_div_eq_div_mul, d1, Nat.mul_add_div (Nat.two_pow_pos 64), Nat.div_eq_of_lt b2, Nat.add_zero]
  have d3 : two x1 x0 * two y1 y0 / 2 ^ 192 = c3.toNat := by
    rw [show (2 : Nat) ^ 192 = 2 ^ 128 * 2 ^ 64 from by rw [← Nat.pow_add], ← Nat.div_div_eq_div_mul, d2, Nat.mul_add_div (Nat.two_pow_pos 64), Nat.div_eq_of_lt b3, Nat.add_zero]
  refine ⟨?_, ?_, ?_, ?_⟩
  · apply BitVec.eq_of_toNat_eq
    rw [BitVec.toNat_ofNat, hN, Nat.mul_add_mod, Nat.mod_eq_of_lt b0]
  · apply BitVec.eq_of_toNat_eq
    rw [BitVec.toNat_ofNat, d1, Nat.mul_add_mod, Nat.mod_eq_of_lt b2]
  · apply BitVec.eq_of_toNat_eq
    rw [BitVec.toNat_ofNat, d2, Nat.mul_add_mod, Nat.mod_eq_of_lt b3]
  · apply BitVec.eq_of_toNat_eq
    rw [BitVec.toNat_ofNat, d3, Nat.mod_eq_of_lt c3.isLt]
theorem six_blocks (w : World) (A B C D E F : Obj) : let v := (((((w.alloc A).alloc B).alloc C).alloc D).alloc E).alloc F
    v.heap[w.heap.size + 1 + 1]? = some C ∧ v.heap[w.heap.size + 1 + 1 + 1]? = some D ∧ v.heap[w.heap.size + 1 + 1 + 1 + 1]? = some E ∧ v.heap[w.heap.size + 1 + 1 + 1 + 1 + 1]? = some F ∧ New w v := by
  have e2 : ((w.alloc A).alloc B).heap.size = w.heap.size + 1 + 1 := by simp
  have e3 : (((w.alloc A).alloc B).alloc C).heap.size = w.heap.size + 1 + 1 + 1 := by simp
  generalize hw2 : (w.alloc A).alloc B = w2 at e2 e3 ⊢
  have hn : New w w2 := by rw [← hw2]; exact ((New.refl w).alloc _).alloc _
  obtain ⟨h1, h2, h3, h4⟩ := three_blocks (w2.alloc C) D E F
  rw [e3] at h1 h2 h3
  refine ⟨?_, h1, h2, h3, (hn.alloc C).trans h4⟩
  rw [h4.block _ (by rw [e3]; omega), ← e2]
  exact heap_alloc_new _ _
end Go.Bv
namespace Go.Proofs.YtagidgboebjkhaaDoor
open Go.RowKit Go.Bv
set_option linter.unusedVariables false
theorem mul64_run (x y : BitVec 64) (w : World) : Calls Tryd.prog 56 #[.int .u64 (W64 x), .int .u64 (W64 y)] w fun e w' => e = .returned (.tuple #[.int .u64 (W64 (hiN (x.toNat * y.toNat))), .int .u64 (W64 (loN (x.toNat * y.toNat)))]) ∧ w' = w := by
  have hx := x.isLt
  have hy := y.isLt
  have h := Tryd.bits_Mul64 x.toNat y.toNat hx hy w
  have hl : x.toNat * y.toNat / 18446744073709551616 < 18446744073709551616 := by
    rw [Nat.div_lt_iff_lt_mul (by omega)]
    exact Nat.mul_lt_mul_of_lt_of_lt hx hy
  have e1 : ((x.toNat * y.toNat / 18446744073709551616 : Nat) : Int) = W64 (hiN (x.toNat * y.toNat)) := by
    unfold W64 hiN; rw [BitVec.toNat_ofNat, Nat.mod_eq_of_lt hl]
  have e2 : ((x.toNat * y.toNat % 18446744073709551616 : Nat) : Int) = W64 (loN (x.toNat * y.toNat)) := by
    unfold W64 loN; rw [BitVec.toNat_ofNat]
  rw [e1, e2] at h
  exact h
/-- one step of a long product: how it runs -/
def MacRun (x y p c q d : BitVec 64) : Prop := ∃ u v a o1 o2 : BitVec 64,
  (∀ w, Calls Tryd.prog 56 #[.int .u64 (W64 x), .int .u64 (W64 y)] w fun e w' => e = .returned (.tuple #[.int .u64 (W64 u), .int .u64 (W64 v)]) ∧ w' = w) ∧
  (∀ w, (callFunc 40 #[.int .u64 (W64 v), .int .u64 (W64 p), .int .u64 0]).run Tryd.prog w = .ok (.value (.tuple #[.int .u64 (W64 a), .int .u64 (W64 o1)])) w) ∧
  (∀ w, (callFunc 40 #[.int .u64 (W64 a), .int .u64 (W64 c), .int .u64 0]).run Tryd.prog w = .ok (.value (.tuple #[.int .u64 (W64 q), .int .u64 (W64 o2)])) w) ∧
  u + o1 + o2 = d
theorem mac_run (x y p c : BitVec 64) : MacRun x y p c (loN (mac x y p c)) (hiN (mac x y p c)) := by
  refine ⟨_, _, _, _, _, mul64_run x y, add64_run0 (loN (x.toNat * y.toNat)) p, ?_, mac_hi x y p c⟩
  intro w
  rw [← mac_lo]
  exact add64_run0 _ c w
/-- the boxes of Full: the result, both factors, the product so far -/
def FS (b : Nat) (x0 x1 y0 y1 : BitVec 64) (W wr : World) (cs : Array Value) : Prop :=
  wr.heap[b + 1 + 1]? = some (.cells #[.int .u64 0, .int .u64 0, .int .u64 0, .int .u64 0] 24 (0, 0)) ∧ wr.heap[b + 1 + 1 + 1]? = some (.cells #[.int .u64 (W64 x0), .int .u64 (W64 x1)] 93 (0, 0)) ∧
  wr.heap[b + 1 + 1 + 1 + 1]? = some (.cells #[.int .u64 (W64 y0), .int .u64 (W64 y1)] 93 (0, 0)) ∧ wr.heap[b + 1 + 1 + 1 + 1 + 1]? = some (.cells cs 24 (0, 0)) ∧ New W wr
theorem FS.set {b : Nat} {x0 x1 y0 y1 : BitVec 64} {W wr : World} {cs : Array Value} (h : FS b x0 x1 y0 y1 W wr cs) (hb : W.heap.size = b) (k : Nat) (v : Value) : FS b x0 x1 y0 y1 W (wr.setCell ⟨b + 1 + 1 + 1 + 1 + 1, k, none⟩ v) (cs.setIfInBounds k v) := by
  obtain ⟨h1, h2, h3, h4, h5⟩ := h
  exact ⟨(heap_setCell_other _ _ _ _ (by show b + 1 + 1 ≠ b + 1 + 1 + 1 + 1 + 1; omega)).trans h1, (heap_setCell_other _ _ _ _ (by show b + 1 + 1 + 1 ≠ b + 1 + 1 + 1 + 1 + 1; omega)).trans h2,
    (heap_setCell_other _ _ _ _ (by show b + 1 + 1 + 1 + 1 ≠ b + 1 + 1 + 1 + 1 + 1; omega)).trans h3, heap_setCell_same _ _ _ _ _ _ h4, h5.setCell (by show _ ≤ b + 1 + 1 + 1 + 1 + 1; omega) _⟩
theorem FS.drewN {b : Nat} {x0 x1 y0 y1 : BitVec 64} {W wr : World} {cs : Array Value} (h : FS b x0 x1 y0 y1 W wr cs) (n : Nat) : FS b x0 x1 y0 y1 W (wr.drewN n) cs :=
  ⟨h.1, h.2.1, h.2.2.1, h.2.2.2.1, h.2.2.2.2.drewN n⟩
set_option maxHeartbeats 4000000 in
theorem full_try (x0 x1 y0 y1 z p0 c0 p1 c1 q1 c2 q2 c3 : BitVec 64) (hz : W64 z = 0) (m0 : MacRun x0 y0 z z p0 c0) (m1 : MacRun x0 y1 z c0 p1 c1) (m2 : MacRun x1 y0 p1 z q1 c2) (m3 : MacRun x1 y1 c1 c2 q2 c3) (w : World) :
    Calls Tryd.prog 49 #[.agg #[.int .u64 (W64 x1), .int .u64 (W64 x0)], .agg #[.int .u64 (W64 y1), .int .u64 (W64 y0)]] w fun e w' =>
      e = .returned (.agg #[.int .u64 (W64 p0), .int .u64 (W64 q1), .int .u64 (W64 q2), .int .u64 (W64 c3)]) ∧ New w w' := by
  have M0 := Lib.hid m0
  have M1 := Lib.hid m1
  have M2 := Lib.hid m2
  have M3 := Lib.hid m3
  have HZ := Lib.hid hz
  clear m0 m1 m2 m3 hz
  have HS := Lib.hid (six_blocks w (.cells #[.int .u64 (W64 x1), .int .u64 (W64 x0)] 26) (.cells #[.int .u64 (W64 y1), .int .u64 (W64 y0)] 26) (.cells #[.int .u64 0, .int .u64 0, .int .u64 0, .int .u64 0] 24) (.cells #[.int .u64 (W64 x0), .int .u64 (W64 x1)] 93) (.cells #[.int .u64 (W64 y0), .int .u64 (W64 y1)] 93) (.cells #[.int .u64 0, .int .u64 0, .int .u64 0, .int .u64 0] 24))
  go_enter Tryd.func49, Tryd.ntmps49
  go_wp2
  go_loopw [24] (fun i wr => (i = .int .i64 0 ∧ FS w.heap.size x0 x1 y0 y1 w wr #[.int .u64 (W64 z), .int .u64 (W64 z), .int .u64 (W64 z), .int .u64 (W64 z)]) ∨ (i = .int .i64 1 ∧ FS w.heap.size x0 x1 y0 y1 w wr #[.int .u64 (W64 p0), .int .u64 (W64 p1), .int .u64 (W64 c1), .int .u64 (W64 z)]) ∨ (i = .int .i64 2 ∧ FS w.heap.size x0 x1 y0 y1 w wr #[.int .u64 (W64 p0), .int .u64 (W64 q1), .int .u64 (W64 q2), .int .u64 (W64 c3)])) (fun i _ => 2 - (intOf i).toNat)
  case atStart => exact Or.inl ⟨rfl, by rw [HZ.out]; exact HS.out⟩
  case round =>
    clear HS
    rcases hrel with ⟨rfl, hs⟩ | ⟨rfl, hs⟩ | ⟨rfl, hs⟩
    · go_wp2
      go_loopw [9, 27] (fun C J wr => (J = .int .i64 0 ∧ C = .int .u64 (W64 z) ∧ FS w.heap.size x0 x1 y0 y1 w wr #[.int .u64 (W64 z), .int .u64 (W64 z), .int .u64 (W64 z), .int .u64 (W64 z)]) ∨ (J = .int .i64 1 ∧ C = .int .u64 (W64 c0) ∧ FS w.heap.size x0 x1 y0 y1 w wr #[.int .u64 (W64 p0), .int .u64 (W64 z), .int .u64 (W64 z), .int .u64 (W64 z)]) ∨ (J = .int .i64 2 ∧ C = .int .u64 (W64 c1) ∧ FS w.heap.size x0 x1 y0 y1 w wr #[.int .u64 (W64 p0), .int .u64 (W64 p1), .int .u64 (W64 z), .int .u64 (W64 z)])) (fun _ J _ => 2 - (intOf J).toNat)
      case atStart => exact Or.inl ⟨rfl, by rw [HZ.out], hs⟩
      case round =>
        clear hs
        rcases hrel with ⟨rfl, rfl, hs⟩ | ⟨rfl, rfl, hs⟩ | ⟨rfl, rfl, hs⟩
        · obtain ⟨u, v, a, o1, o2, r1, r2, r3, HD⟩ := M0.out
          have R1 := Lib.hid r1
          clear r1
          have gx : wr.cell? ⟨w.heap.size + 1 + 1 + 1, 0, none⟩ = some (.int .u64 (W64 x0)) := by rw [cell_of_row _ _ _ _ _ _ hs.2.1]; rfl
          have gy : wr.cell? ⟨w.heap.size + 1 + 1 + 1 + 1, 0, none⟩ = some (.int .u64 (W64 y0)) := by rw [cell_of_row _ _ _ _ _ _ hs.2.2.1]; rfl
          have HB := Lib.hid hs
          clear hs
          go_wp2_with fail
          go_quiet (first | (go_at_call 56; refine Calls.quiet_of_same (R1.out _)))
          have gp : (wr.drewN nq).cell? ⟨w.heap.size + 1 + 1 + 1 + 1 + 1, 0, none⟩ = some (.int .u64 (W64 z)) := by show wr.cell? _ = _; rw [cell_of_row _ _ _ _ _ _ HB.out.2.2.2.1]; rfl
          have gf : (wr.drewN nq).frozen? ⟨w.heap.size + 1 + 1 + 1 + 1 + 1, 0, none⟩ = false := frozen_of_row wr _ 0 _ _ HB.out.2.2.2.1
          have HE := Lib.hid (FS.set (HB.out.drewN nq) rfl 0 (.int .u64 (W64 p0)))
          clear HB gx gy
          go_wp2
          exact ⟨Or.inr (Or.inl ⟨rfl, rfl, HE.out⟩), by simp [intOf]⟩
        · obtain ⟨u, v, a, o1, o2, r1, r2, r3, HD⟩ := M1.out
          have R1 := Lib.hid r1
          clear r1
          have gx : wr.cell? ⟨w.heap.size + 1 + 1 + 1, 0, none⟩ = some (.int .u64 (W64 x0)) := by rw [cell_of_row _ _ _ _ _ _ hs.2.1]; rfl
          have gy : wr.cell? ⟨w.heap.size + 1 + 1 + 1 + 1, 1, none⟩ = some (.int .u64 (W64 y1)) := by rw [cell_of_row _ _ _ _ _ _ hs.2.2.1]; rfl
          have HB := Lib.hid hs
          clear hs
          go_wp2_with fail
          go_quiet (first | (go_at_call 56; refine Calls.quiet_of_same (R1.out _)))
          have gp : (wr.drewN nq).cell? ⟨w.heap.size + 1 + 1 + 1 + 1 + 1, 1, none⟩ = some (.int .u64 (W64 z)) := by show wr.cell? _ = _; rw [cell_of_row _ _ _ _ _ _ HB.out.2.2.2.1]; rfl
          have gf : (wr.drewN nq).frozen? ⟨w.heap.size + 1 + 1 + 1 + 1 + 1, 1, none⟩ = false := frozen_of_row wr _ 1 _ _ HB.out.2.2.2.1
          have HE := Lib.hid (FS.set (HB.out.drewN nq) rfl 1 (.int .u64 (W64 p1)))
          clear HB gx gy
          go_wp2
          exact ⟨Or.inr (Or.inr ⟨rfl, rfl, HE.out⟩), by simp [intOf]⟩
        · have gf : wr.frozen? ⟨w.heap.size + 1 + 1 + 1 + 1 + 1, 2, none⟩ = false := frozen_of_row wr _ 2 _ _ hs.2.2.2.1
          have gp : wr.cell? ⟨w.heap.size + 1 + 1 + 1 + 1 + 1, 2, none⟩ = some (.int .u64 (W64 z)) := by rw [cell_of_row _ _ _ _ _ _ hs.2.2.2.1]; rfl
          have HE := Lib.hid (FS.set hs rfl 2 (.int .u64 (W64 c1)))
          clear hs
          go_wp2
          exact ⟨Or.inr (Or.inl ⟨rfl, HE.out⟩), by simp [intOf]⟩
    · go_wp2
      go_loopw [9, 27] (fun C J wr => (J = .int .i64 0 ∧ C = .int .u64 (W64 z) ∧ FS w.heap.size x0 x1 y0 y1 w wr #[.int .u64 (W64 p0), .int .u64 (W64 p1), .int .u64 (W64 c1), .int .u64 (W64 z)]) ∨ (J = .int .i64 1 ∧ C = .int .u64 (W64 c2) ∧ FS w.heap.size x0 x1 y0 y1 w wr #[.int .u64 (W64 p0), .int .u64 (W64 q1), .int .u64 (W64 c1), .int .u64 (W64 z)]) ∨ (J = .int .i64 2 ∧ C = .int .u64 (W64 c3) ∧ FS w.heap.size x0 x1 y0 y1 w wr #[.int .u64 (W64 p0), .int .u64 (W64 q1), .int .u64 (W64 q2), .int .u64 (W64 z)])) (fun _ J _ => 2 - (intOf J).toNat)
      case atStart => exact Or.inl ⟨rfl, by rw [HZ.out], hs⟩
      case round =>
        clear hs
        rcases hrel with ⟨rfl, rfl, hs⟩ | ⟨rfl, rfl, hs⟩ | ⟨rfl, rfl, hs⟩
        · obtain ⟨u, v, a, o1, o2, r1, r2, r3, HD⟩ := M2.out
          have R1 := Lib.hid r1
          clear r1
          have gx : wr.cell? ⟨w.heap.size + 1 + 1 + 1, 1, none⟩ = some (.int .u64 (W64 x1)) := by rw [cell_of_row _ _ _ _ _ _ hs.2.1]; rfl
          have gy : wr.cell? ⟨w.heap.size + 1 + 1 + 1 + 1, 0, none⟩ = some (.int .u64 (W64 y0)) := by rw [cell_of_row _ _ _ _ _ _ hs.2.2.1]; rfl
          have HB := Lib.hid hs
          clear hs
          go_wp2_with fail
          go_quiet (first | (go_at_call 56; refine Calls.quiet_of_same (R1.out _)))
          have gp : (wr.drewN nq).cell? ⟨w.heap.size + 1 + 1 + 1 + 1 + 1, 1, none⟩ = some (.int .u64 (W64 p1)) := by show wr.cell? _ = _; rw [cell_of_row _ _ _ _ _ _ HB.out.2.2.2.1]; rfl
          have gf : (wr.drewN nq).frozen? ⟨w.heap.size + 1 + 1 + 1 + 1 + 1, 1, none⟩ = false := frozen_of_row wr _ 1 _ _ HB.out.2.2.2.1
          have HE := Lib.hid (FS.set (HB.out.drewN nq) rfl 1 (.int .u64 (W64 q1)))
          clear HB gx gy
          go_wp2
          exact ⟨Or.inr (Or.inl ⟨rfl, rfl, HE.out⟩), by simp [intOf]⟩
        · obtain ⟨u, v, a, o1, o2, r1, r2, r3, HD⟩ := M3.out
          have R1 := Lib.hid r1
          clear r1
          have gx : wr.cell? ⟨w.heap.size + 1 + 1 + 1, 1, none⟩ = some (.int .u64 (W64 x1)) := by rw [cell_of_row _ _ _ _ _ _ hs.2.1]; rfl
          have gy : wr.cell? ⟨w.heap.size + 1 + 1 + 1 + 1, 1, none⟩ = some (.int .u64 (W64 y1)) := by rw [cell_of_row _ _ _ _ _ _ hs.2.2.1]; rfl
          have HB := Lib.hid hs
          clear hs
          go_wp2_with fail
          go_quiet (first | (go_at_call 56; refine Calls.quiet_of_same (R1.out _)))
          have gp : (wr.drewN nq).cell? ⟨w.heap.size + 1 + 1 + 1 + 1 + 1, 2, none⟩ = some (.int .u64 (W64 c1)) := by show wr.cell? _ = _; rw [cell_of_row _ _ _ _ _ _ HB.out.2.2.2.1]; rfl
          have gf : (wr.drewN nq).frozen? ⟨w.heap.size + 1 + 1 + 1 + 1 + 1, 2, none⟩ = false := frozen_of_row wr _ 2 _ _ HB.out.2.2.2.1
          have HE := Lib.hid (FS.set (HB.out.drewN nq) rfl 2 (.int .u64 (W64 q2)))
          clear HB gx gy
          go_wp2
          exact ⟨Or.inr (Or.inr ⟨rfl, rfl, HE.out⟩), by simp [intOf]⟩
        · have gf : wr.frozen? ⟨w.heap.size + 1 + 1 + 1 + 1 + 1, 3, none⟩ = false := frozen_of_row wr _ 3 _ _ hs.2.2.2.1
          have gp : wr.cell? ⟨w.heap.size + 1 + 1 + 1 + 1 + 1, 3, none⟩ = some (.int .u64 (W64 z)) := by rw [cell_of_row _ _ _ _ _ _ hs.2.2.2.1]; rfl
          have HE := Lib.hid (FS.set hs rfl 3 (.int .u64 (W64 c3)))
          clear hs
          go_wp2
          exact ⟨Or.inr (Or.inr ⟨rfl, HE.out⟩), by simp [intOf]⟩
    · obtain ⟨hR, _, _, hP, hN⟩ := hs
      have g0 : wr.cell? ⟨w.heap.size + 1 + 1 + 1 + 1 + 1, 0, none⟩ = some (.int .u64 (W64 p0)) := by rw [cell_of_row _ _ _ _ _ _ hP]; rfl
      have k0 : wr.cell? ⟨w.heap.size + 1 + 1, 0, none⟩ = some (.int .u64 0) := by rw [cell_of_row _ _ _ _ _ _ hR]; rfl
      have f0 := frozen_of_row wr (w.heap.size + 1 + 1) 0 _ _ hR
      have g1 : wr.cell? ⟨w.heap.size + 1 + 1 + 1 + 1 + 1, 1, none⟩ = some (.int .u64 (W64 q1)) := by rw [cell_of_row _ _ _ _ _ _ hP]; rfl
      have k1 : wr.cell? ⟨w.heap.size + 1 + 1, 1, none⟩ = some (.int .u64 0) := by rw [cell_of_row _ _ _ _ _ _ hR]; rfl
      have f1 := frozen_of_row wr (w.heap.size + 1 + 1) 1 _ _ hR
      have g2 : wr.cell? ⟨w.heap.size + 1 + 1 + 1 + 1 + 1, 2, none⟩ = some (.int .u64 (W64 q2)) := by rw [cell_of_row _ _ _ _ _ _ hP]; rfl
      have k2 : wr.cell? ⟨w.heap.size + 1 + 1, 2, none⟩ = some (.int .u64 0) := by rw [cell_of_row _ _ _ _ _ _ hR]; rfl
      have f2 := frozen_of_row wr (w.heap.size + 1 + 1) 2 _ _ hR
      have g3 : wr.cell? ⟨w.heap.size + 1 + 1 + 1 + 1 + 1, 3, none⟩ = some (.int .u64 (W64 c3)) := by rw [cell_of_row _ _ _ _ _ _ hP]; rfl
      have k3 : wr.cell? ⟨w.heap.size + 1 + 1, 3, none⟩ = some (.int .u64 0) := by rw [cell_of_row _ _ _ _ _ _ hR]; rfl
      have f3 := frozen_of_row wr (w.heap.size + 1 + 1) 3 _ _ hR
      have HN := Lib.hid hN
      clear hR hP hN
      go_wp2
      refine bodyPost_ret (by simp [results, Tryd.results49, go_sem, k0, k1, k2, k3]; try rfl) rfl ?_
      exact ⟨rfl, (((HN.out.setCell (by show _ ≤ w.heap.size + 1 + 1; omega) _).setCell (by show _ ≤ w.heap.size + 1 + 1; omega) _).setCell (by show _ ≤ w.heap.size + 1 + 1; omega) _).setCell (by show _ ≤ w.heap.size + 1 + 1; omega) _⟩
theorem wfull_two (a1 a0 b1 b0 : BitVec 64) (w : World) :
    Calls Tryd.prog 49 #[.agg #[.int .u64 (W64 a1), .int .u64 (W64 a0)], .agg #[.int .u64 (W64 b1), .int .u64 (W64 b0)]] w fun e w' =>
      e = .returned (.agg #[.int .u64 (W64 (BitVec.ofNat 64 (two a1 a0 * two b1 b0))), .int .u64 (W64 (BitVec.ofNat 64 (two a1 a0 * two b1 b0 / 2 ^ 64))), .int .u64 (W64 (BitVec.ofNat 64 (two a1 a0 * two b1 b0 / 2 ^ 128))), .int .u64 (W64 (BitVec.ofNat 64 (two a1 a0 * two b1 b0 / 2 ^ 192)))]) ∧ New w w' := by
  obtain ⟨e0, e1, e2, e3⟩ := full_words a0 a1 b0 b1 _ _ _ _ _ _ _ _ rfl rfl rfl rfl rfl rfl rfl rfl
  rw [← e0, ← e1, ← e2, ← e3]
  exact full_try a0 a1 b0 b1 0#64 _ _ _ _ _ _ _ _ lo_zero (mac_run _ _ _ _) (mac_run _ _ _ _) (mac_run _ _ _ _) (mac_run _ _ _ _) w
end Go.Proofs.YtagidgboebjkhaaDoor
