/- Contracts of the document's own Mul and To4: for all lists of bits. -/
import Derived.Test.YtepphoncljlkoaaBitB
import Derived.Test.YtepphoncljlkoaaBitO
namespace Go.Bv
theorem mul_bit0 (A B k : Nat) (h : B / 2 ^ k % 2 = 0) : A * (B % 2 ^ (k + 1)) = A * (B % 2 ^ k) := by
  rw [mod_bit, h, Nat.mul_zero, Nat.add_zero]
theorem mul_bit1 (A B k : Nat) (h : B / 2 ^ k % 2 = 1) : A * (B % 2 ^ (k + 1)) = A * (B % 2 ^ k) + A * 2 ^ k := by
  rw [mod_bit, h, Nat.mul_one, Nat.mul_add]
theorem bits_mod_add (X Y m : Nat) : bitsOf (X % 2 ^ m + Y % 2 ^ m) m = bitsOf (X + Y) m := by
  rw [← bitsOf_mod (X % 2 ^ m + Y % 2 ^ m), ← Nat.add_mod, bitsOf_mod]
end Go.Bv
namespace Go.Proofs.Ytepphoncljlkoaa
open Go.RowKit Go.Bv
set_option linter.unusedVariables false
set_option maxHeartbeats 1000000 in
theorem bmul_own (A B na nb ca cb : Nat) (a b : Option Addr) (n : Int) (m : Nat) (hnm : n = (m : Int)) (hm : m ≤ 4096) (hnb : nb ≤ 4096) (w : World) (ha : ZRow w a na ca (bitsOf A na)) (hA : A < 2 ^ na) (hb : ZRow w b nb cb (bitsOf B nb)) (hB : B < 2 ^ nb) :
    Calls Try.prog 20 #[.slice a na ca, .slice b nb cb, .int .i64 n] w fun e w' =>
      ∃ v, e = .returned v ∧ w'.ownsRow w.heap.size 3 1 v m ((bitsOf (A * B) m).map fun y => .int .i64 y) ∧ New w w' := by
  subst hnm
  have cOf := fun w => of_own 0#64 (m : Int) m hm rfl w
  rw [lo_zero, show (0#64).toNat = 0 from rfl] at cOf
  have HOf := Lib.hid cOf
  have HB0 := Lib.hid hb.addr
  have HEND := Lib.hid (Nat.mod_eq_of_lt hB)
  have HZ := Lib.hid (show A * (B % 2 ^ 0) = 0 by rw [Nat.pow_zero, Nat.mod_one, Nat.mul_zero])
  have HA := Lib.hid hA
  clear cOf hA hB
  go_enter Try.func20, Try.ntmps20
  go_wp2_with fail
  refine (HOf.out _).mono ?_
  rintro e w1 ⟨v1, rfl, hown1, hn1⟩
  go_wp2
  go_loopw [7, 8] (fun v i wr => ∃ k : Nat, k ≤ nb ∧ i = .int .i64 k ∧ wr.ownsRow w.heap.size 3 1 v m ((bitsOf (A * (B % 2 ^ k)) m).map fun y => .int .i64 y) ∧ New w wr) (fun _ i _ => nb - (intOf i).toNat)
  case atStart => exact ⟨0, by omega, rfl, by rw [HZ.out]; exact hown1, hn1⟩
  case round =>
    obtain ⟨k, hk, rfl, hown, hnew⟩ := hrel
    by_cases hlt : (k : Int) < nb
    · obtain ⟨bb, boff, rfl, hc⟩ := HB0.out (by omega)
      have c1 := (hb.stay hnew).cell bb boff rfl k (by omega)
      rw [bitsOf_at (by omega)] at c1
      clear hc
      by_cases hbit : B / 2 ^ k % 2 = 1
      · have e1 : bt B k = 1 := by unfold bt; rw [hbit]; rfl
        rw [e1] at c1
        have HS := Lib.hid (mul_bit1 A B k hbit)
        obtain ⟨av, cv, rfl, hz⟩ := bits_row hown (by omega)
        have ha' := ha.stay hnew
        clear hbit e1
        go_wp2_with fail
        refine (bshl_own A na ca k a (m : Int) m rfl hm (by omega) _ ha' HA.out).mono ?_
        rintro e w2 ⟨v2, rfl, hown2, hn2⟩
        obtain ⟨av2, cv2, rfl, hz2⟩ := bits_row hown2 (by omega)
        have hz' := hz.stay hn2
        rw [← bitsOf_mod] at hz' hz2
        go_wp2_with fail
        refine (badd_own _ _ m m cv cv2 av av2 (m : Int) m rfl hm _ hz' (Nat.mod_lt _ (Nat.two_pow_pos _)) hz2 (Nat.mod_lt _ (Nat.two_pow_pos _))).mono ?_
        rintro e w3 ⟨v3, rfl, hown3, hn3⟩
        rw [bits_mod_add, ← HS.out] at hown3
        have hn13 := hn2.trans hn3
        have how := own_low hown3 (show w.heap.size ≤ w2.heap.size from (hnew.trans hn2).le)
        have hnn := hnew.trans hn13
        clear hown3 hown2 hown hz hz2 hz' hn3 hn2 HS
        generalize cy _ _ m = q
        go_wp2
        exact ⟨⟨k + 1, by omega, by go_num, how, hnn⟩, by simp [intOf]; omega⟩
      · have e0 : B / 2 ^ k % 2 = 0 := by omega
        have e1 : bt B k = 0 := by unfold bt; rw [e0]; rfl
        rw [e1] at c1
        rw [← mul_bit0 A B k e0] at hown
        clear hbit e0 e1
        go_wp2
        exact ⟨⟨k + 1, by omega, by go_num, hown, hnew⟩, by simp [intOf]; omega⟩
    · obtain rfl : k = nb := by omega
      rw [HEND.out] at hown
      go_wp2
      go_ret
      exact ⟨_, rfl, hown, hnew⟩
set_option maxHeartbeats 1000000 in
theorem to4_any (N n c : Nat) (a : Option Addr) (w : World) (hr : ZRow w a n c (bitsOf N n)) (hN : N < 2 ^ n) :
    Calls Try.prog 23 #[.slice a n c] w fun e w' => e = .returned (.agg #[.int .u64 (W64 (BitVec.ofNat 64 N)), .int .u64 (W64 (BitVec.ofNat 64 (N / 2 ^ 64))), .int .u64 (W64 (BitVec.ofNat 64 (N / 2 ^ 128))), .int .u64 (W64 (BitVec.ofNat 64 (N / 2 ^ 192)))]) ∧ New w w' := by
  have h0 := fun w h => word_any N n c 0 a w h hN (by omega)
  have h1 := fun w h => word_any N n c 64 a w h hN (by omega)
  have h2 := fun w h => word_any N n c 128 a w h hN (by omega)
  have h3 := fun w h => word_any N n c 192 a w h hN (by omega)
  rw [Nat.pow_zero, Nat.div_one] at h0
  have H0 := Lib.hid h0
  have H1 := Lib.hid h1
  have H2 := Lib.hid h2
  have H3 := Lib.hid h3
  clear h0 h1 h2 h3 hN
  generalize BitVec.ofNat 64 (N / 2 ^ 192) = y3 at *
  generalize BitVec.ofNat 64 (N / 2 ^ 128) = y2 at *
  generalize BitVec.ofNat 64 (N / 2 ^ 64) = y1 at *
  generalize BitVec.ofNat 64 N = y0 at *
  go_enter Try.func23, Try.ntmps23
  go_wp2
  have hblk := heap_alloc_new (w.alloc (.cells #[.int .u64 0, .int .u64 0, .int .u64 0, .int .u64 0] 39)) (.cells #[.int .u64 0, .int .u64 0, .int .u64 0, .int .u64 0] 39)
  have hnw : New w ((w.alloc (.cells #[.int .u64 0, .int .u64 0, .int .u64 0, .int .u64 0] 39)).alloc (.cells #[.int .u64 0, .int .u64 0, .int .u64 0, .int .u64 0] 39)) := ((New.refl w).alloc _).alloc _
  have hsz : (w.alloc (.cells #[.int .u64 0, .int .u64 0, .int .u64 0, .int .u64 0] 39)).heap.size = w.heap.size + 1 := by simp
  rw [hsz] at hblk
  have hblk0 : ((w.alloc (.cells #[.int .u64 0, .int .u64 0, .int .u64 0, .int .u64 0] 39)).alloc (.cells #[.int .u64 0, .int .u64 0, .int .u64 0, .int .u64 0] 39)).heap[w.heap.size]? = some (.cells #[.int .u64 0, .int .u64 0, .int .u64 0, .int .u64 0] 39 (0, 0)) := by
    rw [((New.refl (w.alloc (.cells #[.int .u64 0, .int .u64 0, .int .u64 0, .int .u64 0] 39))).alloc _).block _ (by rw [hsz]; omega)]; exact heap_alloc_new _ _
  go_loopw [4] (fun i wr => ((i = .int .i64 0 ∧ wr.heap[w.heap.size + 1]? = some (.cells #[.int .u64 0, .int .u64 0, .int .u64 0, .int .u64 0] 39 (0, 0))) ∨ (i = .int .i64 1 ∧ wr.heap[w.heap.size + 1]? = some (.cells #[.int .u64 (W64 y0), .int .u64 0, .int .u64 0, .int .u64 0] 39 (0, 0))) ∨ (i = .int .i64 2 ∧ wr.heap[w.heap.size + 1]? = some (.cells #[.int .u64 (W64 y0), .int .u64 (W64 y1), .int .u64 0, .int .u64 0] 39 (0, 0))) ∨ (i = .int .i64 3 ∧ wr.heap[w.heap.size + 1]? = some (.cells #[.int .u64 (W64 y0), .int .u64 (W64 y1), .int .u64 (W64 y2), .int .u64 0] 39 (0, 0))) ∨ (i = .int .i64 4 ∧ wr.heap[w.heap.size + 1]? = some (.cells #[.int .u64 (W64 y0), .int .u64 (W64 y1), .int .u64 (W64 y2), .int .u64 (W64 y3)] 39 (0, 0)))) ∧ wr.heap[w.heap.size]? = some (.cells #[.int .u64 0, .int .u64 0, .int .u64 0, .int .u64 0] 39 (0, 0)) ∧ New w wr) (fun i _ => 4 - (intOf i).toNat)
  case atStart => exact ⟨Or.inl ⟨rfl, hblk⟩, hblk0, hnw⟩
  case round =>
    clear hblk hblk0 hsz hnw
    obtain ⟨hc, hb0, hn⟩ := hrel
    have hrw := hr.stay hn
    rcases hc with ⟨rfl, hb⟩ | ⟨rfl, hb⟩ | ⟨rfl, hb⟩ | ⟨rfl, hb⟩ | ⟨rfl, hb⟩
    · have hcell : wr.cell? ⟨w.heap.size + 1, 0, none⟩ = some (.int .u64 0) := by rw [cell_of_row _ _ _ _ _ _ hb]; rfl
      have hfree := frozen_of_row wr (w.heap.size + 1) 0 _ _ hb
      have HD0 := Lib.hid ((heap_setCell_other wr ⟨w.heap.size + 1, 0, none⟩ w.heap.size (.int .u64 (W64 y0)) (by show w.heap.size ≠ w.heap.size + 1; omega)).trans hb0)
      have HD := Lib.hid (heap_setCell_same wr (w.heap.size + 1) 0 _ _ (.int .u64 (W64 y0)) hb)
      go_wp2_with fail
      refine (H0.out _ hrw).mono ?_
      rintro e w2 ⟨rfl, rfl⟩
      go_wp2
      exact ⟨⟨Or.inr (Or.inl ⟨rfl, HD.out⟩), HD0.out, hn.setCell (by show _ ≤ w.heap.size + 1; omega) _⟩, by simp [intOf]⟩
    · have hcell : wr.cell? ⟨w.heap.size + 1, 1, none⟩ = some (.int .u64 0) := by rw [cell_of_row _ _ _ _ _ _ hb]; rfl
      have hfree := frozen_of_row wr (w.heap.size + 1) 1 _ _ hb
      have HD0 := Lib.hid ((heap_setCell_other wr ⟨w.heap.size + 1, 1, none⟩ w.heap.size (.int .u64 (W64 y1)) (by show w.heap.size ≠ w.heap.size + 1; omega)).trans hb0)
      have HD := Lib.hid (heap_setCell_same wr (w.heap.size + 1) 1 _ _ (.int .u64 (W64 y1)) hb)
      go_wp2_with fail
      refine (H1.out _ hrw).mono ?_
      rintro e w2 ⟨rfl, rfl⟩
      go_wp2
      exact ⟨⟨Or.inr (Or.inr (Or.inl ⟨rfl, HD.out⟩)), HD0.out, hn.setCell (by show _ ≤ w.heap.size + 1; omega) _⟩, by simp [intOf]⟩
    · have hcell : wr.cell? ⟨w.heap.size + 1, 2, none⟩ = some (.int .u64 0) := by rw [cell_of_row _ _ _ _ _ _ hb]; rfl
      have hfree := frozen_of_row wr (w.heap.size + 1) 2 _ _ hb
      have HD0 := Lib.hid ((heap_setCell_other wr ⟨w.heap.size + 1, 2, none⟩ w.heap.size (.int .u64 (W64 y2)) (by show w.heap.size ≠ w.heap.size + 1; omega)).trans hb0)
      have HD := Lib.hid (heap_setCell_same wr (w.heap.size + 1) 2 _ _ (.int .u64 (W64 y2)) hb)
      go_wp2_with fail
      refine (H2.out _ hrw).mono ?_
      rintro e w2 ⟨rfl, rfl⟩
      go_wp2
      exact ⟨⟨Or.inr (Or.inr (Or.inr (Or.inl ⟨rfl, HD.out⟩))), HD0.out, hn.setCell (by show _ ≤ w.heap.size + 1; omega) _⟩, by simp [intOf]⟩
    · have hcell : wr.cell? ⟨w.heap.size + 1, 3, none⟩ = some (.int .u64 0) := by rw [cell_of_row _ _ _ _ _ _ hb]; rfl
      have hfree := frozen_of_row wr (w.heap.size + 1) 3 _ _ hb
      have HD0 := Lib.hid ((heap_setCell_other wr ⟨w.heap.size + 1, 3, none⟩ w.heap.size (.int .u64 (W64 y3)) (by show w.heap.size ≠ w.heap.size + 1; omega)).trans hb0)
      have HD := Lib.hid (heap_setCell_same wr (w.heap.size + 1) 3 _ _ (.int .u64 (W64 y3)) hb)
      go_wp2_with fail
      refine (H3.out _ hrw).mono ?_
      rintro e w2 ⟨rfl, rfl⟩
      go_wp2
      exact ⟨⟨Or.inr (Or.inr (Or.inr (Or.inr (⟨rfl, HD.out⟩)))), HD0.out, hn.setCell (by show _ ≤ w.heap.size + 1; omega) _⟩, by simp [intOf]⟩
    · have c0 : wr.cell? ⟨w.heap.size + 1, 0, none⟩ = some (.int .u64 (W64 y0)) := by rw [cell_of_row _ _ _ _ _ _ hb]; rfl
      have c1 : wr.cell? ⟨w.heap.size + 1, 1, none⟩ = some (.int .u64 (W64 y1)) := by rw [cell_of_row _ _ _ _ _ _ hb]; rfl
      have c2 : wr.cell? ⟨w.heap.size + 1, 2, none⟩ = some (.int .u64 (W64 y2)) := by rw [cell_of_row _ _ _ _ _ _ hb]; rfl
      have c3 : wr.cell? ⟨w.heap.size + 1, 3, none⟩ = some (.int .u64 (W64 y3)) := by rw [cell_of_row _ _ _ _ _ _ hb]; rfl
      have r0 : wr.cell? ⟨w.heap.size, 0, none⟩ = some (.int .u64 0) := by rw [cell_of_row _ _ _ _ _ _ hb0]; rfl
      have f0 := frozen_of_row wr w.heap.size 0 _ _ hb0
      have r1 : wr.cell? ⟨w.heap.size, 1, none⟩ = some (.int .u64 0) := by rw [cell_of_row _ _ _ _ _ _ hb0]; rfl
      have f1 := frozen_of_row wr w.heap.size 1 _ _ hb0
      have r2 : wr.cell? ⟨w.heap.size, 2, none⟩ = some (.int .u64 0) := by rw [cell_of_row _ _ _ _ _ _ hb0]; rfl
      have f2 := frozen_of_row wr w.heap.size 2 _ _ hb0
      have r3 : wr.cell? ⟨w.heap.size, 3, none⟩ = some (.int .u64 0) := by rw [cell_of_row _ _ _ _ _ _ hb0]; rfl
      have f3 := frozen_of_row wr w.heap.size 3 _ _ hb0
      clear H0 H1 H2 H3 hr hrw hb hb0
      have HN := Lib.hid hn
      clear hn
      go_wp2
      refine bodyPost_ret (by simp [results, Try.results23, go_sem, r0, r1, r2, r3]; try rfl) rfl ?_
      exact ⟨rfl, (((HN.out.setCell (by simp) _).setCell (by simp) _).setCell (by simp) _).setCell (by simp) _⟩
end Go.Proofs.Ytepphoncljlkoaa
