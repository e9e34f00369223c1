/- The document's Low of layer 21. -/
import Derived.Test.YtfiihbknkglggaaMadM
import Derived.Test.YtfiihbknkglggaaMadF
namespace Go.Bv
open Go Go.RowKit
theorem bits_take {N n s : Nat} (hs : s ≤ n) : (bitsOf N n).take s = bitsOf (N % 2 ^ s) s := by
  rw [bitsOf_mod]; unfold bitsOf; rw [← List.map_take, List.take_range, Nat.min_eq_left hs]
end Go.Bv
namespace Go.Proofs.Ytfiihbknkglggaa
open Go Go.RowKit Go.Bv
set_option linter.unusedVariables false
theorem zlow {w : World} {b off len cap : Nat} {l : List Int} (h : ZRow w (some ⟨b, off, none⟩) len cap l) (k : Nat) (hk : k ≤ len) : ZRow w (some ⟨b, off, none⟩) k cap (l.take k) where
  len_eq := by rw [List.length_take, h.len_eq]; omega
  le := by have := h.le; omega
  most := by have := h.most; omega
  room := h.room
  none := fun e => by cases e
  cell := fun b off e i hi => by
    rw [h.cell b off e i (by omega), List.getD_eq_getElem?_getD, List.getD_eq_getElem?_getD, List.getElem?_take, if_pos hi]
  spot := fun x e h0 => by cases e; rfl
  old := fun x e h0 => h.old x e (by omega)
  wf := fun n hn => h.wf n (List.mem_of_mem_take hn)
set_option maxHeartbeats 1000000 in
theorem low_a (A B wd j : Nat) (x : BitVec 64) (kind : Int) (hA : A < 2 ^ 128) (hB : B < 2 ^ 128) (hwd : wd ≤ 128) (hwd1 : 1 ≤ wd) (hj : j ≤ wd) (HRW : Hid (∀ w : World, Calls Try.prog 11 #[.int .i64 kind] w fun e w' => e = .returned (.int .i64 (wd : Int)) ∧ New w w')) (w : World) : Calls Try.prog 16 #[.int .i64 kind, .int .i64 (j : Int), .agg #[.int .u64 (W64 (hiN (A))), .int .u64 (W64 (loN (A)))], .agg #[.int .u64 (W64 (hiN (B))), .int .u64 (W64 (loN (B)))], .int .u64 (W64 x)] w fun e w' => e = .returned (.agg #[.int .u64 (W64 (hiN (lnN wd A B x.toNat % 2 ^ (wd - j)))), .int .u64 (W64 (loN (lnN wd A B x.toNat % 2 ^ (wd - j))))]) ∧ New w w' := by
  have hl := line_a A B wd x hA hB hwd
  rw [show (A * x.toNat + B) % 2 ^ wd = lnN wd A B x.toNat from rfl] at hl
  have HLI := Lib.hid hl
  have ht := fun a c w hz => to2_any (lnN wd A B x.toNat % 2 ^ (wd - j)) (wd - j) c a w hz (Nat.mod_lt _ (Nat.two_pow_pos _))
  rw [show BitVec.ofNat 64 (lnN wd A B x.toNat % 2 ^ (wd - j) / 2 ^ 64) = hiN (lnN wd A B x.toNat % 2 ^ (wd - j)) from rfl, show BitVec.ofNat 64 (lnN wd A B x.toNat % 2 ^ (wd - j)) = loN (lnN wd A B x.toNat % 2 ^ (wd - j)) from rfl] at ht
  have HT := Lib.hid ht
  have hbt := bits_take (N := lnN wd A B x.toNat) (show wd - j ≤ wd by omega)
  have HBT := Lib.hid hbt
  generalize lnN wd A B x.toNat % 2 ^ (wd - j) = M at *
  generalize lnN wd A B x.toNat = R at *
  have hwr : wrap64 ((wd : Int) - (j : Int)) = ((wd - j : Nat) : Int) := by unfold wrap64; omega
  have HWD : Hid (wd ≤ 128 ∧ 0 < wd ∧ wd - j ≤ wd) := Lib.hid ⟨hwd, hwd1, by omega⟩
  clear hl ht hbt hA hB hj
  obtain ⟨hbl, HNN⟩ := boxes3 w (.cells #[.int .u64 (W64 (hiN (A))), .int .u64 (W64 (loN (A)))] 24) (.cells #[.int .u64 (W64 (hiN (B))), .int .u64 (W64 (loN (B)))] 24) (.cells #[.int .u64 0, .int .u64 0] 24)
  obtain ⟨hb0, hb1, hb2⟩ := hbl
  have HN := Lib.hid HNN
  obtain ⟨w0, hw0⟩ : ∃ w0, (((((w.alloc (.cells #[.int .u64 (W64 (hiN (A))), .int .u64 (W64 (loN (A)))] 24))).alloc (.cells #[.int .u64 (W64 (hiN (B))), .int .u64 (W64 (loN (B)))] 24))).alloc (.cells #[.int .u64 0, .int .u64 0] 24)) = w0 := ⟨_, rfl⟩
  rw [hw0] at HN hb0 hb1 hb2
  have HW0 := Lib.hid hw0
  have HB0 := Lib.hid hb0
  have HB1 := Lib.hid hb1
  have HB2 := Lib.hid hb2
  clear hw0 HNN hb0 hb1 hb2
  go_enter Try.func16, Try.ntmps16
  go_wp2_with (rw [HW0.out])
  refine (HRW.out _).mono ?_
  rintro e w9 ⟨rfl, hn⟩
  replace HN := Lib.hid (HN.out.trans hn)
  replace HB0 := Lib.hid ((hn.block _ (lt_of_block HB0.out)).trans HB0.out)
  replace HB1 := Lib.hid ((hn.block _ (lt_of_block HB1.out)).trans HB1.out)
  replace HB2 := Lib.hid ((hn.block _ (lt_of_block HB2.out)).trans HB2.out)
  clear hn
  have x0 := cell_of_row _ _ 0 _ _ _ HB0.out
  have x1 := cell_of_row _ _ 1 _ _ _ HB0.out
  have y0 := cell_of_row _ _ 0 _ _ _ HB1.out
  have y1 := cell_of_row _ _ 1 _ _ _ HB1.out
  go_wp2_with fail
  refine (HLI.out _).mono ?_
  rintro e w1 ⟨v1, rfl, hown, hn⟩
  obtain ⟨a1, c1, rfl, hz⟩ := bits_row hown (by have := HWD.out; omega)
  replace HN := Lib.hid (HN.out.trans hn)
  replace HB2 := Lib.hid ((hn.block _ (lt_of_block HB2.out)).trans HB2.out)
  obtain ⟨b, off, rfl, hcell⟩ := hz.addr HWD.out.2.1
  have hcap := hz.le
  have hz2 := zlow hz (wd - j) HWD.out.2.2
  rw [HBT.out] at hz2
  have HZ := Lib.hid hz2
  clear hown hz hn hcell x0 x1 y0 y1 hz2
  have c0 : ((wd - j : Nat) : Int) ≤ (c1 : Int) := by omega
  go_wp2_with fail
  refine (HT.out _ _ _ HZ.out).mono ?_
  rintro e w2 ⟨rfl, hn⟩
  replace HN := Lib.hid (HN.out.trans hn)
  replace HB2 := Lib.hid ((hn.block _ (lt_of_block HB2.out)).trans HB2.out)
  clear hn
  have k0 := cell_of_row _ _ 0 _ _ _ HB2.out
  have k1 := cell_of_row _ _ 1 _ _ _ HB2.out
  have kf := fun i => frozen_of_row _ _ i _ _ HB2.out
  go_wp2
  refine bodyPost_ret (by simp [results, Try.results16, go_sem, k0, k1]; try rfl) rfl ?_
  exact ⟨rfl, (HN.out.setCell (by show w.heap.size ≤ w.heap.size + 1 + 1; omega) _).setCell (by show w.heap.size ≤ w.heap.size + 1 + 1; omega) _⟩
end Go.Proofs.Ytfiihbknkglggaa
