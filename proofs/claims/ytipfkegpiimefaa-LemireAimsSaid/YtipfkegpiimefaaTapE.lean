/- The law TapeTells: the words of a tape come one by one, in order, and then no more. -/
import Derived.Test.YtipfkegpiimefaaTapD
import Derived.Test.YtipfkegpiimefaaWords
namespace Go.Proofs.Ytipfkegpiimefaa
open Go.RowKit Go.Bv
set_option linter.unusedVariables false
theorem QRow.take {w : World} {a : Option Addr} {len cap : Nat} {l : List (BitVec 64)} (h : QRow w a len cap l) (k : Nat) (hk : k < len) : QRow w a k cap (l.take k) where
  len_eq := by rw [List.length_take, h.len_eq]; omega
  le := by have := h.le; omega
  most := by have := h.most; omega
  room := h.room
  none := fun e => by have := h.none e; omega
  cell := fun b off e i hi => by
    rw [h.cell b off e i (by omega), List.getD_eq_getElem?_getD, List.getD_eq_getElem?_getD, List.getElem?_take, if_pos hi]
  spot := fun x e h0 => h.spot x e (by omega)
  old := fun x e h0 => h.old x e (by omega)
theorem one_row (w : World) (x : BitVec 64) : QRow (w.alloc (.cells #[.int .u64 (W64 x)] 28)) (some ⟨w.heap.size, 0, none⟩) 1 1 [x] where
  len_eq := rfl
  le := Nat.le_refl _
  most := by omega
  room := by omega
  none := fun e => by cases e
  cell := fun b off e i hi => by
    cases e
    obtain rfl : i = 0 := by omega
    exact cell_of_row _ _ 0 _ _ _ (heap_alloc_new w _)
  spot := fun x e h0 => by cases e; rfl
  old := fun x e h0 => by cases e; simp
set_option maxHeartbeats 1000000 in
theorem awake_37 (w : World) : Calls Try.prog 14 #[] w fun e w' => e = .returned (.bool true) ∧ New w w' := by
  have h7 := one_row w 7#64
  rw [show W64 7#64 = 7 by decide] at h7
  have H7 := Lib.hid h7
  clear h7
  go_enter Try.func14, Try.ntmps14
  go_wp2_with fail
  refine (new_t _ _ _ _ _ H7.out).mono ?_
  rintro e w1 ⟨b, rfl, hb, ht, hn⟩
  have HN1 := Lib.hid (((New.refl w).alloc _).trans hn)
  have hb2 : w.heap.size ≤ b := by simp at hb; omega
  have HT := Lib.hid ht
  clear ht hn hb
  go_wp2_with fail
  refine (next_some b b [7#64] 0 (by decide) w1 HT.out).mono ?_
  rintro e w2 ⟨rfl, g, ht, hbut, hg⟩
  have HN2 := Lib.hid (hbut.new w HN1.out hb2 hb2)
  have HT2 := Lib.hid ht
  have hu := used_t b g [7#64] 1 
  clear ht hbut hg
  have HU := Lib.hid hu
  clear hu
  go_wp2_with fail
  refine (next_none b g [7#64] w2 HT2.out).mono ?_
  rintro e w3 ⟨rfl, rfl⟩
  go_wp2_with fail
  refine (HU.out _ HT2.out).mono ?_
  rintro e w4 ⟨rfl, rfl⟩
  go_wp2
  go_ret
  exact ⟨rfl, HN2.out⟩
end Go.Proofs.Ytipfkegpiimefaa
