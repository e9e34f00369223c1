/- Contract of layer 38: Aim. -/
import Derived.Test.YtipfkegpiimefaaLemG
import Derived.Test.YtipfkegpiimefaaLemT
import Derived.Test.YtipfkegpiimefaaMskT
import Derived.Test.YtipfkegpiimefaaTapP
namespace Go.Proofs.Ytipfkegpiimefaa
open Go.RowKit Go.Bv
set_option linter.unusedVariables false
set_option maxHeartbeats 1000000 in
theorem aim_l (a : Option Addr) (len cap : Nat) (l : List (BitVec 64)) (n v : BitVec 64) (j : Nat) (hn0 : ¬ n = 0#64) (hj : j < l.length) (hno : ∀ i, i < j → takN (l.getD i 0) n = false) (htk : takN (l.getD j 0) n = true) (hv : v.toNat < n.toNat) (w : World) (h : QRow w a len cap l) :
    Calls Try.prog 31 #[.slice a len cap, .int .u64 (W64 n), .int .u64 (W64 v)] w fun e w' => ∃ v' c, e = .returned (.tuple #[.slice v' len c, .int .i64 0]) ∧ QRow w' v' len c (l.set j (wrdN v (rnkN (l.getD j 0) n) n)) ∧ New w w' := by
  have hmost := h.most
  obtain rfl := h.len_eq
  have HW := Lib.hid (word_l v (rnkN (l.getD j 0) n) n hn0 hv (rnk_ltN (l.getD j 0) n hn0 htk))
  have HP := Lib.hid fun w h => put_q a l.length cap l j hj (wrdN v (rnkN (l.getD j 0) n) n) w h
  obtain ⟨y2, hy2⟩ : ∃ y, wrdN v (rnkN (l.getD j 0) n) n = y := ⟨_, rfl⟩
  rw [hy2] at HW HP
  rw [hy2]
  have HH := Lib.hid (show (¬ n = 0#64) ∧ j < l.length ∧ (∀ i, i < j → takN (l.getD i 0) n = false) ∧ takN (l.getD j 0) n = true from ⟨hn0, hj, hno, htk⟩)
  have HQ := Lib.hid h
  clear h hn0 hj hno htk hv hy2
  go_enter Try.func31, Try.ntmps31
  go_wp2_with fail
  refine (new_t _ _ _ _ _ HQ.out).mono ?_
  rintro e w2 ⟨b, rfl, hb, ht, hn2⟩
  have HT := Lib.hid ht
  have HN2 := Lib.hid hn2
  clear ht hn2
  go_wp2_with fail
  refine (take_l b b l 0 n HH.out.1 _ HT.out).mono ?_
  rintro e w3 (⟨j2, _, hj2, hno2, htk2, rfl, g, ht3, hbut, hg⟩ | ⟨hno2, rfl, g, ht3, hbut, hg⟩)
  · obtain rfl : j = j2 := first_same (p := fun k => takN (l.getD k 0) n) HH.out.2.2.1 HH.out.2.2.2 (fun k hk => hno2 k (Nat.zero_le _) hk) htk2
    obtain ⟨y, hy⟩ : ∃ y, telN (l.getD j 0) n = y := ⟨_, rfl⟩
    obtain ⟨r, hr⟩ : ∃ r, rnkN (l.getD j 0) n = r := ⟨_, rfl⟩
    obtain ⟨u, hu⟩ : ∃ u : Int, ((j + 1 : Nat) : Int) = u := ⟨_, rfl⟩
    rw [hr] at HW
    rw [hy, hr, Nat.sub_zero, hu]
    have hu0 : (u == 0) = false := by rw [beq_eq_false_iff_ne]; omega
    have hu2 : wrap64 (u - 1) = (j : Int) := by have := hj2; unfold wrap64; omega
    have HN3 := Lib.hid (hbut.new w HN2.out hb hb)
    clear ht3 hbut hg hno2 htk2 hy hr hu HH HT
    have hd := heap_alloc_new w3 (.cells #[.int .u64 (W64 y), .int .u64 (W64 r), .int .i64 u] 44)
    have hn4 := (New.refl w3).alloc (.cells #[.int .u64 (W64 y), .int .u64 (W64 r), .int .i64 u] 44)
    obtain ⟨w4, hw4⟩ : ∃ w4, w3.alloc (.cells #[.int .u64 (W64 y), .int .u64 (W64 r), .int .i64 u] 44) = w4 := ⟨_, rfl⟩
    rw [hw4] at hd hn4
    obtain ⟨q, hq⟩ : ∃ q, w3.heap.size = q := ⟨_, rfl⟩
    rw [hq] at hd
    have k0 := cell_of_row _ _ 0 _ _ _ hd
    have k1 := cell_of_row _ _ 1 _ _ _ hd
    have k2 := cell_of_row _ _ 2 _ _ _ hd
    have HD := Lib.hid hd
    have HN4 := Lib.hid (HN3.out.trans hn4)
    have HE := Lib.hid (show w3.alloc (.cells #[.int .u64 (W64 y), .int .u64 (W64 r), .int .i64 u] 44) = w4 ∧ w3.heap.size = q from ⟨hw4, hq⟩)
    clear hd hn4 hw4 hq HN3
    go_wp2_with (rw [HE.out.1, HE.out.2])
    refine (HW.out _).mono ?_
    rintro e w5 ⟨rfl, hn5⟩
    have hd := (hn5.block _ (lt_of_block HD.out)).trans HD.out
    clear k0 k1 k2
    have k2 := cell_of_row _ _ 2 _ _ _ hd
    have HN5 := Lib.hid (HN4.out.trans hn5)
    clear hd hn5
    go_wp2_with fail
    refine (HP.out _ (HQ.out.stay HN5.out)).mono ?_
    rintro e w6 ⟨v', c', rfl, hq6, hn6⟩
    have HN6 := Lib.hid (HN5.out.trans hn6)
    have HQ6 := Lib.hid hq6
    clear hn6 hq6 k2
    go_wp2
    go_returns
    exact ⟨_, _, rfl, HQ6.out, HN6.out⟩
  · exfalso
    have := hno2 j (Nat.zero_le _) HH.out.2.1
    rw [HH.out.2.2.2] at this; cases this
/-- a limit 0 -/
theorem aim_l0 (a : Option Addr) (len cap : Nat) (l : List (BitVec 64)) (v : BitVec 64) (w : World) (h : QRow w a len cap l) :
    Calls Try.prog 31 #[.slice a len cap, .int .u64 0, .int .u64 (W64 v)] w fun e w' => e = .returned (.tuple #[.slice none 0 0, .int .i64 8]) ∧ New w w' := by
  have hmost := h.most
  obtain rfl := h.len_eq
  have HQ := Lib.hid h
  clear h
  go_enter Try.func31, Try.ntmps31
  go_wp2_with fail
  refine (new_t _ _ _ _ _ HQ.out).mono ?_
  rintro e w2 ⟨b, rfl, hb, ht, hn2⟩
  have HN2 := Lib.hid hn2
  clear ht hn2
  go_wp2_with fail
  refine (take_l0 b _).mono ?_
  rintro e w3 ⟨rfl, hn3⟩
  have HN3 := Lib.hid ((HN2.out.trans hn3).alloc (.cells #[.int .u64 0, .int .u64 0, .int .i64 0] 44))
  clear hn3
  go_wp2
  go_returns
  exact ⟨rfl, HN3.out⟩
set_option maxHeartbeats 1000000 in
/-- too few words -/
theorem aim_l_few (a : Option Addr) (len cap : Nat) (l : List (BitVec 64)) (n v : BitVec 64) (hn0 : ¬ n = 0#64) (hno : ∀ i, i < l.length → takN (l.getD i 0) n = false) (w : World) (h : QRow w a len cap l) :
    Calls Try.prog 31 #[.slice a len cap, .int .u64 (W64 n), .int .u64 (W64 v)] w fun e w' => e = .returned (.tuple #[.slice none 0 0, .int .i64 7]) ∧ New w w' := by
  have hmost := h.most
  obtain rfl := h.len_eq
  have HQ := Lib.hid h
  have HH := Lib.hid (show (¬ n = 0#64) ∧ (∀ i, i < l.length → takN (l.getD i 0) n = false) from ⟨hn0, hno⟩)
  clear h hn0 hno
  go_enter Try.func31, Try.ntmps31
  go_wp2_with fail
  refine (new_t _ _ _ _ _ HQ.out).mono ?_
  rintro e w2 ⟨b, rfl, hb, ht, hn2⟩
  have HT := Lib.hid ht
  have HN2 := Lib.hid hn2
  clear ht hn2
  go_wp2_with fail
  refine (take_l b b l 0 n HH.out.1 _ HT.out).mono ?_
  rintro e w3 (⟨j2, _, hj2, hno2, htk2, rfl, g, ht3, hbut, hg⟩ | ⟨hno2, rfl, g, ht3, hbut, hg⟩)
  · exfalso
    have := HH.out.2 j2 hj2
    rw [htk2] at this; cases this
  · have HN3 := Lib.hid ((hbut.new w HN2.out hb hb).alloc (.cells #[.int .u64 0, .int .u64 0, .int .i64 0] 44))
    clear ht3 hbut hg hno2
    go_wp2
    go_returns
    exact ⟨rfl, HN3.out⟩
set_option maxHeartbeats 1000000 in
/-- no such number -/
theorem aim_l_no (a : Option Addr) (len cap : Nat) (l : List (BitVec 64)) (n v : BitVec 64) (j : Nat) (hn0 : ¬ n = 0#64) (hj : j < l.length) (htk : takN (l.getD j 0) n = true) (hv : ¬ v.toNat < n.toNat) (w : World) (h : QRow w a len cap l) :
    Calls Try.prog 31 #[.slice a len cap, .int .u64 (W64 n), .int .u64 (W64 v)] w fun e w' => e = .returned (.tuple #[.slice none 0 0, .int .i64 2]) ∧ New w w' := by
  have hmost := h.most
  obtain rfl := h.len_eq
  have HW := Lib.hid fun r => wordN_no v r n hn0 hv
  have HH := Lib.hid (show (¬ n = 0#64) ∧ j < l.length ∧ takN (l.getD j 0) n = true from ⟨hn0, hj, htk⟩)
  have HQ := Lib.hid h
  clear h hn0 hj htk hv
  go_enter Try.func31, Try.ntmps31
  go_wp2_with fail
  refine (new_t _ _ _ _ _ HQ.out).mono ?_
  rintro e w2 ⟨b, rfl, hb, ht, hn2⟩
  have HT := Lib.hid ht
  have HN2 := Lib.hid hn2
  clear ht hn2
  go_wp2_with fail
  refine (take_l b b l 0 n HH.out.1 _ HT.out).mono ?_
  rintro e w3 (⟨j2, _, hj2, hno2, htk2, rfl, g, ht3, hbut, hg⟩ | ⟨hno2, rfl, g, ht3, hbut, hg⟩)
  · obtain ⟨y, hy⟩ : ∃ y, telN (l.getD j2 0) n = y := ⟨_, rfl⟩
    obtain ⟨r, hr⟩ : ∃ r, rnkN (l.getD j2 0) n = r := ⟨_, rfl⟩
    obtain ⟨u, hu⟩ : ∃ u : Int, ((j2 + 1 : Nat) : Int) = u := ⟨_, rfl⟩
    rw [hy, hr, Nat.sub_zero, hu]
    have hu0 : (u == 0) = false := by rw [beq_eq_false_iff_ne]; omega
    have HN3 := Lib.hid (hbut.new w HN2.out hb hb)
    clear ht3 hbut hg hno2 htk2 hy hr hu HH HT
    have hd := heap_alloc_new w3 (.cells #[.int .u64 (W64 y), .int .u64 (W64 r), .int .i64 u] 44)
    have hn4 := (New.refl w3).alloc (.cells #[.int .u64 (W64 y), .int .u64 (W64 r), .int .i64 u] 44)
    obtain ⟨w4, hw4⟩ : ∃ w4, w3.alloc (.cells #[.int .u64 (W64 y), .int .u64 (W64 r), .int .i64 u] 44) = w4 := ⟨_, rfl⟩
    rw [hw4] at hd hn4
    obtain ⟨q, hq⟩ : ∃ q, w3.heap.size = q := ⟨_, rfl⟩
    rw [hq] at hd
    have k0 := cell_of_row _ _ 0 _ _ _ hd
    have k1 := cell_of_row _ _ 1 _ _ _ hd
    have k2 := cell_of_row _ _ 2 _ _ _ hd
    have HN4 := Lib.hid (HN3.out.trans hn4)
    have HE := Lib.hid (show w3.alloc (.cells #[.int .u64 (W64 y), .int .u64 (W64 r), .int .i64 u] 44) = w4 ∧ w3.heap.size = q from ⟨hw4, hq⟩)
    clear hd hn4 hw4 hq HN3
    go_wp2_with (rw [HE.out.1, HE.out.2])
    refine (HW.out _ _).mono ?_
    rintro e w5 ⟨rfl, hn5⟩
    have HN5 := Lib.hid (HN4.out.trans hn5)
    clear hn5 k0 k1 k2
    go_wp2
    go_returns
    exact ⟨rfl, HN5.out⟩
  · exfalso
    have := hno2 j (Nat.zero_le _) HH.out.2.1
    rw [HH.out.2.2] at this; cases this
end Go.Proofs.Ytipfkegpiimefaa
