/- reservoir.Slots, Order; the document's own. · reservoir.Order; the document's own Slots and Order. -/
import Derived.Test.YtajjpllhihgkdaaResA
import Derived.BigRegion
import Derived.Maps.AppendAt
namespace Go.Proofs.Ytajjpllhihgkdaa
open Go Go.RowKit Go.Bv
set_option linter.unusedVariables false
set_option maxRecDepth 100000 in
set_option maxHeartbeats 2000000 in
theorem sorted_42 (n : Nat) (w : World) (hn : n ≤ 1000000) :
    Calls Try.prog 33 #[.int .i64 (n : Int)] w fun e w' => ∃ g, e = .returned (.slice (some ⟨g, 0, none⟩) (n : Nat) n) ∧ w'.ownsRow w.heap.size 3 1 (.slice (some ⟨g, 0, none⟩) n n) n ((liI (fun x => x) n).map fun x => .int .i64 x) ∧ New w w' := by
  obtain ⟨i0, hi, hz0, hz1, hz2⟩ := info_parts info_int40
  have HMK := Lib.hid (make_int n hn)
  go_enter Try.func33, Try.ntmps33
  go_wp2_with fail
  rw [HMK.out _ _ rfl]
  go_wp2_with fail
  go_loopw [9] (fun iv wr => ∃ k : Nat, k ≤ n ∧ iv = .int .i64 (k : Int) ∧ wr.ownsRow w.heap.size 3 1 (.slice (some ⟨w.heap.size, 0, none⟩) n n) n ((sqI n k).map fun x => .int .i64 x) ∧ New w wr) (fun iv _ => n - (intOf iv).toNat)
  case atStart => exact ⟨0, Nat.zero_le _, rfl, ow_made w _ _ _ n _ (Nat.le_refl _) (by omega) (by rw [made_toList, sqI_zero]) (by rw [List.length_map, sqI, liI_len]), (New.refl w).alloc _⟩
  case round =>
    obtain ⟨k, hk, rfl, hown, hnew⟩ := hrel
    by_cases hlt : (k : Int) < (n : Int)
    · have hk0 : (0 : Int) ≤ (k : Int) := by omega
      obtain ⟨hc1, hf1⟩ := ow_int hown (k := k) (by omega)
      have HO2 : Hid ((wr.setCell ⟨w.heap.size, k, none⟩ (.int .i64 (k : Int))).ownsRow w.heap.size 3 1 (.slice (some ⟨w.heap.size, 0, none⟩) n n) n ((sqI n (k + 1)).map fun x => .int .i64 x)) := Lib.hid (by
        rw [← sqI_set n k (by omega), List.map_set]; exact ow_set hown k _)
      have HN2 : Hid (New w (wr.setCell ⟨w.heap.size, k, none⟩ (.int .i64 (k : Int)))) := Lib.hid (hnew.setCell (Nat.le_refl _) _)
      clear hown hnew
      go_wp2
      exact ⟨⟨k + 1, by omega, by go_num, HO2.out, HN2.out⟩, by simp [intOf]; omega⟩
    · obtain rfl : k = n := by omega
      rw [sqI_all] at hown
      go_wp2
      go_ret
      exact ⟨_, rfl, hown, hnew⟩

theorem sl1_lt (bk bs g k cap x : Nat) (item : Int) (w : World) (hk : w.heap[bk]? = some (.cells #[.int .i64 (k : Int)] 3 (0, 0))) (hs : w.heap[bs]? = some (.cells #[.slice (some ⟨g, 0, none⟩) k cap] 22 (0, 0))) (hx : x < k) (hc : ∃ u, w.cell? ⟨g, x, none⟩ = some u) (hf : w.frozen? ⟨g, x, none⟩ = false) :
    Calls Try.prog 35 #[.int .i64 item, .int .i64 (x : Int), .pointer (some ⟨bk, 0, none⟩), .pointer (some ⟨bs, 0, none⟩)] w fun e w' => e = .returned (.tuple #[]) ∧ w' = w.setCell ⟨g, x, none⟩ (.int .i64 item) := by
  have k0 := cell_of_row _ _ 0 _ _ _ hk
  have k1 := cell_of_row _ _ 0 _ _ _ hs
  obtain ⟨u, hc⟩ := hc
  have h1 : (x : Int) < (k : Int) := by omega
  have h0 : (0 : Int) ≤ (x : Int) := by omega
  clear hk hs
  go_enter Try.func35, Try.ntmps35
  go_wp2
  go_end0
  exact ⟨rfl, rfl⟩
theorem sl1_ge (bk bs k : Nat) (item x : Int) (w : World) (hk : w.heap[bk]? = some (.cells #[.int .i64 (k : Int)] 3 (0, 0))) (hx : ¬ x < (k : Int)) :
    Calls Try.prog 35 #[.int .i64 item, .int .i64 x, .pointer (some ⟨bk, 0, none⟩), .pointer (some ⟨bs, 0, none⟩)] w fun e w' => e = .returned (.tuple #[]) ∧ w' = w := by
  have k0 := cell_of_row _ _ 0 _ _ _ hk
  clear hk
  go_enter Try.func35, Try.ntmps35
  go_wp2
  go_end0
  exact ⟨rfl, rfl⟩
theorem slots_err (n k : Int) (a : Option Addr) (m c : Nat) (w : World) (h : ¬ ckE n k = 0) :
    Calls Try.prog 9 #[.int .i64 n, .int .i64 k, .slice a m c] w fun e w' => e = .returned (.tuple #[.slice none 0 0, .int .i64 (ckE n k)]) ∧ New w w' := by
  have HC := Lib.hid (fun w => cd_err n k a m c w h)
  obtain ⟨z, hz⟩ : ∃ z, ckE n k = z := ⟨_, rfl⟩
  rw [hz] at HC h ⊢
  clear hz
  have hb : (z != 0) = true := by simpa using h
  have hbk := heap_alloc_new w (.cells #[.int .i64 k] 3)
  have k0 := cell_of_row _ _ 0 _ _ _ hbk
  clear hbk
  go_enter Try.func9, Try.ntmps9
  go_wp2_with fail
  refine (HC.out _).mono ?_
  rintro e w' ⟨rfl, hw⟩
  replace hw := hw.symm
  subst hw
  go_wp2
  go_ret2
  exact ⟨rfl, (New.refl _).alloc _⟩
theorem slots_bad (n k : Nat) (hk : k ≤ n) (hn : n ≤ 256) (a : Option Addr) (m c : Nat) (d : List Int) (w : World) (h : ZRow w a m c d) (hb : rdB n k d = false) :
    Calls Try.prog 9 #[.int .i64 (n : Int), .int .i64 (k : Int), .slice a m c] w fun e w' => e = .returned (.tuple #[.slice none 0 0, .int .i64 2]) ∧ New w w' := by
  have HC := Lib.hid (cd_q n k hk hn a m c d _ (h.stay ((New.refl w).alloc (.cells #[.int .i64 (k : Int)] 3))))
  rw [show rdE n k d = 2 by unfold rdE; rw [hb]; rfl] at HC
  have k0 := cell_of_row _ _ 0 _ _ _ (heap_alloc_new w (.cells #[.int .i64 (k : Int)] 3))
  clear h hb
  go_enter Try.func9, Try.ntmps9
  go_wp2_with fail
  refine HC.out.mono ?_
  rintro e w9 ⟨rfl, hn9⟩
  have HN := Lib.hid (((New.refl w).alloc _).trans hn9)
  clear hn9 HC
  go_wp2
  go_ret2
  exact ⟨rfl, HN.out⟩
set_option maxRecDepth 100000 in
set_option maxHeartbeats 2000000 in
theorem sl_visit (n k : Nat) (hk : k ≤ n) (hn : n ≤ 256) (a : Option Addr) (m c : Nat) (d : List Int) (w W1 : World) (h : ZRow w a m c d) (hd : rdI n k d) (hbk : W1.heap[w.heap.size]? = some (.cells #[.int .i64 (k : Int)] 3 (0, 0))) (hn1 : New w W1) (hs1 : W1.heap.size = w.heap.size + 1) (w3 w5 w6 : World) (g : Nat) (hn3 : New W1 w3) (hg3 : w3.heap.size ≤ g) (hg5 : g ≠ w5.heap.size) (how : w5.ownsRow w3.heap.size 3 1 (.slice (some ⟨g, 0, none⟩) k k) k ((liI (fun x => x) k).map fun x => .int .i64 x)) (hn5 : New w3 w5) (g1 : w6.heap[(w5.alloc (.cells #[.slice (some ⟨g, 0, none⟩) k k] 22)).heap.size]? = some (.cells #[.int .i64 (k : Int)] 3 (0, 0))) (g2 : w6.heap[(w5.alloc (.cells #[.slice (some ⟨g, 0, none⟩) k k] 22)).heap.size + 1]? = some (.cells #[.slice a m c] 22 (0, 0))) (gn : New (w5.alloc (.cells #[.slice (some ⟨g, 0, none⟩) k k] 22)) w6) :
    Calls Try.prog 53 #[.func (Fn.func 35) #[] #[.pointer (some ⟨w.heap.size, 0, none⟩), .pointer (some ⟨w5.heap.size, 0, none⟩)], .pointer (some ⟨(w5.alloc (.cells #[.slice (some ⟨g, 0, none⟩) k k] 22)).heap.size + 1, 0, none⟩), .pointer (some ⟨(w5.alloc (.cells #[.slice (some ⟨g, 0, none⟩) k k] 22)).heap.size, 0, none⟩)] w6 fun e w' => e = .returned (.tuple #[]) ∧ w'.heap[w5.heap.size]? = some (.cells #[.slice (some ⟨g, 0, none⟩) k k] 22 (0, 0)) ∧ w'.ownsRow w3.heap.size 3 1 (.slice (some ⟨g, 0, none⟩) k k) k ((slI n k d).map fun x => .int .i64 x) ∧ New w w' := by
  have hm : m = n - k := by rw [← h.len_eq]; exact hd.1
  have hF := rdI_F hd
  have hb5 := heap_alloc_new w5 (.cells #[.slice (some ⟨g, 0, none⟩) k k] 22)
  obtain ⟨W5, hW5⟩ : ∃ z, w5.alloc (.cells #[.slice (some ⟨g, 0, none⟩) k k] 22) = z := ⟨_, rfl⟩
  have hs5 : W5.heap.size = w5.heap.size + 1 := by rw [← hW5]; simp
  have hn55 : New w5 W5 := hW5 ▸ (New.refl w5).alloc _
  rw [hW5] at g1 g2 gn hb5 ⊢
  have hg6 := (ow_in how).2.1
  have z1 := hn3.le
  have z2 := hn5.le
  have z3 := gn.le
  have hfl : d.length = n - k := hd.1
  have hk6 : w6.heap[w.heap.size]? = some (.cells #[.int .i64 (k : Int)] 3 (0, 0)) := by
    have q1 := lt_of_block hbk
    exact (gn.block w.heap.size (by omega)).trans ((hn55.block w.heap.size (by omega)).trans ((hn5.block w.heap.size (by omega)).trans ((hn3.block w.heap.size q1).trans hbk)))
  have hb6 : w6.heap[w5.heap.size]? = some (.cells #[.slice (some ⟨g, 0, none⟩) k k] 22 (0, 0)) := (gn.block _ (lt_of_block hb5)).trans hb5
  have ho6 := ow_new (ow_new how hn55) gn
  have hn6 : New w w6 := (((hn1.trans hn3).trans hn5).trans hn55).trans gn
  have hG : ∀ (x y : Value) (w' : World), (callFunc 35 (#[x, y] ++ #[.pointer (some ⟨w.heap.size, 0, none⟩), .pointer (some ⟨w5.heap.size, 0, none⟩)])).run Try.prog w' = .ok (.enter 35 (#[x, y] ++ #[.pointer (some ⟨w.heap.size, 0, none⟩), .pointer (some ⟨w5.heap.size, 0, none⟩)])) w' := fun x y w' => by kernel_rfl
  obtain ⟨P, hP⟩ : ∃ P : Nat → World → Prop, P = fun i w' => w'.heap[w5.heap.size]? = some (.cells #[.slice (some ⟨g, 0, none⟩) k k] 22 (0, 0)) ∧ w'.heap[w.heap.size]? = some (.cells #[.int .i64 (k : Int)] 3 (0, 0)) ∧ w'.ownsRow w3.heap.size 3 1 (.slice (some ⟨g, 0, none⟩) k k) k ((liI (oS k (fnI d) i) k).map fun x => .int .i64 x) ∧ Vis w (W5.heap.size + 1) W5.heap.size (k : Int) a m c d w' := ⟨_, rfl⟩
  have p0 : P 0 w6 := by rw [hP]; exact ⟨hb6, hk6, ho6, g2, g1, hn6⟩
  have pb : ∀ i w', P i w' → w'.heap[W5.heap.size + 1]? = some (.cells #[.slice a m c] 22 (0, 0)) ∧ w'.heap[W5.heap.size]? = some (.cells #[.int .i64 (k : Int)] 3 (0, 0)) ∧ ZRow w' a m c d := fun i w' hI => by
    rw [hP] at hI
    exact ⟨hI.2.2.2.1, hI.2.2.2.2.1, h.stay hI.2.2.2.2.2⟩
  have ps : ∀ i w', i < m → P i w' → Calls Try.prog 35 (#[.int .i64 ((k + i : Nat) : Int), .int .i64 (d.getD i 0)] ++ #[.pointer (some ⟨w.heap.size, 0, none⟩), .pointer (some ⟨w5.heap.size, 0, none⟩)]) w' fun e w'' => e = .returned (.tuple #[]) ∧ P (i + 1) w'' := fun i w' hi hI => by
    rw [hP] at hI ⊢
    obtain ⟨i1, i2, i3, i4⟩ := hI
    have hdi := hd.2 i (by omega)
    obtain ⟨x, hx⟩ : ∃ x : Nat, d.getD i 0 = (x : Int) := ⟨(d.getD i 0).toNat, by omega⟩
    have hfx : fnI d i = x := by unfold fnI; rw [hx]; rfl
    rw [hx]
    by_cases hxk : x < k
    · obtain ⟨e1, e2⟩ := ow_int i3 (k := x) hxk
      refine (sl1_lt w.heap.size w5.heap.size g k k x _ w' i2 i1 hxk ⟨_, e1⟩ e2).mono ?_
      rintro e w9 ⟨rfl, rfl⟩
      have h9 := ow_set i3 x (.int .i64 ((k + i : Nat) : Int))
      have he : liI (oS k (fnI d) (i + 1)) k = (liI (oS k (fnI d) i) k).set x ((k + i : Nat) : Int) := by
        rw [liI_set _ _ hxk]
        exact liI_ext (fun y hy => by
          rw [oS_low hF (by omega) hy, hfx]
          by_cases e : y = x
          · rw [if_pos e.symm, if_pos e]
          · rw [if_neg (fun e2 => e e2.symm), if_neg e])
      refine ⟨rfl, (heap_setCell_other _ _ _ _ (by show w5.heap.size ≠ g; omega)).trans i1, (heap_setCell_other _ _ _ _ (by show w.heap.size ≠ g; omega)).trans i2, ?_, i4.set (by omega) (by omega) (by omega) _⟩
      rw [he, List.map_set]
      exact h9
    · refine (sl1_ge w.heap.size w5.heap.size k _ _ w' i2 (by omega)).mono ?_
      rintro e w9 ⟨rfl, rfl⟩
      refine ⟨rfl, i1, i2, ?_, i4⟩
      rw [show liI (oS k (fnI d) (i + 1)) k = liI (oS k (fnI d) i) k from liI_ext (fun y hy => by
        rw [oS_low hF (by omega) hy, hfx, if_neg (by omega)])]
      exact i3
  refine (arr1_q k m a c d (W5.heap.size + 1) W5.heap.size 35 #[.pointer (some ⟨w.heap.size, 0, none⟩), .pointer (some ⟨w5.heap.size, 0, none⟩)] P w6 (by omega) hG p0 pb ps).mono ?_
  rintro e w' ⟨he, hh⟩
  rw [hP] at hh
  refine ⟨he, hh.1, ?_, hh.2.2.2.2.2⟩
  have h9 := hh.2.2.1
  unfold slI
  rw [← hm]; exact h9
set_option maxRecDepth 100000 in
set_option maxHeartbeats 2000000 in
theorem slots_q (n k : Nat) (hk : k ≤ n) (hn : n ≤ 256) (a : Option Addr) (m c : Nat) (d : List Int) (w : World) (h : ZRow w a m c d) (hd : rdI n k d) :
    Calls Try.prog 9 #[.int .i64 (n : Int), .int .i64 (k : Int), .slice a m c] w fun e w' => ∃ a' c', e = .returned (.tuple #[.slice a' (k : Nat) c', .int .i64 0]) ∧ ZRow w' a' k c' (slI n k d) ∧ New w w' := by
  have hF := rdI_F hd
  have hbk := heap_alloc_new w (.cells #[.int .i64 (k : Int)] 3)
  obtain ⟨W1, hW1⟩ : ∃ z, w.alloc (.cells #[.int .i64 (k : Int)] 3) = z := ⟨_, rfl⟩
  have hn1 : New w W1 := hW1 ▸ (New.refl w).alloc _
  have hs1 : W1.heap.size = w.heap.size + 1 := by rw [← hW1]; simp
  rw [hW1] at hbk
  have HW1 := Lib.hid hW1
  have HC := Lib.hid (cd_q n k hk hn a m c d W1 (h.stay hn1))
  rw [show rdE n k d = 0 by unfold rdE; rw [rdB_iff.2 hd]; rfl] at HC
  have k0 := cell_of_row _ _ 0 _ _ _ hbk
  have HBK := Lib.hid hbk
  have HN1 := Lib.hid hn1
  have HS := Lib.hid (fun w => sorted_42 k w (by omega))
  have HV := Lib.hid (fun w3 w5 w6 g hn3 hg3 hg5 how hn5 g1 g2 gn => sl_visit n k hk hn a m c d w W1 h hd hbk hn1 hs1 w3 w5 w6 g hn3 hg3 hg5 how hn5 g1 g2 gn)
  have HIN : Hid (∀ z ∈ slI n k d, In64 z) := Lib.hid (in64_li _ (fun x hx => by have := oS_lt hF (n - k) (Nat.le_refl _) n (by omega) x (by omega); omega))
  clear h hd hF hW1 hn1 hbk
  go_enter Try.func9, Try.ntmps9
  go_wp2_with fail
  rw [HW1.out]
  refine HC.out.mono ?_
  rintro e w3 ⟨rfl, hn3⟩
  have HN3 := Lib.hid hn3
  have k3 : w3.cell? ⟨w.heap.size, 0, none⟩ = some (.int .i64 (k : Int)) := (hn3.cell (World.block_lt_of_cell? _ _ k0)).trans k0
  clear hn3 HC k0
  go_wp2_with fail
  refine (HS.out _).mono ?_
  rintro e w5 ⟨g, rfl, how, hn5⟩
  have HO := Lib.hid how
  have HN5 := Lib.hid hn5
  have HGI := Lib.hid (ow_in how)
  have k5 : w5.cell? ⟨w.heap.size, 0, none⟩ = some (.int .i64 (k : Int)) := (hn5.cell (World.block_lt_of_cell? _ _ k3)).trans k3
  have k6 : (w5.alloc (.cells #[.slice (some ⟨g, 0, none⟩) k k] 22)).cell? ⟨w.heap.size, 0, none⟩ = some (.int .i64 (k : Int)) := Lib.cell?_alloc_some _ k5
  clear how hn5 HS k3 k5
  have HAR := Lib.hid (arr_q (k : Int) a m c (w5.alloc (.cells #[.slice (some ⟨g, 0, none⟩) k k] 22)))
  have HV2 := Lib.hid (fun w6 g1 g2 gn => HV.out w3 w5 w6 g HN3.out HGI.out.1 (by have := HGI.out.2.1; omega) HO.out HN5.out g1 g2 gn)
  rw [show (w5.alloc (.cells #[.slice (some ⟨g, 0, none⟩) k k] 22)).heap.size = w5.heap.size + 1 by simp] at HAR HV2
  go_wp2_with fail
  refine HAR.out.mono ?_
  rintro e w6 ⟨rfl, g1, g2, gn⟩
  replace HV2 := Lib.hid (HV2.out w6 g1 g2 gn)
  clear g1 g2 gn HV HAR k6
  go_wp2_with fail
  refine HV2.out.mono ?_
  rintro e w7 ⟨rfl, g3, how, hn7⟩
  have k7 := cell_of_row _ _ 0 _ _ _ g3
  obtain ⟨a', c', he, hz⟩ := ZRow.of_owns how (by omega) HIN.out
  cases he
  have HZ := Lib.hid hz
  have HN7 := Lib.hid hn7
  clear g3 how hn7 hz HV2
  go_wp2
  go_ret2
  exact ⟨_, _, rfl, HZ.out, HN7.out⟩
theorem order_err (n k : Int) (a : Option Addr) (m c : Nat) (w : World) (h : ¬ ckE n k = 0) :
    Calls Try.prog 10 #[.int .i64 n, .int .i64 k, .slice a m c] w fun e w' => e = .returned (.tuple #[.slice none 0 0, .int .i64 (ckE n k)]) ∧ New w w' := by
  have HC := Lib.hid (fun w => cd_err n k a m c w h)
  obtain ⟨z, hz⟩ : ∃ z, ckE n k = z := ⟨_, rfl⟩
  rw [hz] at HC h ⊢
  clear hz
  have hb : (z != 0) = true := by simpa using h
  go_enter Try.func10, Try.ntmps10
  go_wp2_with fail
  refine (HC.out _).mono ?_
  rintro e w' ⟨rfl, hw⟩
  replace hw := hw.symm
  subst hw
  go_wp2
  go_ret2
  exact ⟨rfl, New.refl _⟩
theorem order_bad (n k : Nat) (hk : k ≤ n) (hn : n ≤ 256) (a : Option Addr) (m c : Nat) (d : List Int) (w : World) (h : ZRow w a m c d) (hb : rdB n k d = false) :
    Calls Try.prog 10 #[.int .i64 (n : Int), .int .i64 (k : Int), .slice a m c] w fun e w' => e = .returned (.tuple #[.slice none 0 0, .int .i64 2]) ∧ New w w' := by
  have HC := Lib.hid (cd_q n k hk hn a m c d w h)
  rw [show rdE n k d = 2 by unfold rdE; rw [hb]; rfl] at HC
  clear h hb
  go_enter Try.func10, Try.ntmps10
  go_wp2_with fail
  refine HC.out.mono ?_
  rintro e w9 ⟨rfl, hn9⟩
  have HN := Lib.hid hn9
  clear hn9 HC
  go_wp2
  go_ret2
  exact ⟨rfl, HN.out⟩
set_option maxRecDepth 100000 in
set_option maxHeartbeats 4000000 in
theorem od1_q (bs B j x : Nat) (v : Value) (f : Nat → Nat) (w : World) (hB : B ≤ w.heap.size) (hj : j ≤ 1000) (hx : x ≤ j) (hf : f j = j) (hs : w.heap[bs]? = some (.cells #[v] 22 (0, 0))) (hv : v.ownBlock ≠ some bs) (ho : w.ownsRow B 3 1 v j ((liI f j).map fun x => .int .i64 x)) :
    Calls Try.prog 36 #[.int .i64 (j : Int), .int .i64 (x : Int), .pointer (some ⟨bs, 0, none⟩)] w fun e w' => e = .returned (.tuple #[]) ∧ ∃ v', w'.heap[bs]? = some (.cells #[v'] 22 (0, 0)) ∧ w'.ownsRow B 3 1 v' (j + 1) ((liI (sw f j x) (j + 1)).map fun x => .int .i64 x) ∧ (∀ b, b < w.heap.size → b ≠ bs → v.ownBlock ≠ some b → w'.heap[b]? = w.heap[b]?) ∧ (∀ b, v'.ownBlock = some b → v.ownBlock = some b ∨ w.heap.size ≤ b) ∧ w.heap.size ≤ w'.heap.size ∧ ∀ W0 : World, New W0 w → W0.heap.size ≤ bs → W0.heap.size ≤ B → New W0 w' := by
  have hbs := lt_of_block hs
  obtain ⟨i0, hi, hz0, hz1, hz2⟩ := info_parts info_int40
  have k0 := cell_of_row _ _ 0 _ _ _ hs
  have kf := frozen_of_row _ _ 0 _ _ hs
  have HS := Lib.hid hs
  have HO := Lib.hid ho
  clear hs ho
  go_enter Try.func36, Try.ntmps36
  go_wp2_with (at_builtin; refine wpList_append_own_at _ rfl _ _ 22 rfl B 3 i0 (.int .i64 0) 1 8 Try.underlying22 hi hz0 hz1 hz2 rfl (by decide) _ j _ rfl (HO.out.alloc _) ⟨w.heap.size, 0, none⟩ 1 1 [.int .i64 (j : Int)] rfl rfl ?c1 ?c2 ?c3 ?c4 ?c5 ?_)
  try (case c1 => exact one_cell w _ _)
  try (case c2 => first | rfl | (intro u hu; simp at hu; subst hu; rfl))
  try (case c3 => first | (unfold maxLen; omega) | omega)
  try (case c4 => omega)
  try (case c5 => first | (simp; omega) | omega)
  intro v' w1 how hgr _ hob
  have how2 : w1.ownsRow B 3 1 v' (j + 1) ((liI f (j + 1)).map fun x => .int .i64 x) := by
    rw [liI_succ, hf, List.map_append]; exact how
  obtain ⟨g, cap, rfl, hg, hgs, hgc, hgc2⟩ := ow_shape how2 (by omega)
  have hsb : (w.alloc (.cells #[.int .i64 (j : Int)] 3)).heap.size = w.heap.size + 1 := by simp
  have hgo : v.ownBlock = some g ∨ w.heap.size ≤ g := by
    rcases hob with e | e
    · left; rw [← e]; rfl
    · right
      have e2 : g = (w.alloc (.cells #[.int .i64 (j : Int)] 3)).heap.size := by simpa [Value.ownBlock] using e
      omega
  have HGO := Lib.hid hgo
  have hne : ¬ g = bs := by
    intro e
    rcases hgo with h | h
    · rw [e] at h; exact hv h
    · omega
  have hne2 : ¬ bs = g := fun e => hne e.symm
  have hb1 : w1.heap[bs]? = some (.cells #[v] 22 (0, 0)) := (hgr.block bs (by rw [hsb]; omega) (fun e => hv e.symm)).trans ((((New.refl w).alloc _).block _ (lt_of_block HS.out)).trans HS.out)
  have k1 := frozen_of_row _ _ 0 _ _ hb1
  have HSZ : Hid (w.heap.size ≤ w1.heap.size) := Lib.hid (by have := hgr.size; rw [hsb] at this; omega)
  have HKP : Hid (∀ b, b < w.heap.size → b ≠ bs → v.ownBlock ≠ some b → w1.heap[b]? = w.heap[b]?) := Lib.hid (fun b h1 h2 h3 => (hgr.block b (by rw [hsb]; omega) (fun e => h3 e.symm)).trans (((New.refl w).alloc _).block _ h1))
  have k2 : w1.cell? ⟨bs, 0, none⟩ = some v := cell_of_row _ _ 0 _ _ _ hb1
  have HB1 := Lib.hid (heap_setCell_same w1 bs 0 _ _ (.slice (some ⟨g, 0, none⟩) (j + 1 : Nat) cap) hb1)
  have HO1 := Lib.hid (ow_far how2 (a := ⟨bs, 0, none⟩) (by simp [Value.ownBlock]; exact hne) (.slice (some ⟨g, 0, none⟩) (j + 1 : Nat) cap))
  have HKP2 : Hid (∀ b, b < w.heap.size → b ≠ bs → v.ownBlock ≠ some b → (w1.setCell ⟨bs, 0, none⟩ (.slice (some ⟨g, 0, none⟩) (j + 1 : Nat) cap)).heap[b]? = w.heap[b]?) := Lib.hid (fun b h1 h2 h3 => (heap_setCell_other _ _ _ _ h2).trans (HKP.out b h1 h2 h3))
  have HNW : Hid (∀ W0 : World, New W0 w → W0.heap.size ≤ bs → W0.heap.size ≤ B → New W0 (w1.setCell ⟨bs, 0, none⟩ (.slice (some ⟨g, 0, none⟩) (j + 1 : Nat) cap))) := Lib.hid (fun W0 h1 h2 h3 => ((h1.alloc _).grown' hgr (fun k e => Nat.le_trans h3 (own_base HO.out k e))).setCell (p := ⟨bs, 0, none⟩) h2 _)
  clear how hgr how2 hb1 k0 kf HS HO HKP hob hgo hbs
  go_wp2_with fail
  obtain ⟨W2, hW2⟩ : ∃ z, w1.setCell ⟨bs, 0, none⟩ (.slice (some ⟨g, 0, none⟩) (j + 1 : Nat) cap) = z := ⟨_, rfl⟩
  have HSZ2 : Hid (w.heap.size ≤ W2.heap.size) := Lib.hid (by rw [← hW2]; simp; exact HSZ.out)
  rw [hW2] at HB1 HO1 HKP2 HNW ⊢
  clear hW2 k1 k2
  have kb : W2.cell? ⟨bs, 0, none⟩ = some (.slice (some ⟨g, 0, none⟩) (j + 1 : Nat) cap) := cell_of_row _ _ 0 _ _ _ HB1.out
  obtain ⟨cj, fj⟩ := ow_int HO1.out (k := j) (by omega)
  obtain ⟨cx, fx⟩ := ow_int HO1.out (k := x) (by omega)
  rw [liI_get f (show j < j + 1 by omega)] at cj
  rw [liI_get f (show x < j + 1 by omega)] at cx
  have hj0 : (0 : Int) ≤ (j : Int) := by omega
  have hj1 : (j : Int) < (j : Int) + 1 := by omega
  have hx0 : (0 : Int) ≤ (x : Int) := by omega
  have hx1 : (x : Int) < (j : Int) + 1 := by omega
  obtain ⟨s1, s2⟩ := ow_int (l := (liI f (j + 1)).set j (f x : Int)) (by rw [List.map_set]; exact ow_set HO1.out j (.int .i64 (f x : Nat))) (k := x) (by omega)
  have HO3 : Hid (((W2.setCell ⟨g, j, none⟩ (.int .i64 (f x : Nat))).setCell ⟨g, x, none⟩ (.int .i64 (f j : Nat))).ownsRow B 3 1 (.slice (some ⟨g, 0, none⟩) (j + 1 : Nat) cap) (j + 1) ((liI (sw f j x) (j + 1)).map fun x => .int .i64 x)) := Lib.hid (by
    rw [← liI_sw f (show j < j + 1 by omega) (show x < j + 1 by omega), List.map_set, List.map_set]
    exact ow_set (ow_set HO1.out _ _) _ _)
  have HB3 : Hid (((W2.setCell ⟨g, j, none⟩ (.int .i64 (f x : Nat))).setCell ⟨g, x, none⟩ (.int .i64 (f j : Nat))).heap[bs]? = some (.cells #[.slice (some ⟨g, 0, none⟩) (j + 1 : Nat) cap] 22 (0, 0))) := Lib.hid ((heap_setCell_other _ _ _ _ hne2).trans ((heap_setCell_other _ _ _ _ hne2).trans HB1.out))
  have HK3 : Hid (∀ b, b < w.heap.size → b ≠ bs → v.ownBlock ≠ some b → ((W2.setCell ⟨g, j, none⟩ (.int .i64 (f x : Nat))).setCell ⟨g, x, none⟩ (.int .i64 (f j : Nat))).heap[b]? = w.heap[b]?) := Lib.hid (fun b h1 h2 h3 => by
    have hbg : b ≠ g := fun e => by
      rcases HGO.out with h | h
      · rw [e] at h3; exact h3 h
      · omega
    exact (heap_setCell_other _ _ _ _ hbg).trans ((heap_setCell_other _ _ _ _ hbg).trans (HKP2.out b h1 h2 h3)))
  rw [hf] at HO3 HB3 HK3
  clear HB1 HO1 HKP2
  go_region
  all_goals (
    go_end0
    exact ⟨rfl, _, HB3.out, ow_new HO3.out (New.refl _).drew, HK3.out, (fun b hb => by
      have e : g = b := by simpa [Value.ownBlock] using hb
      subst e; exact HGO.out), (by simp; exact HSZ2.out), fun W0 h1 h2 h3 => (((HNW.out W0 h1 h2 h3).setCell (p := ⟨g, j, none⟩) (Nat.le_trans h3 hg) _).setCell (p := ⟨g, x, none⟩) (Nat.le_trans h3 hg) _).drew⟩)
end Go.Proofs.Ytajjpllhihgkdaa
namespace Go.Proofs.Ytajjpllhihgkdaa
open Go Go.RowKit Go.Bv
set_option linter.unusedVariables false
theorem sw_same (f : Nat → Nat) (x : Nat) : sw f x x = f := by
  funext y
  unfold sw
  by_cases e : y = x
  · rw [if_pos e, e]
  · rw [if_neg e, if_neg e]
theorem own_form {w : World} {base : Nat} {e : TypeId} {v : Value} {n : Nat} {xs : List Value} (h : w.ownsRow base e 1 v n xs) : ∃ p cap, v = .slice p n cap := by
  rcases h.2 with ⟨rfl, rfl⟩ | ⟨g, cap, cur, rfl, _⟩
  · exact ⟨_, _, rfl⟩
  · exact ⟨_, _, rfl⟩
set_option maxRecDepth 100000 in
set_option maxHeartbeats 2000000 in
theorem od_visit (n k : Nat) (hk : k ≤ n) (hn : n ≤ 256) (a : Option Addr) (m c : Nat) (d : List Int) (w : World) (h : ZRow w a m c d) (hd : rdI n k d) (w5 w6 : World) (B g : Nat) (hB : w.heap.size ≤ B) (hn1 : New w w5) (how : w5.ownsRow B 3 1 (.slice (some ⟨g, 0, none⟩) k k) k ((liI (fun x => x) k).map fun x => .int .i64 x)) (g1 : w6.heap[w5.heap.size + 1]? = some (.cells #[.int .i64 (k : Int)] 3 (0, 0))) (g2 : w6.heap[w5.heap.size + 1 + 1]? = some (.cells #[.slice a m c] 22 (0, 0))) (gn : New (w5.alloc (.cells #[.slice (some ⟨g, 0, none⟩) k k] 22)) w6) :
    Calls Try.prog 53 #[.func (Fn.func 36) #[] #[.pointer (some ⟨w5.heap.size, 0, none⟩)], .pointer (some ⟨w5.heap.size + 1 + 1, 0, none⟩), .pointer (some ⟨w5.heap.size + 1, 0, none⟩)] w6 fun e w' => e = .returned (.tuple #[]) ∧ ∃ v, w'.heap[w5.heap.size]? = some (.cells #[v] 22 (0, 0)) ∧ w'.ownsRow B 3 1 v n ((odI n k d).map fun x => .int .i64 x) ∧ New w w' := by
  have hm : m = n - k := by rw [← h.len_eq]; exact hd.1
  have hF := rdI_F hd
  have hb5 := heap_alloc_new w5 (.cells #[.slice (some ⟨g, 0, none⟩) k k] 22)
  have hn55 : New w5 (w5.alloc (.cells #[.slice (some ⟨g, 0, none⟩) k k] 22)) := (New.refl w5).alloc _
  have hg6 := ow_in how
  have z1 := hn1.le
  have hb6 : w6.heap[w5.heap.size]? = some (.cells #[.slice (some ⟨g, 0, none⟩) k k] 22 (0, 0)) := (gn.block _ (lt_of_block hb5)).trans hb5
  have ho6 := ow_new (ow_new how hn55) gn
  have hn6 : New w w6 := (hn1.trans hn55).trans gn
  have hG : ∀ (x y : Value) (w' : World), (callFunc 36 (#[x, y] ++ #[.pointer (some ⟨w5.heap.size, 0, none⟩)])).run Try.prog w' = .ok (.enter 36 (#[x, y] ++ #[.pointer (some ⟨w5.heap.size, 0, none⟩)])) w' := fun x y w' => by kernel_rfl
  obtain ⟨P, hP⟩ : ∃ P : Nat → World → Prop, P = fun i w' => ∃ v, w'.heap[w5.heap.size]? = some (.cells #[v] 22 (0, 0)) ∧ w'.ownsRow B 3 1 v (k + i) ((liI (oS k (fnI d) i) (k + i)).map fun x => .int .i64 x) ∧ (v.ownBlock ≠ some w5.heap.size ∧ v.ownBlock ≠ some (w5.heap.size + 1) ∧ v.ownBlock ≠ some (w5.heap.size + 1 + 1)) ∧ w'.heap[w5.heap.size + 1 + 1]? = some (.cells #[.slice a m c] 22 (0, 0)) ∧ w'.heap[w5.heap.size + 1]? = some (.cells #[.int .i64 (k : Int)] 3 (0, 0)) ∧ New w w' := ⟨_, rfl⟩
  have hob : ∀ q, w5.heap.size ≤ q → (Value.slice (some ⟨g, 0, none⟩) k k).ownBlock ≠ some q := fun q hq e => by
    have e2 : g = q := by simpa [Value.ownBlock] using e
    omega
  have p0 : P 0 w6 := by rw [hP]; exact ⟨_, hb6, ho6, ⟨hob _ (by omega), hob _ (by omega), hob _ (by omega)⟩, g2, g1, hn6⟩
  have pb : ∀ i w', P i w' → w'.heap[w5.heap.size + 1 + 1]? = some (.cells #[.slice a m c] 22 (0, 0)) ∧ w'.heap[w5.heap.size + 1]? = some (.cells #[.int .i64 (k : Int)] 3 (0, 0)) ∧ ZRow w' a m c d := fun i w' hI => by
    rw [hP] at hI
    obtain ⟨v, _, _, _, q1, q2, q3⟩ := hI
    exact ⟨q1, q2, h.stay q3⟩
  have ps : ∀ i w', i < m → P i w' → Calls Try.prog 36 (#[.int .i64 ((k + i : Nat) : Int), .int .i64 (d.getD i 0)] ++ #[.pointer (some ⟨w5.heap.size, 0, none⟩)]) w' fun e w'' => e = .returned (.tuple #[]) ∧ P (i + 1) w'' := fun i w' hi hI => by
    rw [hP] at hI ⊢
    obtain ⟨v, i1, i2, ⟨i3, i4, i5⟩, i6, i7, i8⟩ := hI
    have hdi := hd.2 i (by omega)
    obtain ⟨x, hx⟩ : ∃ x : Nat, d.getD i 0 = (x : Int) := ⟨(d.getD i 0).toNat, by omega⟩
    have hfx : fnI d i = x := by unfold fnI; rw [hx]; rfl
    rw [hx]
    have l6 := lt_of_block i6
    have l7 := lt_of_block i7
    have l8 := i8.le
    refine (od1_q w5.heap.size B (k + i) x v (oS k (fnI d) i) w' (by have := (ow_in how).1; omega) (by omega) (by omega) (oS_high hF i (by omega) (k + i) (Nat.le_refl _)) i1 i3 i2).mono ?_
    rintro e w9 ⟨rfl, v', j1, j2, j3, j4, j5, j6⟩
    have hst : oS k (fnI d) (i + 1) = sw (oS k (fnI d) i) (k + i) x := by show sw _ _ _ = _; rw [hfx]
    have hno : ∀ q, q < w'.heap.size → v.ownBlock ≠ some q → v'.ownBlock ≠ some q := fun q hq h1 h2 => by
      rcases j4 q h2 with h3 | h3
      · exact h1 h3
      · omega
    refine ⟨rfl, v', j1, ?_, ⟨hno _ (by omega) i3, hno _ (by omega) i4, hno _ (by omega) i5⟩, (j3 _ l6 (by omega) i5).trans i6, (j3 _ l7 (by omega) i4).trans i7, j6 w i8 (by omega) hB⟩
    rw [hst, show k + (i + 1) = k + i + 1 by omega]
    exact j2
  refine (arr1_q k m a c d (w5.heap.size + 1 + 1) (w5.heap.size + 1) 36 #[.pointer (some ⟨w5.heap.size, 0, none⟩)] P w6 (by omega) hG p0 pb ps).mono ?_
  rintro e w' ⟨he, hh⟩
  rw [hP] at hh
  obtain ⟨v, q1, q2, _, _, _, q3⟩ := hh
  refine ⟨he, v, q1, ?_, q3⟩
  unfold odI
  rw [hm, show k + (n - k) = n by omega] at q2
  exact q2
set_option maxRecDepth 100000 in
set_option maxHeartbeats 2000000 in
theorem order_q (n k : Nat) (hk : k ≤ n) (hn : n ≤ 256) (a : Option Addr) (m c : Nat) (d : List Int) (w : World) (h : ZRow w a m c d) (hd : rdI n k d) :
    Calls Try.prog 10 #[.int .i64 (n : Int), .int .i64 (k : Int), .slice a m c] w fun e w' => ∃ a' c', e = .returned (.tuple #[.slice a' (n : Nat) c', .int .i64 0]) ∧ ZRow w' a' n c' (odI n k d) ∧ New w w' := by
  have hF := rdI_F hd
  have HC := Lib.hid (cd_q n k hk hn a m c d w h)
  rw [show rdE n k d = 0 by unfold rdE; rw [rdB_iff.2 hd]; rfl] at HC
  have HS := Lib.hid (fun w => sorted_42 k w (by omega))
  have HV := Lib.hid (fun w5 w6 B g hB hn1 how g1 g2 gn => od_visit n k hk hn a m c d w h hd w5 w6 B g hB hn1 how g1 g2 gn)
  have HIN : Hid (∀ z ∈ odI n k d, In64 z) := Lib.hid (in64_li _ (fun x hx => by have := oS_lt hF (n - k) (Nat.le_refl _) n (by omega) x hx; omega))
  clear h hd hF
  go_enter Try.func10, Try.ntmps10
  go_wp2_with fail
  refine HC.out.mono ?_
  rintro e w3 ⟨rfl, hn3⟩
  have HN3 := Lib.hid hn3
  clear hn3 HC
  go_wp2_with fail
  refine (HS.out _).mono ?_
  rintro e w5 ⟨g, rfl, how, hn5⟩
  have HO := Lib.hid how
  have HN5 := Lib.hid hn5
  clear how hn5 HS
  have HAR := Lib.hid (arr_q (k : Int) a m c (w5.alloc (.cells #[.slice (some ⟨g, 0, none⟩) k k] 22)))
  have HV2 := Lib.hid (fun w6 g1 g2 gn => HV.out w5 w6 w3.heap.size g HN3.out.le (HN3.out.trans HN5.out) HO.out g1 g2 gn)
  rw [show (w5.alloc (.cells #[.slice (some ⟨g, 0, none⟩) k k] 22)).heap.size = w5.heap.size + 1 by simp] at HAR
  go_wp2_with fail
  refine HAR.out.mono ?_
  rintro e w6 ⟨rfl, g1, g2, gn⟩
  replace HV2 := Lib.hid (HV2.out w6 g1 g2 gn)
  clear g1 g2 gn HV HAR
  go_wp2_with fail
  refine HV2.out.mono ?_
  rintro e w7 ⟨rfl, v, g3, how, hn7⟩
  have k7 := cell_of_row _ _ 0 _ _ _ g3
  obtain ⟨a', c', rfl, hz⟩ := ZRow.of_owns how (by omega) HIN.out
  have HZ := Lib.hid hz
  have HN7 := Lib.hid hn7
  clear g3 how hn7 hz HV2
  go_wp2
  go_ret2
  exact ⟨_, _, rfl, HZ.out, HN7.out⟩
/-- the slots that are told so far: the first s of them, and of the next one what the first i decisions say -/
def rsL (k m : Nat) (d : Nat → Nat) (s i : Nat) : List Int := liI (fun x => if x < s then oS k d m x else if x = s then oS k d i x else x) k
theorem rsL_next (k m : Nat) (d : Nat → Nat) (s : Nat) : rsL k m d s m = rsL k m d (s + 1) 0 := liI_ext (fun x _ => by
  by_cases h1 : x < s
  · rw [if_pos h1, if_pos (by omega)]
  · rw [if_neg h1]
    by_cases h2 : x = s
    · rw [if_pos h2, if_pos (by omega)]
    · rw [if_neg h2, if_neg (by omega)]
      by_cases h3 : x = s + 1
      · rw [if_pos h3]; rfl
      · rw [if_neg h3])
theorem rsL_zero (k m : Nat) (d : Nat → Nat) : rsL k m d 0 0 = liI (fun x => x) k := liI_ext (fun x _ => by
  rw [if_neg (by omega)]
  by_cases h : x = 0
  · rw [if_pos h]; rfl
  · rw [if_neg h])
theorem rsL_all (k m : Nat) (d : Nat → Nat) : rsL k m d k 0 = liI (oS k d m) k := liI_ext (fun x hx => by rw [if_pos hx])
theorem rsL_yes {k m : Nat} {d : Nat → Nat} {s i : Nat} (hs : s < k) (h : oS k d (i + 1) s = k + i) : (rsL k m d s i).set s ((k + i : Nat) : Int) = rsL k m d s (i + 1) := by
  unfold rsL
  rw [liI_set _ _ hs]
  apply liI_ext
  intro x hx
  by_cases e : x = s
  · subst e; rw [if_pos rfl, if_neg (by omega), if_pos rfl, h]
  · rw [if_neg e, if_neg e, if_neg e]
theorem rsL_no {k m : Nat} {d : Nat → Nat} {s i : Nat} (h : oS k d (i + 1) s = oS k d i s) : rsL k m d s i = rsL k m d s (i + 1) := liI_ext (fun x _ => by
  by_cases e : x = s
  · subst e; rw [if_neg (by omega), if_pos rfl, if_neg (by omega), if_pos rfl, h]
  · rw [if_neg e, if_neg e])
set_option maxRecDepth 100000 in
set_option maxHeartbeats 4000000 in
theorem slotsr_42 (n k : Nat) (hk : k ≤ n) (hn : n ≤ 256) (a : Option Addr) (m c : Nat) (d : List Int) (w : World) (h : ZRow w a m c d) (hd : rdI n k d) :
    Calls Try.prog 15 #[.int .i64 (n : Int), .int .i64 (k : Int), .slice a m c] w fun e w' => ∃ a' c', e = .returned (.slice a' (k : Nat) c') ∧ ZRow w' a' k c' (slI n k d) ∧ New w w' := by
  have hF := rdI_F hd
  have hmn : m = n - k := by rw [← h.len_eq]; exact hd.1
  have HH := Lib.hid h
  have HD := Lib.hid (fun i (hi : i < m) => hd.2 i (by omega))
  have HF : Hid (∀ j, j < m → ∀ x, x < k → oS k (fnI d) (j + 1) x = if fnI d j = x then k + j else oS k (fnI d) j x) := Lib.hid (fun j hj x hx => oS_low hF (by omega) hx)
  have HSL : Hid (slI n k d = liI (oS k (fnI d) m) k) := Lib.hid (by unfold slI; rw [hmn])
  have HLT : Hid (∀ x, x < k → oS k (fnI d) m x < n) := Lib.hid (fun x hx => oS_lt hF m (by omega) n (by omega) x (by omega))
  have hkm : k + m ≤ 256 := by omega
  have HR := Lib.hid (fun w => row_ref40 k w (by omega))
  clear h hd hF hmn
  go_enter Try.func15, Try.ntmps15
  go_wp2_with fail
  refine (HR.out _).mono ?_
  rintro e w1 ⟨v, rfl, how, hn1⟩
  obtain ⟨p0, cap0, rfl⟩ := own_form how
  have HO := Lib.hid how
  have HN := Lib.hid hn1
  clear how hn1 HR
  go_wp2_with fail
  go_loopw [15] (fun iv wr => ∃ s : Nat, s ≤ k ∧ iv = .int .i64 (s : Int) ∧ wr.ownsRow w.heap.size 3 1 (.slice p0 k cap0) k ((rsL k m (fnI d) s 0).map fun x => .int .i64 x) ∧ New w wr) (fun iv _ => k - (intOf iv).toNat)
  case atStart => exact ⟨0, Nat.zero_le _, rfl, by rw [rsL_zero]; exact HO.out, HN.out⟩
  case round =>
    clear HO HN
    obtain ⟨s, hs, rfl, hown, hnew⟩ := hrel
    by_cases hlt : (s : Int) < (k : Int)
    · have hs0 : (0 : Int) ≤ (s : Int) := by omega
      have hsk : s < k := by omega
      obtain ⟨g, cap, he0, hg, hgs, hgc, hgc2⟩ := ow_shape hown (by omega)
      cases he0
      have HO := Lib.hid hown
      have HN := Lib.hid hnew
      clear hown hnew hgs
      go_wp2_with fail
      go_loopw [20] (fun jv wr => ∃ i : Nat, i ≤ m ∧ jv = .int .i64 (i : Int) ∧ wr.ownsRow w.heap.size 3 1 (.slice (some ⟨g, 0, none⟩) k cap0) k ((rsL k m (fnI d) s i).map fun x => .int .i64 x) ∧ New w wr) (fun jv _ => m - (intOf jv).toNat)
      case atStart => exact ⟨0, Nat.zero_le _, rfl, HO.out, HN.out⟩
      case round =>
        clear HO HN
        obtain ⟨i, hi, rfl, hown, hnew⟩ := hrel
        by_cases hlt2 : (i : Int) < (m : Int)
        · have hi0 : (0 : Int) ≤ (i : Int) := by omega
          obtain ⟨b, off, rfl, hc⟩ := (HH.out.stay hnew).addr (by omega)
          have c1 := hc i (by omega)
          have hdi := HD.out i (by omega)
          have hst := HF.out i (by omega) s hsk
          obtain ⟨x, hx⟩ : ∃ x : Nat, d.getD i 0 = (x : Int) := ⟨(d.getD i 0).toNat, by omega⟩
          have hfx : fnI d i = x := by unfold fnI; rw [hx]; rfl
          rw [hfx] at hst
          rw [hx] at c1
          obtain ⟨r, hr⟩ : ∃ r, k + i = r := ⟨_, rfl⟩
          have hri : (k : Int) + (i : Int) = (r : Int) := by omega
          clear hc hdi hx hfx
          by_cases he : x = s
          · subst he
            rw [if_pos rfl] at hst
            have HS2 := Lib.hid (rsL_yes (k := k) (m := m) (d := fnI d) hsk hst)
            rw [hr] at HS2
            obtain ⟨c2, f2⟩ := ow_int hown (k := x) hsk
            have HO2 : Hid ((wr.setCell ⟨g, x, none⟩ (.int .i64 (r : Nat))).ownsRow w.heap.size 3 1 (.slice (some ⟨g, 0, none⟩) k cap0) k ((rsL k m (fnI d) x (i + 1)).map fun x => .int .i64 x)) := Lib.hid (by
              rw [← HS2.out, List.map_set]; exact ow_set hown x _)
            have HN2 : Hid (New w (wr.setCell ⟨g, x, none⟩ (.int .i64 (r : Nat)))) := Lib.hid (hnew.setCell hg _)
            have hb : ((x : Int) == (x : Int)) = true := by simp
            clear hown hnew hst HS2
            go_wp2
            exact ⟨⟨i + 1, by omega, by go_num, HO2.out, HN2.out⟩, by simp [intOf]; omega⟩
          · rw [if_neg he] at hst
            have HO2 : Hid (wr.ownsRow w.heap.size 3 1 (.slice (some ⟨g, 0, none⟩) k cap0) k ((rsL k m (fnI d) s (i + 1)).map fun x => .int .i64 x)) := Lib.hid (by
              rw [← rsL_no (k := k) (m := m) hst]; exact hown)
            have hb : ((x : Int) == (s : Int)) = false := by rw [beq_eq_false_iff_ne]; omega
            clear hown hst
            go_wp2
            exact ⟨⟨i + 1, by omega, by go_num, HO2.out, hnew⟩, by simp [intOf]; omega⟩
        · obtain rfl : i = m := by omega
          have HO2 : Hid (wr.ownsRow w.heap.size 3 1 (.slice (some ⟨g, 0, none⟩) k cap0) k ((rsL k i (fnI d) (s + 1) 0).map fun x => .int .i64 x)) := Lib.hid (by
            rw [← rsL_next]; exact hown)
          clear hown
          go_wp2
          exact ⟨⟨s + 1, by omega, by go_num, HO2.out, hnew⟩, by simp [intOf]; omega⟩
    · obtain rfl : s = k := by omega
      rw [rsL_all, ← HSL.out] at hown
      obtain ⟨a', c', he0, hz⟩ := ZRow.of_owns hown (by omega) (by rw [HSL.out]; exact in64_li _ (fun x hx => by have := HLT.out x hx; omega))
      cases he0
      have HZ := Lib.hid hz
      have HN := Lib.hid hnew
      clear hown hz hnew
      go_wp2
      go_ret
      exact ⟨_, _, rfl, HZ.out, HN.out⟩
set_option maxRecDepth 100000 in
set_option maxHeartbeats 4000000 in
theorem orderr_42 (n k : Nat) (hk : k ≤ n) (hn : n ≤ 256) (a : Option Addr) (m c : Nat) (d : List Int) (w : World) (h : ZRow w a m c d) (hd : rdI n k d) :
    Calls Try.prog 16 #[.int .i64 (n : Int), .int .i64 (k : Int), .slice a m c] w fun e w' => ∃ a' c', e = .returned (.slice a' (n : Nat) c') ∧ ZRow w' a' n c' (odI n k d) ∧ New w w' := by
  obtain ⟨i0, hi, hz0, hz1, hz2⟩ := info_parts info_int40
  have hF := rdI_F hd
  have hmn : m = n - k := by rw [← h.len_eq]; exact hd.1
  have HH := Lib.hid h
  have HD := Lib.hid (fun i (hi : i < m) => hd.2 i (by omega))
  have HHI : Hid (∀ j, j ≤ m → oS k (fnI d) j (k + j) = k + j) := Lib.hid (fun j hj => oS_high hF j (by omega) _ (Nat.le_refl _))
  have HOD : Hid (odI n k d = liI (oS k (fnI d) m) (k + m)) := Lib.hid (by unfold odI; rw [hmn, show k + (n - k) = n by omega])
  have HLT : Hid (∀ x, x < k + m → oS k (fnI d) m x < n) := Lib.hid (fun x hx => oS_lt hF m (by omega) n (by omega) x (by omega))
  have HKM : Hid (k + m = n) := Lib.hid (by omega)
  have hkm : k + m ≤ 256 := by omega
  have HR := Lib.hid (fun w => row_ref40 k w (by omega))
  clear h hd hF hmn
  go_enter Try.func16, Try.ntmps16
  go_wp2_with fail
  refine (HR.out _).mono ?_
  rintro e w1 ⟨v, rfl, how, hn1⟩
  have HO := Lib.hid how
  have HN := Lib.hid hn1
  clear how hn1 HR
  go_wp2_with fail
  go_loopw [7, 14] (fun v iv wr => ∃ i : Nat, i ≤ m ∧ iv = .int .i64 (i : Int) ∧ wr.ownsRow w.heap.size 3 1 v (k + i) ((liI (oS k (fnI d) i) (k + i)).map fun x => .int .i64 x) ∧ New w wr) (fun _ iv _ => m - (intOf iv).toNat)
  case atStart => exact ⟨0, Nat.zero_le _, rfl, HO.out, HN.out⟩
  case round =>
    clear HO HN
    obtain ⟨i, hi9, rfl, hown, hnew⟩ := hrel
    obtain ⟨wq, hwq⟩ : ∃ z, z = wr := ⟨_, rfl⟩
    rw [← hwq] at hown hnew ⊢
    clear hwq
    by_cases hlt : (i : Int) < (m : Int)
    · have hi0 : (0 : Int) ≤ (i : Int) := by omega
      obtain ⟨b, off, rfl, hc⟩ := (HH.out.stay hnew).addr (by omega)
      have c1 := hc i (by omega)
      have hdi := HD.out i (by omega)
      have hhi := HHI.out i (by omega)
      obtain ⟨x, hx⟩ : ∃ x : Nat, d.getD i 0 = (x : Int) := ⟨(d.getD i 0).toNat, by omega⟩
      have hfx : fnI d i = x := by unfold fnI; rw [hx]; rfl
      have HST : Hid (oS k (fnI d) (i + 1) = sw (oS k (fnI d) i) (k + i) x) := Lib.hid (by show sw _ _ _ = _; rw [hfx])
      rw [hx] at c1
      obtain ⟨r, hr⟩ : ∃ r, k + i = r := ⟨_, rfl⟩
      have hri : (k : Int) + (i : Int) = (r : Int) := by omega
      have hr1 : k + (i + 1) = r + 1 := by omega
      have hxr : x ≤ r := by omega
      obtain ⟨f, hf⟩ : ∃ f, oS k (fnI d) i = f := ⟨_, rfl⟩
      rw [hf, hr] at hown hhi HST
      have hr256 : r ≤ 256 := by omega
      clear hc hdi hx hfx hf hr
      by_cases he : x = r
      · subst he
        have hb : ((x : Int) == (x : Int)) = true := by simp
        have HE : Hid (liI (sw f x x) (x + 1) = liI f x ++ [(x : Int)]) := Lib.hid (by
          rw [sw_same, liI_succ, hhi])
        go_wp2_with (at_builtin; refine wpList_append_own _ rfl _ _ 22 rfl w.heap.size 3 i0 (.int .i64 0) 1 8 Try.underlying22 hi hz0 hz1 hz2 rfl (by decide) _ x _ rfl (hown.alloc _) ⟨wq.heap.size, 0, none⟩ 1 1 [.int .i64 (x : Int)] rfl rfl ?c1 ?c2 ?c3 ?c4 ?c5 ?_)
        try (case c1 => exact one_cell wq _ _)
        try (case c2 => first | rfl | (intro u hu; simp at hu; subst hu; rfl))
        try (case c3 => first | (unfold maxLen; omega) | omega)
        try (case c4 => omega)
        try (case c5 => first | (simp; have := hnew.le; omega) | (have := hnew.le; omega))
        intro v' w2 how hgr _
        have HO2 : Hid (w2.ownsRow w.heap.size 3 1 v' (k + (i + 1)) ((liI (oS k (fnI d) (i + 1)) (k + (i + 1))).map fun x => .int .i64 x)) := Lib.hid (by
          rw [HST.out, hr1, HE.out, List.map_append]; exact how)
        have HN1 := Lib.hid ((hnew.alloc _).grown' hgr (own_base hown))
        clear how hgr hown hnew
        go_wp2
        exact ⟨⟨i + 1, by omega, by go_num, HO2.out, HN1.out⟩, by simp [intOf]; omega⟩
      · have hb : ((x : Int) == (r : Int)) = false := by rw [beq_eq_false_iff_ne]; omega
        have hxr2 : x < r := by omega
        obtain ⟨g, cap, rfl, hg, hgs, hgc, hgc2⟩ := ow_shape hown (by omega)
        obtain ⟨c2, f2⟩ := ow_int hown (k := x) hxr2
        rw [liI_get f hxr2] at c2
        have hx0 : (0 : Int) ≤ (x : Int) := by omega
        have hx1 : (x : Int) < (r : Int) := by omega
        have HE : Hid ((liI f r ++ [((f x : Nat) : Int)]).set x (r : Int) = liI (sw f r x) (r + 1)) := Lib.hid (by
          rw [← liI_sw f (show r < r + 1 by omega) (show x < r + 1 by omega), hhi]
          congr 1
          rw [liI_succ, List.set_append_right _ _ (by rw [liI_len]; exact Nat.le_refl _), liI_len, Nat.sub_self]
          rfl)
        go_wp2_with (at_builtin; refine wpList_append_own _ rfl _ _ 22 rfl w.heap.size 3 i0 (.int .i64 0) 1 8 Try.underlying22 hi hz0 hz1 hz2 rfl (by decide) _ r _ rfl (hown.alloc _) ⟨wq.heap.size, 0, none⟩ 1 1 [.int .i64 ((f x : Nat) : Int)] rfl rfl ?d1 ?d2 ?d3 ?d4 ?d5 ?_)
        try (case d1 => exact one_cell wq _ _)
        try (case d2 => first | rfl | (intro u hu; simp at hu; subst hu; rfl))
        try (case d3 => first | (unfold maxLen; omega) | omega)
        try (case d4 => omega)
        try (case d5 => first | (simp; have := hnew.le; omega) | (have := hnew.le; omega))
        intro v' w2 how hgr _
        have hn2 := (hnew.alloc _).grown' hgr (own_base hown)
        have how2 : w2.ownsRow w.heap.size 3 1 v' (r + 1) ((liI f r ++ [((f x : Nat) : Int)]).map fun x => .int .i64 x) := by rw [List.map_append]; exact how
        obtain ⟨g2, cap2, rfl, hg2, _, _, _⟩ := ow_shape how2 (by omega)
        obtain ⟨c3, f3⟩ := ow_int how2 (k := x) (by omega)
        have HO2 : Hid ((w2.setCell ⟨g2, x, none⟩ (.int .i64 (r : Int))).ownsRow w.heap.size 3 1 (.slice (some ⟨g2, 0, none⟩) (r + 1 : Nat) cap2) (k + (i + 1)) ((liI (oS k (fnI d) (i + 1)) (k + (i + 1))).map fun x => .int .i64 x)) := Lib.hid (by
          rw [HST.out, hr1, ← HE.out, List.map_set]; exact ow_set how2 x _)
        have HN1 : Hid (New w (w2.setCell ⟨g2, x, none⟩ (.int .i64 (r : Int)))) := Lib.hid (hn2.setCell hg2 _)
        have hx2 : (x : Int) < (r : Int) + 1 := by omega
        clear how hgr hown hnew how2 hn2
        go_wp2
        exact ⟨⟨i + 1, by omega, by go_num, HO2.out, HN1.out⟩, by simp [intOf]; omega⟩
    · obtain rfl : i = m := by omega
      rw [← HOD.out, HKM.out] at hown
      obtain ⟨a', c', rfl, hz⟩ := ZRow.of_owns hown (by omega) (by rw [HOD.out]; exact in64_li _ (fun x hx => by have := HLT.out x hx; omega))
      have HZ := Lib.hid hz
      have HN := Lib.hid hnew
      clear hown hz hnew
      go_wp2
      go_ret
      exact ⟨_, _, rfl, HZ.out, HN.out⟩
end Go.Proofs.Ytajjpllhihgkdaa
