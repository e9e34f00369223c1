/- reservoir.Slots, Order; the document's own. -/
import Derived.Test.YtajjpllhihgkdaaResA
import Derived.BigRegion
import Derived.Maps.AppendAt
namespace Go.Proofs.Ytajjpllhihgkdaa
open Go Go.RowKit Go.Bv
set_option linter.unusedVariables false
set_option maxRecDepth 100000 in
set_option maxHeartbeats 2000000 in
theorem sorted_42 (n : Nat) (w : World) (hn : n ≤ 1000000) :
    Calls Try.prog 33 #[.int .i64 (n : Int)] w fun e w' => ∃ g, e = .returned (.slice (some ⟨g, 0, none⟩) (n : Nat) n) ∧ w'.ownsRow w.heap.size 3 1 (.slice (some ⟨g, 0, none⟩) n n) n ((liI (fun x => x) n).map fun x => .int .i64 x) ∧ New w w' := by
  obtain ⟨i0, hi, hz0, hz1, hz2⟩ := info_parts info_int40
  have HMK := Lib.hid (make_int n hn)
  go_enter Try.func33, Try.ntmps33
  go_wp2_with fail
  rw [HMK.out _ _ rfl]
  go_wp2_with fail
  go_loopw [9] (fun iv wr => ∃ k : Nat, k ≤ n ∧ iv = .int .i64 (k : Int) ∧ wr.ownsRow w.heap.size 3 1 (.slice (some ⟨w.heap.size, 0, none⟩) n n) n ((sqI n k).map fun x => .int .i64 x) ∧ New w wr) (fun iv _ => n - (intOf iv).toNat)
  case atStart => exact ⟨0, Nat.zero_le _, rfl, ow_made w _ _ _ n _ (Nat.le_refl _) (by omega) (by rw [made_toList, sqI_zero]) (by rw [List.length_map, sqI, liI_len]), (New.refl w).alloc _⟩
  case round =>
    obtain ⟨k, hk, rfl, hown, hnew⟩ := hrel
    by_cases hlt : (k : Int) < (n : Int)
    · have hk0 : (0 : Int) ≤ (k : Int) := by omega
      obtain ⟨hc1, hf1⟩ := ow_int hown (k := k) (by omega)
      have HO2 : Hid ((wr.setCell ⟨w.heap.size, k, none⟩ (.int .i64 (k : Int))).ownsRow w.heap.size 3 1 (.slice (some ⟨w.heap.size, 0, none⟩) n n) n ((sqI n (k + 1)).map fun x => .int .i64 x)) := Lib.hid (by
        rw [← sqI_set n k (by omega), List.map_set]; exact ow_set hown k _)
      have HN2 : Hid (New w (wr.setCell ⟨w.heap.size, k, none⟩ (.int .i64 (k : Int)))) := Lib.hid (hnew.setCell (Nat.le_refl _) _)
      clear hown hnew
      go_wp2
      exact ⟨⟨k + 1, by omega, by go_num, HO2.out, HN2.out⟩, by simp [intOf]; omega⟩
    · obtain rfl : k = n := by omega
      rw [sqI_all] at hown
      go_wp2
      go_ret
      exact ⟨_, rfl, hown, hnew⟩

theorem sl1_lt (bk bs g k cap x : Nat) (item : Int) (w : World) (hk : w.heap[bk]? = some (.cells #[.int .i64 (k : Int)] 3 (0, 0))) (hs : w.heap[bs]? = some (.cells #[.slice (some ⟨g, 0, none⟩) k cap] 22 (0, 0))) (hx : x < k) (hc : ∃ u, w.cell? ⟨g, x, none⟩ = some u) (hf : w.frozen? ⟨g, x, none⟩ = false) :
    Calls Try.prog 35 #[.int .i64 item, .int .i64 (x : Int), .pointer (some ⟨bk, 0, none⟩), .pointer (some ⟨bs, 0, none⟩)] w fun e w' => e = .returned (.tuple #[]) ∧ w' = w.setCell ⟨g, x, none⟩ (.int .i64 item) := by
  have k0 := cell_of_row _ _ 0 _ _ _ hk
  have k1 := cell_of_row _ _ 0 _ _ _ hs
  obtain ⟨u, hc⟩ := hc
  have h1 : (x : Int) < (k : Int) := by omega
  have h0 : (0 : Int) ≤ (x : Int) := by omega
  clear hk hs
  go_enter Try.func35, Try.ntmps35
  go_wp2
  go_end0
  exact ⟨rfl, rfl⟩
theorem sl1_ge (bk bs k : Nat) (item x : Int) (w : World) (hk : w.heap[bk]? = some (.cells #[.int .i64 (k : Int)] 3 (0, 0))) (hx : ¬ x < (k : Int)) :
    Calls Try.prog 35 #[.int .i64 item, .int .i64 x, .pointer (some ⟨bk, 0, none⟩), .pointer (some ⟨bs, 0, none⟩)] w fun e w' => e = .returned (.tuple #[]) ∧ w' = w := by
  have k0 := cell_of_row _ _ 0 _ _ _ hk
  clear hk
  go_enter Try.func35, Try.ntmps35
  go_wp2
  go_end0
  exact ⟨rfl, rfl⟩
theorem slots_err (n k : Int) (a : Option Addr) (m c : Nat) (w : World) (h : ¬ ckE n k = 0) :
    Calls Try.prog 9 #[.int .i64 n, .int .i64 k, .slice a m c] w fun e w' => e = .returned (.tuple #[.slice none 0 0, .int .i64 (ckE n k)]) ∧ New w w' := by
  have HC := Lib.hid (fun w => cd_err n k a m c w h)
  obtain ⟨z, hz⟩ : ∃ z, ckE n k = z := ⟨_, rfl⟩
  rw [hz] at HC h ⊢
  clear hz
  have hb : (z != 0) = true := by simpa using h
  have hbk := heap_alloc_new w (.cells #[.int .i64 k] 3)
  have k0 := cell_of_row _ _ 0 _ _ _ hbk
  clear hbk
  go_enter Try.func9, Try.ntmps9
  go_wp2_with fail
  refine (HC.out _).mono ?_
  rintro e w' ⟨rfl, hw⟩
  replace hw := hw.symm
  subst hw
  go_wp2
  go_ret2
  exact ⟨rfl, (New.refl _).alloc _⟩
theorem slots_bad (n k : Nat) (hk : k ≤ n) (hn : n ≤ 256) (a : Option Addr) (m c : Nat) (d : List Int) (w : World) (h : ZRow w a m c d) (hb : rdB n k d = false) :
    Calls Try.prog 9 #[.int .i64 (n : Int), .int .i64 (k : Int), .slice a m c] w fun e w' => e = .returned (.tuple #[.slice none 0 0, .int .i64 2]) ∧ New w w' := by
  have HC := Lib.hid (cd_q n k hk hn a m c d _ (h.stay ((New.refl w).alloc (.cells #[.int .i64 (k : Int)] 3))))
  rw [show rdE n k d = 2 by unfold rdE; rw [hb]; rfl] at HC
  have k0 := cell_of_row _ _ 0 _ _ _ (heap_alloc_new w (.cells #[.int .i64 (k : Int)] 3))
  clear h hb
  go_enter Try.func9, Try.ntmps9
  go_wp2_with fail
  refine HC.out.mono ?_
  rintro e w9 ⟨rfl, hn9⟩
  have HN := Lib.hid (((New.refl w).alloc _).trans hn9)
  clear hn9 HC
  go_wp2
  go_ret2
  exact ⟨rfl, HN.out⟩
set_option maxRecDepth 100000 in
set_option maxHeartbeats 2000000 in
theorem sl_visit (n k : Nat) (hk : k ≤ n) (hn : n ≤ 256) (a : Option Addr) (m c : Nat) (d : List Int) (w W1 : World) (h : ZRow w a m c d) (hd : rdI n k d) (hbk : W1.heap[w.heap.size]? = some (.cells #[.int .i64 (k : Int)] 3 (0, 0))) (hn1 : New w W1) (hs1 : W1.heap.size = w.heap.size + 1) (w3 w5 w6 : World) (g : Nat) (hn3 : New W1 w3) (hg3 : w3.heap.size ≤ g) (hg5 : g ≠ w5.heap.size) (how : w5.ownsRow w3.heap.size 3 1 (.slice (some ⟨g, 0, none⟩) k k) k ((liI (fun x => x) k).map fun x => .int .i64 x)) (hn5 : New w3 w5) (g1 : w6.heap[(w5.alloc (.cells #[.slice (some ⟨g, 0, none⟩) k k] 22)).heap.size]? = some (.cells #[.int .i64 (k : Int)] 3 (0, 0))) (g2 : w6.heap[(w5.alloc (.cells #[.slice (some ⟨g, 0, none⟩) k k] 22)).heap.size + 1]? = some (.cells #[.slice a m c] 22 (0, 0))) (gn : New (w5.alloc (.cells #[.slice (some ⟨g, 0, none⟩) k k] 22)) w6) :
    Calls Try.prog 53 #[.func (Fn.func 35) #[] #[.pointer (some ⟨w.heap.size, 0, none⟩), .pointer (some ⟨w5.heap.size, 0, none⟩)], .pointer (some ⟨(w5.alloc (.cells #[.slice (some ⟨g, 0, none⟩) k k] 22)).heap.size + 1, 0, none⟩), .pointer (some ⟨(w5.alloc (.cells #[.slice (some ⟨g, 0, none⟩) k k] 22)).heap.size, 0, none⟩)] w6 fun e w' => e = .returned (.tuple #[]) ∧ w'.heap[w5.heap.size]? = some (.cells #[.slice (some ⟨g, 0, none⟩) k k] 22 (0, 0)) ∧ w'.ownsRow w3.heap.size 3 1 (.slice (some ⟨g, 0, none⟩) k k) k ((slI n k d).map fun x => .int .i64 x) ∧ New w w' := by
  have hm : m = n - k := by rw [← h.len_eq]; exact hd.1
  have hF := rdI_F hd
  have hb5 := heap_alloc_new w5 (.cells #[.slice (some ⟨g, 0, none⟩) k k] 22)
  obtain ⟨W5, hW5⟩ : ∃ z, w5.alloc (.cells #[.slice (some ⟨g, 0, none⟩) k k] 22) = z := ⟨_, rfl⟩
  have hs5 : W5.heap.size = w5.heap.size + 1 := by rw [← hW5]; simp
  have hn55 : New w5 W5 := hW5 ▸ (New.refl w5).alloc _
  rw [hW5] at g1 g2 gn hb5 ⊢
  have hg6 := (ow_in how).2.1
  have z1 := hn3.le
  have z2 := hn5.le
  have z3 := gn.le
  have hfl : d.length = n - k := hd.1
  have hk6 : w6.heap[w.heap.size]? = some (.cells #[.int .i64 (k : Int)] 3 (0, 0)) := by
    have q1 := lt_of_block hbk
    exact (gn.block w.heap.size (by omega)).trans ((hn55.block w.heap.size (by omega)).trans ((hn5.block w.heap.size (by omega)).trans ((hn3.block w.heap.size q1).trans hbk)))
  have hb6 : w6.heap[w5.heap.size]? = some (.cells #[.slice (some ⟨g, 0, none⟩) k k] 22 (0, 0)) := (gn.block _ (lt_of_block hb5)).trans hb5
  have ho6 := ow_new (ow_new how hn55) gn
  have hn6 : New w w6 := (((hn1.trans hn3).trans hn5).trans hn55).trans gn
  have hG : ∀ (x y : Value) (w' : World), (callFunc 35 (#[x, y] ++ #[.pointer (some ⟨w.heap.size, 0, none⟩), .pointer (some ⟨w5.heap.size, 0, none⟩)])).run Try.prog w' = .ok (.enter 35 (#[x, y] ++ #[.pointer (some ⟨w.heap.size, 0, none⟩), .pointer (some ⟨w5.heap.size, 0, none⟩)])) w' := fun x y w' => by kernel_rfl
  obtain ⟨P, hP⟩ : ∃ P : Nat → World → Prop, P = fun i w' => w'.heap[w5.heap.size]? = some (.cells #[.slice (some ⟨g, 0, none⟩) k k] 22 (0, 0)) ∧ w'.heap[w.heap.size]? = some (.cells #[.int .i64 (k : Int)] 3 (0, 0)) ∧ w'.ownsRow w3.heap.size 3 1 (.slice (some ⟨g, 0, none⟩) k k) k ((liI (oS k (fnI d) i) k).map fun x => .int .i64 x) ∧ Vis w (W5.heap.size + 1) W5.heap.size (k : Int) a m c d w' := ⟨_, rfl⟩
  have p0 : P 0 w6 := by rw [hP]; exact ⟨hb6, hk6, ho6, g2, g1, hn6⟩
  have pb : ∀ i w', P i w' → w'.heap[W5.heap.size + 1]? = some (.cells #[.slice a m c] 22 (0, 0)) ∧ w'.heap[W5.heap.size]? = some (.cells #[.int .i64 (k : Int)] 3 (0, 0)) ∧ ZRow w' a m c d := fun i w' hI => by
    rw [hP] at hI
    exact ⟨hI.2.2.2.1, hI.2.2.2.2.1, h.stay hI.2.2.2.2.2⟩
  have ps : ∀ i w', i < m → P i w' → Calls Try.prog 35 (#[.int .i64 ((k + i : Nat) : Int), .int .i64 (d.getD i 0)] ++ #[.pointer (some ⟨w.heap.size, 0, none⟩), .pointer (some ⟨w5.heap.size, 0, none⟩)]) w' fun e w'' => e = .returned (.tuple #[]) ∧ P (i + 1) w'' := fun i w' hi hI => by
    rw [hP] at hI ⊢
    obtain ⟨i1, i2, i3, i4⟩ := hI
    have hdi := hd.2 i (by omega)
    obtain ⟨x, hx⟩ : ∃ x : Nat, d.getD i 0 = (x : Int) := ⟨(d.getD i 0).toNat, by omega⟩
    have hfx : fnI d i = x := by unfold fnI; rw [hx]; rfl
    rw [hx]
    by_cases hxk : x < k
    · obtain ⟨e1, e2⟩ := ow_int i3 (k := x) hxk
      refine (sl1_lt w.heap.size w5.heap.size g k k x _ w' i2 i1 hxk ⟨_, e1⟩ e2).mono ?_
      rintro e w9 ⟨rfl, rfl⟩
      have h9 := ow_set i3 x (.int .i64 ((k + i : Nat) : Int))
      have he : liI (oS k (fnI d) (i + 1)) k = (liI (oS k (fnI d) i) k).set x ((k + i : Nat) : Int) := by
        rw [liI_set _ _ hxk]
        exact liI_ext (fun y hy => by
          rw [oS_low hF (by omega) hy, hfx]
          by_cases e : y = x
          · rw [if_pos e.symm, if_pos e]
          · rw [if_neg (fun e2 => e e2.symm), if_neg e])
      refine ⟨rfl, (heap_setCell_other _ _ _ _ (by show w5.heap.size ≠ g; omega)).trans i1, (heap_setCell_other _ _ _ _ (by show w.heap.size ≠ g; omega)).trans i2, ?_, i4.set (by omega) (by omega) (by omega) _⟩
      rw [he, List.map_set]
      exact h9
    · refine (sl1_ge w.heap.size w5.heap.size k _ _ w' i2 (by omega)).mono ?_
      rintro e w9 ⟨rfl, rfl⟩
      refine ⟨rfl, i1, i2, ?_, i4⟩
      rw [show liI (oS k (fnI d) (i + 1)) k = liI (oS k (fnI d) i) k from liI_ext (fun y hy => by
        rw [oS_low hF (by omega) hy, hfx, if_neg (by omega)])]
      exact i3
  refine (arr1_q k m a c d (W5.heap.size + 1) W5.heap.size 35 #[.pointer (some ⟨w.heap.size, 0, none⟩), .pointer (some ⟨w5.heap.size, 0, none⟩)] P w6 (by omega) hG p0 pb ps).mono ?_
  rintro e w' ⟨he, hh⟩
  rw [hP] at hh
  refine ⟨he, hh.1, ?_, hh.2.2.2.2.2⟩
  have h9 := hh.2.2.1
  unfold slI
  rw [← hm]; exact h9
set_option maxRecDepth 100000 in
set_option maxHeartbeats 2000000 in
theorem slots_q (n k : Nat) (hk : k ≤ n) (hn : n ≤ 256) (a : Option Addr) (m c : Nat) (d : List Int) (w : World) (h : ZRow w a m c d) (hd : rdI n k d) :
    Calls Try.prog 9 #[.int .i64 (n : Int), .int .i64 (k : Int), .slice a m c] w fun e w' => ∃ a' c', e = .returned (.tuple #[.slice a' (k : Nat) c', .int .i64 0]) ∧ ZRow w' a' k c' (slI n k d) ∧ New w w' := by
  have hF := rdI_F hd
  have hbk := heap_alloc_new w (.cells #[.int .i64 (k : Int)] 3)
  obtain ⟨W1, hW1⟩ : ∃ z, w.alloc (.cells #[.int .i64 (k : Int)] 3) = z := ⟨_, rfl⟩
  have hn1 : New w W1 := hW1 ▸ (New.refl w).alloc _
  have hs1 : W1.heap.size = w.heap.size + 1 := by rw [← hW1]; simp
  rw [hW1] at hbk
  have HW1 := Lib.hid hW1
  have HC := Lib.hid (cd_q n k hk hn a m c d W1 (h.stay hn1))
  rw [show rdE n k d = 0 by unfold rdE; rw [rdB_iff.2 hd]; rfl] at HC
  have k0 := cell_of_row _ _ 0 _ _ _ hbk
  have HBK := Lib.hid hbk
  have HN1 := Lib.hid hn1
  have HS := Lib.hid (fun w => sorted_42 k w (by omega))
  have HV := Lib.hid (fun w3 w5 w6 g hn3 hg3 hg5 how hn5 g1 g2 gn => sl_visit n k hk hn a m c d w W1 h hd hbk hn1 hs1 w3 w5 w6 g hn3 hg3 hg5 how hn5 g1 g2 gn)
  have HIN : Hid (∀ z ∈ slI n k d, In64 z) := Lib.hid (in64_li _ (fun x hx => by have := oS_lt hF (n - k) (Nat.le_refl _) n (by omega) x (by omega); omega))
  clear h hd hF hW1 hn1 hbk
  go_enter Try.func9, Try.ntmps9
  go_wp2_with fail
  rw [HW1.out]
  refine HC.out.mono ?_
  rintro e w3 ⟨rfl, hn3⟩
  have HN3 := Lib.hid hn3
  have k3 : w3.cell? ⟨w.heap.size, 0, none⟩ = some (.int .i64 (k : Int)) := (hn3.cell (World.block_lt_of_cell? _ _ k0)).trans k0
  clear hn3 HC k0
  go_wp2_with fail
  refine (HS.out _).mono ?_
  rintro e w5 ⟨g, rfl, how, hn5⟩
  have HO := Lib.hid how
  have HN5 := Lib.hid hn5
  have HGI := Lib.hid (ow_in how)
  have k5 : w5.cell? ⟨w.heap.size, 0, none⟩ = some (.int .i64 (k : Int)) := (hn5.cell (World.block_lt_of_cell? _ _ k3)).trans k3
  have k6 : (w5.alloc (.cells #[.slice (some ⟨g, 0, none⟩) k k] 22)).cell? ⟨w.heap.size, 0, none⟩ = some (.int .i64 (k : Int)) := Lib.cell?_alloc_some _ k5
  clear how hn5 HS k3 k5
  have HAR := Lib.hid (arr_q (k : Int) a m c (w5.alloc (.cells #[.slice (some ⟨g, 0, none⟩) k k] 22)))
  have HV2 := Lib.hid (fun w6 g1 g2 gn => HV.out w3 w5 w6 g HN3.out HGI.out.1 (by have := HGI.out.2.1; omega) HO.out HN5.out g1 g2 gn)
  rw [show (w5.alloc (.cells #[.slice (some ⟨g, 0, none⟩) k k] 22)).heap.size = w5.heap.size + 1 by simp] at HAR HV2
  go_wp2_with fail
  refine HAR.out.mono ?_
  rintro e w6 ⟨rfl, g1, g2, gn⟩
  replace HV2 := Lib.hid (HV2.out w6 g1 g2 gn)
  clear g1 g2 gn HV HAR k6
  go_wp2_with fail
  refine HV2.out.mono ?_
  rintro e w7 ⟨rfl, g3, how, hn7⟩
  have k7 := cell_of_row _ _ 0 _ _ _ g3
  obtain ⟨a', c', he, hz⟩ := ZRow.of_owns how (by omega) HIN.out
  cases he
  have HZ := Lib.hid hz
  have HN7 := Lib.hid hn7
  clear g3 how hn7 hz HV2
  go_wp2
  go_ret2
  exact ⟨_, _, rfl, HZ.out, HN7.out⟩
theorem order_err (n k : Int) (a : Option Addr) (m c : Nat) (w : World) (h : ¬ ckE n k = 0) :
    Calls Try.prog 10 #[.int .i64 n, .int .i64 k, .slice a m c] w fun e w' => e = .returned (.tuple #[.slice none 0 0, .int .i64 (ckE n k)]) ∧ New w w' := by
  have HC := Lib.hid (fun w => cd_err n k a m c w h)
  obtain ⟨z, hz⟩ : ∃ z, ckE n k = z := ⟨_, rfl⟩
  rw [hz] at HC h ⊢
  clear hz
  have hb : (z != 0) = true := by simpa using h
  go_enter Try.func10, Try.ntmps10
  go_wp2_with fail
  refine (HC.out _).mono ?_
  rintro e w' ⟨rfl, hw⟩
  replace hw := hw.symm
  subst hw
  go_wp2
  go_ret2
  exact ⟨rfl, New.refl _⟩
theorem order_bad (n k : Nat) (hk : k ≤ n) (hn : n ≤ 256) (a : Option Addr) (m c : Nat) (d : List Int) (w : World) (h : ZRow w a m c d) (hb : rdB n k d = false) :
    Calls Try.prog 10 #[.int .i64 (n : Int), .int .i64 (k : Int), .slice a m c] w fun e w' => e = .returned (.tuple #[.slice none 0 0, .int .i64 2]) ∧ New w w' := by
  have HC := Lib.hid (cd_q n k hk hn a m c d w h)
  rw [show rdE n k d = 2 by unfold rdE; rw [hb]; rfl] at HC
  clear h hb
  go_enter Try.func10, Try.ntmps10
  go_wp2_with fail
  refine HC.out.mono ?_
  rintro e w9 ⟨rfl, hn9⟩
  have HN := Lib.hid hn9
  clear hn9 HC
  go_wp2
  go_ret2
  exact ⟨rfl, HN.out⟩
set_option maxRecDepth 100000 in
set_option maxHeartbeats 4000000 in
theorem od1_q (bs B j x : Nat) (v : Value) (f : Nat → Nat) (w : World) (hB : B ≤ w.heap.size) (hj : j ≤ 1000) (hx : x ≤ j) (hf : f j = j) (hs : w.heap[bs]? = some (.cells #[v] 22 (0, 0))) (hv : v.ownBlock ≠ some bs) (ho : w.ownsRow B 3 1 v j ((liI f j).map fun x => .int .i64 x)) :
    Calls Try.prog 36 #[.int .i64 (j : Int), .int .i64 (x : Int), .pointer (some ⟨bs, 0, none⟩)] w fun e w' => e = .returned (.tuple #[]) ∧ ∃ v', w'.heap[bs]? = some (.cells #[v'] 22 (0, 0)) ∧ w'.ownsRow B 3 1 v' (j + 1) ((liI (sw f j x) (j + 1)).map fun x => .int .i64 x) ∧ (∀ b, b < w.heap.size → b ≠ bs → v.ownBlock ≠ some b → w'.heap[b]? = w.heap[b]?) ∧ (∀ b, v'.ownBlock = some b → v.ownBlock = some b ∨ w.heap.size ≤ b) ∧ w.heap.size ≤ w'.heap.size ∧ ∀ W0 : World, New W0 w → W0.heap.size ≤ bs → W0.heap.size ≤ B → New W0 w' := by
  have hbs := lt_of_block hs
  obtain ⟨i0, hi, hz0, hz1, hz2⟩ := info_parts info_int40
  have k0 := cell_of_row _ _ 0 _ _ _ hs
  have kf := frozen_of_row _ _ 0 _ _ hs
  have HS := Lib.hid hs
  have HO := Lib.hid ho
  clear hs ho
  go_enter Try.func36, Try.ntmps36
  go_wp2_with (at_builtin; refine wpList_append_own_at _ rfl _ _ 22 rfl B 3 i0 (.int .i64 0) 1 8 Try.underlying22 hi hz0 hz1 hz2 rfl (by decide) _ j _ rfl (HO.out.alloc _) ⟨w.heap.size, 0, none⟩ 1 1 [.int .i64 (j : Int)] rfl rfl ?c1 ?c2 ?c3 ?c4 ?c5 ?_)
  try (case c1 => exact one_cell w _ _)
  try (case c2 => first | rfl | (intro u hu; simp at hu; subst hu; rfl))
  try (case c3 => first | (unfold maxLen; omega) | omega)
  try (case c4 => omega)
  try (case c5 => first | (simp; omega) | omega)
  intro v' w1 how hgr _ hob
  have how2 : w1.ownsRow B 3 1 v' (j + 1) ((liI f (j + 1)).map fun x => .int .i64 x) := by
    rw [liI_succ, hf, List.map_append]; exact how
  obtain ⟨g, cap, rfl, hg, hgs, hgc, hgc2⟩ := ow_shape how2 (by omega)
  have hsb : (w.alloc (.cells #[.int .i64 (j : Int)] 3)).heap.size = w.heap.size + 1 := by simp
  have hgo : v.ownBlock = some g ∨ w.heap.size ≤ g := by
    rcases hob with e | e
    · left; rw [← e]; rfl
    · right
      have e2 : g = (w.alloc (.cells #[.int .i64 (j : Int)] 3)).heap.size := by simpa [Value.ownBlock] using e
      omega
  have HGO := Lib.hid hgo
  have hne : ¬ g = bs := by
    intro e
    rcases hgo with h | h
    · rw [e] at h; exact hv h
    · omega
  have hne2 : ¬ bs = g := fun e => hne e.symm
  have hb1 : w1.heap[bs]? = some (.cells #[v] 22 (0, 0)) := (hgr.block bs (by rw [hsb]; omega) (fun e => hv e.symm)).trans ((((New.refl w).alloc _).block _ (lt_of_block HS.out)).trans HS.out)
  have k1 := frozen_of_row _ _ 0 _ _ hb1
  have HSZ : Hid (w.heap.size ≤ w1.heap.size) := Lib.hid (by have := hgr.size; rw [hsb] at this; omega)
  have HKP : Hid (∀ b, b < w.heap.size → b ≠ bs → v.ownBlock ≠ some b → w1.heap[b]? = w.heap[b]?) := Lib.hid (fun b h1 h2 h3 => (hgr.block b (by rw [hsb]; omega) (fun e => h3 e.symm)).trans (((New.refl w).alloc _).block _ h1))
  have k2 : w1.cell? ⟨bs, 0, none⟩ = some v := cell_of_row _ _ 0 _ _ _ hb1
  have HB1 := Lib.hid (heap_setCell_same w1 bs 0 _ _ (.slice (some ⟨g, 0, none⟩) (j + 1 : Nat) cap) hb1)
  have HO1 := Lib.hid (ow_far how2 (a := ⟨bs, 0, none⟩) (by simp [Value.ownBlock]; exact hne) (.slice (some ⟨g, 0, none⟩) (j + 1 : Nat) cap))
  have HKP2 : Hid (∀ b, b < w.heap.size → b ≠ bs → v.ownBlock ≠ some b → (w1.setCell ⟨bs, 0, none⟩ (.slice (some ⟨g, 0, none⟩) (j + 1 : Nat) cap)).heap[b]? = w.heap[b]?) := Lib.hid (fun b h1 h2 h3 => (heap_setCell_other _ _ _ _ h2).trans (HKP.out b h1 h2 h3))
  have HNW : Hid (∀ W0 : World, New W0 w → W0.heap.size ≤ bs → W0.heap.size ≤ B → New W0 (w1.setCell ⟨bs, 0, none⟩ (.slice (some ⟨g, 0, none⟩) (j + 1 : Nat) cap))) := Lib.hid (fun W0 h1 h2 h3 => ((h1.alloc _).grown' hgr (fun k e => Nat.le_trans h3 (own_base HO.out k e))).setCell (p := ⟨bs, 0, none⟩) h2 _)
  clear how hgr how2 hb1 k0 kf HS HO HKP hob hgo hbs
  go_wp2_with fail
  obtain ⟨W2, hW2⟩ : ∃ z, w1.setCell ⟨bs, 0, none⟩ (.slice (some ⟨g, 0, none⟩) (j + 1 : Nat) cap) = z := ⟨_, rfl⟩
  have HSZ2 : Hid (w.heap.size ≤ W2.heap.size) := Lib.hid (by rw [← hW2]; simp; exact HSZ.out)
  rw [hW2] at HB1 HO1 HKP2 HNW ⊢
  clear hW2 k1 k2
  have kb : W2.cell? ⟨bs, 0, none⟩ = some (.slice (some ⟨g, 0, none⟩) (j + 1 : Nat) cap) := cell_of_row _ _ 0 _ _ _ HB1.out
  obtain ⟨cj, fj⟩ := ow_int HO1.out (k := j) (by omega)
  obtain ⟨cx, fx⟩ := ow_int HO1.out (k := x) (by omega)
  rw [liI_get f (show j < j + 1 by omega)] at cj
  rw [liI_get f (show x < j + 1 by omega)] at cx
  have hj0 : (0 : Int) ≤ (j : Int) := by omega
  have hj1 : (j : Int) < (j : Int) + 1 := by omega
  have hx0 : (0 : Int) ≤ (x : Int) := by omega
  have hx1 : (x : Int) < (j : Int) + 1 := by omega
  obtain ⟨s1, s2⟩ := ow_int (l := (liI f (j + 1)).set j (f x : Int)) (by rw [List.map_set]; exact ow_set HO1.out j (.int .i64 (f x : Nat))) (k := x) (by omega)
  have HO3 : Hid (((W2.setCell ⟨g, j, none⟩ (.int .i64 (f x : Nat))).setCell ⟨g, x, none⟩ (.int .i64 (f j : Nat))).ownsRow B 3 1 (.slice (some ⟨g, 0, none⟩) (j + 1 : Nat) cap) (j + 1) ((liI (sw f j x) (j + 1)).map fun x => .int .i64 x)) := Lib.hid (by
    rw [← liI_sw f (show j < j + 1 by omega) (show x < j + 1 by omega), List.map_set, List.map_set]
    exact ow_set (ow_set HO1.out _ _) _ _)
  have HB3 : Hid (((W2.setCell ⟨g, j, none⟩ (.int .i64 (f x : Nat))).setCell ⟨g, x, none⟩ (.int .i64 (f j : Nat))).heap[bs]? = some (.cells #[.slice (some ⟨g, 0, none⟩) (j + 1 : Nat) cap] 22 (0, 0))) := Lib.hid ((heap_setCell_other _ _ _ _ hne2).trans ((heap_setCell_other _ _ _ _ hne2).trans HB1.out))
  have HK3 : Hid (∀ b, b < w.heap.size → b ≠ bs → v.ownBlock ≠ some b → ((W2.setCell ⟨g, j, none⟩ (.int .i64 (f x : Nat))).setCell ⟨g, x, none⟩ (.int .i64 (f j : Nat))).heap[b]? = w.heap[b]?) := Lib.hid (fun b h1 h2 h3 => by
    have hbg : b ≠ g := fun e => by
      rcases HGO.out with h | h
      · rw [e] at h3; exact h3 h
      · omega
    exact (heap_setCell_other _ _ _ _ hbg).trans ((heap_setCell_other _ _ _ _ hbg).trans (HKP2.out b h1 h2 h3)))
  rw [hf] at HO3 HB3 HK3
  clear HB1 HO1 HKP2
  go_region
  all_goals (
    go_end0
    exact ⟨rfl, _, HB3.out, ow_new HO3.out (New.refl _).drew, HK3.out, (fun b hb => by
      have e : g = b := by simpa [Value.ownBlock] using hb
      subst e; exact HGO.out), (by simp; exact HSZ2.out), fun W0 h1 h2 h3 => (((HNW.out W0 h1 h2 h3).setCell (p := ⟨g, j, none⟩) (Nat.le_trans h3 hg) _).setCell (p := ⟨g, x, none⟩) (Nat.le_trans h3 hg) _).drew⟩)
end Go.Proofs.Ytajjpllhihgkdaa
