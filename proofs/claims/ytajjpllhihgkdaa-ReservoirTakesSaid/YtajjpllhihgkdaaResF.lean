/- reservoir: the draws; Take; the document's own. · The law ReservoirTakes. -/
import Derived.Test.YtajjpllhihgkdaaSubF
import Derived.Test.YtajjpllhihgkdaaResD
namespace Go.Proofs.Ytajjpllhihgkdaa
open Go Go.RowKit Go.Bv
set_option linter.unusedVariables false
/-- the limits of the draws: k + 1, k + 2 and so on -/
def lqP (k m : Nat) : List (BitVec 64) := (List.range m).map fun i => BitVec.ofNat 64 (k + i + 1)
theorem lqP_len (k m : Nat) : (lqP k m).length = m := by unfold lqP; simp
theorem lqP_get {k m i : Nat} (h : i < m) : (lqP k m).getD i 0 = BitVec.ofNat 64 (k + i + 1) := by
  unfold lqP
  rw [List.getD_eq_getElem?_getD, List.getElem?_map, List.getElem?_range h]; rfl
theorem lqP_succ (k m : Nat) : lqP k (m + 1) = lqP k m ++ [BitVec.ofNat 64 (k + m + 1)] := by unfold lqP; rw [List.range_succ, List.map_append]; rfl
theorem lqP_lt {l : List (BitVec 64)} {k0 m : Nat} {ds : List Drw} {k : Nat} (hn : k0 + m ≤ 1000000) (h : drS l (lqP k0 m) m = some (ds, k)) : ∀ i, i < m → ((ds.getD i dz).1).toNat < k0 + i + 1 := by
  intro i hi
  have h1 := drS_lt (fun i hi => by rw [lqP_get hi]; exact (ofNat_pos (r := k0 + i + 1) (by omega) (by omega)).1) h i hi
  rw [lqP_get hi, (ofNat_pos (r := k0 + i + 1) (by omega) (by omega)).2] at h1
  exact h1
theorem cdS_rd {l : List (BitVec 64)} {n k0 m : Nat} {ds : List Drw} {k : Nat} (hn : n ≤ 256) (hk : k0 ≤ n) (hm : n - k0 = m) (h : drS l (lqP k0 m) m = some (ds, k)) : rdI n k0 (cdS ds m) := by
  refine ⟨by rw [cdS_len, hm], fun i hi => ?_⟩
  have h1 := lqP_lt (by omega) h i (by omega)
  unfold cdS
  rw [liI_get _ (by omega)]
  omega
set_option maxRecDepth 100000 in
set_option maxHeartbeats 2000000 in
theorem limits_42 (n k m : Nat) (w : World) (hk : k ≤ n) (hm : n - k = m) (hn : n ≤ 100000) :
    Calls Try.prog 44 #[.int .i64 (n : Int), .int .i64 (k : Int)] w fun e w' => ∃ a c, e = .returned (.slice a (m : Nat) c) ∧ QRow w' a m c (lqP k m) ∧ New w w' := by
  obtain ⟨i0, hi, hz0, hz1, hz2⟩ := info_parts info8_u64
  go_enter Try.func44, Try.ntmps44
  go_wp2_with fail
  go_loopw [5, 6] (fun v iv wr => ∃ i z : Nat, i ≤ m ∧ iv = .int .i64 (z : Int) ∧ Hid (z = k + i) ∧ wr.ownsRow w.heap.size 62 1 v i ((lqP k i).map fun x => .int .u64 (W64 x)) ∧ New w wr) (fun _ iv _ => n - (intOf iv).toNat)
  case atStart => exact ⟨0, k, Nat.zero_le _, rfl, Lib.hid rfl, World.ownsRow_nil w _ _ 1, New.refl w⟩
  case round =>
    obtain ⟨i, z, hi9, rfl, HZ, hown, hnew⟩ := hrel
    have hz := HZ.out
    by_cases hlt : (z : Int) < (n : Int)
    · have hz0' : (0 : Int) ≤ (z : Int) := by omega
      obtain ⟨r, hr⟩ : ∃ r, k + i + 1 = r := ⟨_, rfl⟩
      obtain ⟨wq, hwq⟩ : ∃ z, z = wr := ⟨_, rfl⟩
      rw [← hwq] at hown hnew ⊢
      clear hwq
      have HL := Lib.hid (lqP_succ k i)
      have hbv : BitVec.ofNat 64 z + 1#64 = BitVec.ofNat 64 (k + i + 1) := by
        rw [hz, show (1#64 : BitVec 64) = BitVec.ofNat 64 1 from rfl, ← BitVec.ofNat_add]
      have HZ2 : Hid (z + 1 = k + (i + 1)) := Lib.hid (by omega)
      rw [← hbv] at HL
      have him : i < m := by omega
      have him2 : i ≤ 100000 := by omega
      clear hz HZ hbv
      go_wp2_with (at_builtin; refine wpList_append_own _ rfl _ _ 38 rfl w.heap.size 62 i0 (.int .u64 0) 1 8 Try.underlying38 hi hz0 hz1 hz2 rfl (by decide) _ i _ rfl (hown.alloc _) ⟨wq.heap.size, 0, none⟩ 1 1 [.int .u64 (W64 (BitVec.ofNat 64 z + 1#64))] rfl rfl ?c1 ?c2 ?c3 ?c4 ?c5 ?_)
      try (case c1 => exact one_cell wq _ _)
      try (case c2 => first | rfl | (intro u hu; simp at hu; subst hu; rfl))
      try (case c3 => first | (unfold maxLen; omega) | omega)
      try (case c4 => omega)
      try (case c5 => first | (simp; have := hnew.le; omega) | (have := hnew.le; omega))
      intro v' w1 how hgr _
      have HO2 : Hid (w1.ownsRow w.heap.size 62 1 v' (i + 1) ((lqP k (i + 1)).map fun x => .int .u64 (W64 x))) := Lib.hid (by
        rw [HL.out, List.map_append]; exact how)
      have HN1 := Lib.hid ((hnew.alloc _).grown' hgr (own_base hown))
      clear how hgr hown hnew
      go_wp2
      exact ⟨⟨i + 1, z + 1, by omega, by go_num, HZ2, HO2.out, HN1.out⟩, by simp [intOf]; omega⟩
    · obtain rfl : i = m := by omega
      obtain ⟨a, c, rfl, hq⟩ := QRow.of_owns hown (by omega)
      have HQ := Lib.hid hq
      have HN := Lib.hid hnew
      clear hq hown hnew
      go_wp2
      go_ret
      exact ⟨a, c, rfl, HQ.out, HN.out⟩
set_option maxRecDepth 100000 in
set_option maxHeartbeats 4000000 in
theorem take42r_q (a : Option Addr) (nl c n k0 K : Nat) (l : List (BitVec 64)) (w : World) (hl : QRow w a nl c l) (hn : n ≤ 256) (hk0 : k0 ≤ n) (hK : n - k0 = K) :
    Calls Try.prog 23 #[.slice a nl c, .int .i64 (n : Int), .int .i64 (k0 : Int)] w fun e w' => ((∃ ds k a1 c1 a2 c2, drS l (lqP k0 K) K = some (ds, k) ∧ e = .returned (.tuple #[.slice a1 (k0 : Nat) c1, .slice a2 (K : Nat) c2, .int .i64 (k : Nat), .bool true]) ∧ ZRow w' a1 k0 c1 (slI n k0 (cdS ds K)) ∧ KRow w' a2 K c2 ds) ∨ (drS l (lqP k0 K) K = none ∧ e = .returned (.tuple #[.slice none 0 0, .slice none 0 0, .int .i64 (nl : Nat), .bool false]))) ∧ New w w' := by
  obtain ⟨i0, hi, hz0, hz1, hz2⟩ := info_parts info_int40
  have HL := Lib.hid hl
  have HLM := Lib.hid (limits_42 n k0 K w hk0 hK (by omega))
  clear hl
  go_enter Try.func23, Try.ntmps23
  go_wp2_with fail
  refine (HLM.out).mono ?_
  rintro e w9 ⟨a9, c9, rfl, hq, hn9⟩
  have HQ := Lib.hid hq
  have HN := Lib.hid hn9
  clear hq hn9 HLM
  go_wp2_with fail
  refine (row38_any _ _ _ _ _ _ _ _ _ (HL.out.stay HN.out) HQ.out (by omega)).mono ?_
  rintro e w8 ⟨⟨ds, k, a2, c2, hd, rfl, hk⟩ | ⟨hd, rfl⟩, hn8⟩
  · have HD := Lib.hid hd
    have HK := Lib.hid hk
    have HRP := Lib.hid (cdS_rd hn hk0 hK hd)
    have HLT := Lib.hid (lqP_lt (by omega) hd)
    replace HN := Lib.hid (HN.out.trans hn8)
    clear hd hk hn8 HQ
    go_wp2_with fail
    go_loopw [13, 30] (fun v iv wr => ∃ i : Nat, i ≤ K ∧ iv = .int .i64 (i : Int) ∧ wr.ownsRow w8.heap.size 3 1 v i ((cdS ds i).map fun x => .int .i64 x) ∧ New w8 wr) (fun _ iv _ => K - (intOf iv).toNat)
    case atStart => exact ⟨0, Nat.zero_le _, rfl, World.ownsRow_nil _ _ _ 1, New.refl _⟩
    case round =>
      obtain ⟨i, hi9, rfl, hown, hnew⟩ := hrel
      obtain ⟨wq, hwq⟩ : ∃ z, z = wr := ⟨_, rfl⟩
      rw [← hwq] at hown hnew ⊢
      clear hwq
      have HKR := Lib.hid (HK.out.stay hnew)
      by_cases hlt : (i : Int) < (K : Int)
      · have hi0 : (0 : Int) ≤ (i : Int) := by omega
        obtain ⟨b1, o1, rfl, h1⟩ := HKR.out.addr (by omega)
        obtain ⟨p0, p1, p2⟩ := h1 i (by omega)
        clear h1
        have hlt2 := HLT.out i (by omega)
        have hk256 : k0 + i + 1 ≤ 1000000 := by omega
        have HSS := Lib.hid (cdS_succ ds i)
        obtain ⟨⟨x, y, u⟩, hd⟩ : ∃ d, ds.getD i dz = d := ⟨_, rfl⟩
        rw [hd] at p0 p1 p2 hlt2 HSS
        clear hd
        simp only at p0 p1 p2 hlt2 HSS
        obtain ⟨t, ht⟩ : ∃ t, x.toNat = t := ⟨_, rfl⟩
        rw [ht] at hlt2 HSS
        have hx1 : wrap64 (W64 x) = (t : Int) := by unfold W64 wrap64; omega
        have hown2 := ow_new hown ((New.refl wq).alloc (.cells #[.int .u64 (W64 x), .int .u64 (W64 y), .int .i64 (u : Int)] 73))
        have hnew2 := hnew.alloc (.cells #[.int .u64 (W64 x), .int .u64 (W64 y), .int .i64 (u : Int)] 73)
        clear HKR HK HRP HLT ht
        go_wp2_with (at_builtin; refine wpList_append_own _ rfl _ _ 22 rfl w8.heap.size 3 i0 (.int .i64 0) 1 8 Try.underlying22 hi hz0 hz1 hz2 rfl (by decide) _ i _ rfl (hown2.alloc _) ⟨wq.heap.size + 1, 0, none⟩ 1 1 [.int .i64 (t : Nat)] rfl rfl ?d1 ?d2 ?d3 ?d4 ?d5 ?_)
        try (case d1 =>
          have h9 := one_cell (wq.alloc (.cells #[.int .u64 (W64 x), .int .u64 (W64 y), .int .i64 (u : Int)] 73)) (.int .i64 (t : Nat)) 3
          rw [show (wq.alloc (.cells #[.int .u64 (W64 x), .int .u64 (W64 y), .int .i64 (u : Int)] 73)).heap.size = wq.heap.size + 1 by simp] at h9
          exact h9)
        try (case d2 => intro u hu; simp at hu; subst hu; rfl)
        try (case d3 => unfold maxLen; omega)
        try (case d4 => omega)
        try (case d5 => simp; have := hnew.le; omega)
        intro v' w1 how hgr _
        have HO2 : Hid (w1.ownsRow w8.heap.size 3 1 v' (i + 1) ((cdS ds (i + 1)).map fun x => .int .i64 x)) := Lib.hid (by
          rw [HSS.out, List.map_append]; exact how)
        have HN1 := Lib.hid ((hnew2.alloc _).grown' hgr (own_base hown2))
        clear how hgr hown hnew hown2 hnew2 p0 p1 p2
        go_wp2
        exact ⟨⟨i + 1, by omega, by go_num, HO2.out, HN1.out⟩, by simp [intOf]; omega⟩
      · obtain rfl : i = K := by omega
        obtain ⟨a1, c1, rfl, hz⟩ := ZRow.of_owns hown (by omega) (in64_li _ (fun x hx => by
          have := HLT.out x hx
          omega))
        have HPR := Lib.hid (slotsr_42 n k0 hk0 hn _ _ _ _ _ hz HRP.out)
        have HN7 := Lib.hid hnew
        clear hown hz hnew
        go_wp2_with fail
        refine (HPR.out).mono ?_
        rintro e w6 ⟨a6, c6, rfl, hz6, hn6⟩
        have HZ := Lib.hid hz6
        replace HKR := Lib.hid (HKR.out.stay hn6)
        replace HN := Lib.hid ((HN.out.trans HN7.out).trans hn6)
        clear hz6 hn6 HPR
        go_wp2
        refine bodyPost_ret (by simp [results, Try.results23, go_sem]; try rfl) rfl ?_
        exact ⟨.inl ⟨ds, k, a6, c6, a2, c2, HD.out, rfl, HZ.out, HKR.out⟩, HN.out⟩
  · have HD := Lib.hid hd
    replace HN := Lib.hid (HN.out.trans hn8)
    clear hd hn8 HQ
    go_wp2
    refine bodyPost_ret (by simp [results, Try.results23, go_sem]; try rfl) rfl ?_
    exact ⟨.inr ⟨HD.out, rfl⟩, HN.out⟩
set_option maxRecDepth 100000 in
set_option maxHeartbeats 8000000 in
theorem draw42_q (b g0 n k0 K : Nat) (l : List (BitVec 64)) (w : World) (ht : Tape w b g0 l 0) (hn : n ≤ 256) (hk0 : k0 ≤ n) (hK : n - k0 = K) :
    Calls Try.prog 42 #[.pointer (some ⟨b, 0, none⟩), .int .i64 (n : Int), .int .i64 (k0 : Int)] w fun e w' => (∃ ds k a1 c1 a2 c2, drS l (lqP k0 K) K = some (ds, k) ∧ e = .returned (.tuple #[.slice a1 (K : Nat) c1, .slice a2 (K : Nat) c2, .int .i64 0]) ∧ ZRow w' a1 K c1 (cdS ds K) ∧ KRow w' a2 K c2 ds ∧ After w w' b g0 l k) ∨ (drS l (lqP k0 K) K = none ∧ e = .returned (.tuple #[.slice none 0 0, .slice none 0 0, .int .i64 7]) ∧ After w w' b g0 l l.length) := by
  have HBL : Hid (b < w.heap.size ∧ g0 < w.heap.size) := Lib.hid ht.lt
  have HT0 := Lib.hid (fun w' (h : New w w') => ht.stay h)
  have hmk : ∀ W : World, (Instr.makeSlice 22 (.int .i64 (K : Int)) (.int .i64 (K : Int))).run Try.prog W = .ok (.slice (some ⟨W.heap.size, 0, none⟩) K K) (W.alloc (.cells (madeCells #[.int .i64 0] K) 3)) := fun W => make_int K (by omega) _ W rfl
  have hmk2 : ∀ W : World, (Instr.makeSlice 41 (.int .i64 (K : Int)) (.int .i64 (K : Int))).run Try.prog W = .ok (.slice (some ⟨W.heap.size, 0, none⟩) K K) (W.alloc (.cells (madeCells #[.int .u64 0, .int .u64 0, .int .i64 0] (K * 3)) 73)) := fun W => make_drw K (by omega) W
  have hji : (n : Int) - (k0 : Int) = (K : Int) := by omega
  have hK256 : k0 + K ≤ 256 := by omega
  have hwK : IntKind.i64.wrap (K : Int) = (K : Int) := by unfold IntKind.wrap; simp [IntKind.signed, IntKind.bits]; omega
  clear ht hK
  go_enter Try.func42, Try.ntmps42
  go_wp2_with fail
  go_cut [9, 10] (fun c d wx => ∃ g1 g2, c = .slice (some ⟨g1, 0, none⟩) K K ∧ d = .slice (some ⟨g2, 0, none⟩) K K ∧ wx.ownsRow w.heap.size 3 1 (.slice (some ⟨g1, 0, none⟩) K K) K ((cqL [] K).map fun x => .int .i64 x) ∧ wx.ownsRow w.heap.size 73 3 (.slice (some ⟨g2, 0, none⟩) K K) K (drCs (dpL [] K)) ∧ g1 ≠ g2 ∧ New w wx)
  case first =>
    go_region_held3 (fun w' => New w w')
      (repeat (first | with_reducible assumption | with_reducible exact New.refl _ | with_reducible apply New.drew | with_reducible refine New.alloc ?_ _))
      (fail)
    all_goals (
      go_wp2_with fail
      go_meet
      case rel =>
        rw [cqL_zero, dpL_zero]
        first
          | exact ⟨_, _, rfl, rfl, ow_new (ow_made w _ _ _ K _ (Nat.le_refl _) (by omega) (by rw [made_toList, zeros_li]) (by rw [List.length_map, liI_len])) (((New.refl _).alloc _).drew), ow_new (at_size (by simp) (ow_made3 (w.alloc (.cells (madeCells #[.int .i64 0] K) 3)) w.heap.size _ K (by simp) (by omega))) ((New.refl _).drew), (fun e => by omega), by assumption⟩
          | exact ⟨_, _, rfl, rfl, ow_new (at_size (by simp) (ow_made (w.alloc (.cells (madeCells #[.int .u64 0, .int .u64 0, .int .i64 0] (K * 3)) 73)) w.heap.size _ _ K _ (by simp) (by omega) (by rw [made_toList, zeros_li]) (by rw [List.length_map, liI_len]))) ((New.refl _).drew), ow_new (ow_made3 w w.heap.size _ K (Nat.le_refl _) (by omega)) (((New.refl _).alloc _).drew), (fun e => by omega), by assumption⟩)
  case rest =>
    obtain ⟨g1, g2, rfl, rfl, ho1, ho2, hg12, hn9⟩ := hcut
    clear hmk hmk2 hwK
    have HO1 := Lib.hid ho1
    have HO2 := Lib.hid ho2
    have HN9 := Lib.hid hn9
    have HG12 : Hid (w.heap.size ≤ g1 ∧ w.heap.size ≤ g2 ∧ g1 ≠ g2) := Lib.hid ⟨(ow_in ho1).1, (ow_lt3 ho2).1, hg12⟩
    have HLT : Hid (g1 < wc.heap.size ∧ g2 < wc.heap.size) := Lib.hid ⟨(ow_in ho1).2.1, (ow_lt3 ho2).2.1⟩
    replace HT0 := Lib.hid (HT0.out wc hn9)
    clear ho1 ho2 hg12 hn9
    go_wp2_with fail
    go_loopw [24] (fun iv wr => ∃ (q : Nat) (ds : List Drw) (k g : Nat), q ≤ K ∧ iv = .int .i64 (q : Int) ∧ Hid (drS l (lqP k0 K) q = some (ds, k)) ∧ wr.ownsRow w.heap.size 3 1 (.slice (some ⟨g1, 0, none⟩) K K) K ((cqL ds K).map fun x => .int .i64 x) ∧ wr.ownsRow w.heap.size 73 3 (.slice (some ⟨g2, 0, none⟩) K K) K (drCs (dpL ds K)) ∧ Tape wr b g l k ∧ But2 b g0 w wr ∧ Hid ((g = g0 ∨ w.heap.size ≤ g) ∧ g1 ≠ g ∧ g2 ≠ g)) (fun iv _ => K - (intOf iv).toNat)
    case atStart => exact ⟨0, [], 0, g0, Nat.zero_le _, rfl, Lib.hid rfl, HO1.out, HO2.out, HT0.out, But2.of_new HN9.out, Lib.hid ⟨.inl rfl, by have := HG12.out; have := HBL.out; omega, by have := HG12.out; have := HBL.out; omega⟩⟩
    case round =>
      clear HT0 HO1 HO2
      obtain ⟨q, ds, k, g, hq, rfl, HS, ho1, ho2, ht, hb2, HG⟩ := hrel
      have HO1 := Lib.hid ho1
      have HO2 := Lib.hid ho2
      have HT := Lib.hid ht
      have HB := Lib.hid hb2
      obtain ⟨wq, hwq⟩ : ∃ z, z = wr := ⟨_, rfl⟩
      rw [← hwq] at HO1 HO2 HT HB ⊢
      clear ho1 ho2 ht hb2 hwq
      have hdl := (drS_len HS.out).1
      by_cases hlt : (q : Int) < (K : Int)
      · have hq0 : (0 : Int) ≤ (q : Int) := by omega
        obtain ⟨r, hr⟩ : ∃ r, k0 + q = r := ⟨_, rfl⟩
        have hr1 : (k0 : Int) + (q : Int) = (r : Int) := by omega
        obtain ⟨s, hs⟩ : ∃ s, r + 1 = s := ⟨_, rfl⟩
        have hs1 : (r : Int) + 1 = (s : Int) := by omega
        have hgl : (lqP k0 K).getD q 0 = BitVec.ofNat 64 s := by rw [lqP_get (by omega), hr, hs]
        obtain ⟨hs0, hsn⟩ := ofNat_pos (r := s) (by omega) (by omega)
        have HX := Lib.hid (fun j h1 h2 h3 h4 => drS_next (j := j) HS.out h1 h2 h3 h4)
        have HF := Lib.hid (fun h3 => drS_few HS.out (drS_len HS.out).2 h3)
        rw [hgl] at HX HF
        have HTK : Hid (∀ x : BitVec 64, takO x (BitVec.ofNat 64 s) = takN x (BitVec.ofNat 64 s)) := Lib.hid (fun x => if_neg hs0)
        have HTL : Hid (∀ x : BitVec 64, (telN x (BitVec.ofNat 64 s)).toNat < s) := Lib.hid (fun x => by have := tel_lt x _ hs0; rwa [hsn] at this)
        have HC := Lib.hid (fun w' (h : New wq w') => take_l b g l k (BitVec.ofNat 64 s) hs0 w' (HT.out.stay h))
        have HDL := Lib.hid hdl
        clear hgl hs0 hsn hdl
        obtain ⟨lim, hlim⟩ : ∃ z, BitVec.ofNat 64 s = z := ⟨_, rfl⟩
        rw [hlim] at HX HF HTK HTL HC
        have HWQ : Hid (g1 < wq.heap.size ∧ g2 < wq.heap.size) := Lib.hid ⟨(ow_in HO1.out).2.1, (ow_lt3 HO2.out).2.1⟩
        go_wp2_with fail
        refine (HC.out wq (New.refl _)).mono ?_
        rintro e w8 (⟨j, h1, h2, h3, h4, rfl, g', ht8, hb8, hg8⟩ | ⟨h3, rfl, g', ht8, hb8, hg8⟩)
        · have HD := Lib.hid (HX.out j h1 h2 (fun i a b => by rw [HTK.out]; exact h3 i a b) (by rw [HTK.out]; exact h4))
          have HDW : Hid (drw l lim k j = (telN (l.getD j 0) lim, rnkN (l.getD j 0) lim, j + 1 - k)) := Lib.hid rfl
          have hxl := HTL.out (l.getD j 0)
          obtain ⟨x, hx⟩ : ∃ z, telN (l.getD j 0) lim = z := ⟨_, rfl⟩
          obtain ⟨y, hy⟩ : ∃ z, rnkN (l.getD j 0) lim = z := ⟨_, rfl⟩
          obtain ⟨u, hu⟩ : ∃ z, j + 1 - k = z := ⟨_, rfl⟩
          rw [hx] at hxl
          rw [hx, hy, hu] at HDW ⊢
          rw [HDW.out] at HD
          obtain ⟨t, htx⟩ : ∃ t, x.toNat = t := ⟨_, rfl⟩
          rw [htx] at hxl
          have hx1 : wrap64 (W64 x) = (t : Int) := by unfold W64 wrap64; omega
          have HCS : Hid (cqL (ds ++ [(x, y, u)]) K = (cqL ds K).set q ((t : Nat) : Int)) := Lib.hid (by
            rw [cqL_set HDL.out (by omega)]
            show (cqL ds K).set q ((x.toNat : Nat) : Int) = _
            rw [htx])
          have HDS : Hid (drCs (dpL (ds ++ [(x, y, u)]) K) = (((drCs (dpL ds K)).set (q * 3) (.int .u64 (W64 x))).set (q * 3 + 1) (.int .u64 (W64 y))).set (q * 3 + 2) (.int .i64 (u : Int))) := Lib.hid (by
            rw [← dpL_set HDL.out (by omega), drCs_set _ _ _ (by rw [dpL_len (by have := HDL.out; omega)]; omega)])
          clear hx hy hu HDW HX HF HTK HTL HC h1 h2 h3 h4 htx
          have hgl := HG.out
          have hwq := HWQ.out
          have hb0 := HBL.out.1
          have hg0 := HG12.out
          have o1 := ow_blk HO1.out (w' := w8) (fun z hz => by
            have e : g1 = z := by simpa [Value.ownBlock] using hz
            subst e
            exact hb8.block _ hwq.1 (by omega) hgl.2.1)
          have o2 := ow_blk HO2.out (w' := w8) (fun z hz => by
            have e : g2 = z := by simpa [Value.ownBlock] using hz
            subst e
            exact hb8.block _ hwq.2 (by omega) hgl.2.2)
          have hbs := HB.out.step hgl.1 hb8
          have hne1 : g1 ≠ g' := by rcases hg8 with e | e <;> omega
          have hne2 : g2 ≠ g' := by rcases hg8 with e | e <;> omega
          obtain ⟨W9, hW9⟩ : ∃ z, w8.alloc (.cells #[.int .u64 (W64 x), .int .u64 (W64 y), .int .i64 (u : Int)] 73) = z := ⟨_, rfl⟩
          have hb1 := heap_alloc_new w8 (.cells #[.int .u64 (W64 x), .int .u64 (W64 y), .int .i64 (u : Int)] 73)
          rw [hW9] at hb1
          have hN9 : New w8 W9 := by rw [← hW9]; exact (New.refl _).alloc _
          have d0 : W9.cell? ⟨w8.heap.size, 0, none⟩ = some (.int .u64 (W64 x)) := cell_of_row _ _ 0 _ _ _ hb1
          have d1 : W9.cell? ⟨w8.heap.size, 1, none⟩ = some (.int .u64 (W64 y)) := cell_of_row _ _ 1 _ _ _ hb1
          have d2 : W9.cell? ⟨w8.heap.size, 2, none⟩ = some (.int .i64 (u : Int)) := cell_of_row _ _ 2 _ _ _ hb1
          have p1 := ow_new o1 hN9
          have p2 := ow_new o2 hN9
          have HT9 := Lib.hid (ht8.stay hN9)
          have HB9 := Lib.hid (hbs.then hN9)
          have hsz8 := hb8.size
          have hn81 : ¬ w8.heap.size = g1 := by omega
          have hn82 : ¬ w8.heap.size = g2 := by omega
          have hn18 : ¬ g1 = w8.heap.size := by omega
          have hn28 : ¬ g2 = w8.heap.size := by omega
          have hn12 : ¬ g1 = g2 := hg0.2.2
          have hn21 : ¬ g2 = g1 := fun e => hg0.2.2 e.symm
          obtain ⟨c1, f1⟩ := ow_int p1 (k := q) (by omega)
          obtain ⟨⟨e0, e1, e2⟩, f2⟩ := ow_three p2 (k := q) (by omega)
          have f20 := f2 (q * 3)
          have f21 := f2 (q * 3 + 1)
          have f22 := f2 (q * 3 + 2)
          have HP1 := Lib.hid p1
          have HP2 := Lib.hid p2
          have GG : Hid ((g' = g0 ∨ w.heap.size ≤ g') ∧ g1 ≠ g' ∧ g2 ≠ g') := Lib.hid ⟨by rcases hg8 with e | e <;> rcases hgl.1 with e2 | e2 <;> omega, hne1, hne2⟩
          clear hb1 o1 o2 hbs ht8 hb8 hgl hg8 HT HO1 HB f2 p1 p2 hN9 hg0 hwq hsz8
          go_wp2_with fail
          clear hW9
          go_region
          have hg0 := HG12.out
          have HV1 : Hid ((((((W9.setCell ⟨g1, q, none⟩ (.int .i64 (t : Nat))).setCell ⟨g2, q * 3, none⟩ (.int .u64 (W64 x))).setCell ⟨g2, q * 3 + 1, none⟩ (.int .u64 (W64 y))).setCell ⟨g2, q * 3 + 2, none⟩ (.int .i64 (u : Int))).drew).ownsRow w.heap.size 3 1 (.slice (some ⟨g1, 0, none⟩) K K) K ((cqL (ds ++ [(x, y, u)]) K).map fun x => .int .i64 x)) := Lib.hid (by
            have hv : (Value.slice (some ⟨g1, 0, none⟩) K K).ownBlock ≠ some g2 := by simp [Value.ownBlock]; exact hn12
            rw [HCS.out, List.map_set]
            exact ow_new (ow_far (ow_far (ow_far (ow_set HP1.out q (.int .i64 (t : Nat))) (a := ⟨g2, q * 3, none⟩) hv _) (a := ⟨g2, q * 3 + 1, none⟩) hv _) (a := ⟨g2, q * 3 + 2, none⟩) hv _) (New.refl _).drew)
          have HV2 : Hid ((((((W9.setCell ⟨g1, q, none⟩ (.int .i64 (t : Nat))).setCell ⟨g2, q * 3, none⟩ (.int .u64 (W64 x))).setCell ⟨g2, q * 3 + 1, none⟩ (.int .u64 (W64 y))).setCell ⟨g2, q * 3 + 2, none⟩ (.int .i64 (u : Int))).drew).ownsRow w.heap.size 73 3 (.slice (some ⟨g2, 0, none⟩) K K) K (drCs (dpL (ds ++ [(x, y, u)]) K))) := Lib.hid (by
            have hv : (Value.slice (some ⟨g2, 0, none⟩) K K).ownBlock ≠ some g1 := by simp [Value.ownBlock]; exact hn21
            rw [HDS.out]
            exact ow_new ((((ow_far3 HP2.out (a := ⟨g1, q, none⟩) hv (.int .i64 (t : Nat))).stored (q * 3) _).1.stored (q * 3 + 1) _).1.stored (q * 3 + 2) _).1 (New.refl _).drew)
          have HV3 : Hid (Tape (((((W9.setCell ⟨g1, q, none⟩ (.int .i64 (t : Nat))).setCell ⟨g2, q * 3, none⟩ (.int .u64 (W64 x))).setCell ⟨g2, q * 3 + 1, none⟩ (.int .u64 (W64 y))).setCell ⟨g2, q * 3 + 2, none⟩ (.int .i64 (u : Int))).drew) b g' l (j + 1)) := Lib.hid (((((HT9.out.put (r := g1) (by omega) hne1 q _).put (r := g2) (by omega) hne2 (q * 3) _).put (r := g2) (by omega) hne2 (q * 3 + 1) _).put (r := g2) (by omega) hne2 (q * 3 + 2) _).stay (New.refl _).drew)
          have HV4 : Hid (But2 b g0 w (((((W9.setCell ⟨g1, q, none⟩ (.int .i64 (t : Nat))).setCell ⟨g2, q * 3, none⟩ (.int .u64 (W64 x))).setCell ⟨g2, q * 3 + 1, none⟩ (.int .u64 (W64 y))).setCell ⟨g2, q * 3 + 2, none⟩ (.int .i64 (u : Int))).drew)) := Lib.hid (((((HB9.out.fresh (p := ⟨g1, q, none⟩) hg0.1 _).fresh (p := ⟨g2, q * 3, none⟩) hg0.2.1 _).fresh (p := ⟨g2, q * 3 + 1, none⟩) hg0.2.1 _).fresh (p := ⟨g2, q * 3 + 2, none⟩) hg0.2.1 _).then (New.refl _).drew)
          clear hg0 d0 d1 d2 c1 f1 e0 e1 e2 f20 f21 f22 HP1 HP2 HT9 HB9
          obtain ⟨V, hV⟩ : ∃ z, ((((W9.setCell ⟨g1, q, none⟩ (.int .i64 (t : Nat))).setCell ⟨g2, q * 3, none⟩ (.int .u64 (W64 x))).setCell ⟨g2, q * 3 + 1, none⟩ (.int .u64 (W64 y))).setCell ⟨g2, q * 3 + 2, none⟩ (.int .i64 (u : Int))).drew = z := ⟨_, rfl⟩
          rw [hV] at HV1 HV2 HV3 HV4 ⊢
          clear hV
          go_wp2
          exact ⟨⟨q + 1, _, _, g', by omega, by go_num, HD, HV1.out, HV2.out, HV3.out, HV4.out, GG⟩, by simp [intOf]; omega⟩
        · have HD := Lib.hid (HF.out (fun i a b => by rw [HTK.out]; exact h3 i a b))
          have HNO : Hid (drS l (lqP k0 K) K = none) := Lib.hid (by
            have := drS_none HD.out (K - (q + 1))
            rw [show q + 1 + (K - (q + 1)) = K by omega] at this
            exact this)
          have HAF : Hid (After w (w8.alloc (.cells #[.int .u64 0, .int .u64 0, .int .i64 0] 73)) b g0 l l.length) := Lib.hid ⟨g', ht8.stay ((New.refl _).alloc _), (HB.out.step HG.out.1 hb8).then ((New.refl _).alloc _), by
            have h9 := HG.out.1
            have h8 := HB.out.size
            rcases hg8 with e | e <;> rcases h9 with e2 | e2 <;> omega⟩
          clear HX HF HTK HTL HC h3 ht8 hb8 hg8
          go_wp2
          go_ret3
          exact .inr ⟨HNO.out, rfl, HAF.out⟩
      · obtain rfl : q = K := by omega
        obtain ⟨a1, c1, he, hz⟩ := ZRow.of_owns HO1.out (by omega) (by
          rw [cqL_all hdl]
          exact in64_li _ (fun x hx => by have := lqP_lt (by omega) HS.out x hx; omega))
        cases he
        rw [cqL_all hdl] at hz
        obtain ⟨a2, c2, he, hk⟩ := KRow.of_owns HO2.out (by omega)
        cases he
        rw [dpL_all hdl] at hk
        have HK := Lib.hid hk
        have HZR := Lib.hid hz
        have HAF : Hid (After w wq b g0 l k) := Lib.hid ⟨g, HT.out, HB.out, HG.out.1⟩
        clear hz hk
        go_wp2
        go_ret3
        first | exact .inl ⟨ds, k, HS.out, _, _, _, _, rfl, HZR.out, HK.out, HAF.out⟩ | exact .inl ⟨ds, k, _, _, _, _, HS.out, rfl, HZR.out, HK.out, HAF.out⟩
set_option maxRecDepth 100000 in
set_option maxHeartbeats 4000000 in
theorem take42_q (b g0 n k0 K : Nat) (l : List (BitVec 64)) (w : World) (ht : Tape w b g0 l 0) (hn : n ≤ 256) (hk0 : k0 ≤ n) (hK : n - k0 = K) :
    Calls Try.prog 22 #[.pointer (some ⟨b, 0, none⟩), .int .i64 (n : Int), .int .i64 (k0 : Int)] w fun e w' => (∃ ds k a1 c1 a2 c2, drS l (lqP k0 K) K = some (ds, k) ∧ e = .returned (.tuple #[.slice a1 (k0 : Nat) c1, .slice a2 (K : Nat) c2, .int .i64 0]) ∧ ZRow w' a1 k0 c1 (slI n k0 (cdS ds K)) ∧ KRow w' a2 K c2 ds ∧ After w w' b g0 l k) ∨ (drS l (lqP k0 K) K = none ∧ e = .returned (.tuple #[.slice none 0 0, .slice none 0 0, .int .i64 7]) ∧ After w w' b g0 l l.length) := by
  have HC := Lib.hid (check_42 (n : Int) (k0 : Int) w)
  rw [show ckE (n : Int) (k0 : Int) = 0 from by unfold ckE; rw [if_neg (by omega), if_neg (by omega)]] at HC
  have HD := Lib.hid (draw42_q b g0 n k0 K l w ht hn hk0 hK)
  have HKK := Lib.hid hK
  clear ht hK
  go_enter Try.func22, Try.ntmps22
  go_wp2_with fail
  refine HC.out.mono ?_
  rintro e w' ⟨rfl, hw⟩
  replace hw := hw.symm
  subst hw
  go_wp2_with fail
  refine HD.out.mono ?_
  rintro e w1 (⟨ds, k, a1, c1, a2, c2, hd, rfl, hz, hk, haf⟩ | ⟨hd, rfl, haf⟩)
  · have HS := Lib.hid (slots_q n k0 hk0 hn _ _ _ _ _ hz (cdS_rd hn hk0 HKK.out hd))
    have HDD := Lib.hid hd
    have HK := Lib.hid hk
    have HAF := Lib.hid haf
    clear hd hz hk haf HD HC
    go_wp2_with fail
    refine HS.out.mono ?_
    rintro e w2 ⟨a3, c3, rfl, hz3, hn3⟩
    have HZ3 := Lib.hid hz3
    replace HK := Lib.hid (HK.out.stay hn3)
    obtain ⟨g, h1, h2, h3⟩ := HAF.out
    have HA2 : Hid (After w w2 b g0 l k) := Lib.hid ⟨g, h1.stay hn3, h2.then hn3, h3⟩
    clear hz3 hn3 h1 h2 h3 HAF HS
    go_wp2
    go_ret3
    exact .inl ⟨ds, k, _, _, _, _, HDD.out, rfl, HZ3.out, HK.out, HA2.out⟩
  · have HDD := Lib.hid hd
    have HAF := Lib.hid haf
    clear hd haf HD HC
    go_wp2
    go_ret3
    exact .inr ⟨HDD.out, rfl, HAF.out⟩
theorem take42_err (b : Nat) (n k : Int) (w : World) (h : ¬ ckE n k = 0) :
    Calls Try.prog 22 #[.pointer (some ⟨b, 0, none⟩), .int .i64 n, .int .i64 k] w fun e w' => e = .returned (.tuple #[.slice none 0 0, .slice none 0 0, .int .i64 (ckE n k)]) ∧ w' = w := by
  have HC := Lib.hid (check_42 n k w)
  obtain ⟨z, hz⟩ : ∃ z, ckE n k = z := ⟨_, rfl⟩
  rw [hz] at HC h ⊢
  clear hz
  have hb : (z != 0) = true := by simpa using h
  go_enter Try.func22, Try.ntmps22
  go_wp2_with fail
  refine HC.out.mono ?_
  rintro e w' ⟨rfl, hw⟩
  replace hw := hw.symm
  subst hw
  go_wp2
  go_ret3
  exact ⟨rfl, rfl⟩
end Go.Proofs.Ytajjpllhihgkdaa
namespace Go.Proofs.Ytajjpllhihgkdaa
open Go Go.RowKit Go.Bv
set_option linter.unusedVariables false
set_option maxRecDepth 100000 in
set_option maxHeartbeats 4000000 in
theorem ReservoirTakes_walk (W : World) (a0 : Option Addr) (n0 m0 : Nat) (z0 : List Int) (w0 : IRow .u64 W a0 n0 m0 z0) (r0 : m0 * 8 ≤ 140737488351232) (a1 : Int) (w1 : (Lit.int .i64 a1).wf = true) (a2 : Int) (w2 : (Lit.int .i64 a2).wf = true) :
    Calls Try.prog 5 #[.slice a0 n0 m0, .int .i64 a1, .int .i64 a2] W fun e w' => e = .returned (.bool true) ∧ Below W.heap.size W w' := by
  obtain ⟨l, hl⟩ := w0.words r0
  have H0 := Lib.hid hl
  have HL0 := Lib.hid hl.len_eq
  have hn1 := wfi64 w1
  have hn2 := wfi64 w2
  clear w0 w1 w2 r0 hl
  have HA := Lib.hid awake42
  go_enter Try.func5, Try.ntmps5
  go_wp2_with fail
  refine (HA.out _).mono ?_
  rintro e wA ⟨rfl, hn⟩
  replace H0 := Lib.hid (H0.out.stay hn)
  have HN := Lib.hid hn
  clear hn HA
  by_cases hs0 : (100 : Int) < (n0 : Int)
  · go_wp2
    go_ret
    exact ⟨rfl, HN.out⟩
  by_cases hs1 : 60 < a1 ∧ a1 ≤ 256
  · obtain ⟨hs2, hs3⟩ := hs1
    go_wp2
    go_ret
    exact ⟨rfl, HN.out⟩
  have e0 : ¬ 60 < a1 ∨ (60 < a1 ∧ ¬ a1 ≤ 256) := by omega
  have HCR := Lib.hid (fun w => checkr_42 a1 a2 w)
  by_cases hk : ckE a1 a2 = 0
  case neg =>
    have HTE := Lib.hid (fun b w => take42_err b a1 a2 w hk)
    obtain ⟨z, hz⟩ : ∃ z, ckE a1 a2 = z := ⟨_, rfl⟩
    rw [hz] at HCR HTE hk
    have hz3 : (z != 0) = true := by simpa using hk
    have hz4 : (z == z) = true := by simp
    clear hz
    rcases e0 with e0 | ⟨e0, e0'⟩
    all_goals (
      go_wp2_with fail
      refine (new_t _ _ _ _ _ H0.out).mono ?_
      rintro e wB ⟨b, rfl, hb, ht, hn⟩
      replace HN := Lib.hid (HN.out.trans hn)
      clear ht hn hb
      go_wp2_with fail
      refine (HTE.out b _).mono ?_
      rintro e w' ⟨rfl, hw⟩
      replace hw := hw.symm
      subst hw
      go_wp2_with fail
      refine (HCR.out _).mono ?_
      rintro e w' ⟨rfl, hw⟩
      replace hw := hw.symm
      subst hw
      go_wp2
      go_ret
      exact ⟨rfl, HN.out⟩)
  have hk2 : 0 ≤ a1 ∧ 0 ≤ a2 ∧ a2 ≤ a1 ∧ a1 ≤ 256 := by
    unfold ckE at hk
    by_cases h1 : a1 < 0 ∨ a2 < 0 ∨ a1 < a2
    · rw [if_pos h1] at hk; omega
    · rw [if_neg h1] at hk
      by_cases h2 : 256 < a1
      · rw [if_pos h2] at hk; omega
      · omega
  have e0' : ¬ 60 < a1 := by omega
  rw [hk] at HCR
  obtain ⟨n, rfl⟩ : ∃ n : Nat, a1 = (n : Int) := ⟨a1.toNat, by omega⟩
  obtain ⟨k0, rfl⟩ : ∃ k : Nat, a2 = (k : Int) := ⟨a2.toNat, by omega⟩
  have hkn : k0 ≤ n := by omega
  have hn256 : n ≤ 256 := by omega
  obtain ⟨K, hK⟩ : ∃ K, n - k0 = K := ⟨_, rfl⟩
  have HKK := Lib.hid hK
  clear hk hs1 e0 hk2 hK
  have HTR := Lib.hid (fun w (h : QRow w a0 n0 m0 l) => take42r_q a0 n0 m0 n k0 K l w h hn256 hkn HKK.out)
  go_wp2_with fail
  refine (new_t _ _ _ _ _ H0.out).mono ?_
  rintro e wB ⟨b, rfl, hb, ht, hn⟩
  have HT := Lib.hid ht
  have HNB := Lib.hid hn
  have HBB := Lib.hid hb
  clear ht hn hb
  go_wp2_with fail
  refine (take42_q b b n k0 K l _ HT.out hn256 hkn HKK.out).mono ?_
  rintro e wC (⟨ds, k, p1, p2, p3, p4, hd, rfl, hz, hk, g, ht, hb2, _⟩ | ⟨hd, rfl, g, ht, hb2, _⟩)
  · have HD := Lib.hid hd
    have HZ := Lib.hid hz
    have HK := Lib.hid hk
    replace HT := Lib.hid ht
    have hnc : New wA wC := hb2.new wA HNB.out HBB.out HBB.out
    replace H0 := Lib.hid (H0.out.stay hnc)
    replace HN := Lib.hid (HN.out.trans hnc)
    clear hd hz hk ht hb2 hnc
    go_wp2_with fail
    refine (HCR.out _).mono ?_
    rintro e w' ⟨rfl, hw⟩
    replace hw := hw.symm
    subst hw
    go_wp2_with fail
    refine (HTR.out _ H0.out).mono ?_
    rintro e wD ⟨⟨ds2, k2, q1, q2, q3, q4, hd2, rfl, hz2, hk2⟩ | ⟨hd2, rfl⟩, hn⟩
    · rw [HD.out] at hd2
      cases hd2
      have HZ2 := Lib.hid hz2
      have HK2 := Lib.hid hk2
      replace HZ := Lib.hid (HZ.out.stay hn)
      replace HK := Lib.hid (HK.out.stay hn)
      replace HT := Lib.hid (HT.out.stay hn)
      replace HN := Lib.hid (HN.out.trans hn)
      clear hz2 hk2 hn HTR
      go_wp2_with fail
      refine (used_t _ _ _ _ _ HT.out).mono ?_
      rintro e w' ⟨rfl, hw⟩
      replace hw := hw.symm
      subst hw
      have hkk : ((k : Int) != (k : Int)) = false := by simp
      go_wp2_with fail
      refine (ints_ref _ _ _ _ _ _ _ _ _ HZ.out HZ2.out).mono ?_
      rintro e wE ⟨rfl, hn⟩
      rw [beq_self_eq_true]
      replace HK := Lib.hid (HK.out.stay hn)
      replace HK2 := Lib.hid (HK2.out.stay hn)
      replace HN := Lib.hid (HN.out.trans hn)
      clear hn
      go_wp2_with fail
      refine (same38_q _ _ _ _ _ _ _ HK.out HK2.out).mono ?_
      rintro e wF ⟨rfl, hn⟩
      replace HN := Lib.hid (HN.out.trans hn)
      clear hn
      go_wp2
      go_ret
      exact ⟨rfl, HN.out⟩
    · rw [HD.out] at hd2; cases hd2
  · have HD := Lib.hid hd
    replace HT := Lib.hid ht
    have hnc : New wA wC := hb2.new wA HNB.out HBB.out HBB.out
    replace H0 := Lib.hid (H0.out.stay hnc)
    replace HN := Lib.hid (HN.out.trans hnc)
    clear hd ht hb2 hnc
    go_wp2_with fail
    refine (HCR.out _).mono ?_
    rintro e w' ⟨rfl, hw⟩
    replace hw := hw.symm
    subst hw
    go_wp2_with fail
    refine (HTR.out _ H0.out).mono ?_
    rintro e wD ⟨⟨ds2, k2, q1, q2, q3, q4, hd2, rfl, hz2, hk2⟩ | ⟨hd2, rfl⟩, hn⟩
    · rw [HD.out] at hd2; cases hd2
    · replace HT := Lib.hid (HT.out.stay hn)
      replace HN := Lib.hid (HN.out.trans hn)
      clear hn HTR
      rw [HL0.out] at HT
      go_wp2_with fail
      refine (used_t _ _ _ _ _ HT.out).mono ?_
      rintro e w' ⟨rfl, hw⟩
      replace hw := hw.symm
      subst hw
      have hkk : ((n0 : Int) != (n0 : Int)) = false := by simp
      go_wp2
      go_ret
      exact ⟨rfl, HN.out⟩
end Go.Proofs.Ytajjpllhihgkdaa
