import Derived.Test.YtajjpllhihgkdaaEvnC
import Derived.Test.YtajjpllhihgkdaaEvnA
import Derived.Test.YtajjpllhihgkdaaEvnE
/- reservoir: the draws; Take; the document's own. · The law ReservoirTakes. -/
namespace Go.Proofs.Ytajjpllhihgkdaa
open Go Go.RowKit Go.Bv
set_option linter.unusedVariables false
/-- the limits of the draws: k + 1, k + 2 and so on -/
def lqP (k m : Nat) : List (BitVec 64) := (List.range m).map fun i => BitVec.ofNat 64 (k + i + 1)
theorem lqP_len (k m : Nat) : (lqP k m).length = m := by unfold lqP; simp
theorem lqP_get {k m i : Nat} (h : i < m) : (lqP k m).getD i 0 = BitVec.ofNat 64 (k + i + 1) := by
  unfold lqP
  rw [List.getD_eq_getElem?_getD, List.getElem?_map, List.getElem?_range h]; rfl
theorem lqP_succ (k m : Nat) : lqP k (m + 1) = lqP k m ++ [BitVec.ofNat 64 (k + m + 1)] := by unfold lqP; rw [List.range_succ, List.map_append]; rfl
theorem lqP_lt {l : List (BitVec 64)} {k0 m : Nat} {ds : List Drw} {k : Nat} (hn : k0 + m ≤ 1000000) (h : drS l (lqP k0 m) m = some (ds, k)) : ∀ i, i < m → ((ds.getD i dz).1).toNat < k0 + i + 1 := by
  intro i hi
  have h1 := drS_lt (fun i hi => by rw [lqP_get hi]; exact (ofNat_pos (r := k0 + i + 1) (by omega) (by omega)).1) h i hi
  rw [lqP_get hi, (ofNat_pos (r := k0 + i + 1) (by omega) (by omega)).2] at h1
  exact h1
theorem cdS_rd {l : List (BitVec 64)} {n k0 m : Nat} {ds : List Drw} {k : Nat} (hn : n ≤ 256) (hk : k0 ≤ n) (hm : n - k0 = m) (h : drS l (lqP k0 m) m = some (ds, k)) : rdI n k0 (cdS ds m) := by
  refine ⟨by rw [cdS_len, hm], fun i hi => ?_⟩
  have h1 := lqP_lt (by omega) h i (by omega)
  unfold cdS
  rw [liI_get _ (by omega)]
  omega
set_option maxRecDepth 100000 in
set_option maxHeartbeats 2000000 in
theorem limits_42 (n k m : Nat) (w : World) (hk : k ≤ n) (hm : n - k = m) (hn : n ≤ 100000) :
    Calls Try.prog 44 #[.int .i64 (n : Int), .int .i64 (k : Int)] w fun e w' => ∃ a c, e = .returned (.slice a (m : Nat) c) ∧ QRow w' a m c (lqP k m) ∧ New w w' := by
  obtain ⟨i0, hi, hz0, hz1, hz2⟩ := info_parts info8_u64
  go_enter Try.func44, Try.ntmps44
  go_wp2_with fail
  go_loopw [5, 6] (fun v iv wr => ∃ i z : Nat, i ≤ m ∧ iv = .int .i64 (z : Int) ∧ Hid (z = k + i) ∧ wr.ownsRow w.heap.size 62 1 v i ((lqP k i).map fun x => .int .u64 (W64 x)) ∧ New w wr) (fun _ iv _ => n - (intOf iv).toNat)
  case atStart => exact ⟨0, k, Nat.zero_le _, rfl, Lib.hid rfl, World.ownsRow_nil w _ _ 1, New.refl w⟩
  case round =>
    obtain ⟨i, z, hi9, rfl, HZ, hown, hnew⟩ := hrel
    have hz := HZ.out
    by_cases hlt : (z : Int) < (n : Int)
    · have hz0' : (0 : Int) ≤ (z : Int) := by omega
      obtain ⟨r, hr⟩ : ∃ r, k + i + 1 = r := ⟨_, rfl⟩
      obtain ⟨wq, hwq⟩ : ∃ z, z = wr := ⟨_, rfl⟩
      rw [← hwq] at hown hnew ⊢
      clear hwq
      have HL := Lib.hid (lqP_succ k i)
      have hbv : BitVec.ofNat 64 z + 1#64 = BitVec.ofNat 64 (k + i + 1) := by
        rw [hz, show (1#64 : BitVec 64) = BitVec.ofNat 64 1 from rfl, ← BitVec.ofNat_add]
      have HZ2 : Hid (z + 1 = k + (i + 1)) := Lib.hid (by omega)
      rw [← hbv] at HL
      have him : i < m := by omega
      have him2 : i ≤ 100000 := by omega
      clear hz HZ hbv
      go_wp2_with (at_builtin; refine wpList_append_own _ rfl _ _ 38 rfl w.heap.size 62 i0 (.int .u64 0) 1 8 Try.underlying38 hi hz0 hz1 hz2 rfl (by decide) _ i _ rfl (hown.alloc _) ⟨wq.heap.size, 0, none⟩ 1 1 [.int .u64 (W64 (BitVec.ofNat 64 z + 1#64))] rfl rfl ?c1 ?c2 ?c3 ?c4 ?c5 ?_)
      try (case c1 => exact one_cell wq _ _)
      try (case c2 => first | rfl | (intro u hu; simp at hu; subst hu; rfl))
      try (case c3 => first | (unfold maxLen; omega) | omega)
      try (case c4 => omega)
      try (case c5 => first | (simp; have := hnew.le; omega) | (have := hnew.le; omega))
      intro v' w1 how hgr _
      have HO2 : Hid (w1.ownsRow w.heap.size 62 1 v' (i + 1) ((lqP k (i + 1)).map fun x => .int .u64 (W64 x))) := Lib.hid (by
        rw [HL.out, List.map_append]; exact how)
      have HN1 := Lib.hid ((hnew.alloc _).grown' hgr (own_base hown))
      clear how hgr hown hnew
      go_wp2
      exact ⟨⟨i + 1, z + 1, by omega, by go_num, HZ2, HO2.out, HN1.out⟩, by simp [intOf]; omega⟩
    · obtain rfl : i = m := by omega
      obtain ⟨a, c, rfl, hq⟩ := QRow.of_owns hown (by omega)
      have HQ := Lib.hid hq
      have HN := Lib.hid hnew
      clear hq hown hnew
      go_wp2
      go_ret
      exact ⟨a, c, rfl, HQ.out, HN.out⟩
set_option maxRecDepth 100000 in
set_option maxHeartbeats 4000000 in
theorem take42r_q (a : Option Addr) (nl c n k0 K : Nat) (l : List (BitVec 64)) (w : World) (hl : QRow w a nl c l) (hn : n ≤ 256) (hk0 : k0 ≤ n) (hK : n - k0 = K) :
    Calls Try.prog 23 #[.slice a nl c, .int .i64 (n : Int), .int .i64 (k0 : Int)] w fun e w' => ((∃ ds k a1 c1 a2 c2, drS l (lqP k0 K) K = some (ds, k) ∧ e = .returned (.tuple #[.slice a1 (k0 : Nat) c1, .slice a2 (K : Nat) c2, .int .i64 (k : Nat), .bool true]) ∧ ZRow w' a1 k0 c1 (slI n k0 (cdS ds K)) ∧ KRow w' a2 K c2 ds) ∨ (drS l (lqP k0 K) K = none ∧ e = .returned (.tuple #[.slice none 0 0, .slice none 0 0, .int .i64 (nl : Nat), .bool false]))) ∧ New w w' := by
  obtain ⟨i0, hi, hz0, hz1, hz2⟩ := info_parts info_int40
  have HL := Lib.hid hl
  have HLM := Lib.hid (limits_42 n k0 K w hk0 hK (by omega))
  clear hl
  go_enter Try.func23, Try.ntmps23
  go_wp2_with fail
  refine (HLM.out).mono ?_
  rintro e w9 ⟨a9, c9, rfl, hq, hn9⟩
  have HQ := Lib.hid hq
  have HN := Lib.hid hn9
  clear hq hn9 HLM
  go_wp2_with fail
  refine (row38_any _ _ _ _ _ _ _ _ _ (HL.out.stay HN.out) HQ.out (by omega)).mono ?_
  rintro e w8 ⟨⟨ds, k, a2, c2, hd, rfl, hk⟩ | ⟨hd, rfl⟩, hn8⟩
  · have HD := Lib.hid hd
    have HK := Lib.hid hk
    have HRP := Lib.hid (cdS_rd hn hk0 hK hd)
    have HLT := Lib.hid (lqP_lt (by omega) hd)
    replace HN := Lib.hid (HN.out.trans hn8)
    clear hd hk hn8 HQ
    go_wp2_with fail
    go_loopw [13, 30] (fun v iv wr => ∃ i : Nat, i ≤ K ∧ iv = .int .i64 (i : Int) ∧ wr.ownsRow w8.heap.size 3 1 v i ((cdS ds i).map fun x => .int .i64 x) ∧ New w8 wr) (fun _ iv _ => K - (intOf iv).toNat)
    case atStart => exact ⟨0, Nat.zero_le _, rfl, World.ownsRow_nil _ _ _ 1, New.refl _⟩
    case round =>
      obtain ⟨i, hi9, rfl, hown, hnew⟩ := hrel
      obtain ⟨wq, hwq⟩ : ∃ z, z = wr := ⟨_, rfl⟩
      rw [← hwq] at hown hnew ⊢
      clear hwq
      have HKR := Lib.hid (HK.out.stay hnew)
      by_cases hlt : (i : Int) < (K : Int)
      · have hi0 : (0 : Int) ≤ (i : Int) := by omega
        obtain ⟨b1, o1, rfl, h1⟩ := HKR.out.addr (by omega)
        obtain ⟨p0, p1, p2⟩ := h1 i (by omega)
        clear h1
        have hlt2 := HLT.out i (by omega)
        have hk256 : k0 + i + 1 ≤ 1000000 := by omega
        have HSS := Lib.hid (cdS_succ ds i)
        obtain ⟨⟨x, y, u⟩, hd⟩ : ∃ d, ds.getD i dz = d := ⟨_, rfl⟩
        rw [hd] at p0 p1 p2 hlt2 HSS
        clear hd
        simp only at p0 p1 p2 hlt2 HSS
        obtain ⟨t, ht⟩ : ∃ t, x.toNat = t := ⟨_, rfl⟩
        rw [ht] at hlt2 HSS
        have hx1 : wrap64 (W64 x) = (t : Int) := by unfold W64 wrap64; omega
        have hown2 := ow_new hown ((New.refl wq).alloc (.cells #[.int .u64 (W64 x), .int .u64 (W64 y), .int .i64 (u : Int)] 73))
        have hnew2 := hnew.alloc (.cells #[.int .u64 (W64 x), .int .u64 (W64 y), .int .i64 (u : Int)] 73)
        clear HKR HK HRP HLT ht
        go_wp2_with (at_builtin; refine wpList_append_own _ rfl _ _ 22 rfl w8.heap.size 3 i0 (.int .i64 0) 1 8 Try.underlying22 hi hz0 hz1 hz2 rfl (by decide) _ i _ rfl (hown2.alloc _) ⟨wq.heap.size + 1, 0, none⟩ 1 1 [.int .i64 (t : Nat)] rfl rfl ?d1 ?d2 ?d3 ?d4 ?d5 ?_)
        try (case d1 =>
          have h9 := one_cell (wq.alloc (.cells #[.int .u64 (W64 x), .int .u64 (W64 y), .int .i64 (u : Int)] 73)) (.int .i64 (t : Nat)) 3
          rw [show (wq.alloc (.cells #[.int .u64 (W64 x), .int .u64 (W64 y), .int .i64 (u : Int)] 73)).heap.size = wq.heap.size + 1 by simp] at h9
          exact h9)
        try (case d2 => intro u hu; simp at hu; subst hu; rfl)
        try (case d3 => unfold maxLen; omega)
        try (case d4 => omega)
        try (case d5 => simp; have := hnew.le; omega)
        intro v' w1 how hgr _
        have HO2 : Hid (w1.ownsRow w8.heap.size 3 1 v' (i + 1) ((cdS ds (i + 1)).map fun x => .int .i64 x)) := Lib.hid (by
          rw [HSS.out, List.map_append]; exact how)
        have HN1 := Lib.hid ((hnew2.alloc _).grown' hgr (own_base hown2))
        clear how hgr hown hnew hown2 hnew2 p0 p1 p2
        go_wp2
        exact ⟨⟨i + 1, by omega, by go_num, HO2.out, HN1.out⟩, by simp [intOf]; omega⟩
      · obtain rfl : i = K := by omega
        obtain ⟨a1, c1, rfl, hz⟩ := ZRow.of_owns hown (by omega) (in64_li _ (fun x hx => by
          have := HLT.out x hx
          omega))
        have HPR := Lib.hid (slotsr_42 n k0 hk0 hn _ _ _ _ _ hz HRP.out)
        have HN7 := Lib.hid hnew
        clear hown hz hnew
        go_wp2_with fail
        refine (HPR.out).mono ?_
        rintro e w6 ⟨a6, c6, rfl, hz6, hn6⟩
        have HZ := Lib.hid hz6
        replace HKR := Lib.hid (HKR.out.stay hn6)
        replace HN := Lib.hid ((HN.out.trans HN7.out).trans hn6)
        clear hz6 hn6 HPR
        go_wp2
        refine bodyPost_ret (by simp [results, Try.results23, go_sem]; try rfl) rfl ?_
        exact ⟨.inl ⟨ds, k, a6, c6, a2, c2, HD.out, rfl, HZ.out, HKR.out⟩, HN.out⟩
  · have HD := Lib.hid hd
    replace HN := Lib.hid (HN.out.trans hn8)
    clear hd hn8 HQ
    go_wp2
    refine bodyPost_ret (by simp [results, Try.results23, go_sem]; try rfl) rfl ?_
    exact ⟨.inr ⟨HD.out, rfl⟩, HN.out⟩
set_option maxRecDepth 100000 in
set_option maxHeartbeats 8000000 in
theorem draw42_q (b g0 n k0 K : Nat) (l : List (BitVec 64)) (w : World) (ht : Tape w b g0 l 0) (hn : n ≤ 256) (hk0 : k0 ≤ n) (hK : n - k0 = K) :
    Calls Try.prog 42 #[.pointer (some ⟨b, 0, none⟩), .int .i64 (n : Int), .int .i64 (k0 : Int)] w fun e w' => (∃ ds k a1 c1 a2 c2, drS l (lqP k0 K) K = some (ds, k) ∧ e = .returned (.tuple #[.slice a1 (K : Nat) c1, .slice a2 (K : Nat) c2, .int .i64 0]) ∧ ZRow w' a1 K c1 (cdS ds K) ∧ KRow w' a2 K c2 ds ∧ After w w' b g0 l k) ∨ (drS l (lqP k0 K) K = none ∧ e = .returned (.tuple #[.slice none 0 0, .slice none 0 0, .int .i64 7]) ∧ After w w' b g0 l l.length) := by
  have HBL : Hid (b < w.heap.size ∧ g0 < w.heap.size) := Lib.hid ht.lt
  have HT0 := Lib.hid (fun w' (h : New w w') => ht.stay h)
  have hmk : ∀ W : World, (Instr.makeSlice 22 (.int .i64 (K : Int)) (.int .i64 (K : Int))).run Try.prog W = .ok (.slice (some ⟨W.heap.size, 0, none⟩) K K) (W.alloc (.cells (madeCells #[.int .i64 0] K) 3)) := fun W => make_int K (by omega) _ W rfl
  have hmk2 : ∀ W : World, (Instr.makeSlice 41 (.int .i64 (K : Int)) (.int .i64 (K : Int))).run Try.prog W = .ok (.slice (some ⟨W.heap.size, 0, none⟩) K K) (W.alloc (.cells (madeCells #[.int .u64 0, .int .u64 0, .int .i64 0] (K * 3)) 73)) := fun W => make_drw K (by omega) W
  have hji : (n : Int) - (k0 : Int) = (K : Int) := by omega
  have hK256 : k0 + K ≤ 256 := by omega
  have hwK : IntKind.i64.wrap (K : Int) = (K : Int) := by unfold IntKind.wrap; simp [IntKind.signed, IntKind.bits]; omega
  clear ht hK
  go_enter Try.func42, Try.ntmps42
  go_wp2_with fail
  go_cut [9, 10] (fun c d wx => ∃ g1 g2, c = .slice (some ⟨g1, 0, none⟩) K K ∧ d = .slice (some ⟨g2, 0, none⟩) K K ∧ wx.ownsRow w.heap.size 3 1 (.slice (some ⟨g1, 0, none⟩) K K) K ((cqL [] K).map fun x => .int .i64 x) ∧ wx.ownsRow w.heap.size 73 3 (.slice (some ⟨g2, 0, none⟩) K K) K (drCs (dpL [] K)) ∧ g1 ≠ g2 ∧ New w wx)
  case first =>
    go_region_held3 (fun w' => New w w')
      (repeat (first | with_reducible assumption | with_reducible exact New.refl _ | with_reducible apply New.drew | with_reducible refine New.alloc ?_ _))
      (fail)
    all_goals (
      go_wp2_with fail
      go_meet
      case rel =>
        rw [cqL_zero, dpL_zero]
        first
          | exact ⟨_, _, rfl, rfl, ow_new (ow_made w _ _ _ K _ (Nat.le_refl _) (by omega) (by rw [made_toList, zeros_li]) (by rw [List.length_map, liI_len])) (((New.refl _).alloc _).drew), ow_new (at_size (by simp) (ow_made3 (w.alloc (.cells (madeCells #[.int .i64 0] K) 3)) w.heap.size _ K (by simp) (by omega))) ((New.refl _).drew), (fun e => by omega), by assumption⟩
          | exact ⟨_, _, rfl, rfl, ow_new (at_size (by simp) (ow_made (w.alloc (.cells (madeCells #[.int .u64 0, .int .u64 0, .int .i64 0] (K * 3)) 73)) w.heap.size _ _ K _ (by simp) (by omega) (by rw [made_toList, zeros_li]) (by rw [List.length_map, liI_len]))) ((New.refl _).drew), ow_new (ow_made3 w w.heap.size _ K (Nat.le_refl _) (by omega)) (((New.refl _).alloc _).drew), (fun e => by omega), by assumption⟩)
  case rest =>
    obtain ⟨g1, g2, rfl, rfl, ho1, ho2, hg12, hn9⟩ := hcut
    clear hmk hmk2 hwK
    have HO1 := Lib.hid ho1
    have HO2 := Lib.hid ho2
    have HN9 := Lib.hid hn9
    have HG12 : Hid (w.heap.size ≤ g1 ∧ w.heap.size ≤ g2 ∧ g1 ≠ g2) := Lib.hid ⟨(ow_in ho1).1, (ow_lt3 ho2).1, hg12⟩
    have HLT : Hid (g1 < wc.heap.size ∧ g2 < wc.heap.size) := Lib.hid ⟨(ow_in ho1).2.1, (ow_lt3 ho2).2.1⟩
    replace HT0 := Lib.hid (HT0.out wc hn9)
    clear ho1 ho2 hg12 hn9
    go_wp2_with fail
    go_loopw [24] (fun iv wr => ∃ (q : Nat) (ds : List Drw) (k g : Nat), q ≤ K ∧ iv = .int .i64 (q : Int) ∧ Hid (drS l (lqP k0 K) q = some (ds, k)) ∧ wr.ownsRow w.heap.size 3 1 (.slice (some ⟨g1, 0, none⟩) K K) K ((cqL ds K).map fun x => .int .i64 x) ∧ wr.ownsRow w.heap.size 73 3 (.slice (some ⟨g2, 0, none⟩) K K) K (drCs (dpL ds K)) ∧ Tape wr b g l k ∧ But2 b g0 w wr ∧ Hid ((g = g0 ∨ w.heap.size ≤ g) ∧ g1 ≠ g ∧ g2 ≠ g)) (fun iv _ => K - (intOf iv).toNat)
    case atStart => exact ⟨0, [], 0, g0, Nat.zero_le _, rfl, Lib.hid rfl, HO1.out, HO2.out, HT0.out, But2.of_new HN9.out, Lib.hid ⟨.inl rfl, by have := HG12.out; have := HBL.out; omega, by have := HG12.out; have := HBL.out; omega⟩⟩
    case round =>
      clear HT0 HO1 HO2
      obtain ⟨q, ds, k, g, hq, rfl, HS, ho1, ho2, ht, hb2, HG⟩ := hrel
      have HO1 := Lib.hid ho1
      have HO2 := Lib.hid ho2
      have HT := Lib.hid ht
      have HB := Lib.hid hb2
      obtain ⟨wq, hwq⟩ : ∃ z, z = wr := ⟨_, rfl⟩
      rw [← hwq] at HO1 HO2 HT HB ⊢
      clear ho1 ho2 ht hb2 hwq
      have hdl := (drS_len HS.out).1
      by_cases hlt : (q : Int) < (K : Int)
      · have hq0 : (0 : Int) ≤ (q : Int) := by omega
        obtain ⟨r, hr⟩ : ∃ r, k0 + q = r := ⟨_, rfl⟩
        have hr1 : (k0 : Int) + (q : Int) = (r : Int) := by omega
        obtain ⟨s, hs⟩ : ∃ s, r + 1 = s := ⟨_, rfl⟩
        have hs1 : (r : Int) + 1 = (s : Int) := by omega
        have hgl : (lqP k0 K).getD q 0 = BitVec.ofNat 64 s := by rw [lqP_get (by omega), hr, hs]
        obtain ⟨hs0, hsn⟩ := ofNat_pos (r := s) (by omega) (by omega)
        have HX := Lib.hid (fun j h1 h2 h3 h4 => drS_next (j := j) HS.out h1 h2 h3 h4)
        have HF := Lib.hid (fun h3 => drS_few HS.out (drS_len HS.out).2 h3)
        rw [hgl] at HX HF
        have HTK : Hid (∀ x : BitVec 64, takO x (BitVec.ofNat 64 s) = takN x (BitVec.ofNat 64 s)) := Lib.hid (fun x => if_neg hs0)
        have HTL : Hid (∀ x : BitVec 64, (telN x (BitVec.ofNat 64 s)).toNat < s) := Lib.hid (fun x => by have := tel_lt x _ hs0; rwa [hsn] at this)
        have HC := Lib.hid (fun w' (h : New wq w') => take_l b g l k (BitVec.ofNat 64 s) hs0 w' (HT.out.stay h))
        have HDL := Lib.hid hdl
        clear hgl hs0 hsn hdl
        obtain ⟨lim, hlim⟩ : ∃ z, BitVec.ofNat 64 s = z := ⟨_, rfl⟩
        rw [hlim] at HX HF HTK HTL HC
        have HWQ : Hid (g1 < wq.heap.size ∧ g2 < wq.heap.size) := Lib.hid ⟨(ow_in HO1.out).2.1, (ow_lt3 HO2.out).2.1⟩
        go_wp2_with fail
        refine (HC.out wq (New.refl _)).mono ?_
        rintro e w8 (⟨j, h1, h2, h3, h4, rfl, g', ht8, hb8, hg8⟩ | ⟨h3, rfl, g', ht8, hb8, hg8⟩)
        · have HD := Lib.hid (HX.out j h1 h2 (fun i a b => by rw [HTK.out]; exact h3 i a b) (by rw [HTK.out]; exact h4))
          have HDW : Hid (drw l lim k j = (telN (l.getD j 0) lim, rnkN (l.getD j 0) lim, j + 1 - k)) := Lib.hid rfl
          have hxl := HTL.out (l.getD j 0)
          obtain ⟨x, hx⟩ : ∃ z, telN (l.getD j 0) lim = z := ⟨_, rfl⟩
          obtain ⟨y, hy⟩ : ∃ z, rnkN (l.getD j 0) lim = z := ⟨_, rfl⟩
          obtain ⟨u, hu⟩ : ∃ z, j + 1 - k = z := ⟨_, rfl⟩
          rw [hx] at hxl
          rw [hx, hy, hu] at HDW ⊢
          rw [HDW.out] at HD
          obtain ⟨t, htx⟩ : ∃ t, x.toNat = t := ⟨_, rfl⟩
          rw [htx] at hxl
          have hx1 : wrap64 (W64 x) = (t : Int) := by unfold W64 wrap64; omega
          have HCS : Hid (cqL (ds ++ [(x, y, u)]) K = (cqL ds K).set q ((t : Nat) : Int)) := Lib.hid (by
            rw [cqL_set HDL.out (by omega)]
            show (cqL ds K).set q ((x.toNat : Nat) : Int) = _
            rw [htx])
          have HDS : Hid (drCs (dpL (ds ++ [(x, y, u)]) K) = (((drCs (dpL ds K)).set (q * 3) (.int .u64 (W64 x))).set (q * 3 + 1) (.int .u64 (W64 y))).set (q * 3 + 2) (.int .i64 (u : Int))) := Lib.hid (by
            rw [← dpL_set HDL.out (by omega), drCs_set _ _ _ (by rw [dpL_len (by have := HDL.out; omega)]; omega)])
          clear hx hy hu HDW HX HF HTK HTL HC h1 h2 h3 h4 htx
          have hgl := HG.out
          have hwq := HWQ.out
          have hb0 := HBL.out.1
          have hg0 := HG12.out
          have o1 := ow_blk HO1.out (w' := w8) (fun z hz => by
            have e : g1 = z := by simpa [Value.ownBlock] using hz
            subst e
            exact hb8.block _ hwq.1 (by omega) hgl.2.1)
          have o2 := ow_blk HO2.out (w' := w8) (fun z hz => by
            have e : g2 = z := by simpa [Value.ownBlock] using hz
            subst e
            exact hb8.block _ hwq.2 (by omega) hgl.2.2)
          have hbs := HB.out.step hgl.1 hb8
          have hne1 : g1 ≠ g' := by rcases hg8 with e | e <;> omega
          have hne2 : g2 ≠ g' := by rcases hg8 with e | e <;> omega
          obtain ⟨W9, hW9⟩ : ∃ z, w8.alloc (.cells #[.int .u64 (W64 x), .int .u64 (W64 y), .int .i64 (u : Int)] 73) = z := ⟨_, rfl⟩
          have hb1 := heap_alloc_new w8 (.cells #[.int .u64 (W64 x), .int .u64 (W64 y), .int .i64 (u : Int)] 73)
          rw [hW9] at hb1
          have hN9 : New w8 W9 := by rw [← hW9]; exact (New.refl _).alloc _
          have d0 : W9.cell? ⟨w8.heap.size, 0, none⟩ = some (.int .u64 (W64 x)) := cell_of_row _ _ 0 _ _ _ hb1
          have d1 : W9.cell? ⟨w8.heap.size, 1, none⟩ = some (.int .u64 (W64 y)) := cell_of_row _ _ 1 _ _ _ hb1
          have d2 : W9.cell? ⟨w8.heap.size, 2, none⟩ = some (.int .i64 (u : Int)) := cell_of_row _ _ 2 _ _ _ hb1
          have p1 := ow_new o1 hN9
          have p2 := ow_new o2 hN9
          have HT9 := Lib.hid (ht8.stay hN9)
          have HB9 := Lib.hid (hbs.then hN9)
          have hsz8 := hb8.size
          have hn81 : ¬ w8.heap.size = g1 := by omega
          have hn82 : ¬ w8.heap.size = g2 := by omega
          have hn18 : ¬ g1 = w8.heap.size := by omega
          have hn28 : ¬ g2 = w8.heap.size := by omega
          have hn12 : ¬ g1 = g2 := hg0.2.2
          have hn21 : ¬ g2 = g1 := fun e => hg0.2.2 e.symm
          obtain ⟨c1, f1⟩ := ow_int p1 (k := q) (by omega)
          obtain ⟨⟨e0, e1, e2⟩, f2⟩ := ow_three p2 (k := q) (by omega)
          have f20 := f2 (q * 3)
          have f21 := f2 (q * 3 + 1)
          have f22 := f2 (q * 3 + 2)
          have HP1 := Lib.hid p1
          have HP2 := Lib.hid p2
          have GG : Hid ((g' = g0 ∨ w.heap.size ≤ g') ∧ g1 ≠ g' ∧ g2 ≠ g') := Lib.hid ⟨by rcases hg8 with e | e <;> rcases hgl.1 with e2 | e2 <;> omega, hne1, hne2⟩
          clear hb1 o1 o2 hbs ht8 hb8 hgl hg8 HT HO1 HB f2 p1 p2 hN9 hg0 hwq hsz8
          go_wp2_with fail
          clear hW9
          go_region
          have hg0 := HG12.out
          have HV1 : Hid ((((((W9.setCell ⟨g1, q, none⟩ (.int .i64 (t : Nat))).setCell ⟨g2, q * 3, none⟩ (.int .u64 (W64 x))).setCell ⟨g2, q * 3 + 1, none⟩ (.int .u64 (W64 y))).setCell ⟨g2, q * 3 + 2, none⟩ (.int .i64 (u : Int))).drew).ownsRow w.heap.size 3 1 (.slice (some ⟨g1, 0, none⟩) K K) K ((cqL (ds ++ [(x, y, u)]) K).map fun x => .int .i64 x)) := Lib.hid (by
            have hv : (Value.slice (some ⟨g1, 0, none⟩) K K).ownBlock ≠ some g2 := by simp [Value.ownBlock]; exact hn12
            rw [HCS.out, List.map_set]
            exact ow_new (ow_far (ow_far (ow_far (ow_set HP1.out q (.int .i64 (t : Nat))) (a := ⟨g2, q * 3, none⟩) hv _) (a := ⟨g2, q * 3 + 1, none⟩) hv _) (a := ⟨g2, q * 3 + 2, none⟩) hv _) (New.refl _).drew)
          have HV2 : Hid ((((((W9.setCell ⟨g1, q, none⟩ (.int .i64 (t : Nat))).setCell ⟨g2, q * 3, none⟩ (.int .u64 (W64 x))).setCell ⟨g2, q * 3 + 1, none⟩ (.int .u64 (W64 y))).setCell ⟨g2, q * 3 + 2, none⟩ (.int .i64 (u : Int))).drew).ownsRow w.heap.size 73 3 (.slice (some ⟨g2, 0, none⟩) K K) K (drCs (dpL (ds ++ [(x, y, u)]) K))) := Lib.hid (by
            have hv : (Value.slice (some ⟨g2, 0, none⟩) K K).ownBlock ≠ some g1 := by simp [Value.ownBlock]; exact hn21
            rw [HDS.out]
            exact ow_new ((((ow_far3 HP2.out (a := ⟨g1, q, none⟩) hv (.int .i64 (t : Nat))).stored (q * 3) _).1.stored (q * 3 + 1) _).1.stored (q * 3 + 2) _).1 (New.refl _).drew)
          have HV3 : Hid (Tape (((((W9.setCell ⟨g1, q, none⟩ (.int .i64 (t : Nat))).setCell ⟨g2, q * 3, none⟩ (.int .u64 (W64 x))).setCell ⟨g2, q * 3 + 1, none⟩ (.int .u64 (W64 y))).setCell ⟨g2, q * 3 + 2, none⟩ (.int .i64 (u : Int))).drew) b g' l (j + 1)) := Lib.hid (((((HT9.out.put (r := g1) (by omega) hne1 q _).put (r := g2) (by omega) hne2 (q * 3) _).put (r := g2) (by omega) hne2 (q * 3 + 1) _).put (r := g2) (by omega) hne2 (q * 3 + 2) _).stay (New.refl _).drew)
          have HV4 : Hid (But2 b g0 w (((((W9.setCell ⟨g1, q, none⟩ (.int .i64 (t : Nat))).setCell ⟨g2, q * 3, none⟩ (.int .u64 (W64 x))).setCell ⟨g2, q * 3 + 1, none⟩ (.int .u64 (W64 y))).setCell ⟨g2, q * 3 + 2, none⟩ (.int .i64 (u : Int))).drew)) := Lib.hid (((((HB9.out.fresh (p := ⟨g1, q, none⟩) hg0.1 _).fresh (p := ⟨g2, q * 3, none⟩) hg0.2.1 _).fresh (p := ⟨g2, q * 3 + 1, none⟩) hg0.2.1 _).fresh (p := ⟨g2, q * 3 + 2, none⟩) hg0.2.1 _).then (New.refl _).drew)
          clear hg0 d0 d1 d2 c1 f1 e0 e1 e2 f20 f21 f22 HP1 HP2 HT9 HB9
          obtain ⟨V, hV⟩ : ∃ z, ((((W9.setCell ⟨g1, q, none⟩ (.int .i64 (t : Nat))).setCell ⟨g2, q * 3, none⟩ (.int .u64 (W64 x))).setCell ⟨g2, q * 3 + 1, none⟩ (.int .u64 (W64 y))).setCell ⟨g2, q * 3 + 2, none⟩ (.int .i64 (u : Int))).drew = z := ⟨_, rfl⟩
          rw [hV] at HV1 HV2 HV3 HV4 ⊢
          clear hV
          go_wp2
          exact ⟨⟨q + 1, _, _, g', by omega, by go_num, HD, HV1.out, HV2.out, HV3.out, HV4.out, GG⟩, by simp [intOf]; omega⟩
        · have HD := Lib.hid (HF.out (fun i a b => by rw [HTK.out]; exact h3 i a b))
          have HNO : Hid (drS l (lqP k0 K) K = none) := Lib.hid (by
            have := drS_none HD.out (K - (q + 1))
            rw [show q + 1 + (K - (q + 1)) = K by omega] at this
            exact this)
          have HAF : Hid (After w (w8.alloc (.cells #[.int .u64 0, .int .u64 0, .int .i64 0] 73)) b g0 l l.length) := Lib.hid ⟨g', ht8.stay ((New.refl _).alloc _), (HB.out.step HG.out.1 hb8).then ((New.refl _).alloc _), by
            have h9 := HG.out.1
            have h8 := HB.out.size
            rcases hg8 with e | e <;> rcases h9 with e2 | e2 <;> omega⟩
          clear HX HF HTK HTL HC h3 ht8 hb8 hg8
          go_wp2
          go_ret3
          exact .inr ⟨HNO.out, rfl, HAF.out⟩
      · obtain rfl : q = K := by omega
        obtain ⟨a1, c1, he, hz⟩ := ZRow.of_owns HO1.out (by omega) (by
          rw [cqL_all hdl]
          exact in64_li _ (fun x hx => by have := lqP_lt (by omega) HS.out x hx; omega))
        cases he
        rw [cqL_all hdl] at hz
        obtain ⟨a2, c2, he, hk⟩ := KRow.of_owns HO2.out (by omega)
        cases he
        rw [dpL_all hdl] at hk
        have HK := Lib.hid hk
        have HZR := Lib.hid hz
        have HAF : Hid (After w wq b g0 l k) := Lib.hid ⟨g, HT.out, HB.out, HG.out.1⟩
        clear hz hk
        go_wp2
        go_ret3
        first | exact .inl ⟨ds, k, HS.out, _, _, _, _, rfl, HZR.out, HK.out, HAF.out⟩ | exact .inl ⟨ds, k, _, _, _, _, HS.out, rfl, HZR.out, HK.out, HAF.out⟩
set_option maxRecDepth 100000 in
set_option maxHeartbeats 4000000 in
theorem take42_q (b g0 n k0 K : Nat) (l : List (BitVec 64)) (w : World) (ht : Tape w b g0 l 0) (hn : n ≤ 256) (hk0 : k0 ≤ n) (hK : n - k0 = K) :
    Calls Try.prog 22 #[.pointer (some ⟨b, 0, none⟩), .int .i64 (n : Int), .int .i64 (k0 : Int)] w fun e w' => (∃ ds k a1 c1 a2 c2, drS l (lqP k0 K) K = some (ds, k) ∧ e = .returned (.tuple #[.slice a1 (k0 : Nat) c1, .slice a2 (K : Nat) c2, .int .i64 0]) ∧ ZRow w' a1 k0 c1 (slI n k0 (cdS ds K)) ∧ KRow w' a2 K c2 ds ∧ After w w' b g0 l k) ∨ (drS l (lqP k0 K) K = none ∧ e = .returned (.tuple #[.slice none 0 0, .slice none 0 0, .int .i64 7]) ∧ After w w' b g0 l l.length) := by
  have HC := Lib.hid (check_42 (n : Int) (k0 : Int) w)
  rw [show ckE (n : Int) (k0 : Int) = 0 from by unfold ckE; rw [if_neg (by omega), if_neg (by omega)]] at HC
  have HD := Lib.hid (draw42_q b g0 n k0 K l w ht hn hk0 hK)
  have HKK := Lib.hid hK
  clear ht hK
  go_enter Try.func22, Try.ntmps22
  go_wp2_with fail
  refine HC.out.mono ?_
  rintro e w' ⟨rfl, hw⟩
  replace hw := hw.symm
  subst hw
  go_wp2_with fail
  refine HD.out.mono ?_
  rintro e w1 (⟨ds, k, a1, c1, a2, c2, hd, rfl, hz, hk, haf⟩ | ⟨hd, rfl, haf⟩)
  · have HS := Lib.hid (slots_q n k0 hk0 hn _ _ _ _ _ hz (cdS_rd hn hk0 HKK.out hd))
    have HDD := Lib.hid hd
    have HK := Lib.hid hk
    have HAF := Lib.hid haf
    clear hd hz hk haf HD HC
    go_wp2_with fail
    refine HS.out.mono ?_
    rintro e w2 ⟨a3, c3, rfl, hz3, hn3⟩
    have HZ3 := Lib.hid hz3
    replace HK := Lib.hid (HK.out.stay hn3)
    obtain ⟨g, h1, h2, h3⟩ := HAF.out
    have HA2 : Hid (After w w2 b g0 l k) := Lib.hid ⟨g, h1.stay hn3, h2.then hn3, h3⟩
    clear hz3 hn3 h1 h2 h3 HAF HS
    go_wp2
    go_ret3
    exact .inl ⟨ds, k, _, _, _, _, HDD.out, rfl, HZ3.out, HK.out, HA2.out⟩
  · have HDD := Lib.hid hd
    have HAF := Lib.hid haf
    clear hd haf HD HC
    go_wp2
    go_ret3
    exact .inr ⟨HDD.out, rfl, HAF.out⟩
theorem take42_err (b : Nat) (n k : Int) (w : World) (h : ¬ ckE n k = 0) :
    Calls Try.prog 22 #[.pointer (some ⟨b, 0, none⟩), .int .i64 n, .int .i64 k] w fun e w' => e = .returned (.tuple #[.slice none 0 0, .slice none 0 0, .int .i64 (ckE n k)]) ∧ w' = w := by
  have HC := Lib.hid (check_42 n k w)
  obtain ⟨z, hz⟩ : ∃ z, ckE n k = z := ⟨_, rfl⟩
  rw [hz] at HC h ⊢
  clear hz
  have hb : (z != 0) = true := by simpa using h
  go_enter Try.func22, Try.ntmps22
  go_wp2_with fail
  refine HC.out.mono ?_
  rintro e w' ⟨rfl, hw⟩
  replace hw := hw.symm
  subst hw
  go_wp2
  go_ret3
  exact ⟨rfl, rfl⟩
end Go.Proofs.Ytajjpllhihgkdaa
namespace Go.Proofs.Ytajjpllhihgkdaa
open Go Go.RowKit Go.Bv
set_option linter.unusedVariables false
set_option maxRecDepth 100000 in
set_option maxHeartbeats 4000000 in
theorem ReservoirTakes_walk (W : World) (a0 : Option Addr) (n0 m0 : Nat) (z0 : List Int) (w0 : IRow .u64 W a0 n0 m0 z0) (r0 : m0 * 8 ≤ 140737488351232) (a1 : Int) (w1 : (Lit.int .i64 a1).wf = true) (a2 : Int) (w2 : (Lit.int .i64 a2).wf = true) :
    Calls Try.prog 5 #[.slice a0 n0 m0, .int .i64 a1, .int .i64 a2] W fun e w' => e = .returned (.bool true) ∧ Below W.heap.size W w' := by
  obtain ⟨l, hl⟩ := w0.words r0
  have H0 := Lib.hid hl
  have HL0 := Lib.hid hl.len_eq
  have hn1 := wfi64 w1
  have hn2 := wfi64 w2
  clear w0 w1 w2 r0 hl
  have HA := Lib.hid awake42
  go_enter Try.func5, Try.ntmps5
  go_wp2_with fail
  refine (HA.out _).mono ?_
  rintro e wA ⟨rfl, hn⟩
  replace H0 := Lib.hid (H0.out.stay hn)
  have HN := Lib.hid hn
  clear hn HA
  by_cases hs0 : (100 : Int) < (n0 : Int)
  · go_wp2
    go_ret
    exact ⟨rfl, HN.out⟩
  by_cases hs1 : 60 < a1 ∧ a1 ≤ 256
  · obtain ⟨hs2, hs3⟩ := hs1
    go_wp2
    go_ret
    exact ⟨rfl, HN.out⟩
  have e0 : ¬ 60 < a1 ∨ (60 < a1 ∧ ¬ a1 ≤ 256) := by omega
  have HCR := Lib.hid (fun w => checkr_42 a1 a2 w)
  by_cases hk : ckE a1 a2 = 0
  case neg =>
    have HTE := Lib.hid (fun b w => take42_err b a1 a2 w hk)
    obtain ⟨z, hz⟩ : ∃ z, ckE a1 a2 = z := ⟨_, rfl⟩
    rw [hz] at HCR HTE hk
    have hz3 : (z != 0) = true := by simpa using hk
    have hz4 : (z == z) = true := by simp
    clear hz
    rcases e0 with e0 | ⟨e0, e0'⟩
    all_goals (
      go_wp2_with fail
      refine (new_t _ _ _ _ _ H0.out).mono ?_
      rintro e wB ⟨b, rfl, hb, ht, hn⟩
      replace HN := Lib.hid (HN.out.trans hn)
      clear ht hn hb
      go_wp2_with fail
      refine (HTE.out b _).mono ?_
      rintro e w' ⟨rfl, hw⟩
      replace hw := hw.symm
      subst hw
      go_wp2_with fail
      refine (HCR.out _).mono ?_
      rintro e w' ⟨rfl, hw⟩
      replace hw := hw.symm
      subst hw
      go_wp2
      go_ret
      exact ⟨rfl, HN.out⟩)
  have hk2 : 0 ≤ a1 ∧ 0 ≤ a2 ∧ a2 ≤ a1 ∧ a1 ≤ 256 := by
    unfold ckE at hk
    by_cases h1 : a1 < 0 ∨ a2 < 0 ∨ a1 < a2
    · rw [if_pos h1] at hk; omega
    · rw [if_neg h1] at hk
      by_cases h2 : 256 < a1
      · rw [if_pos h2] at hk; omega
      · omega
  have e0' : ¬ 60 < a1 := by omega
  rw [hk] at HCR
  obtain ⟨n, rfl⟩ : ∃ n : Nat, a1 = (n : Int) := ⟨a1.toNat, by omega⟩
  obtain ⟨k0, rfl⟩ : ∃ k : Nat, a2 = (k : Int) := ⟨a2.toNat, by omega⟩
  have hkn : k0 ≤ n := by omega
  have hn256 : n ≤ 256 := by omega
  obtain ⟨K, hK⟩ : ∃ K, n - k0 = K := ⟨_, rfl⟩
  have HKK := Lib.hid hK
  clear hk hs1 e0 hk2 hK
  have HTR := Lib.hid (fun w (h : QRow w a0 n0 m0 l) => take42r_q a0 n0 m0 n k0 K l w h hn256 hkn HKK.out)
  go_wp2_with fail
  refine (new_t _ _ _ _ _ H0.out).mono ?_
  rintro e wB ⟨b, rfl, hb, ht, hn⟩
  have HT := Lib.hid ht
  have HNB := Lib.hid hn
  have HBB := Lib.hid hb
  clear ht hn hb
  go_wp2_with fail
  refine (take42_q b b n k0 K l _ HT.out hn256 hkn HKK.out).mono ?_
  rintro e wC (⟨ds, k, p1, p2, p3, p4, hd, rfl, hz, hk, g, ht, hb2, _⟩ | ⟨hd, rfl, g, ht, hb2, _⟩)
  · have HD := Lib.hid hd
    have HZ := Lib.hid hz
    have HK := Lib.hid hk
    replace HT := Lib.hid ht
    have hnc : New wA wC := hb2.new wA HNB.out HBB.out HBB.out
    replace H0 := Lib.hid (H0.out.stay hnc)
    replace HN := Lib.hid (HN.out.trans hnc)
    clear hd hz hk ht hb2 hnc
    go_wp2_with fail
    refine (HCR.out _).mono ?_
    rintro e w' ⟨rfl, hw⟩
    replace hw := hw.symm
    subst hw
    go_wp2_with fail
    refine (HTR.out _ H0.out).mono ?_
    rintro e wD ⟨⟨ds2, k2, q1, q2, q3, q4, hd2, rfl, hz2, hk2⟩ | ⟨hd2, rfl⟩, hn⟩
    · rw [HD.out] at hd2
      cases hd2
      have HZ2 := Lib.hid hz2
      have HK2 := Lib.hid hk2
      replace HZ := Lib.hid (HZ.out.stay hn)
      replace HK := Lib.hid (HK.out.stay hn)
      replace HT := Lib.hid (HT.out.stay hn)
      replace HN := Lib.hid (HN.out.trans hn)
      clear hz2 hk2 hn HTR
      go_wp2_with fail
      refine (used_t _ _ _ _ _ HT.out).mono ?_
      rintro e w' ⟨rfl, hw⟩
      replace hw := hw.symm
      subst hw
      have hkk : ((k : Int) != (k : Int)) = false := by simp
      go_wp2_with fail
      refine (ints_ref _ _ _ _ _ _ _ _ _ HZ.out HZ2.out).mono ?_
      rintro e wE ⟨rfl, hn⟩
      rw [beq_self_eq_true]
      replace HK := Lib.hid (HK.out.stay hn)
      replace HK2 := Lib.hid (HK2.out.stay hn)
      replace HN := Lib.hid (HN.out.trans hn)
      clear hn
      go_wp2_with fail
      refine (same38_q _ _ _ _ _ _ _ HK.out HK2.out).mono ?_
      rintro e wF ⟨rfl, hn⟩
      replace HN := Lib.hid (HN.out.trans hn)
      clear hn
      go_wp2
      go_ret
      exact ⟨rfl, HN.out⟩
    · rw [HD.out] at hd2; cases hd2
  · have HD := Lib.hid hd
    replace HT := Lib.hid ht
    have hnc : New wA wC := hb2.new wA HNB.out HBB.out HBB.out
    replace H0 := Lib.hid (H0.out.stay hnc)
    replace HN := Lib.hid (HN.out.trans hnc)
    clear hd ht hb2 hnc
    go_wp2_with fail
    refine (HCR.out _).mono ?_
    rintro e w' ⟨rfl, hw⟩
    replace hw := hw.symm
    subst hw
    go_wp2_with fail
    refine (HTR.out _ H0.out).mono ?_
    rintro e wD ⟨⟨ds2, k2, q1, q2, q3, q4, hd2, rfl, hz2, hk2⟩ | ⟨hd2, rfl⟩, hn⟩
    · rw [HD.out] at hd2; cases hd2
    · replace HT := Lib.hid (HT.out.stay hn)
      replace HN := Lib.hid (HN.out.trans hn)
      clear hn HTR
      rw [HL0.out] at HT
      go_wp2_with fail
      refine (used_t _ _ _ _ _ HT.out).mono ?_
      rintro e w' ⟨rfl, hw⟩
      replace hw := hw.symm
      subst hw
      have hkk : ((n0 : Int) != (n0 : Int)) = false := by simp
      go_wp2
      go_ret
      exact ⟨rfl, HN.out⟩
end Go.Proofs.Ytajjpllhihgkdaa
/- reservoir.AimSet. -/
namespace Go.Proofs.Ytajjpllhihgkdaa
open Go Go.RowKit Go.Bv
set_option linter.unusedVariables false
theorem am1 (bl bk g k K i : Nat) (dec : Int) (w : World) (hl : w.heap[bl]? = some (.cells #[.slice (some ⟨g, 0, none⟩) K K] 22 (0, 0))) (hk : w.heap[bk]? = some (.cells #[.int .i64 (k : Int)] 3 (0, 0))) (hi : i < K) (hkK : k + K ≤ 1000000) (hc : ∃ u, w.cell? ⟨g, i, none⟩ = some u) (hf : w.frozen? ⟨g, i, none⟩ = false) :
    Calls Try.prog 49 #[.int .i64 ((k + i : Nat) : Int), .int .i64 dec, .pointer (some ⟨bl, 0, none⟩), .pointer (some ⟨bk, 0, none⟩)] w fun e w' => e = .returned (.tuple #[]) ∧ w' = w.setCell ⟨g, i, none⟩ (.int .i64 ((k + i + 1 : Nat) : Int)) := by
  have k0 := cell_of_row _ _ 0 _ _ _ hl
  have k1 := cell_of_row _ _ 0 _ _ _ hk
  obtain ⟨u, hc⟩ := hc
  obtain ⟨x, hx⟩ : ∃ x : Nat, k + i = x := ⟨_, rfl⟩
  rw [hx]
  obtain ⟨y, hy⟩ : ∃ y : Nat, x + 1 = y := ⟨_, rfl⟩
  rw [hy]
  have h2 : (x : Int) - (k : Int) = (i : Int) := by omega
  have h3 : (x : Int) + 1 = (y : Int) := by omega
  have h1 : (i : Int) < (K : Int) := by omega
  have h0 : (0 : Int) ≤ (i : Int) := by omega
  have hxm : x ≤ 1000000 := by omega
  clear hl hk hx hy
  go_enter Try.func49, Try.ntmps49
  go_wp2
  go_end0
  exact ⟨rfl, rfl⟩
set_option maxRecDepth 100000 in
set_option maxHeartbeats 2000000 in
theorem am_visit (k K : Nat) (hkK : k + K ≤ 256) (a : Option Addr) (c : Nat) (t : List Int) (w0 w6 : World) (g bl bk b1 b2 : Nat) (hz : ZRow w0 a K c t) (hn : New w0 w6) (hg : w0.heap.size ≤ g) (h1 : w6.heap[b1]? = some (.cells #[.slice a K c] 22 (0, 0))) (h2 : w6.heap[b2]? = some (.cells #[.int .i64 (k : Int)] 3 (0, 0))) (hl : w6.heap[bl]? = some (.cells #[.slice (some ⟨g, 0, none⟩) K K] 22 (0, 0))) (hbk : w6.heap[bk]? = some (.cells #[.int .i64 (k : Int)] 3 (0, 0))) (n1 : g ≠ b1) (n2 : g ≠ b2) (n3 : g ≠ bl) (n4 : g ≠ bk) (how : w6.ownsRow w0.heap.size 3 1 (.slice (some ⟨g, 0, none⟩) K K) K ((liI (fun _ => 0) K).map fun x => .int .i64 x)) :
    Calls Try.prog 53 #[.func (Fn.func 49) #[] #[.pointer (some ⟨bl, 0, none⟩), .pointer (some ⟨bk, 0, none⟩)], .pointer (some ⟨b1, 0, none⟩), .pointer (some ⟨b2, 0, none⟩)] w6 fun e w' => e = .returned (.tuple #[]) ∧ w'.heap[bl]? = some (.cells #[.slice (some ⟨g, 0, none⟩) K K] 22 (0, 0)) ∧ w'.ownsRow w0.heap.size 3 1 (.slice (some ⟨g, 0, none⟩) K K) K ((liI (fun j => k + j + 1) K).map fun x => .int .i64 x) ∧ New w0 w' := by
  have hG : ∀ (x y : Value) (w' : World), (callFunc 49 (#[x, y] ++ #[.pointer (some ⟨bl, 0, none⟩), .pointer (some ⟨bk, 0, none⟩)])).run Try.prog w' = .ok (.enter 49 (#[x, y] ++ #[.pointer (some ⟨bl, 0, none⟩), .pointer (some ⟨bk, 0, none⟩)])) w' := fun x y w' => by kernel_rfl
  obtain ⟨P, hP⟩ : ∃ P : Nat → World → Prop, P = fun i w' => w'.heap[bl]? = some (.cells #[.slice (some ⟨g, 0, none⟩) K K] 22 (0, 0)) ∧ w'.heap[bk]? = some (.cells #[.int .i64 (k : Int)] 3 (0, 0)) ∧ w'.ownsRow w0.heap.size 3 1 (.slice (some ⟨g, 0, none⟩) K K) K ((liI (fun j => if j < i then k + j + 1 else 0) K).map fun x => .int .i64 x) ∧ w'.heap[b1]? = some (.cells #[.slice a K c] 22 (0, 0)) ∧ w'.heap[b2]? = some (.cells #[.int .i64 (k : Int)] 3 (0, 0)) ∧ New w0 w' := ⟨_, rfl⟩
  have p0 : P 0 w6 := by
    rw [hP]
    refine ⟨hl, hbk, ?_, h1, h2, hn⟩
    rw [show liI (fun j => if j < 0 then k + j + 1 else 0) K = liI (fun _ => 0) K from liI_ext (fun y hy => by rw [if_neg (by omega)])]
    exact how
  have pb : ∀ i w', P i w' → w'.heap[b1]? = some (.cells #[.slice a K c] 22 (0, 0)) ∧ w'.heap[b2]? = some (.cells #[.int .i64 (k : Int)] 3 (0, 0)) ∧ ZRow w' a K c t := fun i w' hI => by
    rw [hP] at hI
    exact ⟨hI.2.2.2.1, hI.2.2.2.2.1, hz.stay hI.2.2.2.2.2⟩
  have ps : ∀ i w', i < K → P i w' → Calls Try.prog 49 (#[.int .i64 ((k + i : Nat) : Int), .int .i64 (t.getD i 0)] ++ #[.pointer (some ⟨bl, 0, none⟩), .pointer (some ⟨bk, 0, none⟩)]) w' fun e w'' => e = .returned (.tuple #[]) ∧ P (i + 1) w'' := fun i w' hi hI => by
    rw [hP] at hI ⊢
    obtain ⟨i1, i2, i3, i4, i5, i6⟩ := hI
    obtain ⟨e1, e2⟩ := ow_int i3 (k := i) hi
    refine (am1 bl bk g k K i _ w' i1 i2 hi (by omega) ⟨_, e1⟩ e2).mono ?_
    rintro e w9 ⟨rfl, rfl⟩
    have h9 := ow_set i3 i (.int .i64 ((k + i + 1 : Nat) : Int))
    have he : liI (fun j => if j < i + 1 then k + j + 1 else 0) K = (liI (fun j => if j < i then k + j + 1 else 0) K).set i ((k + i + 1 : Nat) : Int) := by
      rw [liI_set _ _ hi]
      exact liI_ext (fun y hy => by
        by_cases e : y = i
        · subst e; rw [if_pos (by omega), if_pos rfl]
        · rw [if_neg e]
          by_cases e3 : y < i
          · rw [if_pos (by omega), if_pos e3]
          · rw [if_neg (by omega), if_neg e3])
    refine ⟨rfl, (heap_setCell_other _ _ _ _ (Ne.symm n3)).trans i1, (heap_setCell_other _ _ _ _ (Ne.symm n4)).trans i2, ?_, (heap_setCell_other _ _ _ _ (Ne.symm n1)).trans i4, (heap_setCell_other _ _ _ _ (Ne.symm n2)).trans i5, i6.setCell hg _⟩
    rw [he, List.map_set]
    exact h9
  refine (arr1_q k K a c t b1 b2 49 #[.pointer (some ⟨bl, 0, none⟩), .pointer (some ⟨bk, 0, none⟩)] P w6 (by omega) hG p0 pb ps).mono ?_
  rintro e w' ⟨he, hh⟩
  rw [hP] at hh
  refine ⟨he, hh.1, ?_, hh.2.2.2.2.2⟩
  have h9 := hh.2.2.1
  rw [show liI (fun j => if j < K then k + j + 1 else 0) K = liI (fun j => k + j + 1) K from liI_ext (fun y hy => by rw [if_pos hy])] at h9
  exact h9
theorem aims42_err (n : Int) (a b : Option Addr) (nl c m c2 : Nat) (w : World) (h : ¬ ckE n (m : Int) = 0) :
    Calls Try.prog 28 #[.slice a nl c, .int .i64 n, .slice b m c2] w fun e w' => e = .returned (.tuple #[.slice none 0 0, .int .i64 (ckE n (m : Int))]) ∧ New w w' := by
  have HC := Lib.hid (fun w => check_42 n (m : Int) w)
  obtain ⟨z, hz⟩ : ∃ z, ckE n (m : Int) = z := ⟨_, rfl⟩
  rw [hz] at HC h ⊢
  clear hz
  have hb : (z != 0) = true := by simpa using h
  have k0 := cell_of_row _ _ 0 _ _ _ (heap_alloc_new w (.cells #[.int .i64 (m : Int)] 3))
  go_enter Try.func28, Try.ntmps28
  go_wp2_with fail
  refine (HC.out _).mono ?_
  rintro e w' ⟨rfl, hw⟩
  replace hw := hw.symm
  subst hw
  go_wp2
  go_ret2
  exact ⟨rfl, (New.refl _).alloc _⟩
theorem aims42_bad (n : Nat) (hn : n ≤ 256) (a b : Option Addr) (nl c m c2 : Nat) (s : List Int) (w : World) (hz : ZRow w b m c2 s) (hm : m ≤ n) (hb : mvB n s s = false) :
    Calls Try.prog 28 #[.slice a nl c, .int .i64 (n : Int), .slice b m c2] w fun e w' => e = .returned (.tuple #[.slice none 0 0, .int .i64 2]) ∧ New w w' := by
  have HC := Lib.hid (fun w => check_42 (n : Int) (m : Int) w)
  rw [show ckE (n : Int) (m : Int) = 0 from by unfold ckE; rw [if_neg (by omega), if_neg (by omega)]] at HC
  have hn1 : New w (w.alloc (.cells #[.int .i64 (m : Int)] 3)) := (New.refl w).alloc _
  have HM := Lib.hid (move_bad n hn b b m c2 m c2 s s _ (hz.stay hn1) (hz.stay hn1) (by omega) hb)
  have k0 := cell_of_row _ _ 0 _ _ _ (heap_alloc_new w (.cells #[.int .i64 (m : Int)] 3))
  have HN1 := Lib.hid hn1
  clear hz hb hn1
  go_enter Try.func28, Try.ntmps28
  go_wp2_with fail
  refine (HC.out _).mono ?_
  rintro e w' ⟨rfl, hw⟩
  replace hw := hw.symm
  subst hw
  clear HC
  go_wp2_with fail
  refine HM.out.mono ?_
  rintro e w2 ⟨rfl, hn2⟩
  have HN := Lib.hid (HN1.out.trans hn2)
  clear hn2 HM
  go_wp2
  go_ret2
  exact ⟨rfl, HN.out⟩
end Go.Proofs.Ytajjpllhihgkdaa
/- reservoir.AimSet, the aimed words. -/
namespace Go.Proofs.Ytajjpllhihgkdaa
open Go Go.RowKit Go.Bv
set_option linter.unusedVariables false
theorem ms_st {n m : Nat} {l : List Int} (hl : ∀ j k, j < k → k < l.length → l.getD j 0 ≠ l.getD k 0) (h : ∀ x ∈ l, 0 ≤ x ∧ x < (n : Int)) : stP n (msI l) ∧ acB (msI l) l.length = true := by
  have hu := msI_up hl
  refine ⟨⟨fun k hk => h _ (msI_mem.1 (getD_memI hk)), fun j k hj hk => ?_⟩, acB_iff.2 (fun k h1 h2 => hu _ _ (by omega) h2)⟩
  rw [msI_len] at hk
  have := hu j k hj hk
  omega
theorem sl_st {n k : Nat} {d : List Int} (hk : k ≤ n) (h : rdI n k d) : stP n (msI (slI n k d)) ∧ acB (msI (slI n k d)) k = true := by
  have h1 := ms_st (n := n) (m := k) (sl_ne hk h) (fun x hx => by
    obtain ⟨j, hj, he⟩ := mem_at.1 hx
    rw [slI_len] at hj
    unfold slI at he
    rw [liI_get _ hj] at he
    have := oS_lt (rdI_F h) (n - k) (Nat.le_refl _) n (by omega) j (by omega)
    omega)
  rw [slI_len] at h1
  exact h1
/-- the decisions turned towards a set -/
def tsQ (n k : Nat) (d s : List Int) : List Int := thI (mvI n (msI (slI n k d)) s) (odI n k d)
def tsF (n k : Nat) (q : List Int) (i : Nat) : Nat := if unD (fnI q) n k i < k then unF (fnI q) n (n - k) (unD (fnI q) n k i) else unD (fnI q) n k i
theorem tsI_eq (n k : Nat) (q : List Int) : tuI n k q = liI (tsF n k q) (n - k) := rfl
theorem ts_or {n k : Nat} {d s : List Int} (hk : k ≤ n) (h : rdI n k d) (hs : stP n s) (hl : s.length = k) : isO (mvI n (msI (slI n k d)) s) ∧ isO (tsQ n k d s) ∧ (tsQ n k d s).length = n := by
  have h1 := mvI_or (sl_st hk h).1 hs (by rw [msI_len, slI_len, hl])
  refine ⟨h1, th_or h1 (odI_or hk h) (by rw [mvI_len, odI_len]), ?_⟩
  unfold tsQ
  rw [thI_len, mvI_len]
set_option maxRecDepth 100000 in
set_option maxHeartbeats 4000000 in
theorem aims42_ok (n K : Nat) (hn : n ≤ 256) (a b : Option Addr) (nl c m c2 : Nat) (l : List (BitVec 64)) (s : List Int) (ds : List Drw) (k1 : Nat) (w : World) (hl : QRow w a nl c l) (hz : ZRow w b m c2 s) (hm : m ≤ n) (hs : stP n s) (ha : acB s m = true) (hK : n - m = K) (hd : drS l (lqP m K) K = some (ds, k1)) :
    Calls Try.prog 28 #[.slice a nl c, .int .i64 (n : Int), .slice b m c2] w fun e w' => ∃ v' c', e = .returned (.tuple #[.slice v' nl c', .int .i64 0]) ∧ QRow w' v' nl c' (amS l (lqP m K) (fun i => BitVec.ofNat 64 (tsF n m (tsQ n m (cdS ds K) s) i)) ds K) ∧ New w w' := by
  have hsl := hz.len_eq
  have hrd := cdS_rd hn hm hK hd
  obtain ⟨ho1, ho2, ho3⟩ := ts_or hm hrd hs hsl
  have hst := sl_st hm hrd
  have HC := Lib.hid (fun w => check_42 (n : Int) (m : Int) w)
  rw [show ckE (n : Int) (m : Int) = 0 from by unfold ckE; rw [if_neg (by omega), if_neg (by omega)]] at HC
  have hb1 := heap_alloc_new w (.cells #[.int .i64 (m : Int)] 3)
  obtain ⟨W1, hW1⟩ : ∃ z, w.alloc (.cells #[.int .i64 (m : Int)] 3) = z := ⟨_, rfl⟩
  have hn1 : New w W1 := hW1 ▸ (New.refl w).alloc _
  rw [hW1] at hb1
  have HW1 := Lib.hid hW1
  have hlt1 := lt_of_block hb1
  have HM1 := Lib.hid (move_q n hn b b m c2 c2 s s W1 (hz.stay hn1) (hz.stay hn1) hs hs ha ha)
  have k0 := cell_of_row _ _ 0 _ _ _ hb1
  have HSL := Lib.hid (fun w' a1 c1 (hz : ZRow w' a1 K c1 (cdS ds K)) => slots_q n m hm hn a1 K c1 (cdS ds K) w' hz hrd)
  have HSE := Lib.hid (fun w' a1 c1 (hz : ZRow w' a1 m c1 (slI n m (cdS ds K))) => set_41 a1 m c1 _ w' hz (sl_ne hm hrd))
  have HM2 := Lib.hid (fun w' a4 c4 (h4 : ZRow w' a4 m c4 (msI (slI n m (cdS ds K)))) (hn' : New w w') => move_q n hn a4 b m c4 c2 _ s w' h4 (hz.stay hn') hst.1 hs hst.2 ha)
  have HTU := Lib.hid (fun w' a1 c1 a5 c5 (h1 : ZRow w' a1 K c1 (cdS ds K)) (h5 : ZRow w' a5 n c5 (mvI n (msI (slI n m (cdS ds K))) s)) => turn_q n m hm hn a1 a5 K c1 c5 (cdS ds K) _ w' h1 hrd h5 ho1)
  have htr := tu_rd ho2 ho3 hm
  rw [show thI (mvI n (msI (slI n m (cdS ds K))) s) (odI n m (cdS ds K)) = tsQ n m (cdS ds K) s from rfl] at HTU
  obtain ⟨q, hq⟩ : ∃ q, tsQ n m (cdS ds K) s = q := ⟨_, rfl⟩
  rw [hq] at HTU htr ⊢
  rw [tsI_eq] at HTU htr
  have HV : Hid (∀ i, i < K → tsF n m q i < m + i + 1) := Lib.hid (fun i hi => by
    have := htr.2 i (by omega)
    rw [liI_get _ (by omega)] at this
    omega)
  rw [hK] at HTU
  have HMK := Lib.hid (make_int K (by omega))
  have hsub : (n : Int) - (m : Int) = (K : Int) := by omega
  have HD := Lib.hid hd
  have HKK := Lib.hid hK
  have HL := Lib.hid hl
  have HB1 := Lib.hid hb1
  have HL1 := Lib.hid hlt1
  have HN1 := Lib.hid hn1
  have hmK : m + K ≤ 256 := by omega
  have hKn : (K : Int) ≤ 256 := by omega
  clear hl hz hs ha hd hsl hrd ho1 ho2 ho3 hst htr hq hK hb1 hlt1 hn1 hW1
  go_enter Try.func28, Try.ntmps28
  go_wp2_with fail
  rw [HW1.out]
  refine (HC.out _).mono ?_
  rintro e w' ⟨rfl, hw⟩
  replace hw := hw.symm
  subst hw
  clear HC
  go_wp2_with fail
  refine HM1.out.mono ?_
  rintro e w2 ⟨a9, c9, rfl, hz9, hn2⟩
  have HN2 := Lib.hid (HN1.out.trans hn2)
  have HB2 := Lib.hid ((hn2.block _ HL1.out).trans HB1.out)
  have HL2 := Lib.hid (lt_of_block HB2.out)
  have k2 := cell_of_row _ _ 0 _ _ _ HB2.out
  replace HL := Lib.hid (HL.out.stay HN2.out)
  clear hz9 hn2 HM1 k0 HW1
  have HNT := Lib.hid (fun w' (hn' : New w2 w') => new_t a nl c l w' (HL.out.stay hn'))
  have HDR := Lib.hid (fun b wB w' (ht : Tape wB b b l 0) (hn' : New wB w') => draw42_q b b n m K l w' (ht.stay hn') hn hm HKK.out)
  have K2 : Hid (∀ w', New w2 w' → w'.cell? ⟨w.heap.size, 0, none⟩ = some (.int .i64 (m : Int))) := Lib.hid (fun w' h => (h.cell HL2.out).trans k2)
  go_wp2_with fail
  go_cut [12, 13, 14] (fun d dr e wx => ∃ a1 c1 a2 c2, d = .slice a1 (K : Nat) c1 ∧ dr = .slice a2 (K : Nat) c2 ∧ e = .int .i64 0 ∧ ZRow wx a1 K c1 (cdS ds K) ∧ KRow wx a2 K c2 ds ∧ New w2 wx)
  case first =>
    go_region_held3 (fun w' => w'.cell? ⟨w.heap.size, 0, none⟩ = some (.int .i64 (m : Int)))
      (first | exact k2 | with_reducible assumption | go_keep)
      (first
      | (go_simp
         go_at_call 21
         refine (HNT.out _ (by first | exact New.refl _ | exact (New.refl _).drew | exact (New.refl _).drew.drew)).mono ?_
         rintro e wB ⟨b, rfl, hb, ht, hnb⟩
         have hnB : New w2 wB := by first | exact (New.refl w2).trans hnb | exact (New.refl w2).drew.trans hnb | exact (New.refl w2).drew.drew.trans hnb
         have hbB : w2.heap.size ≤ b := hb
         have k2 := K2.out _ hnB
         have HT := Lib.hid ht
         have HNB := Lib.hid hnB
         have HBB := Lib.hid hbB
         clear ht hnb hnB hb hbB)
      | (go_simp
         go_at_call 42
         refine (HDR.out _ _ _ HT.out (by first | exact New.refl _ | exact (New.refl _).drew | exact (New.refl _).drew.drew)).mono ?_
         rintro e wC (⟨ds2, kk, a1, c1, a2, c2, hd2, rfl, hz, hk, g, ht, hb2, _⟩ | ⟨hd2, _⟩)
         case inr => rw [HD.out] at hd2; cases hd2
         rw [HD.out] at hd2
         cases hd2
         have hnc : New w2 wC := hb2.new w2 (by first | exact HNB.out | exact HNB.out.drew | exact HNB.out.drew.drew) HBB.out HBB.out
         have k2 := K2.out _ hnc))
    all_goals (
      go_wp2_with fail
      go_meet
      case rel => exact ⟨_, _, _, _, rfl, rfl, rfl, hz, hk, hnc⟩)
  case rest =>
    obtain ⟨a1, c1, a2, cd, rfl, rfl, rfl, hz1, hk1, hn3⟩ := hcut
    have k3 := K2.out _ hn3
    have HZ1 := Lib.hid hz1
    have HK1 := Lib.hid hk1
    have HN3 := Lib.hid hn3
    clear hz1 hk1 hn3 k2 HNT HDR
    go_wp2_with fail
    refine (HSL.out _ _ _ HZ1.out).mono ?_
    rintro e w4 ⟨a3, c3, rfl, hz3, hn4⟩
    have HZ3 := Lib.hid hz3
    replace HN3 := Lib.hid (HN3.out.trans hn4)
    replace HZ1 := Lib.hid (HZ1.out.stay hn4)
    replace HK1 := Lib.hid (HK1.out.stay hn4)
    have k4 := K2.out _ HN3.out
    clear hz3 hn4 k3 HSL
    go_wp2_with fail
    refine (HSE.out _ _ _ HZ3.out).mono ?_
    rintro e w5 ⟨a4, c4, rfl, hz4, hn5⟩
    have HZ4 := Lib.hid hz4
    replace HN3 := Lib.hid (HN3.out.trans hn5)
    replace HZ1 := Lib.hid (HZ1.out.stay hn5)
    replace HK1 := Lib.hid (HK1.out.stay hn5)
    have k5 := K2.out _ HN3.out
    clear hz4 hn5 k4 HSE HZ3
    go_wp2_with fail
    refine (HM2.out _ _ _ HZ4.out (HN2.out.trans HN3.out)).mono ?_
    rintro e w6 ⟨a5, c5, rfl, hz5, hn6⟩
    have HZ5 := Lib.hid hz5
    replace HN3 := Lib.hid (HN3.out.trans hn6)
    replace HZ1 := Lib.hid (HZ1.out.stay hn6)
    replace HK1 := Lib.hid (HK1.out.stay hn6)
    have k6 := K2.out _ HN3.out
    clear hz5 hn6 k5 HM2 HZ4
    go_wp2_with fail
    refine (HTU.out _ _ _ _ _ HZ1.out HZ5.out).mono ?_
    rintro e w7 ⟨a6, c6, rfl, hz6, hn7⟩
    have HZ6 := Lib.hid hz6
    replace HN3 := Lib.hid (HN3.out.trans hn7)
    replace HK1 := Lib.hid (HK1.out.stay hn7)
    have k7 := K2.out _ HN3.out
    have HB7 := Lib.hid ((HN3.out.block _ HL2.out).trans HB2.out)
    have HL7 := Lib.hid (lt_of_block HB7.out)
    have hm1 : New w7 (w7.alloc (.cells (madeCells #[.int .i64 0] K) 3)) := (New.refl w7).alloc _
    have how : (w7.alloc (.cells (madeCells #[.int .i64 0] K) 3)).ownsRow w7.heap.size 3 1 (.slice (some ⟨w7.heap.size, 0, none⟩) K K) K ((liI (fun _ => 0) K).map fun x => .int .i64 x) := ow_made w7 _ _ _ K _ (Nat.le_refl _) (by omega) (by rw [made_toList, zeros_li]) (by rw [List.length_map, liI_len])
    have hsz : (w7.alloc (.cells (madeCells #[.int .i64 0] K) 3)).heap.size = w7.heap.size + 1 := by simp
    obtain ⟨W8, hW8⟩ : ∃ z, w7.alloc (.cells (madeCells #[.int .i64 0] K) 3) = z := ⟨_, rfl⟩
    rw [hW8] at hm1 how hsz
    have hb9 := heap_alloc_new W8 (.cells #[.slice (some ⟨w7.heap.size, 0, none⟩) K K] 22)
    have hm9 : New W8 (W8.alloc (.cells #[.slice (some ⟨w7.heap.size, 0, none⟩) K K] 22)) := (New.refl W8).alloc _
    have hs9 : (W8.alloc (.cells #[.slice (some ⟨w7.heap.size, 0, none⟩) K K] 22)).heap.size = w7.heap.size + 2 := by simp [hsz]
    obtain ⟨W9, hW9⟩ : ∃ z, W8.alloc (.cells #[.slice (some ⟨w7.heap.size, 0, none⟩) K K] 22) = z := ⟨_, rfl⟩
    rw [hW9] at hb9 hm9 hs9
    have h79 := hm1.trans hm9
    have k9 := K2.out _ (HN3.out.trans h79)
    rw [← hW9] at k9
    have HAR := Lib.hid (arr_q (m : Int) a6 K c6 W9)
    have HVI := Lib.hid (fun w8 (g1 : w8.heap[W9.heap.size]? = some (.cells #[.int .i64 (m : Int)] 3 (0, 0))) (g2 : w8.heap[W9.heap.size + 1]? = some (.cells #[.slice a6 K c6] 22 (0, 0))) (gn : New W9 w8) =>
      am_visit m K hmK a6 c6 _ w7 w8 w7.heap.size W8.heap.size w.heap.size (W9.heap.size + 1) W9.heap.size HZ6.out (h79.trans gn) (Nat.le_refl _) g2 g1 ((gn.block _ (lt_of_block hb9)).trans hb9) (((h79.trans gn).block _ HL7.out).trans HB7.out) (by omega) (by omega) (by omega) (by have := HL7.out; omega) (ow_new (ow_new how hm9) gn))
    have HSZ := Lib.hid hsz
    have HW8 := Lib.hid hW8
    have HW9 := Lib.hid hW9
    clear hz6 hn7 k6 HTU HZ1 HZ5 hm1 how hsz hb9 hm9 hs9 h79 hW8 hW9
    go_wp2_with fail
    rw [HMK.out _ _ (by omega)]
    rw [HW8.out]
    go_wp2_with fail
    rw [HW9.out]
    refine HAR.out.mono ?_
    rintro e w8 ⟨rfl, g1, g2, gn⟩
    replace HVI := Lib.hid (HVI.out w8 g1 g2 gn)
    clear g1 g2 gn HAR
    go_wp2_with fail
    refine HVI.out.mono ?_
    rintro e wE ⟨rfl, hbl, how, hnE⟩
    have kE := cell_of_row _ _ 0 _ _ _ hbl
    obtain ⟨aa, cc, he, hzz⟩ := ZRow.of_owns how (by omega) (in64_li _ (fun x hx => by omega))
    cases he
    have HRE := Lib.hid (redraw_q a a2 _ a6 nl c K cd K c6 l (lqP m K) ds k1 (fun j => m + j + 1) (tsF n m q) wE (HL.out.stay (HN3.out.trans hnE)) (HK1.out.stay hnE) hzz (HZ6.out.stay hnE) HD.out (fun i hi => lqP_get hi) (fun i hi => by omega) (fun i hi => HV.out i hi))
    have HNE := Lib.hid ((HN2.out.trans HN3.out).trans hnE)
    clear hbl how hnE hzz HVI
    go_wp2_with fail
    refine HRE.out.mono ?_
    rintro e wF ⟨v, cv, rfl, hqr, hnF⟩
    have HQ := Lib.hid hqr
    have HNF := Lib.hid (HNE.out.trans hnF)
    clear hqr hnF HRE
    go_wp2
    go_ret2
    exact ⟨_, _, rfl, HQ.out, HNF.out⟩
end Go.Proofs.Ytajjpllhihgkdaa
/- reservoir.AimSet: the words there and back; tapes that are too short. -/
namespace Go.Proofs.Ytajjpllhihgkdaa
open Go Go.RowKit Go.Bv
set_option linter.unusedVariables false
theorem mvB_self (n : Nat) (s : List Int) : mvB n s s = (ipB n s && acB s s.length) := by
  unfold mvB
  rw [beq_self_eq_true, Bool.true_and, Bool.and_self, Bool.and_assoc, Bool.and_self]
theorem cdS_aim2 (v : Nat → Nat) {K : Nat} {ds : List Drw} (hd : ds.length = K) (hv : ∀ i, i < K → v i ≤ 1000000) : cdS (nmS (fun i => BitVec.ofNat 64 (v i)) ds) K = liI v K := by
  unfold cdS
  apply liI_ext
  intro x hx
  rw [nmS_get _ _ (by omega)]
  show (BitVec.ofNat 64 (v x)).toNat = _
  rw [BitVec.toNat_ofNat]
  exact Nat.mod_eq_of_lt (by have := hv x hx; omega)
theorem cdS_back2 {K : Nat} {ds : List Drw} {i : Nat} (hi : i < K) : BitVec.ofNat 64 (fnI (cdS ds K) i) = (ds.getD i dz).1 := by
  unfold cdS
  rw [fnI_li _ hi]
  apply BitVec.eq_of_toNat_eq
  rw [BitVec.toNat_ofNat]
  exact Nat.mod_eq_of_lt (ds.getD i dz).1.isLt
theorem ms_self {s : List Int} (h : ∀ k, 0 < k → k < s.length → s.getD (k - 1) 0 < s.getD k 0) : msI s = s := by
  unfold msI
  refine List.mergeSort_of_pairwise ?_
  rw [List.pairwise_iff_getElem]
  intro i j hi hj hij
  have hup : ∀ d, i + d < s.length → s.getD i 0 ≤ s.getD (i + d) 0 := fun d => by
    induction d with
    | zero => intro _; exact Int.le_refl _
    | succ d ih =>
      intro h9
      have h1 := ih (by omega)
      have h2 := h (i + (d + 1)) (by omega) h9
      rw [show i + (d + 1) - 1 = i + d by omega] at h2
      omega
  have h3 := hup (j - i) (by omega)
  rw [show i + (j - i) = j by omega, List.getD_eq_getElem?_getD, List.getD_eq_getElem?_getD, List.getElem?_eq_getElem hi, List.getElem?_eq_getElem hj] at h3
  simpa using h3
theorem slI_at {n k : Nat} {d : List Int} {j : Nat} (hj : j < k) (hk : k ≤ n) : fnI (odI n k d) j = fnI (slI n k d) j := by
  unfold odI slI
  rw [fnI_li _ (by omega), fnI_li _ hj]
/-- aimed at a set, the slots hold it -/
theorem ts_set {n k : Nat} {d s : List Int} (hk : k ≤ n) (h : rdI n k d) (hs : stP n s) (hl : s.length = k) (ha : acB s k = true) : msI (slI n k (tuI n k (tsQ n k d s))) = s := by
  obtain ⟨h1, h2, h3⟩ := ts_or hk h hs hl
  have hst := sl_st hk h
  rw [tu_set h2 h3 hk]
  have hself : msI s = s := ms_self (by rw [hl]; exact acB_iff.1 ha)
  have hSl : (msI (slI n k d)).length = k := by rw [msI_len, slI_len]
  refine Eq.trans ?_ hself
  refine msI_eq (or_take h2 h3 hk) hs.2 (fun x => ?_)
  have hq : ∀ j, j < k → fnI (tsQ n k d s) j = fnI (mvI n (msI (slI n k d)) s) (fnI (slI n k d) j) := fun j hj => by
    unfold tsQ
    rw [th_fn (n := n) (mvI_len _ _ _) (by omega), slI_at hj hk]
  have hmv : ∀ i, i < k → fnI (mvI n (msI (slI n k d)) s) (fnI (msI (slI n k d)) i) = fnI s i := fun i hi => mvI_st hst.1 hs (by rw [hSl, hl]) (by omega)
  have hsn : ∀ i, i < k → s.getD i 0 = ((fnI s i : Nat) : Int) := fun i hi => by
    have := hs.1 i (by omega)
    unfold fnI; omega
  have hpos : ∀ (t : List Int) (i : Nat), (∀ y ∈ t, 0 ≤ y) → i < t.length → t.getD i 0 = ((fnI t i : Nat) : Int) := fun t i h9 hi => by
    have := h9 _ (getD_memI hi)
    unfold fnI; omega
  have hnn : ∀ y ∈ slI n k d, 0 ≤ y := fun y hy => by
    obtain ⟨j, hj, he⟩ := mem_at.1 hy
    rw [slI_len] at hj
    unfold slI at he
    rw [liI_get _ hj] at he
    omega
  have hnn2 : ∀ y ∈ msI (slI n k d), 0 ≤ y := fun y hy => hnn y (msI_mem.1 hy)
  constructor
  · intro hx
    obtain ⟨j, hj, he⟩ := mem_at.1 hx
    rw [liI_len] at hj
    rw [liI_get _ hj, hq j hj] at he
    have hjm : (slI n k d).getD j 0 ∈ msI (slI n k d) := msI_mem.2 (getD_memI (by rw [slI_len]; exact hj))
    obtain ⟨i, hi, he2⟩ := mem_at.1 hjm
    rw [hSl] at hi
    have e3 : fnI (slI n k d) j = fnI (msI (slI n k d)) i := by unfold fnI; rw [he2]
    rw [e3, hmv i hi, ← hsn i hi] at he
    rw [← he]
    exact getD_memI (by omega)
  · intro hx
    obtain ⟨i, hi, he⟩ := mem_at.1 hx
    rw [hl] at hi
    have him : (msI (slI n k d)).getD i 0 ∈ slI n k d := msI_mem.1 (getD_memI (by rw [hSl]; exact hi))
    obtain ⟨j, hj, he2⟩ := mem_at.1 him
    rw [slI_len] at hj
    have e3 : fnI (slI n k d) j = fnI (msI (slI n k d)) i := by unfold fnI; rw [he2]
    refine mem_at.2 ⟨j, by rw [liI_len]; exact hj, ?_⟩
    rw [liI_get _ hj, hq j hj, e3, hmv i hi, ← hsn i hi, he]
/-- and aimed back they are as they were -/
theorem ts_back {n k : Nat} {d s : List Int} (hk : k ≤ n) (h : rdI n k d) (hs : stP n s) (hl : s.length = k) (ha : acB s k = true) : tuI n k (tsQ n k (tuI n k (tsQ n k d s)) (msI (slI n k d))) = d := by
  have hst := sl_st hk h
  have hSl : (msI (slI n k d)).length = k := by rw [msI_len, slI_len]
  have hr := mvI_or hs hst.1 (by rw [hSl, hl])
  obtain ⟨h1, h2, h3⟩ := ts_or hk h hs hl
  show tuI n k (thI (mvI n (msI (slI n k (tuI n k (tsQ n k d s)))) (msI (slI n k d))) (odI n k (tuI n k (tsQ n k d s)))) = d
  rw [ts_set hk h hs hl ha]
  refine tu_back hk h1 (mvI_len _ _ _) hr (mvI_len _ _ _) (fun x hx => ?_) h
  unfold mvI
  have hlt := mvF_lt hst.1 hs (by rw [hSl, hl]) hx
  rw [fnI_li _ hx, fnI_li _ hlt]
  exact mvF_back hst.1 hs (by rw [hSl, hl]) hx
set_option maxRecDepth 100000 in
set_option maxHeartbeats 4000000 in
theorem aims42_no (n K : Nat) (hn : n ≤ 256) (a b : Option Addr) (nl c m c2 : Nat) (l : List (BitVec 64)) (s : List Int) (w : World) (hl : QRow w a nl c l) (hz : ZRow w b m c2 s) (hm : m ≤ n) (hs : stP n s) (ha : acB s m = true) (hK : n - m = K) (hd : drS l (lqP m K) K = none) :
    Calls Try.prog 28 #[.slice a nl c, .int .i64 (n : Int), .slice b m c2] w fun e w' => e = .returned (.tuple #[.slice none 0 0, .int .i64 7]) ∧ New w w' := by
  have HC := Lib.hid (fun w => check_42 (n : Int) (m : Int) w)
  rw [show ckE (n : Int) (m : Int) = 0 from by unfold ckE; rw [if_neg (by omega), if_neg (by omega)]] at HC
  have hb1 := heap_alloc_new w (.cells #[.int .i64 (m : Int)] 3)
  obtain ⟨W1, hW1⟩ : ∃ z, w.alloc (.cells #[.int .i64 (m : Int)] 3) = z := ⟨_, rfl⟩
  have hn1 : New w W1 := hW1 ▸ (New.refl w).alloc _
  rw [hW1] at hb1
  have HW1 := Lib.hid hW1
  have hlt1 := lt_of_block hb1
  have HM1 := Lib.hid (move_q n hn b b m c2 c2 s s W1 (hz.stay hn1) (hz.stay hn1) hs hs ha ha)
  have k0 := cell_of_row _ _ 0 _ _ _ hb1
  have HD := Lib.hid hd
  have HKK := Lib.hid hK
  have HL := Lib.hid hl
  have HB1 := Lib.hid hb1
  have HL1 := Lib.hid hlt1
  have HN1 := Lib.hid hn1
  clear hl hz hs ha hd hK hb1 hlt1 hn1 hW1
  go_enter Try.func28, Try.ntmps28
  go_wp2_with fail
  rw [HW1.out]
  refine (HC.out _).mono ?_
  rintro e w' ⟨rfl, hw⟩
  replace hw := hw.symm
  subst hw
  clear HC
  go_wp2_with fail
  refine HM1.out.mono ?_
  rintro e w2 ⟨a9, c9, rfl, hz9, hn2⟩
  have HN2 := Lib.hid (HN1.out.trans hn2)
  have HB2 := Lib.hid ((hn2.block _ HL1.out).trans HB1.out)
  have HL2 := Lib.hid (lt_of_block HB2.out)
  have k2 := cell_of_row _ _ 0 _ _ _ HB2.out
  replace HL := Lib.hid (HL.out.stay HN2.out)
  clear hz9 hn2 HM1 k0 HW1
  have HNT := Lib.hid (fun w' (hn' : New w2 w') => new_t a nl c l w' (HL.out.stay hn'))
  have HDR := Lib.hid (fun b wB w' (ht : Tape wB b b l 0) (hn' : New wB w') => draw42_q b b n m K l w' (ht.stay hn') hn hm HKK.out)
  have K2 : Hid (∀ w', New w2 w' → w'.cell? ⟨w.heap.size, 0, none⟩ = some (.int .i64 (m : Int))) := Lib.hid (fun w' h => (h.cell HL2.out).trans k2)
  go_wp2_with fail
  go_cut [12, 13, 14] (fun d dr e wx => d = .slice none 0 0 ∧ dr = .slice none 0 0 ∧ e = .int .i64 7 ∧ New w2 wx)
  case first =>
    go_region_held3 (fun w' => w'.cell? ⟨w.heap.size, 0, none⟩ = some (.int .i64 (m : Int)))
      (first | exact k2 | with_reducible assumption | go_keep)
      (first
      | (go_simp
         go_at_call 21
         refine (HNT.out _ (by first | exact New.refl _ | exact (New.refl _).drew | exact (New.refl _).drew.drew)).mono ?_
         rintro e wB ⟨b, rfl, hb, ht, hnb⟩
         have hnB : New w2 wB := by first | exact (New.refl w2).trans hnb | exact (New.refl w2).drew.trans hnb | exact (New.refl w2).drew.drew.trans hnb
         have hbB : w2.heap.size ≤ b := hb
         have k2 := K2.out _ hnB
         have HT := Lib.hid ht
         have HNB := Lib.hid hnB
         have HBB := Lib.hid hbB
         clear ht hnb hnB hb hbB)
      | (go_simp
         go_at_call 42
         refine (HDR.out _ _ _ HT.out (by first | exact New.refl _ | exact (New.refl _).drew | exact (New.refl _).drew.drew)).mono ?_
         rintro e wC (⟨ds2, kk, a1, c1, a2, c2, hd2, _⟩ | ⟨hd2, rfl, g, ht, hb2, _⟩)
         case inl => rw [HD.out] at hd2; cases hd2
         have hnc : New w2 wC := hb2.new w2 (by first | exact HNB.out | exact HNB.out.drew | exact HNB.out.drew.drew) HBB.out HBB.out
         have k2 := K2.out _ hnc))
    all_goals (
      go_wp2_with fail
      go_meet
      case rel => exact ⟨rfl, rfl, rfl, hnc⟩)
  case rest =>
    obtain ⟨rfl, rfl, rfl, hn3⟩ := hcut
    have HNN := Lib.hid (HN2.out.trans hn3)
    clear hn3 k2 HNT HDR
    go_wp2
    go_ret2
    exact ⟨rfl, HNN.out⟩
end Go.Proofs.Ytajjpllhihgkdaa
/- The law ReservoirEven. -/
namespace Go.Proofs.Ytajjpllhihgkdaa
open Go Go.RowKit Go.Bv
set_option linter.unusedVariables false
set_option maxRecDepth 100000 in
set_option maxHeartbeats 4000000 in
theorem ReservoirEven_walk (W : World) (a0 : Option Addr) (n0 m0 : Nat) (z0 : List Int) (w0 : IRow .u64 W a0 n0 m0 z0) (r0 : m0 * 8 ≤ 140737488351232) (a1 : Int) (w1 : (Lit.int .i64 a1).wf = true) (a2 : Option Addr) (n2 m2 : Nat) (z2 : List Int) (w2 : IRow .i64 W a2 n2 m2 z2) (r2 : m2 * 8 ≤ 140737488351232) :
    Calls Try.prog 7 #[.slice a0 n0 m0, .int .i64 a1, .slice a2 n2 m2] W fun e w' => e = .returned (.bool true) ∧ Below W.heap.size W w' := by
  obtain ⟨l, hl⟩ := w0.words r0
  obtain ⟨s, hp⟩ := w2.ints r2
  have H0 := Lib.hid hl
  have H1 := Lib.hid hp
  have HL0 := Lib.hid hl.len_eq
  have HL1 := Lib.hid hp.len_eq
  have hn1 := wfi64 w1
  clear w0 w1 w2 r0 r2 hl hp
  have HA := Lib.hid awake42
  go_enter Try.func7, Try.ntmps7
  go_wp2_with fail
  refine (HA.out _).mono ?_
  rintro e wA ⟨rfl, hn⟩
  replace H0 := Lib.hid (H0.out.stay hn)
  replace H1 := Lib.hid (H1.out.stay hn)
  have HN := Lib.hid hn
  clear hn HA
  by_cases hs0 : (100 : Int) < (n0 : Int)
  · go_wp2
    go_ret
    exact ⟨rfl, HN.out⟩
  by_cases hs1 : 40 < a1 ∧ a1 ≤ 256
  · obtain ⟨hs2, hs3⟩ := hs1
    go_wp2
    go_ret
    exact ⟨rfl, HN.out⟩
  have e0 : ¬ 40 < a1 ∨ (40 < a1 ∧ ¬ a1 ≤ 256) := by omega
  have HCR := Lib.hid (fun w => checkr_42 a1 (n2 : Int) w)
  by_cases hk : ckE a1 (n2 : Int) = 0
  case neg =>
    have HTE := Lib.hid (fun w => aims42_err a1 a0 a2 n0 m0 n2 m2 w hk)
    obtain ⟨z, hz⟩ : ∃ z, ckE a1 (n2 : Int) = z := ⟨_, rfl⟩
    rw [hz] at HCR HTE hk
    have hz3 : (z != 0) = true := by simpa using hk
    have hz4 : (z == z) = true := by simp
    have hz5 : (z == 0) = false := by simpa using hk
    clear hz
    rcases e0 with e0 | ⟨e0, e0'⟩
    all_goals (
      go_wp2_with fail
      refine (HTE.out _).mono ?_
      rintro e wB ⟨rfl, hn⟩
      replace HN := Lib.hid (HN.out.trans hn)
      clear hn
      go_wp2_with fail
      refine (HCR.out _).mono ?_
      rintro e w' ⟨rfl, hw⟩
      replace hw := hw.symm
      subst hw
      go_wp2
      go_ret
      exact ⟨rfl, HN.out⟩)
  have hk2 : 0 ≤ a1 ∧ (n2 : Int) ≤ a1 ∧ a1 ≤ 256 := by
    unfold ckE at hk
    by_cases h1 : a1 < 0 ∨ (n2 : Int) < 0 ∨ a1 < (n2 : Int)
    · rw [if_pos h1] at hk; omega
    · rw [if_neg h1] at hk
      by_cases h2 : 256 < a1
      · rw [if_pos h2] at hk; omega
      · omega
  have e0' : ¬ 40 < a1 := by omega
  rw [hk] at HCR
  obtain ⟨n, rfl⟩ : ∃ n : Nat, a1 = (n : Int) := ⟨a1.toNat, by omega⟩
  have hkn : n2 ≤ n := by omega
  have hn256 : n ≤ 256 := by omega
  obtain ⟨K, hK⟩ : ∃ K, n - n2 = K := ⟨_, rfl⟩
  have HKK := Lib.hid hK
  have HRS := Lib.hid (fun w (h : ZRow w a2 n2 m2 s) => rises_q n (by omega) a2 n2 m2 s w h (by omega))
  have hmv := mvB_self n s
  rw [HL1.out] at hmv
  rw [← hmv] at HRS
  clear hk hs1 e0 hk2 hK
  rcases hb : mvB n s s with _ | _
  · have HAM := Lib.hid (aims42_bad n hn256 a0 a2 n0 m0 n2 m2 s wA H1.out hkn hb)
    rw [hb] at HRS
    clear hb hmv
    go_wp2_with fail
    refine HAM.out.mono ?_
    rintro e w9 ⟨rfl, hn⟩
    replace H1 := Lib.hid (H1.out.stay hn)
    replace HN := Lib.hid (HN.out.trans hn)
    clear hn HAM
    go_wp2_with fail
    refine (HCR.out _).mono ?_
    rintro e w' ⟨rfl, hw⟩
    replace hw := hw.symm
    subst hw
    go_wp2_with fail
    refine (HRS.out _ H1.out).mono ?_
    rintro e w8 ⟨rfl, hn⟩
    replace HN := Lib.hid (HN.out.trans hn)
    clear hn
    go_wp2
    go_ret
    exact ⟨rfl, HN.out⟩
  rw [hb] at HRS
  obtain ⟨_, hs, _, hac, _⟩ := mvB_iff.1 hb
  have hsl := HL1.out
  rw [hsl] at hac
  clear hb hmv
  have HTR := Lib.hid (fun w (h : QRow w a0 n0 m0 l) => take42r_q a0 n0 m0 n n2 K l w h hn256 hkn HKK.out)
  rcases hd : drS l (lqP n2 K) K with _ | ⟨ds, k⟩
  · have HAM := Lib.hid (aims42_no n K hn256 a0 a2 n0 m0 n2 m2 l s wA H0.out H1.out hkn hs hac HKK.out hd)
    have HD := Lib.hid hd
    clear hs hac hd
    go_wp2_with fail
    refine HAM.out.mono ?_
    rintro e w9 ⟨rfl, hn⟩
    replace H0 := Lib.hid (H0.out.stay hn)
    replace H1 := Lib.hid (H1.out.stay hn)
    replace HN := Lib.hid (HN.out.trans hn)
    clear hn HAM
    go_wp2_with fail
    refine (HCR.out _).mono ?_
    rintro e w' ⟨rfl, hw⟩
    replace hw := hw.symm
    subst hw
    go_wp2_with fail
    refine (HRS.out _ H1.out).mono ?_
    rintro e w8 ⟨rfl, hn⟩
    replace H0 := Lib.hid (H0.out.stay hn)
    replace HN := Lib.hid (HN.out.trans hn)
    clear hn
    go_wp2_with fail
    refine (HTR.out _ H0.out).mono ?_
    rintro e wD ⟨⟨ds2, k2, q1, q2, q3, q4, hd2, _⟩ | ⟨hd2, rfl⟩, hn⟩
    · rw [HD.out] at hd2; cases hd2
    replace HN := Lib.hid (HN.out.trans hn)
    clear hn hd2 HTR
    go_wp2
    go_ret
    exact ⟨rfl, HN.out⟩
  · have hrd := cdS_rd hn256 hkn HKK.out hd
    obtain ⟨ho1, ho2, ho3⟩ := ts_or hkn hrd hs hsl
    have hst := sl_st hkn hrd
    have htr := tu_rd ho2 ho3 hkn
    have hset := ts_set hkn hrd hs hsl hac
    have hbck := ts_back hkn hrd hs hsl hac
    have hdl := (drS_len hd).1
    have hne1 := sl_ne hkn hrd
    have hne2 := sl_ne hkn htr
    have hSl : (msI (slI n n2 (cdS ds K))).length = n2 := by rw [msI_len, slI_len]
    have hv : ∀ i, i < K → tsF n n2 (tsQ n n2 (cdS ds K) s) i < n2 + i + 1 := fun i hi => by
      have := htr.2 i (by have := HKK.out; omega)
      rw [tsI_eq, liI_get _ (by have := HKK.out; omega)] at this
      omega
    have hcd : cdS (nmS (fun i => BitVec.ofNat 64 (tsF n n2 (tsQ n n2 (cdS ds K) s) i)) ds) K = tuI n n2 (tsQ n n2 (cdS ds K) s) := by
      rw [cdS_aim2 (tsF n n2 (tsQ n n2 (cdS ds K) s)) hdl (fun i hi => by have := hv i hi; have := HKK.out; omega), tsI_eq, HKK.out]
    have htl := amS_tells (v := fun i => BitVec.ofNat 64 (tsF n n2 (tsQ n n2 (cdS ds K) s) i)) hd (fun i hi => by
      have h1 := hv i hi
      have h2 := HKK.out
      rw [lqP_get hi, BitVec.toNat_ofNat, BitVec.toNat_ofNat, Nat.mod_eq_of_lt (by omega), Nat.mod_eq_of_lt (by omega)]
      exact h1)
    have HAM := Lib.hid (aims42_ok n K hn256 a0 a2 n0 m0 n2 m2 l s ds k wA H0.out H1.out hkn hs hac HKK.out hd)
    obtain ⟨am, ham⟩ : ∃ z, amS l (lqP n2 K) (fun i => BitVec.ofNat 64 (tsF n n2 (tsQ n n2 (cdS ds K) s) i)) ds K = z := ⟨_, rfl⟩
    have hback : amS am (lqP n2 K) (fun i => BitVec.ofNat 64 (tsF n n2 (tsQ n n2 (cdS (nmS (fun i => BitVec.ofNat 64 (tsF n n2 (tsQ n n2 (cdS ds K) s) i)) ds) K) (msI (slI n n2 (cdS ds K)))) i)) (nmS (fun i => BitVec.ofNat 64 (tsF n n2 (tsQ n n2 (cdS ds K) s) i)) ds) K = l := by
      rw [(amS_nm _ _ _ _ _ _ (by omega)).1, ← ham]
      refine amS_back hd (fun i hi => ?_)
      rw [hcd, ← cdS_back2 (K := K) hi]
      have h9 := hbck
      rw [tsI_eq n n2 (tsQ n n2 (tuI n n2 (tsQ n n2 (cdS ds K) s)) (msI (slI n n2 (cdS ds K)))), HKK.out] at h9
      have h8 : fnI (liI (tsF n n2 (tsQ n n2 (tuI n n2 (tsQ n n2 (cdS ds K) s)) (msI (slI n n2 (cdS ds K))))) K) i = fnI (cdS ds K) i := by rw [h9]
      rw [fnI_li _ hi] at h8
      rw [h8]
    rw [ham] at htl HAM
    have HBK := Lib.hid hback
    have HTL := Lib.hid htl
    have HD := Lib.hid hd
    have HCD := Lib.hid hcd
    have HSET := Lib.hid hset
    have HST := Lib.hid hst
    have HSLL := Lib.hid hSl
    have HNE1 := Lib.hid hne1
    have HNE2 := Lib.hid hne2
    have HRK : Hid (∀ i, i < K → ((nmS (fun i => BitVec.ofNat 64 (tsF n n2 (tsQ n n2 (cdS ds K) s) i)) ds).getD i dz).2 = (ds.getD i dz).2) := Lib.hid (fun i hi => by rw [nmS_get _ _ (by omega)])
    clear hrd ho1 ho2 ho3 hst htr hset hbck hdl hv hcd htl ham hback hd hs hac hSl hne1 hne2
    go_wp2_with fail
    refine HAM.out.mono ?_
    rintro e w9 ⟨a5, m5, rfl, hq, hn⟩
    replace H0 := Lib.hid (H0.out.stay hn)
    replace H1 := Lib.hid (H1.out.stay hn)
    replace HN := Lib.hid (HN.out.trans hn)
    have HM := Lib.hid hq
    clear hn hq HAM
    go_wp2_with fail
    refine (HCR.out _).mono ?_
    rintro e w' ⟨rfl, hw⟩
    replace hw := hw.symm
    subst hw
    go_wp2_with fail
    refine (HRS.out _ H1.out).mono ?_
    rintro e w8 ⟨rfl, hn⟩
    replace H0 := Lib.hid (H0.out.stay hn)
    replace H1 := Lib.hid (H1.out.stay hn)
    replace HM := Lib.hid (HM.out.stay hn)
    replace HN := Lib.hid (HN.out.trans hn)
    clear hn
    go_wp2_with fail
    refine (HTR.out _ H0.out).mono ?_
    rintro e wD ⟨⟨ds2, k2, q1, q2, q3, q4, hd2, rfl, hz2, hk2⟩ | ⟨hd2, _⟩, hn⟩
    case inr => rw [HD.out] at hd2; cases hd2
    rw [HD.out] at hd2
    cases hd2
    replace H0 := Lib.hid (H0.out.stay hn)
    replace H1 := Lib.hid (H1.out.stay hn)
    replace HM := Lib.hid (HM.out.stay hn)
    replace HN := Lib.hid (HN.out.trans hn)
    have HWS := Lib.hid hz2
    have HON := Lib.hid hk2
    clear hn hz2 hk2 HTR
    go_wp2_with fail
    refine (take42r_q _ _ _ n n2 K am _ HM.out hn256 hkn HKK.out).mono ?_
    rintro e wE ⟨⟨ds2, k2, r1, r2, r3, r4, hd2, rfl, hz2, hk2⟩ | ⟨hd2, _⟩, hn⟩
    case inr => rw [HTL.out] at hd2; cases hd2
    rw [HTL.out] at hd2
    cases hd2
    rw [HCD.out] at hz2
    replace H0 := Lib.hid (H0.out.stay hn)
    replace H1 := Lib.hid (H1.out.stay hn)
    replace HM := Lib.hid (HM.out.stay hn)
    replace HWS := Lib.hid (HWS.out.stay hn)
    replace HON := Lib.hid (HON.out.stay hn)
    replace HN := Lib.hid (HN.out.trans hn)
    have HNW := Lib.hid hz2
    have HTW := Lib.hid hk2
    clear hn hz2 hk2
    go_wp2_with fail
    refine (setr_41 _ _ _ _ _ HWS.out HNE1.out (by omega)).mono ?_
    rintro e wS ⟨a6, m6, rfl, hz6, hn⟩
    replace H0 := Lib.hid (H0.out.stay hn)
    replace H1 := Lib.hid (H1.out.stay hn)
    replace HM := Lib.hid (HM.out.stay hn)
    replace HNW := Lib.hid (HNW.out.stay hn)
    replace HON := Lib.hid (HON.out.stay hn)
    replace HTW := Lib.hid (HTW.out.stay hn)
    replace HN := Lib.hid (HN.out.trans hn)
    have HAB := Lib.hid (aims42_ok n K hn256 _ _ _ _ _ _ am (msI (slI n n2 (cdS ds K))) _ _ _ HM.out hz6 hkn HST.out.1 HST.out.2 HKK.out HTL.out)
    rw [HBK.out] at HAB
    clear hn hz6 HWS
    go_wp2_with fail
    refine HAB.out.mono ?_
    rintro e wF ⟨a7, m7, rfl, hq, hn⟩
    replace H0 := Lib.hid (H0.out.stay hn)
    replace H1 := Lib.hid (H1.out.stay hn)
    replace HNW := Lib.hid (HNW.out.stay hn)
    replace HON := Lib.hid (HON.out.stay hn)
    replace HTW := Lib.hid (HTW.out.stay hn)
    replace HN := Lib.hid (HN.out.trans hn)
    have HBA := Lib.hid hq
    clear hn hq HAB
    go_wp2_with fail
    refine (setr_41 _ _ _ _ _ HNW.out HNE2.out (by omega)).mono ?_
    rintro e wT ⟨a8, m8, rfl, hz8, hn⟩
    rw [HSET.out] at hz8
    replace H0 := Lib.hid (H0.out.stay hn)
    replace H1 := Lib.hid (H1.out.stay hn)
    replace HON := Lib.hid (HON.out.stay hn)
    replace HTW := Lib.hid (HTW.out.stay hn)
    replace HBA := Lib.hid (HBA.out.stay hn)
    replace HN := Lib.hid (HN.out.trans hn)
    have HZ8 := Lib.hid hz8
    clear hn hz8
    go_wp2_with fail
    refine (ints_ref _ _ _ _ _ _ _ _ _ HZ8.out H1.out).mono ?_
    rintro e wG ⟨rfl, hn⟩
    rw [beq_self_eq_true]
    replace H0 := Lib.hid (H0.out.stay hn)
    replace HON := Lib.hid (HON.out.stay hn)
    replace HTW := Lib.hid (HTW.out.stay hn)
    replace HBA := Lib.hid (HBA.out.stay hn)
    replace HN := Lib.hid (HN.out.trans hn)
    clear hn
    go_wp2_with fail
    refine (ranks_40 _ _ _ _ _ _ _ _ HON.out HTW.out HRK.out).mono ?_
    rintro e wH ⟨rfl, hn⟩
    replace H0 := Lib.hid (H0.out.stay hn)
    replace HBA := Lib.hid (HBA.out.stay hn)
    replace HN := Lib.hid (HN.out.trans hn)
    clear hn
    go_wp2_with fail
    refine (words_ref _ _ _ _ _ _ _ _ _ _ HBA.out H0.out HN.out).mono ?_
    rintro e wI ⟨rfl, _, hn⟩
    rw [beq_self_eq_true]
    have HN9 := Lib.hid hn
    clear hn
    go_wp2
    go_ret
    exact ⟨rfl, HN9.out⟩
end Go.Proofs.Ytajjpllhihgkdaa
