/- subset: the draws; the document's Take. · subset.Take. -/
import Derived.Test.YtaajphopnmdmcaaDrwC
import Derived.Test.YtaajphopnmdmcaaSubD
namespace Go.Proofs.Ytaajphopnmdmcaa
open Go Go.RowKit Go.Bv
set_option linter.unusedVariables false
theorem lmP_get {n m k : Nat} (h : m < k) : (lmP n k).getD m 0 = BitVec.ofNat 64 (n - m) := by
  unfold lmP
  rw [List.getD_eq_getElem?_getD, List.getElem?_map, List.getElem?_range h]; rfl
/-- the numbers of the first draws -/
def cdS (ds : List Drw) (k : Nat) : List Int := liI (fun i => ((ds.getD i dz).1).toNat) k
theorem cdS_len (ds : List Drw) (k : Nat) : (cdS ds k).length = k := liI_len _ _
theorem cdS_succ (ds : List Drw) (k : Nat) : cdS ds (k + 1) = cdS ds k ++ [((((ds.getD k dz).1).toNat : Nat) : Int)] := liI_succ _ _
theorem lmP_lt {l : List (BitVec 64)} {n m : Nat} {ds : List Drw} {k : Nat} (hn : n ≤ 1000000) (hm : m ≤ n) (h : drS l (lmP n m) m = some (ds, k)) : ∀ i, i < m → ((ds.getD i dz).1).toNat < n - i := by
  intro i hi
  have h1 := drS_lt (fun i hi => by rw [lmP_get hi]; exact (ofNat_pos (r := n - i) (by omega) (by omega)).1) h i hi
  rw [lmP_get hi, (ofNat_pos (r := n - i) (by omega) (by omega)).2] at h1
  exact h1
theorem cdS_rp {l : List (BitVec 64)} {n m : Nat} {ds : List Drw} {k : Nat} (hn : n ≤ 1000000) (hm : m ≤ n) (h : drS l (lmP n m) m = some (ds, k)) : rp2 n (cdS ds m) := by
  refine ⟨by rw [cdS_len]; exact hm, fun i hi => ?_⟩
  rw [cdS_len] at hi
  have h1 := lmP_lt hn hm h i hi
  unfold cdS
  rw [liI_get _ hi]
  omega
set_option maxRecDepth 100000 in
set_option maxHeartbeats 2000000 in
theorem limits_41 (n k : Nat) (w : World) (hk : k ≤ n) (hn : n ≤ 1000000) :
    Calls Try.prog 41 #[.int .i64 (n : Int), .int .i64 (k : Int)] w fun e w' => ∃ a c, e = .returned (.slice a (k : Nat) c) ∧ QRow w' a k c (lmP n k) ∧ New w w' := by
  obtain ⟨i0, hi, hz0, hz1, hz2⟩ := info_parts info8_u64
  go_enter Try.func41, Try.ntmps41
  go_wp2_with fail
  go_loopw [5, 6] (fun v iv wr => ∃ m : Nat, m ≤ k ∧ iv = .int .i64 (m : Int) ∧ wr.ownsRow w.heap.size 55 1 v m ((lmP n m).map fun x => .int .u64 (W64 x)) ∧ New w wr) (fun _ iv _ => k - (intOf iv).toNat)
  case atStart => exact ⟨0, Nat.zero_le _, rfl, World.ownsRow_nil w _ _ 1, New.refl w⟩
  case round =>
    obtain ⟨m, hm, rfl, hown, hnew⟩ := hrel
    by_cases hlt : (m : Int) < (k : Int)
    · have hm0 : (0 : Int) ≤ (m : Int) := by omega
      obtain ⟨r, hr⟩ : ∃ r, n - m = r := ⟨_, rfl⟩
      have hri : (n : Int) - (m : Int) = (r : Int) := by omega
      have hr2 : (1 : Int) ≤ (r : Int) := by omega
      obtain ⟨wq, hwq⟩ : ∃ z, z = wr := ⟨_, rfl⟩
      rw [← hwq] at hown hnew ⊢
      clear hwq
      have HL := Lib.hid (lmP_succ n m)
      rw [hr] at HL
      go_wp2_with (at_builtin; refine wpList_append_own _ rfl _ _ 33 rfl w.heap.size 55 i0 (.int .u64 0) 1 8 Try.underlying33 hi hz0 hz1 hz2 rfl (by decide) _ m _ rfl (hown.alloc _) ⟨wq.heap.size, 0, none⟩ 1 1 [.int .u64 (W64 (BitVec.ofNat 64 r))] rfl rfl ?c1 ?c2 ?c3 ?c4 ?c5 ?_)
      try (case c1 => exact one_cell wq _ _)
      try (case c2 => first | rfl | (intro u hu; simp at hu; subst hu; rfl))
      try (case c3 => first | (unfold maxLen; omega) | omega)
      try (case c4 => omega)
      try (case c5 => first | (simp; have := hnew.le; omega) | (have := hnew.le; omega))
      intro v' w1 how hgr _
      have HO2 : Hid (w1.ownsRow w.heap.size 55 1 v' (m + 1) ((lmP n (m + 1)).map fun x => .int .u64 (W64 x))) := Lib.hid (by
        rw [HL.out, List.map_append]; exact how)
      have HN1 := Lib.hid ((hnew.alloc _).grown' hgr (own_base hown))
      clear how hgr hown hnew
      go_wp2
      exact ⟨⟨m + 1, by omega, by go_num, HO2.out, HN1.out⟩, by simp [intOf]; omega⟩
    · obtain rfl : m = k := by omega
      obtain ⟨a, c, rfl, hq⟩ := QRow.of_owns hown (by omega)
      have HQ := Lib.hid hq
      have HN := Lib.hid hnew
      clear hq hown hnew
      go_wp2
      go_ret
      exact ⟨a, c, rfl, HQ.out, HN.out⟩
set_option maxRecDepth 100000 in
set_option maxHeartbeats 4000000 in
theorem take41r_q (a : Option Addr) (nl c n K : Nat) (l : List (BitVec 64)) (w : World) (hl : QRow w a nl c l) (hn : n ≤ 100000) (hK : K ≤ n) :
    Calls Try.prog 20 #[.slice a nl c, .int .i64 (n : Int), .int .i64 (K : Int)] w fun e w' => ((∃ ds k a1 c1 a2 c2, drS l (lmP n K) K = some (ds, k) ∧ e = .returned (.tuple #[.slice a1 (K : Nat) c1, .slice a2 (K : Nat) c2, .int .i64 (k : Nat), .bool true]) ∧ ZRow w' a1 K c1 (pkI (cdS ds K)) ∧ KRow w' a2 K c2 ds) ∨ (drS l (lmP n K) K = none ∧ e = .returned (.tuple #[.slice none 0 0, .slice none 0 0, .int .i64 (nl : Nat), .bool false]))) ∧ New w w' := by
  obtain ⟨i0, hi, hz0, hz1, hz2⟩ := info_parts info_int40
  have HL := Lib.hid hl
  have HLM := Lib.hid (limits_41 n K w hK (by omega))
  clear hl
  go_enter Try.func20, Try.ntmps20
  go_wp2_with fail
  refine (HLM.out).mono ?_
  rintro e w9 ⟨a9, c9, rfl, hq, hn9⟩
  have HQ := Lib.hid hq
  have HN := Lib.hid hn9
  clear hq hn9 HLM
  go_wp2_with fail
  refine (row38_any _ _ _ _ _ _ _ _ _ (HL.out.stay HN.out) HQ.out (by omega)).mono ?_
  rintro e w8 ⟨⟨ds, k, a2, c2, hd, rfl, hk⟩ | ⟨hd, rfl⟩, hn8⟩
  · have HD := Lib.hid hd
    have HK := Lib.hid hk
    have HRP := Lib.hid (cdS_rp (by omega) hK hd)
    have HLT := Lib.hid (lmP_lt (by omega) hK hd)
    replace HN := Lib.hid (HN.out.trans hn8)
    clear hd hk hn8 HQ
    go_wp2_with fail
    go_loopw [13, 30] (fun v iv wr => ∃ i : Nat, i ≤ K ∧ iv = .int .i64 (i : Int) ∧ wr.ownsRow w8.heap.size 3 1 v i ((cdS ds i).map fun x => .int .i64 x) ∧ New w8 wr) (fun _ iv _ => K - (intOf iv).toNat)
    case atStart => exact ⟨0, Nat.zero_le _, rfl, World.ownsRow_nil _ _ _ 1, New.refl _⟩
    case round =>
      obtain ⟨i, hi9, rfl, hown, hnew⟩ := hrel
      obtain ⟨wq, hwq⟩ : ∃ z, z = wr := ⟨_, rfl⟩
      rw [← hwq] at hown hnew ⊢
      clear hwq
      have HKR := Lib.hid (HK.out.stay hnew)
      by_cases hlt : (i : Int) < (K : Int)
      · have hi0 : (0 : Int) ≤ (i : Int) := by omega
        obtain ⟨b1, o1, rfl, h1⟩ := HKR.out.addr (by omega)
        obtain ⟨p0, p1, p2⟩ := h1 i (by omega)
        clear h1
        have hlt2 := HLT.out i (by omega)
        have HSS := Lib.hid (cdS_succ ds i)
        obtain ⟨⟨x, y, u⟩, hd⟩ : ∃ d, ds.getD i dz = d := ⟨_, rfl⟩
        rw [hd] at p0 p1 p2 hlt2 HSS
        clear hd
        simp only at p0 p1 p2 hlt2 HSS
        obtain ⟨t, ht⟩ : ∃ t, x.toNat = t := ⟨_, rfl⟩
        rw [ht] at hlt2 HSS
        have hx1 : wrap64 (W64 x) = (t : Int) := by unfold W64 wrap64; omega
        have hown2 := ow_new hown ((New.refl wq).alloc (.cells #[.int .u64 (W64 x), .int .u64 (W64 y), .int .i64 (u : Int)] 63))
        have hnew2 := hnew.alloc (.cells #[.int .u64 (W64 x), .int .u64 (W64 y), .int .i64 (u : Int)] 63)
        clear HKR HK HRP HLT ht
        go_wp2_with (at_builtin; refine wpList_append_own _ rfl _ _ 22 rfl w8.heap.size 3 i0 (.int .i64 0) 1 8 Try.underlying22 hi hz0 hz1 hz2 rfl (by decide) _ i _ rfl (hown2.alloc _) ⟨wq.heap.size + 1, 0, none⟩ 1 1 [.int .i64 (t : Nat)] rfl rfl ?d1 ?d2 ?d3 ?d4 ?d5 ?_)
        try (case d1 =>
          have h9 := one_cell (wq.alloc (.cells #[.int .u64 (W64 x), .int .u64 (W64 y), .int .i64 (u : Int)] 63)) (.int .i64 (t : Nat)) 3
          rw [show (wq.alloc (.cells #[.int .u64 (W64 x), .int .u64 (W64 y), .int .i64 (u : Int)] 63)).heap.size = wq.heap.size + 1 by simp] at h9
          exact h9)
        try (case d2 => intro u hu; simp at hu; subst hu; rfl)
        try (case d3 => unfold maxLen; omega)
        try (case d4 => omega)
        try (case d5 => simp; have := hnew.le; omega)
        intro v' w1 how hgr _
        have HO2 : Hid (w1.ownsRow w8.heap.size 3 1 v' (i + 1) ((cdS ds (i + 1)).map fun x => .int .i64 x)) := Lib.hid (by
          rw [HSS.out, List.map_append]; exact how)
        have HN1 := Lib.hid ((hnew2.alloc _).grown' hgr (own_base hown2))
        clear how hgr hown hnew hown2 hnew2 p0 p1 p2
        go_wp2
        exact ⟨⟨i + 1, by omega, by go_num, HO2.out, HN1.out⟩, by simp [intOf]; omega⟩
      · obtain rfl : i = K := by omega
        obtain ⟨a1, c1, rfl, hz⟩ := ZRow.of_owns hown (by omega) (in64_li _ (fun x hx => by
          have := HLT.out x hx
          omega))
        have HPR := Lib.hid (pickr_41 n (by omega) _ _ _ _ _ hz HRP.out)
        have HN7 := Lib.hid hnew
        clear hown hz hnew
        go_wp2_with fail
        refine (HPR.out).mono ?_
        rintro e w6 ⟨a6, c6, rfl, hz6, hn6⟩
        have HZ := Lib.hid hz6
        replace HKR := Lib.hid (HKR.out.stay hn6)
        replace HN := Lib.hid ((HN.out.trans HN7.out).trans hn6)
        clear hz6 hn6 HPR
        go_wp2
        refine bodyPost_ret (by simp [results, Try.results20, go_sem]; try rfl) rfl ?_
        exact ⟨.inl ⟨ds, k, a6, c6, a2, c2, HD.out, rfl, HZ.out, HKR.out⟩, HN.out⟩
  · have HD := Lib.hid hd
    replace HN := Lib.hid (HN.out.trans hn8)
    clear hd hn8 HQ
    go_wp2
    refine bodyPost_ret (by simp [results, Try.results20, go_sem]; try rfl) rfl ?_
    exact ⟨.inr ⟨HD.out, rfl⟩, HN.out⟩
end Go.Proofs.Ytaajphopnmdmcaa
namespace Go.Bv
open Go Go.RowKit
set_option linter.unusedVariables false
theorem drCs_set : ∀ (l : List Drw) (k : Nat) (d : Drw), k < l.length → drCs (l.set k d) = (((drCs l).set (k * 3) (.int .u64 (W64 d.1))).set (k * 3 + 1) (.int .u64 (W64 d.2.1))).set (k * 3 + 2) (.int .i64 (d.2.2 : Int))
  | [], k, d, h => absurd h (by simp)
  | e :: l, 0, d, _ => rfl
  | e :: l, k + 1, d, h => by
    have ih := drCs_set l k d (by simpa using h)
    show drC e ++ drCs (l.set k d) = _
    rw [ih, show (k + 1) * 3 = k * 3 + 3 by omega]
    rfl
theorem made3 (K : Nat) : (madeCells #[.int .u64 0, .int .u64 0, .int .i64 0] (K * 3)).toList = drCs (List.replicate K dz) := by
  apply List.ext_getElem?
  intro m
  by_cases hm : m < K * 3
  · obtain ⟨i, j, hj, rfl⟩ : ∃ i j, j < 3 ∧ m = i * 3 + j := ⟨m / 3, m % 3, Nat.mod_lt _ (by omega), by omega⟩
    rw [drCs_get _ i j (by simp; omega) hj, List.getD_eq_getElem?_getD, List.getElem?_replicate, if_pos (by omega), Option.getD_some, Array.getElem?_toList]
    have e1 : (madeCells #[.int .u64 0, .int .u64 0, .int .i64 0] (K * 3))[i * 3 + j]? = some ((#[.int .u64 0, .int .u64 0, .int .i64 0] : Array Value)[(i * 3 + j) % 3]!) := by
      simp [madeCells, hm]
    rw [e1, show (i * 3 + j) % 3 = j by omega]
    obtain rfl | rfl | rfl : j = 0 ∨ j = 1 ∨ j = 2 := by omega
    · rfl
    · rfl
    · rfl
  · rw [List.getElem?_eq_none (by rw [Array.length_toList, size_madeCells]; omega), List.getElem?_eq_none (by rw [drCs_len]; simp; omega)]
theorem ow_made3 (w : World) (base : Nat) (e : TypeId) (K : Nat) (hb : base ≤ w.heap.size) (hK : K ≤ 1000000) : (w.alloc (.cells (madeCells #[.int .u64 0, .int .u64 0, .int .i64 0] (K * 3)) e)).ownsRow base e 3 (.slice (some ⟨w.heap.size, 0, none⟩) K K) K (drCs (List.replicate K dz)) := by
  have := World.ownsRow_lit (base := base) (e := e) (size := 3) w (madeCells #[.int .u64 0, .int .u64 0, .int .i64 0] (K * 3)) K hb (by unfold maxLen; omega) (size_madeCells _ _)
  rw [made3] at this
  exact this
/-- the draws so far, empty ones behind them -/
def dpL (ds : List Drw) (K : Nat) : List Drw := ds ++ List.replicate (K - ds.length) dz
theorem dpL_zero (K : Nat) : dpL [] K = List.replicate K dz := rfl
theorem dpL_all {ds : List Drw} {K : Nat} (h : ds.length = K) : dpL ds K = ds := by unfold dpL; rw [h, Nat.sub_self]; simp
theorem dpL_len {ds : List Drw} {K : Nat} (h : ds.length ≤ K) : (dpL ds K).length = K := by unfold dpL; simp; omega
theorem dpL_set {ds : List Drw} {K q : Nat} (hq : ds.length = q) (h : q < K) (d : Drw) : (dpL ds K).set q d = dpL (ds ++ [d]) K := by
  unfold dpL
  obtain ⟨r, hr⟩ : ∃ r, K - q = r + 1 := ⟨K - q - 1, by omega⟩
  rw [hq, hr, List.replicate_succ, List.length_append, hq, List.length_singleton, show K - (q + 1) = r by omega, List.append_assoc, List.set_append_right _ _ (by omega), hq, Nat.sub_self]
  rfl
/-- the numbers so far, zeros behind them -/
def cqL (ds : List Drw) (K : Nat) : List Int := liI (fun i => if i < ds.length then ((ds.getD i dz).1).toNat else 0) K
theorem cqL_zero (K : Nat) : cqL [] K = liI (fun _ => 0) K := liI_ext (fun x _ => by rw [if_neg (by simp)])
theorem cqL_set {ds : List Drw} {K q : Nat} (hq : ds.length = q) (h : q < K) (d : Drw) : cqL (ds ++ [d]) K = (cqL ds K).set q ((d.1.toNat : Nat) : Int) := by
  unfold cqL
  rw [liI_set _ _ h]
  apply liI_ext
  intro x hx
  rw [List.length_append, hq]
  by_cases e : x = q
  · subst e
    rw [if_pos rfl, if_pos (by simp), List.getD_eq_getElem?_getD, List.getElem?_append_right (by omega), hq, Nat.sub_self]
    rfl
  · rw [if_neg e]
    by_cases e2 : x < q
    · rw [if_pos e2, if_pos (by omega), List.getD_eq_getElem?_getD, List.getElem?_append_left (by omega), ← List.getD_eq_getElem?_getD]
    · rw [if_neg e2, if_neg (by simp; omega)]
theorem ow_three {w : World} {base g n cap : Nat} {e : TypeId} {ds : List Drw} (h : w.ownsRow base e 3 (.slice (some ⟨g, 0, none⟩) n cap) n (drCs ds)) {k : Nat} (hk : k < n) :
    (w.cell? ⟨g, k * 3, none⟩ = some (.int .u64 (W64 (ds.getD k dz).1)) ∧ w.cell? ⟨g, k * 3 + 1, none⟩ = some (.int .u64 (W64 (ds.getD k dz).2.1)) ∧ w.cell? ⟨g, k * 3 + 2, none⟩ = some (.int .i64 ((ds.getD k dz).2.2 : Int))) ∧ ∀ j, w.frozen? ⟨g, j, none⟩ = false := by
  have hl : ds.length = n := by have := h.1; rw [drCs_len] at this; omega
  have g0 := drCs_get ds k 0 (by omega) (by omega)
  have g1 := drCs_get ds k 1 (by omega) (by omega)
  have g2 := drCs_get ds k 2 (by omega) (by omega)
  exact ⟨⟨(h.cellAt (k * 3) (by omega)).trans g0, (h.cellAt (k * 3 + 1) (by omega)).trans g1, (h.cellAt (k * 3 + 2) (by omega)).trans g2⟩, fun j => h.frozenAt j⟩
theorem at_size {w : World} {base a b n cap size : Nat} {e : TypeId} {xs : List Value} (h : a = b) (k : w.ownsRow base e size (.slice (some ⟨a, 0, none⟩) n cap) n xs) : w.ownsRow base e size (.slice (some ⟨b, 0, none⟩) n cap) n xs := h ▸ k
theorem ow_lt3 {w : World} {base g n cap : Nat} {e : TypeId} {xs : List Value} (h : w.ownsRow base e 3 (.slice (some ⟨g, 0, none⟩) n cap) n xs) : base ≤ g ∧ g < w.heap.size ∧ n ≤ cap := by
  obtain ⟨hl, h | ⟨g', cap', cur, hv, hb, hc, h2, h3, _⟩⟩ := h
  · cases h.1
  · injection hv with e1 e2 e3
    cases e1; subst e3
    exact ⟨hb, lt_of_block hc, h2⟩
end Go.Bv
namespace Go.Proofs.Ytaajphopnmdmcaa
open Go Go.RowKit Go.Bv
set_option linter.unusedVariables false
theorem cqL_all {ds : List Drw} {K : Nat} (h : ds.length = K) : cqL ds K = cdS ds K := liI_ext (fun x hx => by rw [if_pos (by omega)])
theorem make_drw (n : Nat) (hn : n ≤ 1000000) (w : World) : (Instr.makeSlice 36 (.int .i64 (n : Int)) (.int .i64 (n : Int))).run Try.prog w = .ok (.slice (some ⟨w.heap.size, 0, none⟩) n n) (w.alloc (.cells (madeCells #[.int .u64 0, .int .u64 0, .int .i64 0] (n * 3)) 63)) := by
  obtain ⟨i0, hi, hz0, hz1, hz2⟩ := info_parts info_drw
  have hr := run_make (P := Try.prog) w 36 63 i0 (.agg #[.int .u64 0, .int .u64 0, .int .i64 0]) Try.underlying36 hi hz0 .i64 .i64 (n : Int) (n : Int) (by omega) (Int.le_refl _) (by rw [hz2]; omega) (by omega)
  rw [hz1] at hr
  exact hr
set_option maxRecDepth 100000 in
set_option maxHeartbeats 8000000 in
theorem take41_q (b g0 n K : Nat) (l : List (BitVec 64)) (w : World) (ht : Tape w b g0 l 0) (hn : n ≤ 256) (hK : K ≤ n) :
    Calls Try.prog 19 #[.pointer (some ⟨b, 0, none⟩), .int .i64 (n : Int), .int .i64 (K : Int)] w fun e w' => (∃ ds k a1 c1 a2 c2, drS l (lmP n K) K = some (ds, k) ∧ e = .returned (.tuple #[.slice a1 (K : Nat) c1, .slice a2 (K : Nat) c2, .int .i64 0]) ∧ ZRow w' a1 K c1 (pkI (cdS ds K)) ∧ KRow w' a2 K c2 ds ∧ After w w' b g0 l k) ∨ (drS l (lmP n K) K = none ∧ e = .returned (.tuple #[.slice none 0 0, .slice none 0 0, .int .i64 7]) ∧ After w w' b g0 l l.length) := by
  have HBL : Hid (b < w.heap.size ∧ g0 < w.heap.size) := Lib.hid ht.lt
  have HT0 := Lib.hid (fun w' (h : New w w') => ht.stay h)
  have hmk : ∀ W : World, (Instr.makeSlice 22 (.int .i64 (K : Int)) (.int .i64 (K : Int))).run Try.prog W = .ok (.slice (some ⟨W.heap.size, 0, none⟩) K K) (W.alloc (.cells (madeCells #[.int .i64 0] K) 3)) := fun W => make_int K (by omega) _ W rfl
  have hmk2 : ∀ W : World, (Instr.makeSlice 36 (.int .i64 (K : Int)) (.int .i64 (K : Int))).run Try.prog W = .ok (.slice (some ⟨W.heap.size, 0, none⟩) K K) (W.alloc (.cells (madeCells #[.int .u64 0, .int .u64 0, .int .i64 0] (K * 3)) 63)) := fun W => make_drw K (by omega) W
  have hneg : ¬ (n : Int) < 0 := by omega
  have hneg2 : ¬ (K : Int) < 0 := by omega
  have hneg3 : ¬ (n : Int) < (K : Int) := by omega
  have hbig : ¬ (256 : Int) < (n : Int) := by omega
  clear ht
  go_enter Try.func19, Try.ntmps19
  go_wp2_with fail
  go_cut [9, 10] (fun c d wx => ∃ g1 g2, c = .slice (some ⟨g1, 0, none⟩) K K ∧ d = .slice (some ⟨g2, 0, none⟩) K K ∧ wx.ownsRow w.heap.size 3 1 (.slice (some ⟨g1, 0, none⟩) K K) K ((cqL [] K).map fun x => .int .i64 x) ∧ wx.ownsRow w.heap.size 63 3 (.slice (some ⟨g2, 0, none⟩) K K) K (drCs (dpL [] K)) ∧ g1 ≠ g2 ∧ New w wx)
  case first =>
    go_region_held3 (fun w' => New w w')
      (repeat (first | with_reducible assumption | with_reducible exact New.refl _ | with_reducible apply New.drew | with_reducible refine New.alloc ?_ _))
      (fail)
    all_goals (
      go_wp2_with fail
      go_meet
      case rel =>
        rw [cqL_zero, dpL_zero]
        first
          | exact ⟨_, _, rfl, rfl, ow_new (ow_made w _ _ _ K _ (Nat.le_refl _) (by omega) (by rw [made_toList, zeros_li]) (by rw [List.length_map, liI_len])) (((New.refl _).alloc _).drew), ow_new (at_size (by simp) (ow_made3 (w.alloc (.cells (madeCells #[.int .i64 0] K) 3)) w.heap.size _ K (by simp) (by omega))) ((New.refl _).drew), (fun e => by omega), by assumption⟩
          | exact ⟨_, _, rfl, rfl, ow_new (at_size (by simp) (ow_made (w.alloc (.cells (madeCells #[.int .u64 0, .int .u64 0, .int .i64 0] (K * 3)) 63)) w.heap.size _ _ K _ (by simp) (by omega) (by rw [made_toList, zeros_li]) (by rw [List.length_map, liI_len]))) ((New.refl _).drew), ow_new (ow_made3 w w.heap.size _ K (Nat.le_refl _) (by omega)) (((New.refl _).alloc _).drew), (fun e => by omega), by assumption⟩)
  case rest =>
    obtain ⟨g1, g2, rfl, rfl, ho1, ho2, hg12, hn9⟩ := hcut
    clear hmk hmk2
    have HO1 := Lib.hid ho1
    have HO2 := Lib.hid ho2
    have HN9 := Lib.hid hn9
    have HG12 : Hid (w.heap.size ≤ g1 ∧ w.heap.size ≤ g2 ∧ g1 ≠ g2) := Lib.hid ⟨(ow_in ho1).1, (ow_lt3 ho2).1, hg12⟩
    have HLT : Hid (g1 < wc.heap.size ∧ g2 < wc.heap.size) := Lib.hid ⟨(ow_in ho1).2.1, (ow_lt3 ho2).2.1⟩
    replace HT0 := Lib.hid (HT0.out wc hn9)
    clear ho1 ho2 hg12 hn9
    go_wp2_with fail
    go_loopw [35] (fun iv wr => ∃ (q : Nat) (ds : List Drw) (k g : Nat), q ≤ K ∧ iv = .int .i64 (q : Int) ∧ Hid (drS l (lmP n K) q = some (ds, k)) ∧ wr.ownsRow w.heap.size 3 1 (.slice (some ⟨g1, 0, none⟩) K K) K ((cqL ds K).map fun x => .int .i64 x) ∧ wr.ownsRow w.heap.size 63 3 (.slice (some ⟨g2, 0, none⟩) K K) K (drCs (dpL ds K)) ∧ Tape wr b g l k ∧ But2 b g0 w wr ∧ Hid ((g = g0 ∨ w.heap.size ≤ g) ∧ g1 ≠ g ∧ g2 ≠ g)) (fun iv _ => K - (intOf iv).toNat)
    case atStart => exact ⟨0, [], 0, g0, Nat.zero_le _, rfl, Lib.hid rfl, HO1.out, HO2.out, HT0.out, But2.of_new HN9.out, Lib.hid ⟨.inl rfl, by have := HG12.out; have := HBL.out; omega, by have := HG12.out; have := HBL.out; omega⟩⟩
    case round =>
      clear HT0 HO1 HO2
      obtain ⟨q, ds, k, g, hq, rfl, HS, ho1, ho2, ht, hb2, HG⟩ := hrel
      have HO1 := Lib.hid ho1
      have HO2 := Lib.hid ho2
      have HT := Lib.hid ht
      have HB := Lib.hid hb2
      obtain ⟨wq, hwq⟩ : ∃ z, z = wr := ⟨_, rfl⟩
      rw [← hwq] at HO1 HO2 HT HB ⊢
      clear ho1 ho2 ht hb2 hwq
      have hdl := (drS_len HS.out).1
      by_cases hlt : (q : Int) < (K : Int)
      · have hq0 : (0 : Int) ≤ (q : Int) := by omega
        obtain ⟨s, hs⟩ : ∃ s, n - q = s := ⟨_, rfl⟩
        have hs1 : (n : Int) - (q : Int) = (s : Int) := by omega
        have hgl : (lmP n K).getD q 0 = BitVec.ofNat 64 s := by rw [lmP_get (by omega), hs]
        obtain ⟨hs0, hsn⟩ := ofNat_pos (r := s) (by omega) (by omega)
        have HX := Lib.hid (fun j h1 h2 h3 h4 => drS_next (j := j) HS.out h1 h2 h3 h4)
        have HF := Lib.hid (fun h3 => drS_few HS.out (drS_len HS.out).2 h3)
        rw [hgl] at HX HF
        have HTK : Hid (∀ x : BitVec 64, takO x (BitVec.ofNat 64 s) = takN x (BitVec.ofNat 64 s)) := Lib.hid (fun x => if_neg hs0)
        have HTL : Hid (∀ x : BitVec 64, (telN x (BitVec.ofNat 64 s)).toNat < s) := Lib.hid (fun x => by have := tel_lt x _ hs0; rwa [hsn] at this)
        have HC := Lib.hid (fun w' (h : New wq w') => take_l b g l k (BitVec.ofNat 64 s) hs0 w' (HT.out.stay h))
        have HDL := Lib.hid hdl
        clear hgl hs0 hsn hdl
        obtain ⟨lim, hlim⟩ : ∃ z, BitVec.ofNat 64 s = z := ⟨_, rfl⟩
        rw [hlim] at HX HF HTK HTL HC
        have HWQ : Hid (g1 < wq.heap.size ∧ g2 < wq.heap.size) := Lib.hid ⟨(ow_in HO1.out).2.1, (ow_lt3 HO2.out).2.1⟩
        go_wp2_with fail
        refine (HC.out wq (New.refl _)).mono ?_
        rintro e w8 (⟨j, h1, h2, h3, h4, rfl, g', ht8, hb8, hg8⟩ | ⟨h3, rfl, g', ht8, hb8, hg8⟩)
        · have HD := Lib.hid (HX.out j h1 h2 (fun i a b => by rw [HTK.out]; exact h3 i a b) (by rw [HTK.out]; exact h4))
          have HDW : Hid (drw l lim k j = (telN (l.getD j 0) lim, rnkN (l.getD j 0) lim, j + 1 - k)) := Lib.hid rfl
          have hxl := HTL.out (l.getD j 0)
          obtain ⟨x, hx⟩ : ∃ z, telN (l.getD j 0) lim = z := ⟨_, rfl⟩
          obtain ⟨y, hy⟩ : ∃ z, rnkN (l.getD j 0) lim = z := ⟨_, rfl⟩
          obtain ⟨u, hu⟩ : ∃ z, j + 1 - k = z := ⟨_, rfl⟩
          rw [hx] at hxl
          rw [hx, hy, hu] at HDW ⊢
          rw [HDW.out] at HD
          obtain ⟨t, htx⟩ : ∃ t, x.toNat = t := ⟨_, rfl⟩
          rw [htx] at hxl
          have hx1 : wrap64 (W64 x) = (t : Int) := by unfold W64 wrap64; omega
          have HCS : Hid (cqL (ds ++ [(x, y, u)]) K = (cqL ds K).set q ((t : Nat) : Int)) := Lib.hid (by
            rw [cqL_set HDL.out (by omega)]
            show (cqL ds K).set q ((x.toNat : Nat) : Int) = _
            rw [htx])
          have HDS : Hid (drCs (dpL (ds ++ [(x, y, u)]) K) = (((drCs (dpL ds K)).set (q * 3) (.int .u64 (W64 x))).set (q * 3 + 1) (.int .u64 (W64 y))).set (q * 3 + 2) (.int .i64 (u : Int))) := Lib.hid (by
            rw [← dpL_set HDL.out (by omega), drCs_set _ _ _ (by rw [dpL_len (by have := HDL.out; omega)]; omega)])
          clear hx hy hu HDW HX HF HTK HTL HC h1 h2 h3 h4 htx
          have hgl := HG.out
          have hwq := HWQ.out
          have hb0 := HBL.out.1
          have hg0 := HG12.out
          have o1 := ow_blk HO1.out (w' := w8) (fun z hz => by
            have e : g1 = z := by simpa [Value.ownBlock] using hz
            subst e
            exact hb8.block _ hwq.1 (by omega) hgl.2.1)
          have o2 := ow_blk HO2.out (w' := w8) (fun z hz => by
            have e : g2 = z := by simpa [Value.ownBlock] using hz
            subst e
            exact hb8.block _ hwq.2 (by omega) hgl.2.2)
          have hbs := HB.out.step hgl.1 hb8
          have hne1 : g1 ≠ g' := by rcases hg8 with e | e <;> omega
          have hne2 : g2 ≠ g' := by rcases hg8 with e | e <;> omega
          obtain ⟨W9, hW9⟩ : ∃ z, w8.alloc (.cells #[.int .u64 (W64 x), .int .u64 (W64 y), .int .i64 (u : Int)] 63) = z := ⟨_, rfl⟩
          have hb1 := heap_alloc_new w8 (.cells #[.int .u64 (W64 x), .int .u64 (W64 y), .int .i64 (u : Int)] 63)
          rw [hW9] at hb1
          have hN9 : New w8 W9 := by rw [← hW9]; exact (New.refl _).alloc _
          have d0 : W9.cell? ⟨w8.heap.size, 0, none⟩ = some (.int .u64 (W64 x)) := cell_of_row _ _ 0 _ _ _ hb1
          have d1 : W9.cell? ⟨w8.heap.size, 1, none⟩ = some (.int .u64 (W64 y)) := cell_of_row _ _ 1 _ _ _ hb1
          have d2 : W9.cell? ⟨w8.heap.size, 2, none⟩ = some (.int .i64 (u : Int)) := cell_of_row _ _ 2 _ _ _ hb1
          have p1 := ow_new o1 hN9
          have p2 := ow_new o2 hN9
          have HT9 := Lib.hid (ht8.stay hN9)
          have HB9 := Lib.hid (hbs.then hN9)
          have hsz8 := hb8.size
          have hn81 : ¬ w8.heap.size = g1 := by omega
          have hn82 : ¬ w8.heap.size = g2 := by omega
          have hn18 : ¬ g1 = w8.heap.size := by omega
          have hn28 : ¬ g2 = w8.heap.size := by omega
          have hn12 : ¬ g1 = g2 := hg0.2.2
          have hn21 : ¬ g2 = g1 := fun e => hg0.2.2 e.symm
          obtain ⟨c1, f1⟩ := ow_int p1 (k := q) (by omega)
          obtain ⟨⟨e0, e1, e2⟩, f2⟩ := ow_three p2 (k := q) (by omega)
          have f20 := f2 (q * 3)
          have f21 := f2 (q * 3 + 1)
          have f22 := f2 (q * 3 + 2)
          have HP1 := Lib.hid p1
          have HP2 := Lib.hid p2
          have GG : Hid ((g' = g0 ∨ w.heap.size ≤ g') ∧ g1 ≠ g' ∧ g2 ≠ g') := Lib.hid ⟨by rcases hg8 with e | e <;> rcases hgl.1 with e2 | e2 <;> omega, hne1, hne2⟩
          clear hb1 o1 o2 hbs ht8 hb8 hgl hg8 HT HO1 HB f2 p1 p2 hN9 hg0 hwq hsz8
          go_wp2_with fail
          clear hW9
          go_region
          have hg0 := HG12.out
          have HV1 : Hid ((((((W9.setCell ⟨g1, q, none⟩ (.int .i64 (t : Nat))).setCell ⟨g2, q * 3, none⟩ (.int .u64 (W64 x))).setCell ⟨g2, q * 3 + 1, none⟩ (.int .u64 (W64 y))).setCell ⟨g2, q * 3 + 2, none⟩ (.int .i64 (u : Int))).drew).ownsRow w.heap.size 3 1 (.slice (some ⟨g1, 0, none⟩) K K) K ((cqL (ds ++ [(x, y, u)]) K).map fun x => .int .i64 x)) := Lib.hid (by
            have hv : (Value.slice (some ⟨g1, 0, none⟩) K K).ownBlock ≠ some g2 := by simp [Value.ownBlock]; exact hn12
            rw [HCS.out, List.map_set]
            exact ow_new (ow_far (ow_far (ow_far (ow_set HP1.out q (.int .i64 (t : Nat))) (a := ⟨g2, q * 3, none⟩) hv _) (a := ⟨g2, q * 3 + 1, none⟩) hv _) (a := ⟨g2, q * 3 + 2, none⟩) hv _) (New.refl _).drew)
          have HV2 : Hid ((((((W9.setCell ⟨g1, q, none⟩ (.int .i64 (t : Nat))).setCell ⟨g2, q * 3, none⟩ (.int .u64 (W64 x))).setCell ⟨g2, q * 3 + 1, none⟩ (.int .u64 (W64 y))).setCell ⟨g2, q * 3 + 2, none⟩ (.int .i64 (u : Int))).drew).ownsRow w.heap.size 63 3 (.slice (some ⟨g2, 0, none⟩) K K) K (drCs (dpL (ds ++ [(x, y, u)]) K))) := Lib.hid (by
            have hv : (Value.slice (some ⟨g2, 0, none⟩) K K).ownBlock ≠ some g1 := by simp [Value.ownBlock]; exact hn21
            rw [HDS.out]
            exact ow_new ((((ow_far3 HP2.out (a := ⟨g1, q, none⟩) hv (.int .i64 (t : Nat))).stored (q * 3) _).1.stored (q * 3 + 1) _).1.stored (q * 3 + 2) _).1 (New.refl _).drew)
          have HV3 : Hid (Tape (((((W9.setCell ⟨g1, q, none⟩ (.int .i64 (t : Nat))).setCell ⟨g2, q * 3, none⟩ (.int .u64 (W64 x))).setCell ⟨g2, q * 3 + 1, none⟩ (.int .u64 (W64 y))).setCell ⟨g2, q * 3 + 2, none⟩ (.int .i64 (u : Int))).drew) b g' l (j + 1)) := Lib.hid (((((HT9.out.put (r := g1) (by omega) hne1 q _).put (r := g2) (by omega) hne2 (q * 3) _).put (r := g2) (by omega) hne2 (q * 3 + 1) _).put (r := g2) (by omega) hne2 (q * 3 + 2) _).stay (New.refl _).drew)
          have HV4 : Hid (But2 b g0 w (((((W9.setCell ⟨g1, q, none⟩ (.int .i64 (t : Nat))).setCell ⟨g2, q * 3, none⟩ (.int .u64 (W64 x))).setCell ⟨g2, q * 3 + 1, none⟩ (.int .u64 (W64 y))).setCell ⟨g2, q * 3 + 2, none⟩ (.int .i64 (u : Int))).drew)) := Lib.hid (((((HB9.out.fresh (p := ⟨g1, q, none⟩) hg0.1 _).fresh (p := ⟨g2, q * 3, none⟩) hg0.2.1 _).fresh (p := ⟨g2, q * 3 + 1, none⟩) hg0.2.1 _).fresh (p := ⟨g2, q * 3 + 2, none⟩) hg0.2.1 _).then (New.refl _).drew)
          clear hg0 d0 d1 d2 c1 f1 e0 e1 e2 f20 f21 f22 HP1 HP2 HT9 HB9
          obtain ⟨V, hV⟩ : ∃ z, ((((W9.setCell ⟨g1, q, none⟩ (.int .i64 (t : Nat))).setCell ⟨g2, q * 3, none⟩ (.int .u64 (W64 x))).setCell ⟨g2, q * 3 + 1, none⟩ (.int .u64 (W64 y))).setCell ⟨g2, q * 3 + 2, none⟩ (.int .i64 (u : Int))).drew = z := ⟨_, rfl⟩
          rw [hV] at HV1 HV2 HV3 HV4 ⊢
          clear hV
          go_wp2
          exact ⟨⟨q + 1, _, _, g', by omega, by go_num, HD, HV1.out, HV2.out, HV3.out, HV4.out, GG⟩, by simp [intOf]; omega⟩
        · have HD := Lib.hid (HF.out (fun i a b => by rw [HTK.out]; exact h3 i a b))
          have HNO : Hid (drS l (lmP n K) K = none) := Lib.hid (by
            have := drS_none HD.out (K - (q + 1))
            rw [show q + 1 + (K - (q + 1)) = K by omega] at this
            exact this)
          have HAF : Hid (After w (w8.alloc (.cells #[.int .u64 0, .int .u64 0, .int .i64 0] 63)) b g0 l l.length) := Lib.hid ⟨g', ht8.stay ((New.refl _).alloc _), (HB.out.step HG.out.1 hb8).then ((New.refl _).alloc _), by
            have h9 := HG.out.1
            have h8 := HB.out.size
            rcases hg8 with e | e <;> rcases h9 with e2 | e2 <;> omega⟩
          clear HX HF HTK HTL HC h3 ht8 hb8 hg8
          go_wp2
          go_ret3
          exact .inr ⟨HNO.out, rfl, HAF.out⟩
      · obtain rfl : q = K := by omega
        have HRP := Lib.hid (cdS_rp (by omega) hK HS.out)
        obtain ⟨a1, c1, he, hz⟩ := ZRow.of_owns HO1.out (by omega) (by
          rw [cqL_all hdl]
          exact in64_li _ (fun x hx => by have := lmP_lt (by omega) hK HS.out x hx; omega))
        cases he
        rw [cqL_all hdl] at hz
        obtain ⟨a2, c2, he, hk⟩ := KRow.of_owns HO2.out (by omega)
        cases he
        rw [dpL_all hdl] at hk
        have HPK := Lib.hid (pick_ok n hn _ _ _ _ wq hz HRP.out)
        have HK := Lib.hid hk
        clear hz hk
        go_wp2_with fail
        refine (HPK.out).mono ?_
        rintro e w8 ⟨a3, c3, rfl, hz3, hnw⟩
        have HZR := Lib.hid hz3
        replace HK := Lib.hid (HK.out.stay hnw)
        have HAF : Hid (After w w8 b g0 l k) := Lib.hid ⟨g, HT.out.stay hnw, HB.out.then hnw, HG.out.1⟩
        clear hz3 hnw HPK
        go_wp2
        go_ret3
        exact .inl ⟨ds, k, _, _, _, _, HS.out, rfl, HZR.out, HK.out, HAF.out⟩
end Go.Proofs.Ytaajphopnmdmcaa
