/- subset: ascending lists, the numbers that are left; Move. -/
import Derived.Test.YtaajphopnmdmcaaMovM
import Derived.Test.YtaajphopnmdmcaaSubI
namespace Go.Proofs.Ytaajphopnmdmcaa
open Go Go.RowKit Go.Bv
set_option linter.unusedVariables false
theorem idx_any (a : Option Addr) (m cap : Nat) (v : Int) (l : List Int) (w : World) (h : ZRow w a m cap l) :
    Calls Try.prog 74 #[.slice a m cap, .int .i64 v] w fun e w' => ∃ z : Int, e = .returned (.int .i64 z) ∧ (0 ≤ z ↔ v ∈ l) ∧ w' = w := by
  have hm := h.most
  have HH := Lib.hid h
  have HNO : Hid ((∀ i, i < m → l.getD i 0 ≠ v) → ¬ v ∈ l) := Lib.hid (fun h2 h3 => by
    obtain ⟨j, hj, he⟩ := mem_at.1 h3
    exact h2 j (by rw [← h.len_eq]; exact hj) he)
  have HYES : Hid (∀ i, i < m → l.getD i 0 = v → v ∈ l) := Lib.hid (fun i hi he => mem_at.2 ⟨i, by rw [h.len_eq]; exact hi, he⟩)
  clear h
  go_enter Try.func74, Try.ntmps74
  go_wp2_with fail
  go_loop [8] (fun iv => ∃ j : Nat, j ≤ m ∧ iv = .int .i64 (j : Int) ∧ Hid (∀ i, i < j → l.getD i 0 ≠ v)) (fun iv => m - (intOf iv).toNat)
  case atStart => exact ⟨0, Nat.zero_le _, rfl, Lib.hid (fun i hi => by omega)⟩
  case round =>
    obtain ⟨j, hj, rfl, HJ⟩ := hrel
    by_cases hlt : (j : Int) < (m : Int)
    · have hj0 : (0 : Int) ≤ (j : Int) := by omega
      obtain ⟨b, off, rfl, hc⟩ := HH.out.addr (by omega)
      have c1 := hc j (by omega)
      clear hc
      obtain ⟨x, hx⟩ : ∃ x, l.getD j 0 = x := ⟨_, rfl⟩
      rw [hx] at c1
      have HX := Lib.hid hx
      clear hx
      by_cases he : v = x
      · subst he
        have HF := Lib.hid (HYES.out j (by omega) HX.out)
        have hb : (v == v) = true := by simp
        go_wp2
        go_ret
        exact ⟨_, rfl, ⟨fun _ => HF.out, fun _ => hj0⟩, rfl⟩
      · have hb : (v == x) = false := by rw [beq_eq_false_iff_ne]; exact he
        have HF : Hid (∀ i, i < j + 1 → l.getD i 0 ≠ v) := Lib.hid (fun i hi => by
          by_cases e : i = j
          · subst e; rw [HX.out]; exact fun h => he h.symm
          · exact HJ.out i (by omega))
        go_wp2
        exact ⟨⟨j + 1, by omega, by go_num, HF⟩, by simp [intOf]; omega⟩
    · obtain rfl : j = m := by omega
      have HF := Lib.hid (HNO.out HJ.out)
      go_wp2
      go_ret
      exact ⟨_, rfl, ⟨fun h => absurd h (by decide), fun h => absurd h HF.out⟩, rfl⟩
theorem has_q (a : Option Addr) (m cap : Nat) (v : Int) (l : List Int) (w : World) (h : ZRow w a m cap l) :
    Calls Try.prog 55 #[.slice a m cap, .int .i64 v] w fun e w' => e = .returned (.bool (l.contains v)) ∧ w' = w := by
  have HI := Lib.hid (idx_any a m cap v l w h)
  clear h
  go_enter Try.func55, Try.ntmps55
  go_wp2_with fail
  refine HI.out.mono ?_
  rintro e w' ⟨z, rfl, hz, hw⟩
  replace hw := hw.symm
  subst hw
  have HZ := Lib.hid hz
  clear hz HI
  by_cases h0 : 0 ≤ z
  · have HC : Hid (l.contains v = true) := Lib.hid (by simpa using HZ.out.1 h0)
    have hd : decide (0 ≤ z) = true := decide_eq_true h0
    go_wp2
    go_ret
    rw [HC.out]; first | exact ⟨rfl, rfl⟩ | (rw [hd]; exact ⟨rfl, rfl⟩) | exact ⟨by simp [h0], rfl⟩
  · have HC : Hid (l.contains v = false) := Lib.hid (by
      rw [← Bool.not_eq_true]
      intro h9
      exact h0 (HZ.out.2 (by simpa using h9)))
    have hd : decide (0 ≤ z) = false := decide_eq_false h0
    go_wp2
    go_ret
    rw [HC.out]; first | exact ⟨rfl, rfl⟩ | (rw [hd]; exact ⟨rfl, rfl⟩) | exact ⟨by simp [h0], rfl⟩
theorem rem_q (n : Nat) (w : World) :
    Calls Try.prog 45 #[.int .i64 (n : Int)] w fun e w' => e = .returned (.func (Fn.func 54) #[] #[.pointer (some ⟨w.heap.size, 0, none⟩)]) ∧ w'.heap[w.heap.size]? = some (.cells #[.int .i64 (n : Int)] 3 (0, 0)) ∧ New w w' := by
  have H1 := Lib.hid (heap_alloc_new w (.cells #[.int .i64 (n : Int)] 3))
  go_enter Try.func45, Try.ntmps45
  go_wp2
  go_ret
  exact ⟨rfl, H1.out, (New.refl w).alloc _⟩
def rsI (s : List Int) (x : Nat) : List Int := (rsN s x).map fun y : Nat => (y : Int)
theorem rsI_len (s : List Int) (x : Nat) : (rsI s x).length = (rsN s x).length := by unfold rsI; rw [List.length_map]
set_option maxRecDepth 100000 in
set_option maxHeartbeats 2000000 in
theorem rem1_q (n : Nat) (hn : n ≤ 100000) (b : Nat) (a : Option Addr) (m c : Nat) (s : List Int) (w : World) (h : ZRow w a m c s) (hb : w.heap[b]? = some (.cells #[.int .i64 (n : Int)] 3 (0, 0))) :
    Calls Try.prog 54 #[.slice a m c, .pointer (some ⟨b, 0, none⟩)] w fun e w' => ∃ a' c', e = .returned (.slice a' ((rsN s n).length : Nat) c') ∧ ZRow w' a' (rsN s n).length c' (rsI s n) ∧ New w w' := by
  obtain ⟨i0, hi, hz0, hz1, hz2⟩ := info_parts info_int40
  have HH := Lib.hid h
  have k0 := cell_of_row _ _ 0 _ _ _ hb
  have HLE : Hid (∀ x, x ≤ n → (rsN s x).length ≤ n) := Lib.hid (fun x hx => by
    unfold rsN
    have := List.length_filter_le (fun y : Nat => !s.contains (y : Int)) (List.range x)
    rw [List.length_range] at this
    omega)
  have HIN : Hid (∀ z ∈ rsI s n, In64 z) := Lib.hid (fun z hz => by
    unfold rsI at hz
    rw [List.mem_map] at hz
    obtain ⟨y, hy, rfl⟩ := hz
    have := (rsN_mem.1 hy).1
    unfold In64; omega)
  clear h hb
  go_enter Try.func54, Try.ntmps54
  go_wp2_with fail
  go_loopw [4, 7] (fun v iv wr => ∃ x : Nat, x ≤ n ∧ iv = .int .i64 (x : Int) ∧ wr.ownsRow w.heap.size 3 1 v (rsN s x).length ((rsI s x).map fun x => .int .i64 x) ∧ New w wr) (fun _ iv _ => n - (intOf iv).toNat)
  case atStart =>
    have e0 : rsN s 0 = [] := rfl
    have e1 : rsI s 0 = [] := rfl
    refine ⟨0, Nat.zero_le _, rfl, ?_, New.refl _⟩
    rw [e0, e1]
    exact World.ownsRow_nil _ _ _ 1
  case round =>
    obtain ⟨x, hx, rfl, hown, hnew⟩ := hrel
    obtain ⟨wq, hwq⟩ : ∃ z, z = wr := ⟨_, rfl⟩
    rw [← hwq] at hown hnew ⊢
    clear hwq
    by_cases hlt : (x : Int) < (n : Int)
    · have hx0 : (0 : Int) ≤ (x : Int) := by omega
      have HC := Lib.hid (has_q a m c (x : Int) s wq (HH.out.stay hnew))
      have hle := HLE.out x hx
      have HSU := Lib.hid (rsN_succ s x)
      by_cases hs : (x : Int) ∈ s
      · have hsc : s.contains (x : Int) = true := by simpa using hs
        rw [hsc] at HC
        have HE : Hid (rsN s (x + 1) = rsN s x) := Lib.hid (by rw [HSU.out, if_pos hs, List.append_nil])
        have HO2 : Hid (wq.ownsRow w.heap.size 3 1 u4 (rsN s (x + 1)).length ((rsI s (x + 1)).map fun x => .int .i64 x)) := Lib.hid (by
          unfold rsI; rw [HE.out]; exact hown)
        clear hown hs hsc
        go_wp2_with fail
        refine HC.out.mono ?_
        rintro e w' ⟨rfl, hw⟩
        replace hw := hw.symm
        subst hw
        clear HC
        go_wp2
        exact ⟨⟨x + 1, by omega, by go_num, HO2.out, hnew⟩, by simp [intOf]; omega⟩
      · have hsc : s.contains (x : Int) = false := by simpa using hs
        rw [hsc] at HC
        have HE : Hid (rsN s (x + 1) = rsN s x ++ [x]) := Lib.hid (by rw [HSU.out, if_neg hs])
        obtain ⟨q, hq⟩ : ∃ q, (rsN s x).length = q := ⟨_, rfl⟩
        have HQL : Hid ((rsN s (x + 1)).length = q + 1) := Lib.hid (by rw [HE.out, List.length_append, hq]; rfl)
        have HRI : Hid ((rsI s (x + 1)).map (fun x => Value.int .i64 x) = ((rsI s x).map fun x => Value.int .i64 x) ++ [.int .i64 (x : Int)]) := Lib.hid (by
          unfold rsI; rw [HE.out, List.map_append, List.map_append]; rfl)
        rw [hq] at hown hle
        have hq256 : q ≤ 100000 := by omega
        clear hs hsc hq HSU
        go_wp2_with fail
        refine HC.out.mono ?_
        rintro e w' ⟨rfl, hw⟩
        replace hw := hw.symm
        subst hw
        clear HC
        go_wp2_with (at_builtin; refine wpList_append_own _ rfl _ _ 22 rfl w.heap.size 3 i0 (.int .i64 0) 1 8 Try.underlying22 hi hz0 hz1 hz2 rfl (by decide) _ q _ rfl (hown.alloc _) ⟨wq.heap.size, 0, none⟩ 1 1 [.int .i64 (x : Int)] rfl rfl ?c1 ?c2 ?c3 ?c4 ?c5 ?_)
        try (case c1 => exact one_cell wq _ _)
        try (case c2 => first | rfl | (intro u hu; simp at hu; subst hu; rfl))
        try (case c3 => first | (unfold maxLen; omega) | omega)
        try (case c4 => omega)
        try (case c5 => first | (simp; have := hnew.le; omega) | (have := hnew.le; omega))
        intro v' w9 how hgr _
        have HO2 : Hid (w9.ownsRow w.heap.size 3 1 v' (rsN s (x + 1)).length ((rsI s (x + 1)).map fun x => .int .i64 x)) := Lib.hid (by
          rw [HQL.out, HRI.out]; exact how)
        have HN1 := Lib.hid ((hnew.alloc _).grown' hgr (own_base hown))
        clear how hgr hown hnew
        go_wp2
        exact ⟨⟨x + 1, by omega, by go_num, HO2.out, HN1.out⟩, by simp [intOf]; omega⟩
    · obtain rfl : x = n := by omega
      obtain ⟨a', c', rfl, hz⟩ := ZRow.of_owns hown (by have := HLE.out x (Nat.le_refl _); omega) HIN.out
      have HZ := Lib.hid hz
      have HN := Lib.hid hnew
      clear hown hz hnew
      go_wp2
      go_ret
      exact ⟨_, _, rfl, HZ.out, HN.out⟩
/-- each number is greater than the one before it -/
def acB (l : List Int) : Nat → Bool
  | 0 => true
  | k + 1 => acB l k && (decide (k = 0) || decide (l.getD (k - 1) 0 < l.getD k 0))
theorem acB_iff {l : List Int} : ∀ {m}, acB l m = true ↔ ∀ k, 0 < k → k < m → l.getD (k - 1) 0 < l.getD k 0
  | 0 => ⟨fun _ k _ h => by omega, fun _ => rfl⟩
  | m + 1 => by
    show (acB l m && (decide (m = 0) || decide (l.getD (m - 1) 0 < l.getD m 0))) = true ↔ _
    rw [Bool.and_eq_true, Bool.or_eq_true, decide_eq_true_eq, decide_eq_true_eq, acB_iff (m := m)]
    constructor
    · rintro ⟨h1, h2⟩ k hk hkm
      by_cases e : k = m
      · subst e
        rcases h2 with h2 | h2
        · omega
        · exact h2
      · exact h1 k hk (by omega)
    · intro h
      refine ⟨fun k h1 h2 => h k h1 (by omega), ?_⟩
      by_cases e : m = 0
      · exact .inl e
      · exact .inr (h m (by omega) (by omega))
theorem acB_no {l : List Int} {m k : Nat} (h0 : 0 < k) (hk : k < m) (h : l.getD k 0 ≤ l.getD (k - 1) 0) : acB l m = false := by
  rw [← Bool.not_eq_true, acB_iff]
  intro h2
  have := h2 k h0 hk
  omega
set_option maxRecDepth 100000 in
set_option maxHeartbeats 2000000 in
theorem asc_q (a : Option Addr) (m c : Nat) (l : List Int) (w : World) (h : ZRow w a m c l) :
    Calls Try.prog 44 #[.slice a m c] w fun e w' => e = .returned (.bool (acB l m)) ∧ New w w' := by
  have hm := h.most
  have HH := Lib.hid h
  have HNO : Hid (∀ k, 0 < k → k < m → l.getD k 0 ≤ l.getD (k - 1) 0 → acB l m = false) := Lib.hid (fun k h1 h2 h3 => acB_no h1 h2 h3)
  have HYES : Hid ((∀ k, 0 < k → k < m → l.getD (k - 1) 0 < l.getD k 0) → acB l m = true) := Lib.hid (fun h => acB_iff.2 h)
  clear h
  go_enter Try.func44, Try.ntmps44
  go_wp2_with fail
  go_loopw [3] (fun iv wr => ∃ k : Nat, 0 < k ∧ (k ≤ m ∨ k = 1) ∧ iv = .int .i64 (k : Int) ∧ Hid (∀ i, 0 < i → i < k → i < m → l.getD (i - 1) 0 < l.getD i 0) ∧ New w wr) (fun iv _ => m - (intOf iv).toNat)
  case atStart => exact ⟨1, by omega, .inr rfl, rfl, Lib.hid (fun i h1 h2 => by omega), New.refl _⟩
  case round =>
    obtain ⟨k, hk0, hk, rfl, HJ, hnew⟩ := hrel
    by_cases hlt : (k : Int) < (m : Int)
    · have hk1 : (0 : Int) ≤ (k : Int) := by omega
      obtain ⟨j, hj⟩ : ∃ j, k - 1 = j := ⟨_, rfl⟩
      have hkj : (k : Int) - 1 = (j : Int) := by omega
      have hj0 : (0 : Int) ≤ (j : Int) := by omega
      have hjm : (j : Int) < (m : Int) := by omega
      obtain ⟨b, off, rfl, hc⟩ := (HH.out.stay hnew).addr (by omega)
      have c1 := hc k (by omega)
      have c2 := hc j (by omega)
      clear hc
      have HN9 := Lib.hid (HNO.out k hk0 (by omega))
      rw [hj] at HN9
      obtain ⟨x, hx⟩ : ∃ x, l.getD k 0 = x := ⟨_, rfl⟩
      obtain ⟨y, hy⟩ : ∃ y, l.getD j 0 = y := ⟨_, rfl⟩
      rw [hx] at c1
      rw [hy] at c2
      rw [hx, hy] at HN9
      have HX := Lib.hid hx
      have HY := Lib.hid hy
      have HJE := Lib.hid hj
      clear hx hy hj
      have HNW := Lib.hid hnew
      clear hnew
      by_cases he : x ≤ y
      · have HF := Lib.hid (HN9.out he)
        go_wp2_with fail
        go_quiet (fail)
        go_wp2
        go_ret
        rw [HF.out]; exact ⟨rfl, HNW.out.drewN nq⟩
      · have HF : Hid (∀ i, 0 < i → i < k + 1 → i < m → l.getD (i - 1) 0 < l.getD i 0) := Lib.hid (fun i h1 h2 h3 => by
          by_cases e : i = k
          · subst e; rw [HJE.out, HX.out, HY.out]; omega
          · exact HJ.out i h1 (by omega) h3)
        go_wp2_with fail
        go_quiet (fail)
        go_wp2
        exact ⟨⟨k + 1, by omega, .inl (by omega), by go_num, HF.out, HNW.out.drewN nq⟩, by simp [intOf]; omega⟩
    · have HF := Lib.hid (HYES.out (fun i h1 h2 => HJ.out i h1 (by omega) h2))
      go_wp2
      go_ret
      rw [HF.out]; exact ⟨rfl, hnew⟩
set_option maxRecDepth 100000 in
set_option maxHeartbeats 2000000 in
theorem rises_q (N : Nat) (hN : N ≤ 100000) (a : Option Addr) (m c : Nat) (l : List Int) (w : World) (h : ZRow w a m c l) (hm : m ≤ 17592186044416) :
    Calls Try.prog 27 #[.int .i64 (N : Int), .slice a m c] w fun e w' => e = .returned (.bool (ipB N l && acB l m)) ∧ New w w' := by
  have HI := Lib.hid (isr_41 N hN a m c l w h hm)
  have HH := Lib.hid h
  have HLL := Lib.hid h.len_eq
  clear h
  rcases hp : ipB N l with _ | _
  · rw [hp] at HI
    clear hp
    go_enter Try.func27, Try.ntmps27
    go_wp2_with fail
    refine HI.out.mono ?_
    rintro e w' ⟨rfl, hw⟩
    replace hw := hw.symm
    subst hw
    go_wp2
    go_ret
    exact ⟨rfl, New.refl _⟩
  rw [hp] at HI
  have HD : Hid (∀ k, 0 < k → k < m → l.getD (k - 1) 0 ≠ l.getD k 0) := Lib.hid (fun k h1 h2 => (ipB_iff.1 hp).2 (k - 1) k (by omega) (by rw [HLL.out]; exact h2))
  have HNO : Hid (∀ k, 0 < k → k < m → l.getD k 0 ≤ l.getD (k - 1) 0 → acB l m = false) := Lib.hid (fun k h1 h2 h3 => acB_no h1 h2 h3)
  have HYES : Hid ((∀ k, 0 < k → k < m → l.getD (k - 1) 0 < l.getD k 0) → acB l m = true) := Lib.hid (fun h => acB_iff.2 h)
  rw [Bool.true_and]
  clear hp
  go_enter Try.func27, Try.ntmps27
  go_wp2_with fail
  refine HI.out.mono ?_
  rintro e w' ⟨rfl, hw⟩
  replace hw := hw.symm
  subst hw
  clear HI
  go_wp2_with fail
  go_loopw [5] (fun iv wr => ∃ k : Nat, 0 < k ∧ (k ≤ m ∨ k = 1) ∧ iv = .int .i64 (k : Int) ∧ Hid (∀ i, 0 < i → i < k → i < m → l.getD (i - 1) 0 < l.getD i 0) ∧ New w wr) (fun iv _ => m - (intOf iv).toNat)
  case atStart => exact ⟨1, by omega, .inr rfl, rfl, Lib.hid (fun i h1 h2 => by omega), New.refl _⟩
  case round =>
    obtain ⟨k, hk0, hk, rfl, HJ, hnew⟩ := hrel
    by_cases hlt : (k : Int) < (m : Int)
    · have hk1 : (0 : Int) ≤ (k : Int) := by omega
      obtain ⟨j, hj⟩ : ∃ j, k - 1 = j := ⟨_, rfl⟩
      have hkj : (k : Int) - 1 = (j : Int) := by omega
      have hj0 : (0 : Int) ≤ (j : Int) := by omega
      have hjm : (j : Int) < (m : Int) := by omega
      obtain ⟨b, off, rfl, hc⟩ := (HH.out.stay hnew).addr (by omega)
      have c1 := hc k (by omega)
      have c2 := hc j (by omega)
      clear hc
      have HN9 := Lib.hid (HNO.out k hk0 (by omega))
      have HD9 := Lib.hid (HD.out k hk0 (by omega))
      rw [hj] at HN9 HD9
      obtain ⟨x, hx⟩ : ∃ x, l.getD k 0 = x := ⟨_, rfl⟩
      obtain ⟨y, hy⟩ : ∃ y, l.getD j 0 = y := ⟨_, rfl⟩
      rw [hx] at c1
      rw [hy] at c2
      rw [hx, hy] at HN9 HD9
      have HX := Lib.hid hx
      have HY := Lib.hid hy
      have HJE := Lib.hid hj
      clear hx hy hj
      have HNW := Lib.hid hnew
      clear hnew
      by_cases he : x < y
      · have HF := Lib.hid (HN9.out (by omega))
        go_wp2_with fail
        go_quiet (fail)
        go_wp2
        go_ret
        rw [HF.out]; exact ⟨rfl, HNW.out.drewN nq⟩
      · have HF : Hid (∀ i, 0 < i → i < k + 1 → i < m → l.getD (i - 1) 0 < l.getD i 0) := Lib.hid (fun i h1 h2 h3 => by
          by_cases e : i = k
          · subst e
            have h9 := HD9.out
            rw [HJE.out, HX.out, HY.out]; omega
          · exact HJ.out i h1 (by omega) h3)
        go_wp2_with fail
        go_quiet (fail)
        go_wp2
        exact ⟨⟨k + 1, by omega, .inl (by omega), by go_num, HF.out, HNW.out.drewN nq⟩, by simp [intOf]; omega⟩
    · have HF := Lib.hid (HYES.out (fun i h1 h2 => HJ.out i h1 (by omega) h2))
      go_wp2
      go_ret
      rw [HF.out]; exact ⟨rfl, hnew⟩
end Go.Proofs.Ytaajphopnmdmcaa
