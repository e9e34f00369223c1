/- subset: which lists are picks; the choices that lead to any pick. · subset.Aim. -/
import Derived.Test.YtaajphopnmdmcaaSubC
import Derived.Test.YtaajphopnmdmcaaSubF
import Derived.Test.YtaajphopnmdmcaaRdwM
namespace Go.Bv
open Go Go.RowKit
set_option linter.unusedVariables false
/-- a pick of n: different numbers below n -/
def ipP (n : Int) (p : List Int) : Prop := (∀ k, k < p.length → 0 ≤ p.getD k 0 ∧ p.getD k 0 < n) ∧ ∀ j k, j < k → k < p.length → p.getD j 0 ≠ p.getD k 0
def ipB (n : Int) (p : List Int) : Bool := (List.range p.length).all fun k => decide (0 ≤ p.getD k 0) && (decide (p.getD k 0 < n) && (List.range k).all fun j => decide (p.getD j 0 ≠ p.getD k 0))
theorem ipB_iff {n : Int} {p : List Int} : ipB n p = true ↔ ipP n p := by
  unfold ipB ipP
  rw [List.all_eq_true]
  constructor
  · intro h
    refine ⟨fun k hk => ?_, fun j k hj hk => ?_⟩
    · have := h k (List.mem_range.2 hk)
      rw [Bool.and_eq_true, Bool.and_eq_true, decide_eq_true_eq, decide_eq_true_eq] at this
      exact ⟨this.1, this.2.1⟩
    · have := h k (List.mem_range.2 hk)
      rw [Bool.and_eq_true, Bool.and_eq_true, List.all_eq_true] at this
      have := this.2.2 j (List.mem_range.2 hj)
      rwa [decide_eq_true_eq] at this
  · rintro ⟨h1, h2⟩ k hk
    have hk := List.mem_range.1 hk
    rw [Bool.and_eq_true, Bool.and_eq_true, decide_eq_true_eq, decide_eq_true_eq, List.all_eq_true]
    refine ⟨(h1 k hk).1, (h1 k hk).2, fun j hj => ?_⟩
    rw [decide_eq_true_eq]
    exact h2 j k (List.mem_range.1 hj) hk
theorem ipB_no {n : Int} {p : List Int} (h : ¬ ipP n p) : ipB n p = false := by rw [← Bool.not_eq_true, ipB_iff]; exact h
theorem s2_congr {J J' : Nat → Nat} : ∀ k, (∀ i, i < k → J i = J' i) → s2 J k = s2 J' k
  | 0, _ => rfl
  | k + 1, h => by
    show sw (s2 J k) k (J k) = sw (s2 J' k) k (J' k)
    rw [s2_congr k (fun i hi => h i (by omega)), h k (by omega)]
/-- every pick comes of choices -/
theorem pk_of {n : Nat} {p : List Int} (h : ipP n p) (hn : p.length ≤ n) : ∀ k, k ≤ p.length → ∃ cl : List Int, cl.length = k ∧ rp2 n cl ∧ ∀ x, x < k → ((s2 (JF cl) k x : Nat) : Int) = p.getD x 0
  | 0, _ => ⟨[], rfl, ⟨Nat.zero_le _, fun i hi => absurd hi (by simp)⟩, fun x hx => by omega⟩
  | k + 1, hk => by
    obtain ⟨cl, hl, hr, he⟩ := pk_of h hn k (by omega)
    have hF := rp2_F hr
    rw [hl] at hF
    obtain ⟨y, hy⟩ : ∃ y : Nat, p.getD k 0 = (y : Int) := ⟨(p.getD k 0).toNat, by have := (h.1 k (by omega)).1; omega⟩
    have hyn : y < n := by have := (h.1 k (by omega)).2; omega
    obtain ⟨j, hj⟩ : ∃ j, i2 (JF cl) k y = j := ⟨_, rfl⟩
    have hjn : j < n := hj ▸ i2_lt hF k (Nat.le_refl _) y hyn
    have hs : s2 (JF cl) k j = y := by rw [← hj]; exact (s2_i2 hF k (Nat.le_refl _)).2 y hyn
    have hkj : k ≤ j := by
      apply Nat.le_of_not_lt
      intro hlt
      have h1 := he j hlt
      rw [hs] at h1
      exact h.2 j k hlt (by omega) (by rw [← h1, hy])
    have hg1 : ∀ i, i < k → (cl ++ [((j - k : Nat) : Int)]).getD i 0 = cl.getD i 0 := fun i hi => by
      rw [List.getD_eq_getElem?_getD, List.getElem?_append_left (by omega), ← List.getD_eq_getElem?_getD]
    have hg2 : (cl ++ [((j - k : Nat) : Int)]).getD k 0 = ((j - k : Nat) : Int) := by
      rw [List.getD_eq_getElem?_getD, List.getElem?_append_right (by omega), hl, Nat.sub_self]; rfl
    have hJ : JF (cl ++ [((j - k : Nat) : Int)]) k = j := by unfold JF; rw [hg2]; omega
    have hc : s2 (JF (cl ++ [((j - k : Nat) : Int)])) k = s2 (JF cl) k := s2_congr k (fun i hi => by unfold JF; rw [hg1 i hi])
    refine ⟨cl ++ [((j - k : Nat) : Int)], by rw [List.length_append, hl]; rfl, ⟨by rw [List.length_append, hl]; show k + 1 ≤ n; omega, fun i hi => ?_⟩, fun x hx => ?_⟩
    · rw [List.length_append, hl] at hi
      have hi : i < k + 1 := hi
      by_cases e : i = k
      · subst e; rw [hg2]; omega
      · rw [hg1 i (by omega)]; exact hr.2 i (by omega)
    · show ((sw (s2 (JF (cl ++ [((j - k : Nat) : Int)])) k) k (JF (cl ++ [((j - k : Nat) : Int)]) k) x : Nat) : Int) = _
      rw [hc, hJ]
      unfold sw
      by_cases e : x = k
      · subst e
        by_cases e2 : x = j
        · rw [if_pos e2]; have hs2 : s2 (JF cl) x x = y := by rw [← hs]; exact congrArg _ e2
          rw [hs2, hy]
        · rw [if_neg e2, if_pos rfl, hs, hy]
      · rw [if_neg (by omega), if_neg e]
        exact he x (by omega)
theorem pk_all {n : Nat} {p : List Int} (h : ipP n p) (hn : p.length ≤ n) : ∃ cl : List Int, cl.length = p.length ∧ rp2 n cl ∧ pkI cl = p := by
  obtain ⟨cl, hl, hr, he⟩ := pk_of h hn p.length (Nat.le_refl _)
  refine ⟨cl, hl, hr, ?_⟩
  apply ints_eq (n := p.length) (by rw [pkI_len, hl]) rfl
  intro i hi
  unfold pkI
  rw [liI_get _ (by omega), hl, he i hi]
theorem pk_ip {n : Nat} {c : List Int} (h : rp2 n c) : ipP n (pkI c) := by
  have h1 := h.1
  have h2 := rp2_F h
  unfold ipP pkI
  rw [liI_len]
  constructor
  · intro k hk
    rw [liI_get _ hk]
    have := s2_lt h2 _ (Nat.le_refl _) k (by omega)
    omega
  · intro j k hj hk he
    rw [liI_get _ (by omega), liI_get _ hk] at he
    have := s2_inj h2 (Nat.le_refl _) (x := j) (y := k) (by omega) (by omega) (by omega)
    omega
end Go.Bv
namespace Go.Proofs.Ytaajphopnmdmcaa
open Go Go.RowKit Go.Bv
set_option linter.unusedVariables false
set_option maxRecDepth 100000 in
set_option maxHeartbeats 2000000 in
theorem ispick_any (N : Nat) (hN : N ≤ 100000) (a : Option Addr) (n c : Nat) (p : List Int) (w : World) (h : ZRow w a n c p) (hn : n ≤ 17592186044416) :
    Calls Try.prog 33 #[.int .i64 (N : Int), .slice a n c] w fun e w' => e = .returned (.bool (ipB N p)) ∧ New w w' := by
  have HLN := Lib.hid h.len_eq
  have HH := Lib.hid h
  have HMK := Lib.hid (make_bool N (by omega))
  have HNO : Hid (∀ k, k < n → p.getD k 0 < 0 ∨ (N : Int) ≤ p.getD k 0 ∨ (∃ y : Nat, p.getD k 0 = (y : Int) ∧ seI p y k = true) → ipB N p = false) := Lib.hid (fun k hk hc => ipB_no (fun hp => by
    have h1 := hp.1 k (by rw [h.len_eq]; exact hk)
    rcases hc with hc | hc | ⟨y, hy, hs⟩
    · omega
    · omega
    · obtain ⟨j, hj, he⟩ := seI_iff.1 hs
      exact hp.2 j k hj (by rw [h.len_eq]; exact hk) (he.trans hy.symm)))
  have HYES : Hid ((∀ k, k < n → (0 ≤ p.getD k 0 ∧ p.getD k 0 < (N : Int)) ∧ ∀ y : Nat, p.getD k 0 = (y : Int) → seI p y k = false) → ipB N p = true) := Lib.hid (fun hc => ipB_iff.2 ⟨fun k hk => (hc k (by rw [← h.len_eq]; exact hk)).1, fun j k hj hk he => by
    rw [h.len_eq] at hk
    have h1 := hc k hk
    obtain ⟨y, hy⟩ : ∃ y : Nat, p.getD k 0 = (y : Int) := ⟨(p.getD k 0).toNat, by omega⟩
    have h2 := h1.2 y hy
    rw [seI_iff.2 ⟨j, hj, he.trans hy⟩] at h2
    cases h2⟩)
  clear h
  go_enter Try.func33, Try.ntmps33
  go_wp2_with fail
  rw [HMK.out _ _ rfl]
  go_wp2_with fail
  go_loopw [12] (fun iv wr => ∃ k : Nat, k ≤ n ∧ iv = .int .i64 (k : Int) ∧ Hid (∀ i, i < k → (0 ≤ p.getD i 0 ∧ p.getD i 0 < (N : Int)) ∧ ∀ y : Nat, p.getD i 0 = (y : Int) → seI p y i = false) ∧ wr.ownsRow w.heap.size 4 1 (.slice (some ⟨w.heap.size, 0, none⟩) N N) N ((seL p N k).map fun x => .bool x) ∧ New w wr) (fun iv _ => n - (intOf iv).toNat)
  case atStart => exact ⟨0, Nat.zero_le _, rfl, Lib.hid (fun i hi => by omega), ow_made w _ _ _ N _ (Nat.le_refl _) (by omega) (by rw [made_toList, seL_zero p]) (by rw [List.length_map, seL_len]), (New.refl w).alloc _⟩
  case round =>
    obtain ⟨k, hk, rfl, HO, hown, hnew⟩ := hrel
    by_cases hlt : (k : Int) < (n : Int)
    · have hk0 : (0 : Int) ≤ (k : Int) := by omega
      obtain ⟨b, off, rfl, hc⟩ := (HH.out.stay hnew).addr (by omega)
      have c1 := hc k (by omega)
      clear hc
      obtain ⟨x, hx⟩ : ∃ x, p.getD k 0 = x := ⟨_, rfl⟩
      rw [hx] at c1
      have HX := Lib.hid hx
      by_cases h1 : x < 0
      · have HF := Lib.hid (HNO.out k (by omega) (.inl (hx ▸ h1)))
        clear hx hown
        go_wp2
        go_ret
        rw [HF.out]; exact ⟨rfl, hnew⟩
      by_cases h2 : (N : Int) ≤ x
      · have HF := Lib.hid (HNO.out k (by omega) (.inr (.inl (hx ▸ h2))))
        clear hx hown
        go_wp2
        go_ret
        rw [HF.out]; exact ⟨rfl, hnew⟩
      obtain ⟨z, rfl⟩ : ∃ z : Nat, x = (z : Int) := ⟨x.toNat, by omega⟩
      have hzN : z < N := by omega
      have HST := Lib.hid (seL_set p N k z hzN hx)
      obtain ⟨hc2, hf2⟩ := ow_bool hown (k := z) hzN
      rw [seL_get p k hzN] at hc2
      have hy0 : (0 : Int) ≤ (z : Int) := by omega
      have hyN : (z : Int) < (N : Int) := by omega
      rcases hs : seI p z k with _ | _
      · rw [hs] at hc2
        have HO9 : Hid (∀ i, i < k + 1 → (0 ≤ p.getD i 0 ∧ p.getD i 0 < (N : Int)) ∧ ∀ y : Nat, p.getD i 0 = (y : Int) → seI p y i = false) := Lib.hid (fun i hi => by
          by_cases e : i = k
          · subst e
            rw [HX.out]
            exact ⟨⟨hy0, hyN⟩, fun y hy => by obtain rfl : z = y := by omega
                                              exact hs⟩
          · exact HO.out i (by omega))
        have HO2 : Hid ((wr.setCell ⟨w.heap.size, z, none⟩ (.bool true)).ownsRow w.heap.size 4 1 (.slice (some ⟨w.heap.size, 0, none⟩) N N) N ((seL p N (k + 1)).map fun x => .bool x)) := Lib.hid (by
          rw [← HST.out, List.map_set]; exact ow_set hown z _)
        have HN2 : Hid (New w (wr.setCell ⟨w.heap.size, z, none⟩ (.bool true))) := Lib.hid (hnew.setCell (Nat.le_refl _) _)
        clear hown hnew hs hx
        go_wp2
        exact ⟨⟨k + 1, by omega, by go_num, HO9.out, HO2.out, HN2.out⟩, by simp [intOf]; omega⟩
      · rw [hs] at hc2
        have HF := Lib.hid (HNO.out k (by omega) (.inr (.inr ⟨z, hx, hs⟩)))
        clear hx hown hs
        go_wp2
        go_ret
        rw [HF.out]; exact ⟨rfl, hnew⟩
    · obtain rfl : k = n := by omega
      have HF := Lib.hid (HYES.out HO.out)
      clear hown
      go_wp2
      go_ret
      rw [HF.out]; exact ⟨rfl, hnew⟩
set_option maxRecDepth 100000 in
set_option maxHeartbeats 2000000 in
theorem isr_41 (N : Nat) (hN : N ≤ 100000) (a : Option Addr) (n c : Nat) (p : List Int) (w : World) (h : ZRow w a n c p) (hn : n ≤ 17592186044416) :
    Calls Try.prog 15 #[.int .i64 (N : Int), .slice a n c] w fun e w' => e = .returned (.bool (ipB N p)) ∧ w' = w := by
  have HH := Lib.hid h
  have HNO : Hid (∀ k, k < n → p.getD k 0 < 0 ∨ (N : Int) ≤ p.getD k 0 ∨ (∃ j, j < k ∧ p.getD j 0 = p.getD k 0) → ipB N p = false) := Lib.hid (fun k hk hc => ipB_no (fun hp => by
    have h1 := hp.1 k (by rw [h.len_eq]; exact hk)
    rcases hc with hc | hc | ⟨j, hj, he⟩
    · omega
    · omega
    · exact hp.2 j k hj (by rw [h.len_eq]; exact hk) he))
  have HYES : Hid ((∀ k, k < n → (0 ≤ p.getD k 0 ∧ p.getD k 0 < (N : Int)) ∧ ∀ j, j < k → p.getD j 0 ≠ p.getD k 0) → ipB N p = true) := Lib.hid (fun hc => ipB_iff.2 ⟨fun k hk => (hc k (by rw [← h.len_eq]; exact hk)).1, fun j k hj hk => (hc k (by rw [← h.len_eq]; exact hk)).2 j hj⟩)
  clear h
  go_enter Try.func15, Try.ntmps15
  go_wp2_with fail
  go_loop [10] (fun iv => ∃ k : Nat, k ≤ n ∧ iv = .int .i64 (k : Int) ∧ Hid (∀ i, i < k → (0 ≤ p.getD i 0 ∧ p.getD i 0 < (N : Int)) ∧ ∀ j, j < i → p.getD j 0 ≠ p.getD i 0)) (fun iv => n - (intOf iv).toNat)
  case atStart => exact ⟨0, Nat.zero_le _, rfl, Lib.hid (fun i hi => by omega)⟩
  case round =>
    obtain ⟨k, hk, rfl, HO⟩ := hrel
    by_cases hlt : (k : Int) < (n : Int)
    · have hk0 : (0 : Int) ≤ (k : Int) := by omega
      obtain ⟨b, off, rfl, hc⟩ := HH.out.addr (by omega)
      have c1 := hc k (by omega)
      have HC := Lib.hid hc
      clear hc
      obtain ⟨x, hx⟩ : ∃ x, p.getD k 0 = x := ⟨_, rfl⟩
      rw [hx] at c1
      have HX := Lib.hid hx
      by_cases h1 : x < 0
      · have HF := Lib.hid (HNO.out k (by omega) (.inl (hx ▸ h1)))
        clear hx
        go_wp2
        go_ret
        rw [HF.out]; exact ⟨rfl, rfl⟩
      by_cases h2 : (N : Int) ≤ x
      · have HF := Lib.hid (HNO.out k (by omega) (.inr (.inl (hx ▸ h2))))
        clear hx
        go_wp2
        go_ret
        rw [HF.out]; exact ⟨rfl, rfl⟩
      have hkn : k < n := by omega
      have hb1 : 0 ≤ x := by omega
      have hb2 : x < (N : Int) := by omega
      clear hx
      go_wp2_with fail
      go_loop [7] (fun jv => ∃ j : Nat, j ≤ k ∧ jv = .int .i64 (j : Int) ∧ Hid (∀ i, i < j → p.getD i 0 ≠ x)) (fun jv => k - (intOf jv).toNat)
      case atStart => exact ⟨0, Nat.zero_le _, rfl, Lib.hid (fun i hi => by omega)⟩
      case round =>
        obtain ⟨j, hj, rfl, HJ⟩ := hrel
        by_cases hjl : (j : Int) < (k : Int)
        · have hj0 : (0 : Int) ≤ (j : Int) := by omega
          have hjn : (j : Int) < (n : Int) := by omega
          have c2 := HC.out j (by omega)
          obtain ⟨y, hy⟩ : ∃ y, p.getD j 0 = y := ⟨_, rfl⟩
          rw [hy] at c2
          have HYY := Lib.hid hy
          clear hy
          by_cases he : y = x
          · subst he
            have HF := Lib.hid (HNO.out k hkn (.inr (.inr ⟨j, by omega, HYY.out.trans HX.out.symm⟩)))
            go_wp2
            go_ret
            rw [HF.out]; exact ⟨rfl, rfl⟩
          · have he2 : (y == x) = false := by rw [beq_eq_false_iff_ne]; exact he
            have HJ2 : Hid (∀ i, i < j + 1 → p.getD i 0 ≠ x) := Lib.hid (fun i hi => by
              by_cases e : i = j
              · subst e; rw [HYY.out]; exact he
              · exact HJ.out i (by omega))
            go_wp2
            exact ⟨⟨j + 1, by omega, by go_num, HJ2.out⟩, by simp [intOf]; omega⟩
        · obtain rfl : j = k := by omega
          have HO2 : Hid (∀ i, i < j + 1 → (0 ≤ p.getD i 0 ∧ p.getD i 0 < (N : Int)) ∧ ∀ m, m < i → p.getD m 0 ≠ p.getD i 0) := Lib.hid (fun i hi => by
            by_cases e : i = j
            · subst e
              rw [HX.out]
              exact ⟨⟨hb1, hb2⟩, HJ.out⟩
            · exact HO.out i (by omega))
          go_wp2
          exact ⟨⟨j + 1, by omega, by go_num, HO2.out⟩, by simp [intOf]; omega⟩
    · obtain rfl : k = n := by omega
      have HF := Lib.hid (HYES.out HO.out)
      go_wp2
      go_ret
      rw [HF.out]; exact ⟨rfl, rfl⟩
end Go.Proofs.Ytaajphopnmdmcaa
namespace Go.Proofs.Ytaajphopnmdmcaa
open Go Go.RowKit Go.Bv
set_option linter.unusedVariables false
theorem chc41_size (n : Int) (a : Option Addr) (m c : Nat) (w : World) (h : szE n (m : Int) = 1) :
    Calls Try.prog 14 #[.int .i64 n, .slice a m c] w fun e w' => e = .returned (.tuple #[.slice none 0 0, .int .i64 1]) ∧ w' = w := by
  have HSZ := Lib.hid (sizes_41 n (m : Int) w)
  rw [h] at HSZ
  clear h
  go_enter Try.func14, Try.ntmps14
  go_wp2_with fail
  refine HSZ.out.mono ?_
  rintro e w' ⟨rfl, hw⟩
  replace hw := hw.symm
  subst hw
  go_wp2
  go_ret2
  exact ⟨rfl, rfl⟩
theorem chc41_bad (n : Nat) (hn : n ≤ 256) (a : Option Addr) (m c : Nat) (l : List Int) (w : World) (h : ZRow w a m c l) (hm : m ≤ n) (hb : ¬ ipP n l) :
    Calls Try.prog 14 #[.int .i64 (n : Int), .slice a m c] w fun e w' => e = .returned (.tuple #[.slice none 0 0, .int .i64 2]) ∧ New w w' := by
  have HSZ := Lib.hid (sizes_41 (n : Int) (m : Int) w)
  rw [show szE (n : Int) (m : Int) = 0 from if_neg (by omega)] at HSZ
  have HI := Lib.hid (ispick_any n (by omega) a m c l w h (by omega))
  rw [ipB_no hb] at HI
  clear h hb
  go_enter Try.func14, Try.ntmps14
  go_wp2_with fail
  refine HSZ.out.mono ?_
  rintro e w' ⟨rfl, hw⟩
  replace hw := hw.symm
  subst hw
  go_wp2_with fail
  refine HI.out.mono ?_
  rintro e w9 ⟨rfl, hn9⟩
  have HN := Lib.hid hn9
  clear hn9
  go_wp2
  go_ret2
  exact ⟨rfl, HN.out⟩
/-- the limits that are laid so far -/
def lzI (n K k : Nat) : List Int := liI (fun x => if x < k then n - x else 0) K
theorem lzI_zero (n K : Nat) : (List.replicate K (Value.int .i64 0)) = (lzI n K 0).map fun x => .int .i64 x := by
  rw [zeros_li]
  unfold lzI
  rw [liI_ext (fun x _ => if_neg (by omega))]
theorem lzI_all (n K : Nat) : lzI n K K = liI (fun x => n - x) K := liI_ext fun x hx => by rw [if_pos hx]
theorem lzI_set (n K k : Nat) (h : k < K) : (lzI n K k).set k ((n - k : Nat) : Int) = lzI n K (k + 1) := by
  unfold lzI
  rw [liI_set _ _ h]
  apply liI_ext
  intro x hx
  by_cases e : x = k
  · subst e; rw [if_pos rfl, if_pos (by omega)]
  · rw [if_neg e]
    by_cases e2 : x < k
    · rw [if_pos e2, if_pos (by omega)]
    · rw [if_neg e2, if_neg (by omega)]
theorem aim41_size (n : Int) (a a2 : Option Addr) (nl c m c2 : Nat) (w : World) (h : szE n (m : Int) = 1) :
    Calls Try.prog 23 #[.slice a nl c, .int .i64 n, .slice a2 m c2] w fun e w' => e = .returned (.tuple #[.slice none 0 0, .int .i64 1]) ∧ w' = w := by
  have HC := Lib.hid (chc41_size n a2 m c2 w h)
  clear h
  go_enter Try.func23, Try.ntmps23
  go_wp2_with fail
  refine HC.out.mono ?_
  rintro e w' ⟨rfl, hw⟩
  replace hw := hw.symm
  subst hw
  go_wp2
  go_ret2
  exact ⟨rfl, rfl⟩
theorem aim41_bad (n : Nat) (hn : n ≤ 256) (a a2 : Option Addr) (nl c m c2 : Nat) (l : List Int) (w : World) (h : ZRow w a2 m c2 l) (hm : m ≤ n) (hb : ¬ ipP n l) :
    Calls Try.prog 23 #[.slice a nl c, .int .i64 (n : Int), .slice a2 m c2] w fun e w' => e = .returned (.tuple #[.slice none 0 0, .int .i64 2]) ∧ New w w' := by
  have HC := Lib.hid (chc41_bad n hn a2 m c2 l w h hm hb)
  clear h hb
  go_enter Try.func23, Try.ntmps23
  go_wp2_with fail
  refine HC.out.mono ?_
  rintro e w9 ⟨rfl, hn9⟩
  have HN := Lib.hid hn9
  clear hn9
  go_wp2
  go_ret2
  exact ⟨rfl, HN.out⟩
set_option maxRecDepth 100000 in
set_option maxHeartbeats 4000000 in
theorem aim41_no (n : Nat) (hn : n ≤ 256) (a a2 : Option Addr) (nl c K c2 : Nat) (l : List (BitVec 64)) (cl : List Int) (w : World) (hl : QRow w a nl c l) (hz : ZRow w a2 K c2 (pkI cl)) (hr : rp2 n cl) (hK : cl.length = K) (hd : drS l (lmP n K) K = none) :
    Calls Try.prog 23 #[.slice a nl c, .int .i64 (n : Int), .slice a2 K c2] w fun e w' => e = .returned (.tuple #[.slice none 0 0, .int .i64 7]) ∧ New w w' := by
  have hKn : K ≤ n := by rw [← hK]; exact hr.1
  have HL := Lib.hid hl
  have HD := Lib.hid hd
  have HCH := Lib.hid (chc_41 n hn a2 K c2 cl w hz hr hK)
  clear hl hz hd hr hK
  go_enter Try.func23, Try.ntmps23
  go_wp2_with fail
  refine HCH.out.mono ?_
  rintro e w1 ⟨a3, c3, rfl, hz, hn1⟩
  have HN := Lib.hid hn1
  replace HL := Lib.hid (HL.out.stay hn1)
  clear hz hn1 HCH
  go_wp2_with fail
  refine (new_t _ _ _ _ _ HL.out).mono ?_
  rintro e wB ⟨b, rfl, hb, ht, hn2⟩
  have HT := Lib.hid ht
  have HNB := Lib.hid hn2
  have HBB := Lib.hid hb
  clear ht hn2 hb
  go_wp2_with fail
  refine (take41_q b b n K l _ HT.out hn hKn).mono ?_
  rintro e wC (⟨ds2, k2, p1, p2, p3, p4, hd2, _⟩ | ⟨hd2, rfl, g, ht, hb2, _⟩)
  · rw [HD.out] at hd2; cases hd2
  have hnc : New w1 wC := hb2.new w1 HNB.out HBB.out HBB.out
  replace HN := Lib.hid (HN.out.trans hnc)
  clear ht hb2 hnc HT HNB HBB hd2
  go_wp2
  go_ret2
  exact ⟨rfl, HN.out⟩
set_option maxRecDepth 100000 in
set_option maxHeartbeats 4000000 in
theorem aim41_ok (n : Nat) (hn : n ≤ 256) (a a2 : Option Addr) (nl c K c2 : Nat) (l : List (BitVec 64)) (cl : List Int) (ds : List Drw) (k : Nat) (w : World) (hl : QRow w a nl c l) (hz : ZRow w a2 K c2 (pkI cl)) (hr : rp2 n cl) (hK : cl.length = K) (hd : drS l (lmP n K) K = some (ds, k)) :
    Calls Try.prog 23 #[.slice a nl c, .int .i64 (n : Int), .slice a2 K c2] w fun e w' => ∃ v' c', e = .returned (.tuple #[.slice v' nl c', .int .i64 0]) ∧ QRow w' v' nl c' (amS l (lmP n K) (fun i => BitVec.ofNat 64 (fnI cl i)) ds K) ∧ New w w' := by
  have hKn : K ≤ n := by rw [← hK]; exact hr.1
  have HL := Lib.hid hl
  have HD := Lib.hid hd
  have HR := Lib.hid hr
  have HKL := Lib.hid hK
  have HCH := Lib.hid (chc_41 n hn a2 K c2 cl w hz hr hK)
  have HMK := Lib.hid (make_int K (by omega))
  clear hl hz hd hr hK
  go_enter Try.func23, Try.ntmps23
  go_wp2_with fail
  refine HCH.out.mono ?_
  rintro e w1 ⟨a3, c3, rfl, hz, hn1⟩
  have HZ := Lib.hid hz
  have HN := Lib.hid hn1
  replace HL := Lib.hid (HL.out.stay hn1)
  clear hz hn1 HCH
  go_wp2_with fail
  refine (new_t _ _ _ _ _ HL.out).mono ?_
  rintro e wB ⟨b, rfl, hb, ht, hn2⟩
  have HT := Lib.hid ht
  have HNB := Lib.hid hn2
  have HBB := Lib.hid hb
  clear ht hn2 hb
  go_wp2_with fail
  refine (take41_q b b n K l _ HT.out hn hKn).mono ?_
  rintro e wC (⟨ds2, k2, p1, p2, p3, p4, hd2, rfl, hz2, hk, g, ht, hb2, _⟩ | ⟨hd2, _⟩)
  case inr => rw [HD.out] at hd2; cases hd2
  rw [HD.out] at hd2
  cases hd2
  have HK := Lib.hid hk
  have hnc : New w1 wC := hb2.new w1 HNB.out HBB.out HBB.out
  replace HL := Lib.hid (HL.out.stay hnc)
  replace HZ := Lib.hid (HZ.out.stay hnc)
  replace HN := Lib.hid (HN.out.trans hnc)
  clear hz2 hk ht hb2 hnc HT HNB HBB
  go_wp2_with fail
  rw [HMK.out _ _ rfl]
  go_wp2_with fail
  go_loopw [41] (fun iv wr => ∃ q : Nat, q ≤ K ∧ iv = .int .i64 (q : Int) ∧ wr.ownsRow wC.heap.size 3 1 (.slice (some ⟨wC.heap.size, 0, none⟩) K K) K ((lzI n K q).map fun x => .int .i64 x) ∧ New wC wr) (fun iv _ => K - (intOf iv).toNat)
  case atStart => exact ⟨0, Nat.zero_le _, rfl, ow_made wC _ _ _ K _ (Nat.le_refl _) (by omega) (by rw [made_toList, lzI_zero]) (by rw [List.length_map, lzI, liI_len]), (New.refl wC).alloc _⟩
  case round =>
    obtain ⟨q, hq, rfl, hown, hnew⟩ := hrel
    by_cases hlt : (q : Int) < (K : Int)
    · have hq0 : (0 : Int) ≤ (q : Int) := by omega
      obtain ⟨r, hr⟩ : ∃ r, n - q = r := ⟨_, rfl⟩
      have hri : (n : Int) - (q : Int) = (r : Int) := by omega
      obtain ⟨hc1, hf1⟩ := ow_int hown (k := q) (by omega)
      have HO2 : Hid ((wr.setCell ⟨wC.heap.size, q, none⟩ (.int .i64 (r : Int))).ownsRow wC.heap.size 3 1 (.slice (some ⟨wC.heap.size, 0, none⟩) K K) K ((lzI n K (q + 1)).map fun x => .int .i64 x)) := Lib.hid (by
        rw [← lzI_set n K q (by omega), List.map_set, hr]; exact ow_set hown q _)
      have HN2 : Hid (New wC (wr.setCell ⟨wC.heap.size, q, none⟩ (.int .i64 (r : Int)))) := Lib.hid (hnew.setCell (Nat.le_refl _) _)
      clear hown hnew
      go_wp2
      exact ⟨⟨q + 1, by omega, by go_num, HO2.out, HN2.out⟩, by simp [intOf]; omega⟩
    · obtain rfl : q = K := by omega
      rw [lzI_all] at hown
      obtain ⟨a5, c5, he, hq5⟩ := ZRow.of_owns hown (by omega) (in64_li _ (fun x hx => by omega))
      cases he
      have hcl : liI (fnI cl) q = cl := by
        have h := li_fn (p := cl) (fun j hj => (HR.out.2 j hj).1)
        rwa [HKL.out] at h
      have hz6 := HZ.out.stay hnew
      rw [← hcl] at hz6
      have HRD := Lib.hid (redraw_q a p3 _ a3 nl c q p4 _ c3 l (lmP n q) ds k (fun j => n - j) (fnI cl) wr (HL.out.stay hnew) (HK.out.stay hnew) hq5 hz6 HD.out (fun i hi => lmP_get hi) (fun i hi => by omega) (fun i hi => by
        have h := HR.out.2 i (by rw [HKL.out]; exact hi)
        unfold fnI
        omega))
      have HNW := Lib.hid (HN.out.trans hnew)
      clear hown hq5 hz6 hnew hcl
      go_wp2_with fail
      refine HRD.out.mono ?_
      rintro e w9 ⟨v', c', rfl, hq, hn9⟩
      have HQ := Lib.hid hq
      replace HNW := Lib.hid (HNW.out.trans hn9)
      clear hq hn9 HRD
      go_wp2
      go_ret2
      exact ⟨_, _, rfl, HQ.out, HNW.out⟩
end Go.Proofs.Ytaajphopnmdmcaa
