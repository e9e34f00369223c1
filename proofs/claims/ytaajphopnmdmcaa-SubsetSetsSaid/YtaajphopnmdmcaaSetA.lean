/- Numbers in ascending order: plain lemmas; subset.Set. · The document's own Set. -/
import Derived.Test.YtaajphopnmdmcaaShfC
import Derived.Test.YtaajphopnmdmcaaShelf
import Derived.Sort.OwnSortedInts
namespace Go.Bv
open Go Go.RowKit
set_option linter.unusedVariables false
/-- the numbers of l in ascending order -/
def msI (l : List Int) : List Int := l.mergeSort fun x y => decide (x ≤ y)
theorem msI_len (l : List Int) : (msI l).length = l.length := List.length_mergeSort l
theorem msI_mem {l : List Int} {x : Int} : x ∈ msI l ↔ x ∈ l := List.mem_mergeSort
theorem nodup_iff {l : List Int} : l.Nodup ↔ ∀ j k, j < k → k < l.length → l.getD j 0 ≠ l.getD k 0 := by
  unfold List.Nodup
  rw [List.pairwise_iff_getElem]
  constructor
  · intro h j k hj hk
    have := h j k (by omega) hk hj
    rwa [List.getD_eq_getElem?_getD, List.getD_eq_getElem?_getD, List.getElem?_eq_getElem (by omega), List.getElem?_eq_getElem hk]
  · intro h j k hj hk hjk
    have := h j k hjk hk
    rwa [List.getD_eq_getElem?_getD, List.getD_eq_getElem?_getD, List.getElem?_eq_getElem hj, List.getElem?_eq_getElem hk] at this
theorem msI_up {l : List Int} (h : ∀ j k, j < k → k < l.length → l.getD j 0 ≠ l.getD k 0) : ∀ j k, j < k → k < l.length → (msI l).getD j 0 < (msI l).getD k 0 := by
  intro j k hj hk
  have h1 := List.pairwise_mergeSort (le := fun x y : Int => decide (x ≤ y)) (by intro a b c h1 h2; simp at *; omega) (by intro a b; simp; omega) l
  have h2 : (msI l).Nodup := (List.mergeSort_perm l _).nodup_iff.2 (nodup_iff.2 h)
  rw [nodup_iff] at h2
  have h3 := h2 j k hj (by rw [msI_len]; exact hk)
  rw [List.pairwise_iff_getElem] at h1
  have hl := msI_len l
  have h4 := h1 j k (by show j < (msI l).length; omega) (by show k < (msI l).length; omega) hj
  rw [decide_eq_true_eq] at h4
  rw [List.getD_eq_getElem?_getD, List.getD_eq_getElem?_getD, List.getElem?_eq_getElem (by omega), List.getElem?_eq_getElem (by omega)] at h3 ⊢
  have h5 : (msI l)[j]'(by omega) ≤ (msI l)[k]'(by omega) := h4
  show (msI l)[j]'(by omega) < (msI l)[k]'(by omega)
  have h6 : (msI l)[j]'(by omega) ≠ (msI l)[k]'(by omega) := h3
  omega
theorem mem_at {l : List Int} {x : Int} : x ∈ l ↔ ∃ j, j < l.length ∧ l.getD j 0 = x := by
  rw [List.mem_iff_getElem]
  constructor
  · rintro ⟨j, hj, he⟩
    exact ⟨j, hj, by rw [List.getD_eq_getElem?_getD, List.getElem?_eq_getElem hj]; exact he⟩
  · rintro ⟨j, hj, he⟩
    rw [List.getD_eq_getElem?_getD, List.getElem?_eq_getElem hj] at he
    exact ⟨j, hj, he⟩
theorem msI_compact {l : List Int} (h : ∀ j k, j < k → k < l.length → l.getD j 0 ≠ l.getD k 0) : Lib.compact (msI l) = msI l := by
  apply Lib.compact_all
  intro j hj
  rw [msI_len] at hj
  by_cases e : j = 0
  · exact Lib.keeps_lt_one _ j (by omega)
  · apply Lib.keeps_pos
    have h1 := msI_up h (j - 1) j (by omega) hj
    have hl := msI_len l
    rw [List.getD_eq_getElem?_getD, List.getD_eq_getElem?_getD, List.getElem?_eq_getElem (by omega), List.getElem?_eq_getElem (by omega)] at h1
    have e1 : (msI l).toArray[j]! = (msI l)[j]'(by omega) := by simp [show j < (msI l).length by omega]
    have e2 : (msI l).toArray[j - 1]! = (msI l)[j - 1]'(by omega) := by simp [show j - 1 < (msI l).length by omega]
    rw [e1, e2]
    have h2 : (msI l)[j - 1]'(by omega) < (msI l)[j]'(by omega) := h1
    omega
/-- a row of one's own, for the library's sort -/
theorem own_block {w : World} {base g n cap : Nat} {e : TypeId} {xs : List Value} (h : w.ownsRow base e 1 (.slice (some ⟨g, 0, none⟩) n cap) n xs) : ∃ cur, base ≤ g ∧ w.heap[g]? = some (.cells cur e (0, 0)) ∧ n ≤ cap ∧ cap ≤ maxLen ∧ cur.size = cap * 1 ∧ cur.toList.take (n * 1) = xs := by
  obtain ⟨hl, h | ⟨g', cap', cur, hv, hb, hc, h2, h3, h4, h5⟩⟩ := h
  · cases h.1
  · injection hv with e1 e2 e3
    cases e1; subst e3
    exact ⟨cur, hb, hc, h2, h3, h4, h5⟩
end Go.Bv
namespace Go.Proofs.Ytaajphopnmdmcaa
open Go Go.RowKit Go.Bv Go.Sort
set_option linter.unusedVariables false
set_option maxHeartbeats 1000000 in
theorem set_41 (a : Option Addr) (n c : Nat) (l : List Int) (w : World) (h : ZRow w a n c l) (hd : ∀ j k, j < k → k < l.length → l.getD j 0 ≠ l.getD k 0) :
    Calls Try.prog 16 #[.slice a n c] w fun e w' => ∃ a' c', e = .returned (.slice a' (n : Nat) c') ∧ ZRow w' a' n c' (msI l) ∧ New w w' := by
  obtain rfl := h.len_eq
  have hm := h.most
  have HW := Lib.hid h.wf
  have HC := Lib.hid (clone_z a l.length c l w h)
  have HML := Lib.hid (msI_len l)
  have HCM := Lib.hid (msI_compact hd)
  have HIN : Hid (∀ z ∈ msI l, In64 z) := Lib.hid (fun z hz => HW.out z (msI_mem.1 hz))
  clear h hd
  go_enter Try.func16, Try.ntmps16
  go_wp2_with fail
  refine HC.out.mono ?_
  rintro e w1 ⟨v, rfl, how, hn⟩
  have HN := Lib.hid hn
  have HO := Lib.hid how
  clear hn how HC
  rcases Nat.eq_zero_or_pos l.length with h0 | h0
  · obtain rfl : l = [] := List.eq_nil_of_length_eq_zero h0
    obtain ⟨p, cap, rfl⟩ : ∃ p cap, v = .slice p 0 cap := by
      obtain ⟨_, h | ⟨g, cap, cur, hv, _⟩⟩ := HO.out
      · exact ⟨none, 0, h.1⟩
      · exact ⟨_, cap, hv⟩
    obtain ⟨a', c', he, hz⟩ := ZRow.of_owns HO.out (by simp) (by intro z hz; cases hz)
    cases he
    have HZ := Lib.hid hz
    clear hz HO
    go_wp2_with fail
    refine (Try.slices_Sort_int_none _ _ _).mono ?_
    rintro e w2 ⟨rfl, hw⟩
    replace hw := hw.symm
    subst hw
    go_wp2_with fail
    refine (Try.slices_Compact_int_empty _ _ _).mono ?_
    rintro e w2 ⟨rfl, hw⟩
    replace hw := hw.symm
    subst hw
    go_wp2
    go_ret
    exact ⟨_, _, rfl, (by rw [show msI [] = [] from List.mergeSort_nil]; exact HZ.out), HN.out⟩
  · obtain ⟨g, cap, rfl, hg, hgs, hgc, hgc2⟩ := ow_shape HO.out h0
    obtain ⟨cur, _, hb, h2, h3, h4, h5⟩ := own_block HO.out
    rw [Nat.mul_one] at h5
    have hH : Sort.Holds (Value.int .i64) w1 g 0 l.toArray := holds_of_blockI hb h5
    have HS := Lib.hid (Try.slices_Sort_int g 0 cap l w1 hH hgs (by omega))
    have HR : Hid (∀ n os, (grow (putRow (Value.int .i64) (Sort.ahead w1 n) g 0 (msI l).toArray) os).ownsRow w.heap.size 3 1 (.slice (some ⟨g, 0, none⟩) l.length cap) l.length ((msI l).map (Value.int .i64)) ∧ New w (grow (putRow (Value.int .i64) (Sort.ahead w1 n) g 0 (msI l).toArray) os)) := Lib.hid (fun n os => ⟨ownsRow_sortedI HML.out hg hb h2 h3 h4, HN.out.grown' (grownBy_sortedI _) (fun k hk => by cases hk; exact hg)⟩)
    clear hH hb h2 h3 h4 h5 hgs
    go_wp2_with fail
    refine HS.out.mono ?_
    rintro e w2 ⟨rfl, q, os, rfl⟩
    have hr := HR.out q os
    obtain ⟨w3, hw3⟩ : ∃ z, grow (putRow (Value.int .i64) (Sort.ahead w1 q) g 0 (msI l).toArray) os = z := ⟨_, rfl⟩
    have hw4 : grow (putRow (Value.int .i64) (Sort.ahead w1 q) g 0 (l.mergeSort fun x y => decide (x ≤ y)).toArray) os = w3 := hw3
    rw [hw3] at hr
    rw [hw4]
    obtain ⟨hown, hnew⟩ := hr
    obtain ⟨cur3, _, hb, h2, h3, h4, h5⟩ := own_block hown
    rw [Nat.mul_one] at h5
    have hH : Sort.Holds (Value.int .i64) w3 g 0 (msI l).toArray := holds_of_blockI hb (by rw [HML.out]; exact h5)
    have hcp := Try.slices_Compact_int g 0 cap (msI l) w3 hH (by rw [HML.out]; omega) (by rw [HML.out]; exact hgc)
    rw [HCM.out, HML.out, Nat.sub_self, List.replicate_zero, List.append_nil] at hcp
    have HCP := Lib.hid hcp
    have HR2 : Hid (∀ q, (grow (putRow (Value.int .i64) (Sort.ahead w3 q) g 0 (msI l).toArray) #[]).ownsRow w.heap.size 3 1 (.slice (some ⟨g, 0, none⟩) l.length cap) l.length ((msI l).map (Value.int .i64)) ∧ New w (grow (putRow (Value.int .i64) (Sort.ahead w3 q) g 0 (msI l).toArray) #[])) := Lib.hid (fun q => ⟨ownsRow_sortedI HML.out hg hb h2 h3 h4, hnew.grown' (grownBy_sortedI _) (fun k hk => by cases hk; exact hg)⟩)
    clear hH hb h2 h3 h4 h5 hown hnew hcp hw3 hw4 HS HR HO HN
    go_wp2_with fail
    refine HCP.out.mono ?_
    rintro e w5 ⟨rfl, q5, rfl⟩
    obtain ⟨ho, hn⟩ := HR2.out q5
    rw [grow_empty] at ho hn
    obtain ⟨a', c', he, hz⟩ := ZRow.of_owns ho (by omega) HIN.out
    cases he
    have HZ := Lib.hid hz
    have HN := Lib.hid hn
    clear ho hn hz HR2 HCP
    go_wp2
    go_ret
    exact ⟨_, _, rfl, HZ.out, HN.out⟩
end Go.Proofs.Ytaajphopnmdmcaa
namespace Go.Bv
open Go Go.RowKit
set_option linter.unusedVariables false
/-- a number greater than the first k in ascending order -/
def cand (s : List Int) (k : Nat) (x : Int) : Prop := k = 0 ∨ s.getD (k - 1) 0 < x
theorem cand_next {l s : List Int} {k b : Nat} (hu : ∀ j k, j < k → k < s.length → s.getD j 0 < s.getD k 0) (hm : ∀ x, x ∈ s ↔ x ∈ l) (hk : k ≤ s.length) (hb : b < l.length) (hc : cand s k (l.getD b 0)) (hmin : ∀ j, j < l.length → cand s k (l.getD j 0) → l.getD b 0 ≤ l.getD j 0) : k < s.length ∧ l.getD b 0 = s.getD k 0 := by
  obtain ⟨m, hml, hme⟩ := mem_at.1 ((hm _).2 (mem_at.2 ⟨b, hb, rfl⟩))
  have hmk : k ≤ m := by
    apply Nat.le_of_not_lt
    intro hlt
    rcases hc with h0 | h0
    · omega
    · rw [← hme] at h0
      by_cases e : m = k - 1
      · subst e; omega
      · have := hu m (k - 1) (by omega) (by omega)
        omega
  have hks : k < s.length := by omega
  refine ⟨hks, ?_⟩
  obtain ⟨j, hj, hje⟩ := mem_at.1 ((hm _).1 (mem_at.2 ⟨k, hks, rfl⟩))
  have hcj : cand s k (l.getD j 0) := by
    rw [hje]
    by_cases e : k = 0
    · exact .inl e
    · exact .inr (hu (k - 1) k (by omega) hks)
  have h1 := hmin j hj hcj
  rw [hje, ← hme] at h1
  rw [← hme]
  by_cases e : m = k
  · subst e; rfl
  · have := hu k m (by omega) hml
    omega
theorem cand_none {l s : List Int} {k : Nat} (hu : ∀ j k, j < k → k < s.length → s.getD j 0 < s.getD k 0) (hm : ∀ x, x ∈ s ↔ x ∈ l) (hk : k ≤ s.length) (h : ∀ j, j < l.length → ¬ cand s k (l.getD j 0)) : k = s.length := by
  apply Nat.le_antisymm hk
  apply Nat.le_of_not_lt
  intro hks
  obtain ⟨j, hj, hje⟩ := mem_at.1 ((hm _).1 (mem_at.2 ⟨k, hks, rfl⟩))
  refine h j hj ?_
  rw [hje]
  by_cases e : k = 0
  · exact .inl e
  · exact .inr (hu (k - 1) k (by omega) hks)
theorem take_succ_getD {s : List Int} {k : Nat} (h : k < s.length) : s.take (k + 1) = s.take k ++ [s.getD k 0] := by
  rw [List.take_add_one, List.getD_eq_getElem?_getD, List.getElem?_eq_getElem h]; rfl
end Go.Bv
namespace Go.Proofs.Ytaajphopnmdmcaa
open Go Go.RowKit Go.Bv
set_option linter.unusedVariables false
set_option maxRecDepth 100000 in
set_option maxHeartbeats 4000000 in
theorem setr_41 (a : Option Addr) (n c : Nat) (l : List Int) (w : World) (h : ZRow w a n c l) (hd : ∀ j k, j < k → k < l.length → l.getD j 0 ≠ l.getD k 0) (hn : n ≤ 100000) :
    Calls Try.prog 17 #[.slice a n c] w fun e w' => ∃ a' c', e = .returned (.slice a' (n : Nat) c') ∧ ZRow w' a' n c' (msI l) ∧ New w w' := by
  obtain ⟨i0, hi, hz0, hz1, hz2⟩ := info_parts info_int40
  have HL := Lib.hid h.len_eq
  have HH := Lib.hid h
  have HIN : Hid (∀ z ∈ msI l, In64 z) := Lib.hid (fun z hz => h.wf z (msI_mem.1 hz))
  have hu0 : ∀ j k, j < k → k < (msI l).length → (msI l).getD j 0 < (msI l).getD k 0 := fun j k hj hk => msI_up hd j k hj (by rw [← msI_len]; exact hk)
  have HNX := Lib.hid (fun k b (hk : k ≤ n) (hb : b < n) hc hmin => cand_next (l := l) (s := msI l) (k := k) (b := b) hu0 (fun x => msI_mem) (by rw [msI_len, h.len_eq]; exact hk) (by rw [h.len_eq]; exact hb) hc hmin)
  have HNO := Lib.hid (fun k (hk : k ≤ n) hno => cand_none (l := l) (s := msI l) (k := k) hu0 (fun x => msI_mem) (by rw [msI_len, h.len_eq]; exact hk) hno)
  have HML : Hid ((msI l).length = n) := Lib.hid (by rw [msI_len, h.len_eq])
  clear h hd hu0
  obtain ⟨s, hs⟩ : ∃ s, msI l = s := ⟨_, rfl⟩
  rw [hs] at HIN HNX HNO HML ⊢
  clear hs
  go_enter Try.func17, Try.ntmps17
  go_wp2_with fail
  go_loopw [3] (fun v wr => ∃ k : Nat, k ≤ n ∧ wr.ownsRow w.heap.size 3 1 v k ((s.take k).map fun x => .int .i64 x) ∧ New w wr) (fun v _ => n - (match v with | .slice _ m _ => m | _ => 0))
  case atStart => exact ⟨0, Nat.zero_le _, World.ownsRow_nil _ _ _ 1, New.refl _⟩
  case round =>
    obtain ⟨k, hk, hown, hnew⟩ := hrel
    obtain ⟨p, cap, rfl⟩ : ∃ p cap, u3 = .slice p k cap := by
      obtain ⟨_, ⟨h1, h2⟩ | ⟨g, cap, cur, hv, _⟩⟩ := hown
      · exact ⟨none, 0, by rw [h1, h2]⟩
      · exact ⟨_, cap, hv⟩
    rcases Nat.eq_zero_or_pos k with hk0 | hk0
    · subst hk0
      have HO := Lib.hid hown
      have HNW := Lib.hid hnew
      obtain ⟨wq, hwq⟩ : ∃ z, z = wr := ⟨_, rfl⟩
      rw [← hwq] at HO HNW ⊢
      clear hown hnew hwq
      rcases Nat.eq_zero_or_pos n with hn0 | hn0
      · subst hn0
        have HS0 : Hid (s = []) := Lib.hid (List.eq_nil_of_length_eq_zero HML.out)
        have hown := HO.out
        rw [List.take_zero, ← HS0.out] at hown
        obtain ⟨a', c', he, hz⟩ := ZRow.of_owns hown (by omega) HIN.out
        cases he
        have HZ := Lib.hid hz
        clear hown hz HO
        go_wp2_with fail
        go_loop [4, 9] (fun bv iv => bv = .int .i64 (-1) ∧ iv = .int .i64 0) (fun _ _ => 0)
        case atStart => exact ⟨rfl, rfl⟩
        case round =>
          obtain ⟨rfl, rfl⟩ := hrel
          go_wp2
          go_ret
          exact ⟨_, _, rfl, HZ.out, HNW.out⟩
      obtain ⟨b0, off, rfl, hc⟩ := (HH.out.stay HNW.out).addr hn0
      have HC := Lib.hid hc
      clear hc
      go_wp2_with fail
      go_loop [4, 9] (fun bv iv => ∃ j : Nat, j ≤ n ∧ iv = .int .i64 (j : Int) ∧ ((bv = .int .i64 (-1) ∧ Hid (∀ i, i < j → ¬ cand s 0 (l.getD i 0))) ∨ ∃ b : Nat, b < j ∧ bv = .int .i64 (b : Int) ∧ Hid (cand s 0 (l.getD b 0) ∧ ∀ i, i < j → cand s 0 (l.getD i 0) → l.getD b 0 ≤ l.getD i 0))) (fun bv iv => n - (intOf iv).toNat)
      case atStart => exact ⟨0, Nat.zero_le _, rfl, .inl ⟨rfl, Lib.hid (fun i hi => by omega)⟩⟩
      case round =>
        obtain ⟨j, hj, rfl, hb⟩ := hrel
        by_cases hjl : (j : Int) < (n : Int)
        · have hj0 : (0 : Int) ≤ (j : Int) := by omega
          have c1 := HC.out j (by omega)
          obtain ⟨x, hx⟩ : ∃ x, l.getD j 0 = x := ⟨_, rfl⟩
          rw [hx] at c1
          have HX := Lib.hid hx
          clear hx
          have HCD : Hid (cand s 0 x) := Lib.hid (.inl rfl)
          rcases hb with ⟨rfl, HB⟩ | ⟨b, hbj, rfl, HB⟩
          · have HB2 : Hid (cand s 0 (l.getD j 0) ∧ ∀ i, i < j + 1 → cand s 0 (l.getD i 0) → l.getD j 0 ≤ l.getD i 0) := Lib.hid ⟨by rw [HX.out]; exact HCD.out, fun i hi hc => by
              by_cases e : i = j
              · subst e; omega
              · exact absurd hc (HB.out i (by omega))⟩
            go_wp2
            exact ⟨⟨j + 1, by omega, by go_num, .inr ⟨j, by omega, by go_num, HB2.out⟩⟩, by simp [intOf]; omega⟩
          · have hbn : (b : Int) < (n : Int) := by omega
            have hb0 : (0 : Int) ≤ (b : Int) := by omega
            have hbneg : ¬ (b : Int) < 0 := by omega
            have c2 := HC.out b (by omega)
            obtain ⟨z, hz⟩ : ∃ z, l.getD b 0 = z := ⟨_, rfl⟩
            rw [hz] at c2
            have HZZ := Lib.hid hz
            clear hz
            by_cases hxz : x < z
            · have HB2 : Hid (cand s 0 (l.getD j 0) ∧ ∀ i, i < j + 1 → cand s 0 (l.getD i 0) → l.getD j 0 ≤ l.getD i 0) := Lib.hid ⟨by rw [HX.out]; exact HCD.out, fun i hi hc => by
                by_cases e : i = j
                · subst e; omega
                · have h1 := HB.out.2 i (by omega) hc
                  have h2 := HX.out
                  have h3 := HZZ.out
                  omega⟩
              go_wp2
              exact ⟨⟨j + 1, by omega, by go_num, .inr ⟨j, by omega, by go_num, HB2.out⟩⟩, by simp [intOf]; omega⟩
            · have HB2 : Hid (cand s 0 (l.getD b 0) ∧ ∀ i, i < j + 1 → cand s 0 (l.getD i 0) → l.getD b 0 ≤ l.getD i 0) := Lib.hid ⟨HB.out.1, fun i hi hc => by
                by_cases e : i = j
                · have h2 := HX.out
                  have h3 := HZZ.out
                  subst e; omega
                · exact HB.out.2 i (by omega) hc⟩
              go_wp2
              exact ⟨⟨j + 1, by omega, by go_num, .inr ⟨b, by omega, by go_num, HB2.out⟩⟩, by simp [intOf]; omega⟩
        · obtain rfl : j = n := by omega
          rcases hb with ⟨rfl, HB⟩ | ⟨b, hbj, rfl, HB⟩
          · have HE := Lib.hid (HNO.out 0 (by omega) (fun i hi => HB.out i (by rw [← HL.out]; exact hi)))
            have hE : 0 = j := HE.out.trans HML.out
            subst hE
            have hown := HO.out
            rw [List.take_of_length_le (by rw [HML.out]; exact Nat.le_refl _)] at hown
            obtain ⟨a', c', he, hz⟩ := ZRow.of_owns hown (by omega) HIN.out
            cases he
            have HZ := Lib.hid hz
            clear hown hz
            go_wp2
            go_ret
            exact ⟨_, _, rfl, HZ.out, HNW.out⟩
          · have HE := Lib.hid (HNX.out 0 b (by omega) (by omega) HB.out.1 (fun i hi hc => HB.out.2 i (by rw [← HL.out]; exact hi) hc))
            have hks := HE.out.1
            have hml := HML.out
            have c2 := HC.out b (by omega)
            rw [HE.out.2] at c2
            have HTS := Lib.hid (take_succ_getD (s := s) (k := 0) hks)
            have hb0 : (0 : Int) ≤ (b : Int) := by omega
            have hbn : (b : Int) < (j : Int) := by omega
            have hbneg : ¬ (b : Int) < 0 := by omega
            obtain ⟨z, hz⟩ : ∃ z, s.getD 0 0 = z := ⟨_, rfl⟩
            rw [hz] at c2 HTS
            have hown := HO.out
            have hnew := HNW.out
            clear hz hks hml
            go_wp2_with (at_builtin; refine wpList_append_own _ rfl _ _ 22 rfl w.heap.size 3 i0 (.int .i64 0) 1 8 Try.underlying22 hi hz0 hz1 hz2 rfl (by decide) _ 0 _ rfl (hown.alloc _) ⟨wq.heap.size, 0, none⟩ 1 1 [.int .i64 z] rfl rfl ?z1 ?z2 ?z3 ?z4 ?z5 ?_)
            try (case z1 => exact one_cell wq _ _)
            try (case z2 => first | rfl | (intro u hu; simp at hu; subst hu; rfl))
            try (case z3 => first | (unfold maxLen; omega) | omega)
            try (case z4 => omega)
            try (case z5 => first | (simp; have := hnew.le; omega) | (have := hnew.le; omega))
            intro v' w1 how hgr _
            have HO2 : Hid (w1.ownsRow w.heap.size 3 1 v' (0 + 1) ((s.take (0 + 1)).map fun x => .int .i64 x)) := Lib.hid (by
              rw [HTS.out, List.map_append]; first | exact how | (rw [List.map_take]; exact how))
            have HN1 := Lib.hid ((hnew.alloc _).grown' hgr (own_base hown))
            obtain ⟨p', cap', rfl⟩ : ∃ p cap, v' = .slice p (0 + 1) cap := by
              obtain ⟨_, ⟨h1, h2⟩ | ⟨g, cap, cur, hv, _⟩⟩ := HO2.out
              · exact absurd h2 (by omega)
              · exact ⟨_, cap, hv⟩
            have hkj := HE.out.1
            have hml := HML.out
            clear how hgr hown hnew
            go_wp2
            exact ⟨⟨0 + 1, by omega, HO2.out, HN1.out⟩, by show j - (0 + 1) < j - 0; omega⟩
    · obtain ⟨g, cap', he, hg, hgs, hgc, hgc2⟩ := ow_shape hown hk0
      cases he
      have hks : k ≤ s.length := by rw [HML.out]; exact hk
      obtain ⟨q, hq⟩ : ∃ q, k - 1 = q := ⟨_, rfl⟩
      have hlc := (ow_int hown (k := q) (by omega)).1
      have hgd : (s.take k).getD q 0 = s.getD q 0 := by
        rw [List.getD_eq_getElem?_getD, List.getElem?_take, if_pos (by omega), ← List.getD_eq_getElem?_getD]
      rw [hgd] at hlc
      have hkq : (k : Int) - 1 = (q : Int) := by omega
      have hkz : ((k : Int) == 0) = false := by rw [beq_eq_false_iff_ne]; omega
      have hq0 : (0 : Int) ≤ (q : Int) := by omega
      have hqk : (q : Int) < (k : Int) := by omega
      obtain ⟨y, hy⟩ : ∃ y, s.getD q 0 = y := ⟨_, rfl⟩
      rw [hy] at hlc
      have HKY : Hid (s.getD (k - 1) 0 = y) := Lib.hid (by rw [hq]; exact hy)
      have HO := Lib.hid hown
      have HNW := Lib.hid hnew
      obtain ⟨wq, hwq⟩ : ∃ z, z = wr := ⟨_, rfl⟩
      rw [← hwq] at HO HNW hgs hlc ⊢
      clear hown hnew hwq hgd hy hks
      obtain ⟨b0, off, rfl, hc⟩ := (HH.out.stay HNW.out).addr (by omega)
      have HC := Lib.hid hc
      clear hc
      go_wp2_with fail
      go_loop [4, 9] (fun bv iv => ∃ j : Nat, j ≤ n ∧ iv = .int .i64 (j : Int) ∧ ((bv = .int .i64 (-1) ∧ Hid (∀ i, i < j → ¬ cand s k (l.getD i 0))) ∨ ∃ b : Nat, b < j ∧ bv = .int .i64 (b : Int) ∧ Hid (cand s k (l.getD b 0) ∧ ∀ i, i < j → cand s k (l.getD i 0) → l.getD b 0 ≤ l.getD i 0))) (fun bv iv => n - (intOf iv).toNat)
      case atStart => exact ⟨0, Nat.zero_le _, rfl, .inl ⟨rfl, Lib.hid (fun i hi => by omega)⟩⟩
      case round =>
        obtain ⟨j, hj, rfl, hb⟩ := hrel
        by_cases hjl : (j : Int) < (n : Int)
        · have hj0 : (0 : Int) ≤ (j : Int) := by omega
          have c1 := HC.out j (by omega)
          obtain ⟨x, hx⟩ : ∃ x, l.getD j 0 = x := ⟨_, rfl⟩
          rw [hx] at c1
          have HX := Lib.hid hx
          clear hx
          by_cases hcd : y < x
          · have HCD : Hid (cand s k x) := Lib.hid (.inr (by rw [HKY.out]; exact hcd))
            rcases hb with ⟨rfl, HB⟩ | ⟨b, hbj, rfl, HB⟩
            · have HB2 : Hid (cand s k (l.getD j 0) ∧ ∀ i, i < j + 1 → cand s k (l.getD i 0) → l.getD j 0 ≤ l.getD i 0) := Lib.hid ⟨by rw [HX.out]; exact HCD.out, fun i hi hc => by
                by_cases e : i = j
                · subst e; omega
                · exact absurd hc (HB.out i (by omega))⟩
              go_wp2
              exact ⟨⟨j + 1, by omega, by go_num, .inr ⟨j, by omega, by go_num, HB2.out⟩⟩, by simp [intOf]; omega⟩
            · have hbn : (b : Int) < (n : Int) := by omega
              have hb0 : (0 : Int) ≤ (b : Int) := by omega
              have hbneg : ¬ (b : Int) < 0 := by omega
              have c2 := HC.out b (by omega)
              obtain ⟨z, hz⟩ : ∃ z, l.getD b 0 = z := ⟨_, rfl⟩
              rw [hz] at c2
              have HZZ := Lib.hid hz
              clear hz
              by_cases hxz : x < z
              · have HB2 : Hid (cand s k (l.getD j 0) ∧ ∀ i, i < j + 1 → cand s k (l.getD i 0) → l.getD j 0 ≤ l.getD i 0) := Lib.hid ⟨by rw [HX.out]; exact HCD.out, fun i hi hc => by
                  by_cases e : i = j
                  · subst e; omega
                  · have h1 := HB.out.2 i (by omega) hc
                    have h2 := HX.out
                    have h3 := HZZ.out
                    omega⟩
                go_wp2
                exact ⟨⟨j + 1, by omega, by go_num, .inr ⟨j, by omega, by go_num, HB2.out⟩⟩, by simp [intOf]; omega⟩
              · have HB2 : Hid (cand s k (l.getD b 0) ∧ ∀ i, i < j + 1 → cand s k (l.getD i 0) → l.getD b 0 ≤ l.getD i 0) := Lib.hid ⟨HB.out.1, fun i hi hc => by
                  by_cases e : i = j
                  · have h2 := HX.out
                    have h3 := HZZ.out
                    subst e; omega
                  · exact HB.out.2 i (by omega) hc⟩
                go_wp2
                exact ⟨⟨j + 1, by omega, by go_num, .inr ⟨b, by omega, by go_num, HB2.out⟩⟩, by simp [intOf]; omega⟩
          · have HCD : Hid (¬ cand s k x) := Lib.hid (fun h => by rcases h with h | h; exact absurd h (by omega); rw [HKY.out] at h; omega)
            rcases hb with ⟨rfl, HB⟩ | ⟨b, hbj, rfl, HB⟩
            · have HB2 : Hid (∀ i, i < j + 1 → ¬ cand s k (l.getD i 0)) := Lib.hid (fun i hi => by
                by_cases e : i = j
                · subst e; rw [HX.out]; exact HCD.out
                · exact HB.out i (by omega))
              go_wp2
              exact ⟨⟨j + 1, by omega, by go_num, .inl ⟨by go_num, HB2.out⟩⟩, by simp [intOf]; omega⟩
            · have HB2 : Hid (cand s k (l.getD b 0) ∧ ∀ i, i < j + 1 → cand s k (l.getD i 0) → l.getD b 0 ≤ l.getD i 0) := Lib.hid ⟨HB.out.1, fun i hi hc => by
                by_cases e : i = j
                · subst e; rw [HX.out] at hc; exact absurd hc HCD.out
                · exact HB.out.2 i (by omega) hc⟩
              go_wp2
              exact ⟨⟨j + 1, by omega, by go_num, .inr ⟨b, by omega, by go_num, HB2.out⟩⟩, by simp [intOf]; omega⟩
        · obtain rfl : j = n := by omega
          rcases hb with ⟨rfl, HB⟩ | ⟨b, hbj, rfl, HB⟩
          · have HE := Lib.hid (HNO.out k (by omega) (fun i hi => HB.out i (by rw [← HL.out]; exact hi)))
            have hE : k = j := HE.out.trans HML.out
            subst hE
            have hown := HO.out
            rw [List.take_of_length_le (by rw [HML.out]; exact Nat.le_refl _)] at hown
            obtain ⟨a', c', he, hz⟩ := ZRow.of_owns hown (by omega) HIN.out
            cases he
            have HZ := Lib.hid hz
            clear hown hz
            go_wp2
            go_ret
            exact ⟨_, _, rfl, HZ.out, HNW.out⟩
          · have HE := Lib.hid (HNX.out k b (by omega) (by omega) HB.out.1 (fun i hi hc => HB.out.2 i (by rw [← HL.out]; exact hi) hc))
            have hks := HE.out.1
            have hml := HML.out
            have c2 := HC.out b (by omega)
            rw [HE.out.2] at c2
            have HTS := Lib.hid (take_succ_getD (s := s) (k := k) hks)
            have hb0 : (0 : Int) ≤ (b : Int) := by omega
            have hbn : (b : Int) < (j : Int) := by omega
            have hbneg : ¬ (b : Int) < 0 := by omega
            obtain ⟨z, hz⟩ : ∃ z, s.getD k 0 = z := ⟨_, rfl⟩
            rw [hz] at c2 HTS
            have hown := HO.out
            have hnew := HNW.out
            clear hz hks hml
            go_wp2_with (at_builtin; refine wpList_append_own _ rfl _ _ 22 rfl w.heap.size 3 i0 (.int .i64 0) 1 8 Try.underlying22 hi hz0 hz1 hz2 rfl (by decide) _ k _ rfl (hown.alloc _) ⟨wq.heap.size, 0, none⟩ 1 1 [.int .i64 z] rfl rfl ?p1 ?p2 ?p3 ?p4 ?p5 ?_)
            try (case p1 => exact one_cell wq _ _)
            try (case p2 => first | rfl | (intro u hu; simp at hu; subst hu; rfl))
            try (case p3 => first | (unfold maxLen; omega) | omega)
            try (case p4 => omega)
            try (case p5 => first | (simp; have := hnew.le; omega) | (have := hnew.le; omega))
            intro v' w1 how hgr _
            have HO2 : Hid (w1.ownsRow w.heap.size 3 1 v' (k + 1) ((s.take (k + 1)).map fun x => .int .i64 x)) := Lib.hid (by
              rw [HTS.out, List.map_append]; first | exact how | (rw [List.map_take]; exact how))
            have HN1 := Lib.hid ((hnew.alloc _).grown' hgr (own_base hown))
            obtain ⟨p', cap', rfl⟩ : ∃ p cap, v' = .slice p (k + 1) cap := by
              obtain ⟨_, ⟨h1, h2⟩ | ⟨g, cap, cur, hv, _⟩⟩ := HO2.out
              · exact absurd h2 (by omega)
              · exact ⟨_, cap, hv⟩
            have hkj := HE.out.1
            have hml := HML.out
            clear how hgr hown hnew
            go_wp2
            exact ⟨⟨k + 1, by omega, HO2.out, HN1.out⟩, by show j - (k + 1) < j - k; omega⟩
end Go.Proofs.Ytaajphopnmdmcaa
