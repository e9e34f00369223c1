/- subset: sizes, rows, which lists are choices, which are picks. -/
import Derived.Test.YtaajphopnmdmcaaSubM
import Derived.Test.YtaajphopnmdmcaaShfD
namespace Go.Proofs.Ytaajphopnmdmcaa
open Go Go.RowKit Go.Bv
set_option linter.unusedVariables false
/-- what is wrong with sizes -/
def szE (n k : Int) : Int := if n < 0 ∨ 256 < n ∨ n < k then 1 else 0
theorem count_41 (n k : Int) (w : World) : Calls Try.prog 10 #[.int .i64 n, .int .i64 k] w fun e w' => e = .returned (.int .i64 (szE n k)) ∧ w' = w := by
  by_cases h1 : n < 0
  · have HE : Hid (szE n k = 1) := Lib.hid (if_pos (.inl h1))
    go_enter Try.func10, Try.ntmps10
    go_wp2
    go_ret
    rw [HE.out]; exact ⟨rfl, rfl⟩
  · by_cases h2 : 256 < n
    · have HE : Hid (szE n k = 1) := Lib.hid (if_pos (.inr (.inl h2)))
      go_enter Try.func10, Try.ntmps10
      go_wp2
      go_ret
      rw [HE.out]; exact ⟨rfl, rfl⟩
    · by_cases h3 : n < k
      · have HE : Hid (szE n k = 1) := Lib.hid (if_pos (.inr (.inr h3)))
        go_enter Try.func10, Try.ntmps10
        go_wp2
        go_ret
        rw [HE.out]; exact ⟨rfl, rfl⟩
      · have HE : Hid (szE n k = 0) := Lib.hid (if_neg (by omega))
        go_enter Try.func10, Try.ntmps10
        go_wp2
        go_ret
        rw [HE.out]; exact ⟨rfl, rfl⟩
theorem sizes_41 (n k : Int) (w : World) : Calls Try.prog 30 #[.int .i64 n, .int .i64 k] w fun e w' => e = .returned (.int .i64 (szE n k)) ∧ w' = w := by
  by_cases h1 : n < 0
  · have HE : Hid (szE n k = 1) := Lib.hid (if_pos (.inl h1))
    go_enter Try.func30, Try.ntmps30
    go_wp2
    go_ret
    rw [HE.out]; exact ⟨rfl, rfl⟩
  · by_cases h2 : 256 < n
    · have HE : Hid (szE n k = 1) := Lib.hid (if_pos (.inr (.inl h2)))
      go_enter Try.func30, Try.ntmps30
      go_wp2
      go_ret
      rw [HE.out]; exact ⟨rfl, rfl⟩
    · by_cases h3 : n < k
      · have HE : Hid (szE n k = 1) := Lib.hid (if_pos (.inr (.inr h3)))
        go_enter Try.func30, Try.ntmps30
        go_wp2
        go_ret
        rw [HE.out]; exact ⟨rfl, rfl⟩
      · have HE : Hid (szE n k = 0) := Lib.hid (if_neg (by omega))
        go_enter Try.func30, Try.ntmps30
        go_wp2
        go_ret
        rw [HE.out]; exact ⟨rfl, rfl⟩
set_option maxRecDepth 100000 in
set_option maxHeartbeats 2000000 in
theorem sorted_41 (n : Nat) (w : World) (hn : n ≤ 1000000) :
    Calls Try.prog 31 #[.int .i64 (n : Int)] w fun e w' => ∃ g, e = .returned (.slice (some ⟨g, 0, none⟩) (n : Nat) n) ∧ w'.ownsRow w.heap.size 3 1 (.slice (some ⟨g, 0, none⟩) n n) n ((liI (fun x => x) n).map fun x => .int .i64 x) ∧ New w w' := by
  obtain ⟨i0, hi, hz0, hz1, hz2⟩ := info_parts info_int40
  have HMK := Lib.hid (make_int n hn)
  go_enter Try.func31, Try.ntmps31
  go_wp2_with fail
  rw [HMK.out _ _ rfl]
  go_wp2_with fail
  go_loopw [9] (fun iv wr => ∃ k : Nat, k ≤ n ∧ iv = .int .i64 (k : Int) ∧ wr.ownsRow w.heap.size 3 1 (.slice (some ⟨w.heap.size, 0, none⟩) n n) n ((sqI n k).map fun x => .int .i64 x) ∧ New w wr) (fun iv _ => n - (intOf iv).toNat)
  case atStart => exact ⟨0, Nat.zero_le _, rfl, ow_made w _ _ _ n _ (Nat.le_refl _) (by omega) (by rw [made_toList, sqI_zero]) (by rw [List.length_map, sqI, liI_len]), (New.refl w).alloc _⟩
  case round =>
    obtain ⟨k, hk, rfl, hown, hnew⟩ := hrel
    by_cases hlt : (k : Int) < (n : Int)
    · have hk0 : (0 : Int) ≤ (k : Int) := by omega
      obtain ⟨hc1, hf1⟩ := ow_int hown (k := k) (by omega)
      have HO2 : Hid ((wr.setCell ⟨w.heap.size, k, none⟩ (.int .i64 (k : Int))).ownsRow w.heap.size 3 1 (.slice (some ⟨w.heap.size, 0, none⟩) n n) n ((sqI n (k + 1)).map fun x => .int .i64 x)) := Lib.hid (by
        rw [← sqI_set n k (by omega), List.map_set]; exact ow_set hown k _)
      have HN2 : Hid (New w (wr.setCell ⟨w.heap.size, k, none⟩ (.int .i64 (k : Int)))) := Lib.hid (hnew.setCell (Nat.le_refl _) _)
      clear hown hnew
      go_wp2
      exact ⟨⟨k + 1, by omega, by go_num, HO2.out, HN2.out⟩, by simp [intOf]; omega⟩
    · obtain rfl : k = n := by omega
      rw [sqI_all] at hown
      go_wp2
      go_ret
      exact ⟨_, rfl, hown, hnew⟩

/-- whether the first k may be choices -/
def r2B (n : Int) (c : List Int) : Nat → Bool
  | 0 => true
  | k + 1 => r2B n c k && (decide (0 ≤ c.getD k 0) && decide (c.getD k 0 ≤ n - 1 - (k : Int)))
theorem r2B_iff {n : Int} {c : List Int} : ∀ {k}, r2B n c k = true ↔ ∀ i, i < k → 0 ≤ c.getD i 0 ∧ c.getD i 0 ≤ n - 1 - (i : Int)
  | 0 => ⟨fun _ i h => by omega, fun _ => rfl⟩
  | k + 1 => by
    show (r2B n c k && (decide (0 ≤ c.getD k 0) && decide (c.getD k 0 ≤ n - 1 - (k : Int)))) = true ↔ _
    rw [Bool.and_eq_true, Bool.and_eq_true, decide_eq_true_eq, decide_eq_true_eq, r2B_iff (k := k)]
    constructor
    · rintro ⟨h1, h2⟩ i hi
      by_cases e : i = k
      · subst e; exact h2
      · exact h1 i (by omega)
    · intro h
      exact ⟨fun i hi => h i (by omega), h k (by omega)⟩
theorem r2B_no {n : Int} {c : List Int} {m k : Nat} (hk : k < m) (h : c.getD k 0 < 0 ∨ n - 1 - (k : Int) < c.getD k 0) : r2B n c m = false := by
  rw [← Bool.not_eq_true, r2B_iff]
  intro h2
  have := h2 k hk
  omega
set_option maxRecDepth 100000 in
set_option maxHeartbeats 2000000 in
theorem right_41 (N : Int) (hN : -100000 ≤ N ∧ N ≤ 100000) (a : Option Addr) (n c : Nat) (l : List Int) (w : World) (h : ZRow w a n c l) (hn : n ≤ 100000) :
    Calls Try.prog 11 #[.int .i64 N, .slice a n c] w fun e w' => e = .returned (.bool (r2B N l n)) ∧ w' = w := by
  have hm := h.most
  have HH := Lib.hid h
  clear h
  go_enter Try.func11, Try.ntmps11
  go_wp2
  go_loop [9] (fun i => ∃ k : Nat, k ≤ n ∧ i = .int .i64 (k : Int) ∧ Hid (r2B N l k = true)) (fun i => n - (intOf i).toNat)
  case atStart => exact ⟨0, Nat.zero_le _, rfl, Lib.hid rfl⟩
  case round =>
    obtain ⟨k, hk, rfl, H⟩ := hrel
    by_cases hlt : (k : Int) < (n : Int)
    · obtain ⟨b, off, rfl, hc⟩ := HH.out.addr (by omega)
      have c1 := hc k (by omega)
      clear hc
      have hk0 : (0 : Int) ≤ (k : Int) := by omega
      have HNO := Lib.hid (fun h => r2B_no (n := N) (c := l) (m := n) (k := k) (by omega) h)
      have HST : Hid (r2B N l (k + 1) = (r2B N l k && (decide (0 ≤ l.getD k 0) && decide (l.getD k 0 ≤ N - 1 - (k : Int))))) := Lib.hid rfl
      obtain ⟨y, hy⟩ : ∃ z, l.getD k 0 = z := ⟨_, rfl⟩
      rw [hy] at c1 HNO HST
      clear hy
      by_cases h1 : y < 0
      · go_wp2
        go_ret
        rw [HNO.out (.inl h1)]; exact ⟨rfl, rfl⟩
      by_cases h2 : N - 1 - (k : Int) < y
      · go_wp2
        go_ret
        rw [HNO.out (.inr h2)]; exact ⟨rfl, rfl⟩
      have h1' : 0 ≤ y := by omega
      have h2' : y ≤ N - 1 - (k : Int) := by omega
      go_wp2
      exact ⟨⟨k + 1, by omega, by go_num, Lib.hid (by rw [HST.out, H.out, decide_eq_true h1', decide_eq_true h2']; rfl)⟩, by simp [intOf]; omega⟩
    · obtain rfl : k = n := by omega
      go_wp2
      go_ret
      rw [H.out]; exact ⟨rfl, rfl⟩
set_option maxRecDepth 100000 in
set_option maxHeartbeats 2000000 in
theorem ispick_41 (N : Nat) (hN : N ≤ 100000) (a : Option Addr) (n c : Nat) (p : List Int) (w : World) (h : ZRow w a n c p) (hn : n ≤ 100000) (h1 : ∀ k, k < n → 0 ≤ p.getD k 0 ∧ p.getD k 0 < (N : Int)) (h2 : ∀ j k, j < k → k < n → p.getD j 0 ≠ p.getD k 0) :
    Calls Try.prog 33 #[.int .i64 (N : Int), .slice a n c] w fun e w' => e = .returned (.bool true) ∧ New w w' := by
  have HH := Lib.hid h
  have HMK := Lib.hid (make_bool N (by omega))
  have HN0 : Hid (∀ (k : Nat), k < n → 0 ≤ p.getD k 0 ∧ p.getD k 0 < (N : Int)) := Lib.hid h1
  have HN1 : Hid (∀ (k y : Nat), k < n → p.getD k 0 = (y : Int) → seI p y k = false) := Lib.hid (fun k y hk he => by
    rw [← Bool.not_eq_true, seI_iff]
    rintro ⟨j, hj, hje⟩
    exact h2 j k hj hk (hje.trans he.symm))
  clear h h1 h2
  go_enter Try.func33, Try.ntmps33
  go_wp2_with fail
  rw [HMK.out _ _ rfl]
  go_wp2_with fail
  go_loopw [12] (fun iv wr => ∃ k : Nat, k ≤ n ∧ iv = .int .i64 (k : Int) ∧ wr.ownsRow w.heap.size 4 1 (.slice (some ⟨w.heap.size, 0, none⟩) N N) N ((seL p N k).map fun x => .bool x) ∧ New w wr) (fun iv _ => n - (intOf iv).toNat)
  case atStart => exact ⟨0, Nat.zero_le _, rfl, ow_made w _ _ _ N _ (Nat.le_refl _) (by omega) (by rw [made_toList, seL_zero p]) (by rw [List.length_map, seL_len]), (New.refl w).alloc _⟩
  case round =>
    obtain ⟨k, hk, rfl, hown, hnew⟩ := hrel
    by_cases hlt : (k : Int) < (n : Int)
    · have hk0 : (0 : Int) ≤ (k : Int) := by omega
      obtain ⟨b, off, rfl, hc⟩ := (HH.out.stay hnew).addr (by omega)
      have c1 := hc k (by omega)
      clear hc
      obtain ⟨z, hz⟩ : ∃ z : Nat, p.getD k 0 = (z : Int) := ⟨(p.getD k 0).toNat, by have := HN0.out k (by omega); omega⟩
      have hzN : z < N := by have := HN0.out k (by omega); rw [hz] at this; omega
      have hs := HN1.out k z (by omega) hz
      have HST := Lib.hid (seL_set p N k z hzN hz)
      rw [hz] at c1
      obtain ⟨hc2, hf2⟩ := ow_bool hown (k := z) hzN
      rw [seL_get p k hzN, hs] at hc2
      have hy0 : (0 : Int) ≤ (z : Int) := by omega
      have hyN : (z : Int) < (N : Int) := by omega
      have hy1 : ¬ (N : Int) ≤ (z : Int) := by omega
      have hy2 : ¬ (z : Int) < 0 := by omega
      have HO2 : Hid ((wr.setCell ⟨w.heap.size, z, none⟩ (.bool true)).ownsRow w.heap.size 4 1 (.slice (some ⟨w.heap.size, 0, none⟩) N N) N ((seL p N (k + 1)).map fun x => .bool x)) := Lib.hid (by
        rw [← HST.out, List.map_set]; exact ow_set hown z _)
      have HN2 : Hid (New w (wr.setCell ⟨w.heap.size, z, none⟩ (.bool true))) := Lib.hid (hnew.setCell (Nat.le_refl _) _)
      clear hown hnew hs hz
      go_wp2
      exact ⟨⟨k + 1, by omega, by go_num, HO2.out, HN2.out⟩, by simp [intOf]; omega⟩
    · obtain rfl : k = n := by omega
      clear hown
      go_wp2
      go_ret
      exact ⟨rfl, hnew⟩
end Go.Proofs.Ytaajphopnmdmcaa
