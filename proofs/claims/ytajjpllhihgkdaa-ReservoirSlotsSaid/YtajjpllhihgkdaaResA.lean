/- reservoir: what is wrong with numbers and decisions; arrivals. -/
import Derived.Test.YtajjpllhihgkdaaResM
import Derived.Test.YtajjpllhihgkdaaShfD
import Derived.Handy
namespace Go.Proofs.Ytajjpllhihgkdaa
open Go Go.RowKit Go.Bv
set_option linter.unusedVariables false
/-- what is wrong with n items and k slots -/
def ckE (n k : Int) : Int := if n < 0 ∨ k < 0 ∨ n < k then 1 else if 256 < n then 9 else 0
theorem check_42 (n k : Int) (w : World) : Calls Try.prog 12 #[.int .i64 n, .int .i64 k] w fun e w' => e = .returned (.int .i64 (ckE n k)) ∧ w' = w := by
  by_cases h1 : n < 0
  · have HE : Hid (ckE n k = 1) := Lib.hid (if_pos (.inl h1))
    go_enter Try.func12, Try.ntmps12
    go_wp2
    go_ret
    rw [HE.out]; exact ⟨rfl, rfl⟩
  by_cases h2 : k < 0
  · have HE : Hid (ckE n k = 1) := Lib.hid (if_pos (.inr (.inl h2)))
    go_enter Try.func12, Try.ntmps12
    go_wp2
    go_ret
    rw [HE.out]; exact ⟨rfl, rfl⟩
  by_cases h3 : n < k
  · have HE : Hid (ckE n k = 1) := Lib.hid (if_pos (.inr (.inr h3)))
    go_enter Try.func12, Try.ntmps12
    go_wp2
    go_ret
    rw [HE.out]; exact ⟨rfl, rfl⟩
  by_cases h4 : 256 < n
  · have HE : Hid (ckE n k = 9) := Lib.hid (by unfold ckE; rw [if_neg (by omega), if_pos h4])
    go_enter Try.func12, Try.ntmps12
    go_wp2
    go_ret
    rw [HE.out]; exact ⟨rfl, rfl⟩
  · have HE : Hid (ckE n k = 0) := Lib.hid (by unfold ckE; rw [if_neg (by omega), if_neg h4])
    go_enter Try.func12, Try.ntmps12
    go_wp2
    go_ret
    rw [HE.out]; exact ⟨rfl, rfl⟩
theorem checkr_42 (n k : Int) (w : World) : Calls Try.prog 11 #[.int .i64 n, .int .i64 k] w fun e w' => e = .returned (.int .i64 (ckE n k)) ∧ w' = w := by
  by_cases h1 : n < 0
  · have HE : Hid (ckE n k = 1) := Lib.hid (if_pos (.inl h1))
    go_enter Try.func11, Try.ntmps11
    go_wp2
    go_ret
    rw [HE.out]; exact ⟨rfl, rfl⟩
  by_cases h2 : k < 0
  · have HE : Hid (ckE n k = 1) := Lib.hid (if_pos (.inr (.inl h2)))
    go_enter Try.func11, Try.ntmps11
    go_wp2
    go_ret
    rw [HE.out]; exact ⟨rfl, rfl⟩
  by_cases h3 : n < k
  · have HE : Hid (ckE n k = 1) := Lib.hid (if_pos (.inr (.inr h3)))
    go_enter Try.func11, Try.ntmps11
    go_wp2
    go_ret
    rw [HE.out]; exact ⟨rfl, rfl⟩
  by_cases h4 : 256 < n
  · have HE : Hid (ckE n k = 9) := Lib.hid (by unfold ckE; rw [if_neg (by omega), if_pos h4])
    go_enter Try.func11, Try.ntmps11
    go_wp2
    go_ret
    rw [HE.out]; exact ⟨rfl, rfl⟩
  · have HE : Hid (ckE n k = 0) := Lib.hid (by unfold ckE; rw [if_neg (by omega), if_neg h4])
    go_enter Try.func11, Try.ntmps11
    go_wp2
    go_ret
    rw [HE.out]; exact ⟨rfl, rfl⟩
/-- whether the first m may be decisions -/
def rkB (k : Int) (d : List Int) : Nat → Bool
  | 0 => true
  | m + 1 => rkB k d m && (decide (0 ≤ d.getD m 0) && decide (d.getD m 0 ≤ k + (m : Int)))
theorem rkB_iff {k : Int} {d : List Int} : ∀ {m}, rkB k d m = true ↔ ∀ i, i < m → 0 ≤ d.getD i 0 ∧ d.getD i 0 ≤ k + (i : Int)
  | 0 => ⟨fun _ i h => by omega, fun _ => rfl⟩
  | m + 1 => by
    show (rkB k d m && (decide (0 ≤ d.getD m 0) && decide (d.getD m 0 ≤ k + (m : Int)))) = true ↔ _
    rw [Bool.and_eq_true, Bool.and_eq_true, decide_eq_true_eq, decide_eq_true_eq, rkB_iff (m := m)]
    constructor
    · rintro ⟨h1, h2⟩ i hi
      by_cases e : i = m
      · subst e; exact h2
      · exact h1 i (by omega)
    · intro h
      exact ⟨fun i hi => h i (by omega), h m (by omega)⟩
def rdB (n k : Nat) (d : List Int) : Bool := decide (d.length = n - k) && rkB (k : Int) d (n - k)
def rdE (n k : Nat) (d : List Int) : Int := if rdB n k d then 0 else 2
theorem rdB_iff {n k : Nat} {d : List Int} : rdB n k d = true ↔ rdI n k d := by
  unfold rdB rdI
  rw [Bool.and_eq_true, decide_eq_true_eq, rkB_iff]
theorem rdB_no {n k : Nat} {d : List Int} (h : ¬ rdI n k d) : rdB n k d = false := by rw [← Bool.not_eq_true, rdB_iff]; exact h
theorem rdB_len {n k : Nat} {d : List Int} (h : d.length ≠ n - k) : rdB n k d = false := rdB_no (fun h2 => h h2.1)
theorem rdB_at {n k : Nat} {d : List Int} {i : Nat} (hi : i < n - k) (h : d.getD i 0 < 0 ∨ (k : Int) + (i : Int) < d.getD i 0) : rdB n k d = false := rdB_no (fun h2 => by have := h2.2 i hi; omega)
set_option maxRecDepth 100000 in
set_option maxHeartbeats 2000000 in
theorem right_42 (n k : Nat) (hk : k ≤ n) (hn : n ≤ 100000) (a : Option Addr) (m c : Nat) (d : List Int) (w : World) (h : ZRow w a m c d) :
    Calls Try.prog 13 #[.int .i64 (n : Int), .int .i64 (k : Int), .slice a m c] w fun e w' => e = .returned (.bool (rdB n k d)) ∧ w' = w := by
  have HL := Lib.hid h.len_eq
  have HH := Lib.hid h
  obtain ⟨j, hj⟩ : ∃ j, n - k = j := ⟨_, rfl⟩
  have hji : (n : Int) - (k : Int) = (j : Int) := by omega
  clear h
  by_cases hm : m = j
  case neg =>
    have HF : Hid (rdB n k d = false) := Lib.hid (rdB_len (by rw [HL.out, hj]; exact hm))
    have hb : ((m : Int) != (j : Int)) = true := by simp; omega
    go_enter Try.func13, Try.ntmps13
    go_wp2
    go_ret
    rw [HF.out]; exact ⟨rfl, rfl⟩
  subst hm
  have hb : ((m : Int) != (m : Int)) = false := by simp
  have HNO : Hid (∀ i, i < m → d.getD i 0 < 0 ∨ (k : Int) + (i : Int) < d.getD i 0 → rdB n k d = false) := Lib.hid (fun i hi h => rdB_at (by omega) h)
  have HY : Hid ((∀ i, i < m → 0 ≤ d.getD i 0 ∧ d.getD i 0 ≤ (k : Int) + (i : Int)) → rdB n k d = true) := Lib.hid (fun h => rdB_iff.2 ⟨by rw [HL.out, hj], by rw [hj]; exact h⟩)
  go_enter Try.func13, Try.ntmps13
  go_wp2_with fail
  go_loop [17] (fun iv => ∃ i : Nat, i ≤ m ∧ iv = .int .i64 (i : Int) ∧ Hid (∀ j, j < i → 0 ≤ d.getD j 0 ∧ d.getD j 0 ≤ (k : Int) + (j : Int))) (fun iv => m - (intOf iv).toNat)
  case atStart => exact ⟨0, Nat.zero_le _, rfl, Lib.hid (fun i hi => by omega)⟩
  case round =>
    obtain ⟨i, hi, rfl, HO⟩ := hrel
    by_cases hlt : (i : Int) < (m : Int)
    · have hi0 : (0 : Int) ≤ (i : Int) := by omega
      obtain ⟨b, off, rfl, hc⟩ := HH.out.addr (by omega)
      have c1 := hc i (by omega)
      clear hc
      have HN9 := Lib.hid (HNO.out i (by omega))
      obtain ⟨x, hx⟩ : ∃ x, d.getD i 0 = x := ⟨_, rfl⟩
      rw [hx] at c1 HN9
      have HX := Lib.hid hx
      clear hx
      by_cases h1 : x < 0
      · have HF := Lib.hid (HN9.out (.inl h1))
        go_wp2
        go_ret
        rw [HF.out]; exact ⟨rfl, rfl⟩
      by_cases h2 : (k : Int) + (i : Int) < x
      · have HF := Lib.hid (HN9.out (.inr h2))
        go_wp2
        go_ret
        rw [HF.out]; exact ⟨rfl, rfl⟩
      have HO2 : Hid (∀ j, j < i + 1 → 0 ≤ d.getD j 0 ∧ d.getD j 0 ≤ (k : Int) + (j : Int)) := Lib.hid (fun j hj => by
        by_cases e : j = i
        · subst e; rw [HX.out]; omega
        · exact HO.out j (by omega))
      go_wp2
      exact ⟨⟨i + 1, by omega, by go_num, HO2.out⟩, by simp [intOf]; omega⟩
    · obtain rfl : i = m := by omega
      have HF := Lib.hid (HY.out HO.out)
      go_wp2
      go_ret
      rw [HF.out]; exact ⟨rfl, rfl⟩
theorem arr_q (k : Int) (a : Option Addr) (m c : Nat) (w : World) :
    Calls Try.prog 34 #[.int .i64 k, .slice a m c] w fun e w' => e = .returned (.func (Fn.func 53) #[] #[.pointer (some ⟨w.heap.size + 1, 0, none⟩), .pointer (some ⟨w.heap.size, 0, none⟩)]) ∧ w'.heap[w.heap.size]? = some (.cells #[.int .i64 k] 3 (0, 0)) ∧ w'.heap[w.heap.size + 1]? = some (.cells #[.slice a m c] 22 (0, 0)) ∧ New w w' := by
  have h1 := heap_alloc_new w (.cells #[.int .i64 k] 3)
  have h2 := (((New.refl (w.alloc (.cells #[.int .i64 k] 3))).alloc (.cells #[.slice a m c] 22)).block _ (lt_of_block h1)).trans h1
  have h3 := heap_alloc_new (w.alloc (.cells #[.int .i64 k] 3)) (.cells #[.slice a m c] 22)
  rw [show (w.alloc (.cells #[.int .i64 k] 3)).heap.size = w.heap.size + 1 by simp] at h3
  have H2 := Lib.hid h2
  have H3 := Lib.hid h3
  clear h1 h2 h3
  go_enter Try.func34, Try.ntmps34
  go_wp2
  go_ret
  exact ⟨rfl, H2.out, H3.out, ((New.refl w).alloc _).alloc _⟩
set_option maxRecDepth 100000 in
set_option maxHeartbeats 2000000 in
/-- each item is visited with its decision -/
theorem arr1_q (k m : Nat) (a : Option Addr) (c : Nat) (d : List Int) (b1 b2 G : Nat) (caps : Array Value) (I : Nat → World → Prop) (w : World) (hkm : k + m ≤ 1000000) (hG : ∀ (x y : Value) (w : World), (callFunc G (#[x, y] ++ caps)).run Try.prog w = .ok (.enter G (#[x, y] ++ caps)) w)
    (h0 : I 0 w) (hb : ∀ i w', I i w' → w'.heap[b1]? = some (.cells #[.slice a m c] 22 (0, 0)) ∧ w'.heap[b2]? = some (.cells #[.int .i64 (k : Int)] 3 (0, 0)) ∧ ZRow w' a m c d)
    (hs : ∀ i w', i < m → I i w' → Calls Try.prog G (#[.int .i64 ((k + i : Nat) : Int), .int .i64 (d.getD i 0)] ++ caps) w' fun e w'' => e = .returned (.tuple #[]) ∧ I (i + 1) w'') :
    Calls Try.prog 53 #[.func (Fn.func G) #[] caps, .pointer (some ⟨b1, 0, none⟩), .pointer (some ⟨b2, 0, none⟩)] w fun e w' => e = .returned (.tuple #[]) ∧ I m w' := by
  have HB := Lib.hid hb
  have HS := Lib.hid hs
  have HG := Lib.hid hG
  have H0 := Lib.hid h0
  obtain ⟨e1, _, _⟩ := hb 0 w h0
  have k1 := cell_of_row _ _ 0 _ _ _ e1
  clear hb hs h0 e1 hG
  go_enter Try.func53, Try.ntmps53
  go_wp2_with fail
  go_loopw [8] (fun iv wr => ∃ i : Nat, i ≤ m ∧ iv = .int .i64 (i : Int) ∧ Hid (I i wr)) (fun iv _ => m - (intOf iv).toNat)
  case atStart => exact ⟨0, Nat.zero_le _, rfl, H0⟩
  case round =>
    clear k1
    obtain ⟨i, hi, rfl, HI⟩ := hrel
    obtain ⟨e1, e2, e3⟩ := HB.out i _ HI.out
    have k2 := cell_of_row _ _ 0 _ _ _ e2
    by_cases hlt : (i : Int) < (m : Int)
    · have hi0 : (0 : Int) ≤ (i : Int) := by omega
      obtain ⟨b, off, rfl, hc⟩ := e3.addr (by omega)
      have c1 := hc i (by omega)
      have HC := Lib.hid (HS.out i _ (by omega) HI.out)
      obtain ⟨s, hs⟩ : ∃ s, k + i = s := ⟨_, rfl⟩
      have hks : (k : Int) + (i : Int) = (s : Int) := by omega
      rw [hs] at HC
      obtain ⟨x, hx⟩ : ∃ x, d.getD i 0 = x := ⟨_, rfl⟩
      rw [hx] at c1 HC
      clear hc hx e1 e2 e3
      go_wp2_with fail
      rw [HG.out, Oper.upon_enter]
      refine (HC.out).mono ?_
      rintro e w9 ⟨rfl, hI⟩
      have HI9 := Lib.hid hI
      clear hI HC
      go_wp2
      exact ⟨⟨i + 1, by omega, by go_num, HI9⟩, by simp [intOf]; omega⟩
    · obtain rfl : i = m := by omega
      clear e1 e2 e3 k2
      go_wp2
      go_end0
      exact ⟨rfl, HI.out⟩
theorem cd1_q (b : Nat) (v : Bool) (item dec : Int) (w : World) (h : w.heap[b]? = some (.cells #[.bool v] 4 (0, 0))) :
    Calls Try.prog 52 #[.int .i64 item, .int .i64 dec, .pointer (some ⟨b, 0, none⟩)] w fun e w' => e = .returned (.tuple #[]) ∧ w' = w.setCell ⟨b, 0, none⟩ (.bool (v || (decide (dec < 0) || decide (item < dec)))) := by
  have k0 := cell_of_row _ _ 0 _ _ _ h
  have kf := frozen_of_row _ _ 0 _ _ h
  clear h
  cases v
  · by_cases h1 : dec < 0
    · have d1 : decide (dec < 0) = true := decide_eq_true h1
      go_enter Try.func52, Try.ntmps52
      go_wp2
      go_end0
      first | exact ⟨rfl, rfl⟩ | exact ⟨rfl, by rw [d1]; rfl⟩
    · have d1 : decide (dec < 0) = false := decide_eq_false h1
      by_cases h2 : item < dec
      · have d2 : decide (item < dec) = true := decide_eq_true h2
        go_enter Try.func52, Try.ntmps52
        go_wp2
        go_end0
        first | exact ⟨rfl, rfl⟩ | exact ⟨rfl, by rw [d1]; rfl⟩
      · have d2 : decide (item < dec) = false := decide_eq_false h2
        go_enter Try.func52, Try.ntmps52
        go_wp2
        go_end0
        first | exact ⟨rfl, rfl⟩ | exact ⟨rfl, by rw [d1]; rfl⟩
  · go_enter Try.func52, Try.ntmps52
    go_wp2
    go_end0
    exact ⟨rfl, rfl⟩
/-- the boxes of a visit's row stay -/
def Vis (w0 : World) (b1 b2 : Nat) (k : Int) (a : Option Addr) (m c : Nat) (d : List Int) (w : World) : Prop := w.heap[b1]? = some (.cells #[.slice a m c] 22 (0, 0)) ∧ w.heap[b2]? = some (.cells #[.int .i64 k] 3 (0, 0)) ∧ New w0 w
theorem Vis.set {w0 w : World} {b1 b2 : Nat} {k : Int} {a : Option Addr} {m c : Nat} {d : List Int} (h : Vis w0 b1 b2 k a m c d w) {g j : Nat} (h1 : g ≠ b1) (h2 : g ≠ b2) (h0 : w0.heap.size ≤ g) (u : Value) : Vis w0 b1 b2 k a m c d (w.setCell ⟨g, j, none⟩ u) :=
  ⟨(heap_setCell_other _ _ _ _ (fun e => h1 e.symm)).trans h.1, (heap_setCell_other _ _ _ _ (fun e => h2 e.symm)).trans h.2.1, h.2.2.setCell h0 _⟩
set_option maxRecDepth 100000 in
set_option maxHeartbeats 2000000 in
theorem cd_err (n k : Int) (a : Option Addr) (m c : Nat) (w : World) (h : ¬ ckE n k = 0) :
    Calls Try.prog 32 #[.int .i64 n, .int .i64 k, .slice a m c] w fun e w' => e = .returned (.int .i64 (ckE n k)) ∧ w' = w := by
  have HC := Lib.hid (check_42 n k w)
  obtain ⟨z, hz⟩ : ∃ z, ckE n k = z := ⟨_, rfl⟩
  rw [hz] at HC h ⊢
  clear hz
  have hb : (z != 0) = true := by simpa using h
  go_enter Try.func32, Try.ntmps32
  go_wp2_with fail
  refine HC.out.mono ?_
  rintro e w' ⟨rfl, hw⟩
  replace hw := hw.symm
  subst hw
  go_wp2
  go_ret
  exact ⟨rfl, rfl⟩
set_option maxRecDepth 100000 in
set_option maxHeartbeats 2000000 in
theorem cd_q (n k : Nat) (hk : k ≤ n) (hn : n ≤ 256) (a : Option Addr) (m c : Nat) (d : List Int) (w : World) (h : ZRow w a m c d) :
    Calls Try.prog 32 #[.int .i64 (n : Int), .int .i64 (k : Int), .slice a m c] w fun e w' => e = .returned (.int .i64 (rdE n k d)) ∧ New w w' := by
  have HC := Lib.hid (check_42 (n : Int) (k : Int) w)
  rw [show ckE (n : Int) (k : Int) = 0 from by unfold ckE; rw [if_neg (by omega), if_neg (by omega)]] at HC
  have HL := Lib.hid h.len_eq
  obtain ⟨j, hj⟩ : ∃ j, n - k = j := ⟨_, rfl⟩
  have hji : (n : Int) - (k : Int) = (j : Int) := by omega
  by_cases hm : m = j
  case neg =>
    have HF : Hid (rdE n k d = 2) := Lib.hid (by unfold rdE; rw [rdB_len (by rw [HL.out, hj]; exact hm)]; rfl)
    have hb : ((m : Int) != (j : Int)) = true := by simp; omega
    clear h
    go_enter Try.func32, Try.ntmps32
    go_wp2_with fail
    refine HC.out.mono ?_
    rintro e w' ⟨rfl, hw⟩
    replace hw := hw.symm
    subst hw
    go_wp2
    go_ret
    rw [HF.out]; exact ⟨rfl, New.refl _⟩
  subst hm
  have hb : ((m : Int) != (m : Int)) = false := by simp
  have HRD : Hid (rdB n k d = rkB (k : Int) d m) := Lib.hid (by unfold rdB; rw [HL.out, hj, decide_eq_true rfl]; rfl)
  have hbw := heap_alloc_new w (.cells #[.bool false] 4)
  obtain ⟨W1, hW1⟩ : ∃ z, w.alloc (.cells #[.bool false] 4) = z := ⟨_, rfl⟩
  have hn1 : New w W1 := hW1 ▸ (New.refl w).alloc _
  have hs1 : W1.heap.size = w.heap.size + 1 := by rw [← hW1]; simp
  rw [hW1] at hbw
  have HW1 := Lib.hid hW1
  have HA := Lib.hid (arr_q (k : Int) a m c W1)
  have HV : Hid (∀ w2, w2.heap[W1.heap.size]? = some (.cells #[.int .i64 (k : Int)] 3 (0, 0)) → w2.heap[W1.heap.size + 1]? = some (.cells #[.slice a m c] 22 (0, 0)) → New W1 w2 → Calls Try.prog 53 #[.func (Fn.func 52) #[] #[.pointer (some ⟨w.heap.size, 0, none⟩)], .pointer (some ⟨W1.heap.size + 1, 0, none⟩), .pointer (some ⟨W1.heap.size, 0, none⟩)] w2 fun e w' => e = .returned (.tuple #[]) ∧ w'.heap[w.heap.size]? = some (.cells #[.bool (!rkB (k : Int) d m)] 4 (0, 0)) ∧ New w w') := Lib.hid (fun w2 g1 g2 gn => by
    refine (arr1_q k m a c d (W1.heap.size + 1) W1.heap.size 52 #[.pointer (some ⟨w.heap.size, 0, none⟩)] (fun i w' => w'.heap[w.heap.size]? = some (.cells #[.bool (!rkB (k : Int) d i)] 4 (0, 0)) ∧ Vis w (W1.heap.size + 1) W1.heap.size (k : Int) a m c d w') w2 (by omega) (fun x y w => by kernel_rfl) ⟨(gn.block _ (lt_of_block hbw)).trans hbw, g2, g1, hn1.trans gn⟩ (fun i w' hI => ⟨hI.2.1, hI.2.2.1, h.stay hI.2.2.2⟩) (fun i w' hi hI => ?_)).mono (fun e w' hh => ⟨hh.1, hh.2.1, hh.2.2.2.2⟩)
    refine (cd1_q w.heap.size _ _ _ w' hI.1).mono ?_
    rintro e w3 ⟨rfl, rfl⟩
    refine ⟨rfl, ?_, hI.2.set (by omega) (by omega) (Nat.le_refl _) _⟩
    have h3 := heap_setCell_same w' w.heap.size 0 _ _ (.bool (!rkB (k : Int) d i || (decide (d.getD i 0 < 0) || decide (((k + i : Nat) : Int) < d.getD i 0)))) hI.1
    have he : (!rkB (k : Int) d (i + 1)) = (!rkB (k : Int) d i || (decide (d.getD i 0 < 0) || decide (((k + i : Nat) : Int) < d.getD i 0))) := by
      show (!(rkB (k : Int) d i && (decide (0 ≤ d.getD i 0) && decide (d.getD i 0 ≤ (k : Int) + (i : Int))))) = _
      rw [Bool.not_and, Bool.not_and]
      congr 1
      congr 1
      · rw [← decide_not]; exact decide_eq_decide.2 (by omega)
      · rw [← decide_not]; exact decide_eq_decide.2 (by omega)
    rw [he]
    exact h3)
  clear h hW1 hn1 hs1 hbw
  go_enter Try.func32, Try.ntmps32
  go_wp2_with fail
  refine HC.out.mono ?_
  rintro e w' ⟨rfl, hw⟩
  replace hw := hw.symm
  subst hw
  go_wp2_with fail
  rw [HW1.out]
  refine HA.out.mono ?_
  rintro e w2 ⟨rfl, g1, g2, gn⟩
  have HV2 := Lib.hid (HV.out w2 g1 g2 gn)
  clear g1 g2 gn HV HA
  have HRE : Hid (rdE n k d = if rkB (k : Int) d m then 0 else 2) := Lib.hid (by unfold rdE; rw [HRD.out])
  go_wp2_with fail
  refine HV2.out.mono ?_
  rintro e w3 ⟨rfl, hb3, hn3⟩
  have k0 := cell_of_row _ _ 0 _ _ _ hb3
  have HN3 := Lib.hid hn3
  clear hb3 hn3 HV2
  rcases hr : rkB (k : Int) d m with _ | _
  · rw [hr] at k0 HRE
    have HF : Hid (rdE n k d = 2) := Lib.hid (by rw [HRE.out]; rfl)
    clear hr HRE
    go_wp2
    go_ret
    rw [HF.out]; exact ⟨rfl, HN3.out⟩
  · rw [hr] at k0 HRE
    have HF : Hid (rdE n k d = 0) := Lib.hid (by rw [HRE.out]; rfl)
    clear hr HRE
    go_wp2
    go_ret
    rw [HF.out]; exact ⟨rfl, HN3.out⟩
end Go.Proofs.Ytajjpllhihgkdaa
