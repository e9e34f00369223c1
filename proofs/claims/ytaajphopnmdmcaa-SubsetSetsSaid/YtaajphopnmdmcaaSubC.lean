/- Plain lemmas: picks, and the choices that lead to them. · subset: sizes, rows, which lists are choices, which are picks. · subset.Pick; the document's own Pick. · subset.Choices. -/
import Derived.Test.YtaajphopnmdmcaaShfM
import Derived.Test.YtaajphopnmdmcaaShfD
namespace Go.Bv
set_option linter.unusedVariables false
/-- the row after k exchanges, from the first place on -/
def s2 (J : Nat → Nat) : Nat → Nat → Nat
  | 0 => fun x => x
  | k + 1 => sw (s2 J k) k (J k)
def i2 (J : Nat → Nat) : Nat → Nat → Nat
  | 0 => fun x => x
  | k + 1 => swI (s2 J k) (i2 J k) k (J k)
def rt2 (J : Nat → Nat) (m n : Nat) : Prop := ∀ i, i < m → i ≤ J i ∧ J i < n
theorem s2_lt {J : Nat → Nat} {m n : Nat} (h : rt2 J m n) : ∀ k, k ≤ m → ∀ x, x < n → s2 J k x < n
  | 0, _, x, hx => hx
  | k + 1, hk, x, hx => sw_lt (by have := h k (by omega); omega) (h k (by omega)).2 (s2_lt h k (by omega)) x hx
theorem i2_lt {J : Nat → Nat} {m n : Nat} (h : rt2 J m n) : ∀ k, k ≤ m → ∀ x, x < n → i2 J k x < n
  | 0, _, x, hx => hx
  | k + 1, hk, x, hx => swI_lt (by have := h k (by omega); omega) (h k (by omega)).2 (i2_lt h k (by omega)) x hx
theorem s2_i2 {J : Nat → Nat} {m n : Nat} (h : rt2 J m n) : ∀ k, k ≤ m → (∀ x, x < n → i2 J k (s2 J k x) = x) ∧ (∀ y, y < n → s2 J k (i2 J k y) = y)
  | 0, _ => ⟨fun _ _ => rfl, fun _ _ => rfl⟩
  | k + 1, hk => by
    obtain ⟨h1, h2⟩ := s2_i2 h k (by omega)
    exact sw_inv (i := k) (j := J k) (by have := h k (by omega); omega) (h k (by omega)).2 h1 h2
theorem s2_inj {J : Nat → Nat} {m n : Nat} (h : rt2 J m n) {k : Nat} (hk : k ≤ m) {x y : Nat} (hx : x < n) (hy : y < n) (he : s2 J k x = s2 J k y) : x = y := by
  rw [← (s2_i2 h k hk).1 x hx, ← (s2_i2 h k hk).1 y hy, he]
theorem s2_stay {J : Nat → Nat} {m n : Nat} (h : rt2 J m n) {k x : Nat} (hx : x < k) : ∀ d, k + d ≤ m → s2 J (k + d) x = s2 J k x
  | 0, _ => rfl
  | d + 1, hd => by
    show sw (s2 J (k + d)) (k + d) (J (k + d)) x = _
    have h1 := h (k + d) (by omega)
    unfold sw
    rw [if_neg (by omega), if_neg (by omega)]
    exact s2_stay h hx d (by omega)
theorem s2_put {J : Nat → Nat} {m n : Nat} (h : rt2 J m n) {k : Nat} (hk : k < m) : s2 J m k = s2 J k (J k) := by
  have h1 := s2_stay h (k := k + 1) (x := k) (by omega) (m - (k + 1)) (by omega)
  rw [show k + 1 + (m - (k + 1)) = m by omega] at h1
  rw [h1]
  show sw _ _ _ _ = _
  unfold sw
  by_cases e : k = J k
  · rw [if_pos e]; exact congrArg _ e
  · rw [if_neg e, if_pos rfl]
/-- the document's block: what is left in front stays -/
def b2 (J : Nat → Nat) : Nat → Nat → Nat
  | 0 => fun x => x
  | k + 1 => fun y => if y = J k then b2 J k k else b2 J k y
theorem b2_s2 {J : Nat → Nat} {m n : Nat} (h : rt2 J m n) : ∀ k, k ≤ m → ∀ y, k ≤ y → b2 J k y = s2 J k y
  | 0, _, _, _ => rfl
  | k + 1, hk, y, hy => by
    show (if y = J k then b2 J k k else b2 J k y) = sw (s2 J k) k (J k) y
    unfold sw
    rw [b2_s2 h k (by omega) k (Nat.le_refl _), b2_s2 h k (by omega) y (by omega)]
    by_cases e : y = J k
    · rw [if_pos e, if_pos e]
    · rw [if_neg e, if_neg e, if_neg (by omega)]
/-- whether c may be choices of a pick of n -/
def rp2 (n : Nat) (c : List Int) : Prop := c.length ≤ n ∧ ∀ i, i < c.length → 0 ≤ c.getD i 0 ∧ c.getD i 0 ≤ (n : Int) - 1 - (i : Int)
def JF (c : List Int) (i : Nat) : Nat := i + (c.getD i 0).toNat
theorem rp2_F {n : Nat} {c : List Int} (h : rp2 n c) : rt2 (JF c) c.length n := fun i hi => by have := h.2 i hi; unfold JF; omega
/-- what choices pick -/
def pkI (c : List Int) : List Int := liI (s2 (JF c) c.length) c.length
theorem pkI_len (c : List Int) : (pkI c).length = c.length := liI_len _ _
theorem pkI_lt {n : Nat} {c : List Int} (h : rp2 n c) {x : Nat} (hx : x < c.length) : s2 (JF c) c.length x < n := s2_lt (rp2_F h) _ (Nat.le_refl _) x (by have := h.1; omega)
/-- the choices told so far, zeros behind them -/
def ctI (c : List Int) (k : Nat) : List Int := (List.range c.length).map fun i => if i < k then c.getD i 0 else 0
theorem ctI_len (c : List Int) (k : Nat) : (ctI c k).length = c.length := by unfold ctI; simp
theorem ctI_get (c : List Int) (k : Nat) {i : Nat} (h : i < c.length) : (ctI c k).getD i 0 = if i < k then c.getD i 0 else 0 := by
  unfold ctI; rw [List.getD_eq_getElem?_getD, List.getElem?_map, List.getElem?_range h]; rfl
theorem ctI_set (c : List Int) {k : Nat} (h : k < c.length) : (ctI c k).set k (c.getD k 0) = ctI c (k + 1) := by
  apply ints_eq (n := c.length) (by rw [List.length_set, ctI_len]) (ctI_len _ _)
  intro i hi
  rw [ctI_get c (k + 1) hi, List.getD_eq_getElem?_getD, List.getElem?_set, ctI_len]
  by_cases e : k = i
  · subst e; rw [if_pos rfl, if_pos h, if_pos (by omega)]; rfl
  · rw [if_neg e, ← List.getD_eq_getElem?_getD, ctI_get c k hi]
    by_cases e2 : i < k
    · rw [if_pos e2, if_pos (by omega)]
    · rw [if_neg e2, if_neg (by omega)]
theorem ctI_all (c : List Int) : ctI c c.length = c := by
  apply ints_eq (n := c.length) (ctI_len _ _) rfl
  intro i hi
  rw [ctI_get c _ hi, if_pos hi]
theorem ctI_zero (c : List Int) : ctI c 0 = liI (fun _ => 0) c.length := by
  apply ints_eq (n := c.length) (ctI_len _ _) (liI_len _ _)
  intro i hi
  rw [ctI_get c _ hi, if_neg (by omega), liI_get _ hi]; rfl
end Go.Bv
namespace Go.Proofs.Ytaajphopnmdmcaa
open Go Go.RowKit Go.Bv
set_option linter.unusedVariables false
/-- what is wrong with sizes -/
def szE (n k : Int) : Int := if n < 0 ∨ 256 < n ∨ n < k then 1 else 0
theorem count_41 (n k : Int) (w : World) : Calls Try.prog 10 #[.int .i64 n, .int .i64 k] w fun e w' => e = .returned (.int .i64 (szE n k)) ∧ w' = w := by
  by_cases h1 : n < 0
  · have HE : Hid (szE n k = 1) := Lib.hid (if_pos (.inl h1))
    go_enter Try.func10, Try.ntmps10
    go_wp2
    go_ret
    rw [HE.out]; exact ⟨rfl, rfl⟩
  · by_cases h2 : 256 < n
    · have HE : Hid (szE n k = 1) := Lib.hid (if_pos (.inr (.inl h2)))
      go_enter Try.func10, Try.ntmps10
      go_wp2
      go_ret
      rw [HE.out]; exact ⟨rfl, rfl⟩
    · by_cases h3 : n < k
      · have HE : Hid (szE n k = 1) := Lib.hid (if_pos (.inr (.inr h3)))
        go_enter Try.func10, Try.ntmps10
        go_wp2
        go_ret
        rw [HE.out]; exact ⟨rfl, rfl⟩
      · have HE : Hid (szE n k = 0) := Lib.hid (if_neg (by omega))
        go_enter Try.func10, Try.ntmps10
        go_wp2
        go_ret
        rw [HE.out]; exact ⟨rfl, rfl⟩
theorem sizes_41 (n k : Int) (w : World) : Calls Try.prog 30 #[.int .i64 n, .int .i64 k] w fun e w' => e = .returned (.int .i64 (szE n k)) ∧ w' = w := by
  by_cases h1 : n < 0
  · have HE : Hid (szE n k = 1) := Lib.hid (if_pos (.inl h1))
    go_enter Try.func30, Try.ntmps30
    go_wp2
    go_ret
    rw [HE.out]; exact ⟨rfl, rfl⟩
  · by_cases h2 : 256 < n
    · have HE : Hid (szE n k = 1) := Lib.hid (if_pos (.inr (.inl h2)))
      go_enter Try.func30, Try.ntmps30
      go_wp2
      go_ret
      rw [HE.out]; exact ⟨rfl, rfl⟩
    · by_cases h3 : n < k
      · have HE : Hid (szE n k = 1) := Lib.hid (if_pos (.inr (.inr h3)))
        go_enter Try.func30, Try.ntmps30
        go_wp2
        go_ret
        rw [HE.out]; exact ⟨rfl, rfl⟩
      · have HE : Hid (szE n k = 0) := Lib.hid (if_neg (by omega))
        go_enter Try.func30, Try.ntmps30
        go_wp2
        go_ret
        rw [HE.out]; exact ⟨rfl, rfl⟩
set_option maxRecDepth 100000 in
set_option maxHeartbeats 2000000 in
theorem sorted_41 (n : Nat) (w : World) (hn : n ≤ 1000000) :
    Calls Try.prog 31 #[.int .i64 (n : Int)] w fun e w' => ∃ g, e = .returned (.slice (some ⟨g, 0, none⟩) (n : Nat) n) ∧ w'.ownsRow w.heap.size 3 1 (.slice (some ⟨g, 0, none⟩) n n) n ((liI (fun x => x) n).map fun x => .int .i64 x) ∧ New w w' := by
  obtain ⟨i0, hi, hz0, hz1, hz2⟩ := info_parts info_int40
  have HMK := Lib.hid (make_int n hn)
  go_enter Try.func31, Try.ntmps31
  go_wp2_with fail
  rw [HMK.out _ _ rfl]
  go_wp2_with fail
  go_loopw [9] (fun iv wr => ∃ k : Nat, k ≤ n ∧ iv = .int .i64 (k : Int) ∧ wr.ownsRow w.heap.size 3 1 (.slice (some ⟨w.heap.size, 0, none⟩) n n) n ((sqI n k).map fun x => .int .i64 x) ∧ New w wr) (fun iv _ => n - (intOf iv).toNat)
  case atStart => exact ⟨0, Nat.zero_le _, rfl, ow_made w _ _ _ n _ (Nat.le_refl _) (by omega) (by rw [made_toList, sqI_zero]) (by rw [List.length_map, sqI, liI_len]), (New.refl w).alloc _⟩
  case round =>
    obtain ⟨k, hk, rfl, hown, hnew⟩ := hrel
    by_cases hlt : (k : Int) < (n : Int)
    · have hk0 : (0 : Int) ≤ (k : Int) := by omega
      obtain ⟨hc1, hf1⟩ := ow_int hown (k := k) (by omega)
      have HO2 : Hid ((wr.setCell ⟨w.heap.size, k, none⟩ (.int .i64 (k : Int))).ownsRow w.heap.size 3 1 (.slice (some ⟨w.heap.size, 0, none⟩) n n) n ((sqI n (k + 1)).map fun x => .int .i64 x)) := Lib.hid (by
        rw [← sqI_set n k (by omega), List.map_set]; exact ow_set hown k _)
      have HN2 : Hid (New w (wr.setCell ⟨w.heap.size, k, none⟩ (.int .i64 (k : Int)))) := Lib.hid (hnew.setCell (Nat.le_refl _) _)
      clear hown hnew
      go_wp2
      exact ⟨⟨k + 1, by omega, by go_num, HO2.out, HN2.out⟩, by simp [intOf]; omega⟩
    · obtain rfl : k = n := by omega
      rw [sqI_all] at hown
      go_wp2
      go_ret
      exact ⟨_, rfl, hown, hnew⟩

/-- whether the first k may be choices -/
def r2B (n : Int) (c : List Int) : Nat → Bool
  | 0 => true
  | k + 1 => r2B n c k && (decide (0 ≤ c.getD k 0) && decide (c.getD k 0 ≤ n - 1 - (k : Int)))
theorem r2B_iff {n : Int} {c : List Int} : ∀ {k}, r2B n c k = true ↔ ∀ i, i < k → 0 ≤ c.getD i 0 ∧ c.getD i 0 ≤ n - 1 - (i : Int)
  | 0 => ⟨fun _ i h => by omega, fun _ => rfl⟩
  | k + 1 => by
    show (r2B n c k && (decide (0 ≤ c.getD k 0) && decide (c.getD k 0 ≤ n - 1 - (k : Int)))) = true ↔ _
    rw [Bool.and_eq_true, Bool.and_eq_true, decide_eq_true_eq, decide_eq_true_eq, r2B_iff (k := k)]
    constructor
    · rintro ⟨h1, h2⟩ i hi
      by_cases e : i = k
      · subst e; exact h2
      · exact h1 i (by omega)
    · intro h
      exact ⟨fun i hi => h i (by omega), h k (by omega)⟩
theorem r2B_no {n : Int} {c : List Int} {m k : Nat} (hk : k < m) (h : c.getD k 0 < 0 ∨ n - 1 - (k : Int) < c.getD k 0) : r2B n c m = false := by
  rw [← Bool.not_eq_true, r2B_iff]
  intro h2
  have := h2 k hk
  omega
set_option maxRecDepth 100000 in
set_option maxHeartbeats 2000000 in
theorem right_41 (N : Int) (hN : -100000 ≤ N ∧ N ≤ 100000) (a : Option Addr) (n c : Nat) (l : List Int) (w : World) (h : ZRow w a n c l) (hn : n ≤ 100000) :
    Calls Try.prog 11 #[.int .i64 N, .slice a n c] w fun e w' => e = .returned (.bool (r2B N l n)) ∧ w' = w := by
  have hm := h.most
  have HH := Lib.hid h
  clear h
  go_enter Try.func11, Try.ntmps11
  go_wp2
  go_loop [9] (fun i => ∃ k : Nat, k ≤ n ∧ i = .int .i64 (k : Int) ∧ Hid (r2B N l k = true)) (fun i => n - (intOf i).toNat)
  case atStart => exact ⟨0, Nat.zero_le _, rfl, Lib.hid rfl⟩
  case round =>
    obtain ⟨k, hk, rfl, H⟩ := hrel
    by_cases hlt : (k : Int) < (n : Int)
    · obtain ⟨b, off, rfl, hc⟩ := HH.out.addr (by omega)
      have c1 := hc k (by omega)
      clear hc
      have hk0 : (0 : Int) ≤ (k : Int) := by omega
      have HNO := Lib.hid (fun h => r2B_no (n := N) (c := l) (m := n) (k := k) (by omega) h)
      have HST : Hid (r2B N l (k + 1) = (r2B N l k && (decide (0 ≤ l.getD k 0) && decide (l.getD k 0 ≤ N - 1 - (k : Int))))) := Lib.hid rfl
      obtain ⟨y, hy⟩ : ∃ z, l.getD k 0 = z := ⟨_, rfl⟩
      rw [hy] at c1 HNO HST
      clear hy
      by_cases h1 : y < 0
      · go_wp2
        go_ret
        rw [HNO.out (.inl h1)]; exact ⟨rfl, rfl⟩
      by_cases h2 : N - 1 - (k : Int) < y
      · go_wp2
        go_ret
        rw [HNO.out (.inr h2)]; exact ⟨rfl, rfl⟩
      have h1' : 0 ≤ y := by omega
      have h2' : y ≤ N - 1 - (k : Int) := by omega
      go_wp2
      exact ⟨⟨k + 1, by omega, by go_num, Lib.hid (by rw [HST.out, H.out, decide_eq_true h1', decide_eq_true h2']; rfl)⟩, by simp [intOf]; omega⟩
    · obtain rfl : k = n := by omega
      go_wp2
      go_ret
      rw [H.out]; exact ⟨rfl, rfl⟩
set_option maxRecDepth 100000 in
set_option maxHeartbeats 2000000 in
theorem ispick_41 (N : Nat) (hN : N ≤ 100000) (a : Option Addr) (n c : Nat) (p : List Int) (w : World) (h : ZRow w a n c p) (hn : n ≤ 100000) (h1 : ∀ k, k < n → 0 ≤ p.getD k 0 ∧ p.getD k 0 < (N : Int)) (h2 : ∀ j k, j < k → k < n → p.getD j 0 ≠ p.getD k 0) :
    Calls Try.prog 33 #[.int .i64 (N : Int), .slice a n c] w fun e w' => e = .returned (.bool true) ∧ New w w' := by
  have HH := Lib.hid h
  have HMK := Lib.hid (make_bool N (by omega))
  have HN0 : Hid (∀ (k : Nat), k < n → 0 ≤ p.getD k 0 ∧ p.getD k 0 < (N : Int)) := Lib.hid h1
  have HN1 : Hid (∀ (k y : Nat), k < n → p.getD k 0 = (y : Int) → seI p y k = false) := Lib.hid (fun k y hk he => by
    rw [← Bool.not_eq_true, seI_iff]
    rintro ⟨j, hj, hje⟩
    exact h2 j k hj hk (hje.trans he.symm))
  clear h h1 h2
  go_enter Try.func33, Try.ntmps33
  go_wp2_with fail
  rw [HMK.out _ _ rfl]
  go_wp2_with fail
  go_loopw [12] (fun iv wr => ∃ k : Nat, k ≤ n ∧ iv = .int .i64 (k : Int) ∧ wr.ownsRow w.heap.size 4 1 (.slice (some ⟨w.heap.size, 0, none⟩) N N) N ((seL p N k).map fun x => .bool x) ∧ New w wr) (fun iv _ => n - (intOf iv).toNat)
  case atStart => exact ⟨0, Nat.zero_le _, rfl, ow_made w _ _ _ N _ (Nat.le_refl _) (by omega) (by rw [made_toList, seL_zero p]) (by rw [List.length_map, seL_len]), (New.refl w).alloc _⟩
  case round =>
    obtain ⟨k, hk, rfl, hown, hnew⟩ := hrel
    by_cases hlt : (k : Int) < (n : Int)
    · have hk0 : (0 : Int) ≤ (k : Int) := by omega
      obtain ⟨b, off, rfl, hc⟩ := (HH.out.stay hnew).addr (by omega)
      have c1 := hc k (by omega)
      clear hc
      obtain ⟨z, hz⟩ : ∃ z : Nat, p.getD k 0 = (z : Int) := ⟨(p.getD k 0).toNat, by have := HN0.out k (by omega); omega⟩
      have hzN : z < N := by have := HN0.out k (by omega); rw [hz] at this; omega
      have hs := HN1.out k z (by omega) hz
      have HST := Lib.hid (seL_set p N k z hzN hz)
      rw [hz] at c1
      obtain ⟨hc2, hf2⟩ := ow_bool hown (k := z) hzN
      rw [seL_get p k hzN, hs] at hc2
      have hy0 : (0 : Int) ≤ (z : Int) := by omega
      have hyN : (z : Int) < (N : Int) := by omega
      have hy1 : ¬ (N : Int) ≤ (z : Int) := by omega
      have hy2 : ¬ (z : Int) < 0 := by omega
      have HO2 : Hid ((wr.setCell ⟨w.heap.size, z, none⟩ (.bool true)).ownsRow w.heap.size 4 1 (.slice (some ⟨w.heap.size, 0, none⟩) N N) N ((seL p N (k + 1)).map fun x => .bool x)) := Lib.hid (by
        rw [← HST.out, List.map_set]; exact ow_set hown z _)
      have HN2 : Hid (New w (wr.setCell ⟨w.heap.size, z, none⟩ (.bool true))) := Lib.hid (hnew.setCell (Nat.le_refl _) _)
      clear hown hnew hs hz
      go_wp2
      exact ⟨⟨k + 1, by omega, by go_num, HO2.out, HN2.out⟩, by simp [intOf]; omega⟩
    · obtain rfl : k = n := by omega
      clear hown
      go_wp2
      go_ret
      exact ⟨rfl, hnew⟩
end Go.Proofs.Ytaajphopnmdmcaa
namespace Go.Proofs.Ytaajphopnmdmcaa
open Go Go.RowKit Go.Bv
set_option linter.unusedVariables false
theorem liI_takes (f : Nat → Nat) {n m : Nat} (h : m ≤ n) : (liI f n).take m = liI f m := by
  apply ints_eq (n := m) (by rw [List.length_take, liI_len]; omega) (liI_len _ _)
  intro i hi
  rw [List.getD_eq_getElem?_getD, List.getElem?_take, if_pos hi, ← List.getD_eq_getElem?_getD, liI_get f (show i < n by omega), liI_get f hi]
theorem JF_at {n : Nat} {c : List Int} (h : rp2 n c) {k : Nat} (hk : k < c.length) : ∃ x : Nat, c.getD k 0 = (x : Int) ∧ JF c k = k + x ∧ k + x < n := by
  have h1 := h.2 k hk
  refine ⟨(c.getD k 0).toNat, by omega, rfl, by omega⟩
set_option maxRecDepth 100000 in
set_option maxHeartbeats 4000000 in
theorem pick_ok (n : Nat) (hn : n ≤ 256) (a : Option Addr) (m c : Nat) (l : List Int) (w : World) (h : ZRow w a m c l) (hl : rp2 n l) :
    Calls Try.prog 9 #[.int .i64 (n : Int), .slice a m c] w fun e w' => ∃ a' c', e = .returned (.tuple #[.slice a' (m : Nat) c', .int .i64 0]) ∧ ZRow w' a' m c' (pkI l) ∧ New w w' := by
  have HL := Lib.hid h.len_eq
  have HH := Lib.hid h
  have HR := Lib.hid hl
  have HF := Lib.hid (rp2_F hl)
  rw [HL.out] at HF
  have hmn : m ≤ n := by have := hl.1; rw [HL.out] at this; exact this
  have HS := Lib.hid (fun w => sorted_41 n w (by omega))
  have HZ : Hid (szE (n : Int) (m : Int) = 0) := Lib.hid (if_neg (by omega))
  have HSZ := Lib.hid (fun w => sizes_41 (n : Int) (m : Int) w)
  rw [HZ.out] at HSZ
  clear h hl HZ
  go_enter Try.func9, Try.ntmps9
  go_wp2_with fail
  refine (HSZ.out _).mono ?_
  rintro e w' ⟨rfl, hw⟩
  replace hw := hw.symm
  subst hw
  go_wp2_with fail
  go_loop [21] (fun i => ∃ k : Nat, k ≤ m ∧ i = .int .i64 (k : Int)) (fun i => m - (intOf i).toNat)
  case atStart => exact ⟨0, Nat.zero_le _, rfl⟩
  case round =>
    obtain ⟨k, hk, rfl⟩ := hrel
    by_cases hlt : (k : Int) < (m : Int)
    · obtain ⟨b, off, rfl, hc⟩ := HH.out.addr (by omega)
      have c1 := hc k (by omega)
      clear hc
      have hk0 : (0 : Int) ≤ (k : Int) := by omega
      obtain ⟨h1, h2⟩ := HR.out.2 k (by rw [HL.out]; omega)
      obtain ⟨y, hy⟩ : ∃ z, l.getD k 0 = z := ⟨_, rfl⟩
      rw [hy] at c1 h1 h2
      clear hy
      have h1' : ¬ y < 0 := by omega
      have h2' : ¬ (n : Int) - 1 - (k : Int) < y := by omega
      go_wp2
      exact ⟨⟨k + 1, by omega, by go_num⟩, by simp [intOf]; omega⟩
    · obtain rfl : k = m := by omega
      go_wp2_with fail
      refine (HS.out _).mono ?_
      rintro e w9 ⟨g, rfl, how, hnew⟩
      have HO := Lib.hid how
      have HN := Lib.hid hnew
      have hgb : w.heap.size ≤ g := (ow_in how).1
      clear how hnew
      go_wp2_with fail
      go_loopw [41] (fun iv wr => ∃ j : Nat, j ≤ k ∧ iv = .int .i64 (j : Int) ∧ wr.ownsRow w.heap.size 3 1 (.slice (some ⟨g, 0, none⟩) n n) n ((liI (s2 (JF l) j) n).map fun x => .int .i64 x) ∧ New w wr) (fun iv _ => k - (intOf iv).toNat)
      case atStart => exact ⟨0, Nat.zero_le _, rfl, HO.out, HN.out⟩
      case round =>
        clear HO HN
        obtain ⟨j, hj, rfl, hown, hnew⟩ := hrel
        have HO2 := Lib.hid hown
        have HN2 := Lib.hid hnew
        obtain ⟨wq, hwq⟩ : ∃ z, z = wr := ⟨_, rfl⟩
        rw [← hwq] at HO2 HN2 ⊢
        clear hown hnew hwq
        by_cases hlt2 : (j : Int) < (k : Int)
        · have hj0 : (0 : Int) ≤ (j : Int) := by omega
          have hjn : (j : Int) < (n : Int) := by omega
          obtain ⟨b, off, rfl, hc⟩ := (HH.out.stay HN2.out).addr (by omega)
          have c1 := hc j (by omega)
          clear hc
          obtain ⟨x, hx, hJ, hJn⟩ := JF_at HR.out (k := j) (by rw [HL.out]; omega)
          rw [hx] at c1
          have HST : Hid (s2 (JF l) (j + 1) = sw (s2 (JF l) j) j (j + x)) := Lib.hid (by show sw _ _ _ = _; rw [hJ])
          obtain ⟨f, hf⟩ : ∃ f, s2 (JF l) j = f := ⟨_, rfl⟩
          rw [hf] at HO2 HST
          obtain ⟨q, hq⟩ : ∃ q, j + x = q := ⟨_, rfl⟩
          rw [hq] at hJn HST
          have hq1 : (j : Int) + (x : Int) = (q : Int) := by omega
          have hq0 : (0 : Int) ≤ (q : Int) := by omega
          have hqn : (q : Int) < (n : Int) := by omega
          clear hx hJ hf
          obtain ⟨hci, hfi⟩ := ow_int HO2.out (k := j) (by omega)
          obtain ⟨hcq, hfq⟩ := ow_int HO2.out (k := q) hJn
          rw [liI_get f (show j < n by omega)] at hci
          rw [liI_get f hJn] at hcq
          obtain ⟨hs1, hs2⟩ := ow_int (l := (liI f n).set j (f q : Int)) (by rw [List.map_set]; exact ow_set HO2.out j (.int .i64 (f q : Nat))) (k := q) hJn
          have HO3 : Hid (((wq.setCell ⟨g, j, none⟩ (.int .i64 (f q : Nat))).setCell ⟨g, q, none⟩ (.int .i64 (f j : Nat))).ownsRow w.heap.size 3 1 (.slice (some ⟨g, 0, none⟩) n n) n ((liI (s2 (JF l) (j + 1)) n).map fun x => .int .i64 x)) := Lib.hid (by
            rw [HST.out, ← liI_sw f (show j < n by omega) hJn, List.map_set, List.map_set]
            exact ow_set (ow_set HO2.out _ _) _ _)
          have HN3 : Hid (New w ((wq.setCell ⟨g, j, none⟩ (.int .i64 (f q : Nat))).setCell ⟨g, q, none⟩ (.int .i64 (f j : Nat)))) := Lib.hid ((HN2.out.setCell hgb _).setCell hgb _)
          go_wp2_with fail
          go_region
          have HO4 := Lib.hid (ow_new HO3.out (New.refl _).drew)
          have HN4 := Lib.hid (New.drew HN3.out)
          clear HO3 HN3 hs1 hs2 c1 hci hcq hfi hfq
          obtain ⟨W2, hW2⟩ : ∃ z, ((wq.setCell ⟨g, j, none⟩ (.int .i64 (f q : Nat))).setCell ⟨g, q, none⟩ (.int .i64 (f j : Nat))).drew = z := ⟨_, rfl⟩
          rw [hW2] at HO4 HN4 ⊢
          clear hW2
          go_wp2
          exact ⟨⟨j + 1, by omega, by go_num, HO4.out, HN4.out⟩, by simp [intOf]; omega⟩
        · obtain rfl : j = k := by omega
          obtain ⟨_, _, he, hz⟩ := ZRow.of_owns HO2.out (by omega) (in64_li _ (fun x hx => by have := s2_lt HF.out j (Nat.le_refl _) x hx; omega))
          cases he
          have hzs := hz.slice 0 j j (by omega) (Nat.le_refl _) (by omega)
          rw [List.drop_zero, liI_takes _ hmn] at hzs
          have HZR : Hid (ZRow wq (some ⟨g, 0, none⟩) j j (pkI l)) := Lib.hid (by
            unfold pkI; rw [HL.out]; exact hzs)
          clear hz hzs
          have hj0 : (0 : Int) ≤ (j : Int) := by omega
          have hjn : (j : Int) ≤ (n : Int) := by omega
          go_wp2
          go_ret2
          exact ⟨_, _, rfl, HZR.out, HN2.out⟩
set_option maxRecDepth 100000 in
set_option maxHeartbeats 4000000 in
theorem pickr_41 (n : Nat) (hn : n ≤ 100000) (a : Option Addr) (m c : Nat) (l : List Int) (w : World) (h : ZRow w a m c l) (hl : rp2 n l) :
    Calls Try.prog 13 #[.int .i64 (n : Int), .slice a m c] w fun e w' => ∃ a' c', e = .returned (.slice a' (m : Nat) c') ∧ ZRow w' a' m c' (pkI l) ∧ New w w' := by
  obtain ⟨i0, hi, hz0, hz1, hz2⟩ := info_parts info_int40
  have HL := Lib.hid h.len_eq
  have HH := Lib.hid h
  have HR := Lib.hid hl
  have HF := Lib.hid (rp2_F hl)
  rw [HL.out] at HF
  have hmn : m ≤ n := by have := hl.1; rw [HL.out] at this; exact this
  have HS := Lib.hid (fun w => row_ref40 n w (by omega))
  have HIN : Hid (∀ z ∈ pkI l, In64 z) := Lib.hid (by
    unfold pkI
    rw [HL.out]
    exact in64_li _ (fun x hx => by have := s2_lt HF.out m (Nat.le_refl _) x (by omega); omega))
  have HPK : Hid (liI (s2 (JF l) m) m = pkI l) := Lib.hid (by unfold pkI; rw [HL.out])
  clear h hl
  go_enter Try.func13, Try.ntmps13
  go_wp2_with fail
  refine (HS.out _).mono ?_
  rintro e w9 ⟨v, rfl, how, hnew⟩
  have HO := Lib.hid how
  have HN := Lib.hid hnew
  clear how hnew
  rcases Nat.eq_zero_or_pos m with hm0 | hm0
  · subst hm0
    have HZR : Hid (ZRow w9 none 0 0 (pkI l)) := Lib.hid (by rw [List.eq_nil_of_length_eq_zero (show (pkI l).length = 0 by rw [pkI_len, HL.out])]; exact nil_zrow _)
    go_wp2_with fail
    go_loop [6, 13] (fun o i => o = .slice none 0 0 ∧ i = .int .i64 0) (fun _ _ => 0)
    case atStart => exact ⟨rfl, rfl⟩
    case round =>
      obtain ⟨rfl, rfl⟩ := hrel
      go_wp2
      go_ret
      exact ⟨none, 0, rfl, HZR.out, HN.out⟩
  · obtain ⟨g, cap, rfl, hgb, hg9, hnc, hcap⟩ := ow_shape HO.out (by omega)
    go_wp2_with fail
    go_loopw [5, 6, 13] (fun rv bv iv wr => ∃ (k off : Nat), k ≤ m ∧ iv = .int .i64 (k : Int) ∧ rv = .slice (some ⟨g, off, none⟩) (n - k) (cap - k) ∧ Hid (k < n → off = k) ∧ wr.ownsRow w.heap.size 3 1 (.slice (some ⟨g, 0, none⟩) n cap) n ((liI (b2 (JF l) k) n).map fun x => .int .i64 x) ∧ wr.ownsRow w9.heap.size 3 1 bv k ((liI (s2 (JF l) m) k).map fun x => .int .i64 x) ∧ New w wr ∧ Hid (w9.heap.size ≤ wr.heap.size)) (fun _ _ iv _ => m - (intOf iv).toNat)
    case atStart => exact ⟨0, 0, Nat.zero_le _, rfl, rfl, Lib.hid (fun _ => rfl), HO.out, World.ownsRow_nil _ _ _ 1, HN.out, Lib.hid (Nat.le_refl _)⟩
    case round =>
      obtain ⟨k, off, hk, rfl, rfl, HOF, hrow, hbk, hnew, HSZ⟩ := hrel
      have HRW := Lib.hid hrow
      have HBK := Lib.hid hbk
      have HN2 := Lib.hid hnew
      obtain ⟨wq, hwq⟩ : ∃ z, z = wr := ⟨_, rfl⟩
      rw [← hwq] at HRW HBK HN2 HSZ ⊢
      clear hrow hbk hnew hwq
      by_cases hlt : (k : Int) < (m : Int)
      · obtain rfl : off = k := HOF.out (by omega)
        have hk0 : (0 : Int) ≤ (off : Int) := by omega
        obtain ⟨b, o2, rfl, hc⟩ := (HH.out.stay HN2.out).addr (by omega)
        have c1 := hc off (by omega)
        clear hc
        obtain ⟨x, hx, hJ, hJn⟩ := JF_at HR.out (k := off) (by rw [HL.out]; omega)
        rw [hx] at c1
        have hbs : liI (s2 (JF l) m) (off + 1) = liI (s2 (JF l) m) off ++ [((b2 (JF l) off (off + x) : Nat) : Int)] := by
          rw [liI_succ, s2_put HF.out (show off < m by omega), ← hJ, b2_s2 HF.out off (by omega) (JF l off) (by rw [hJ]; omega)]
        have hst : liI (b2 (JF l) (off + 1)) n = (liI (b2 (JF l) off) n).set (off + x) ((b2 (JF l) off off : Nat) : Int) := by
          rw [liI_set _ _ hJn]
          apply liI_ext
          intro y _
          show (if y = JF l off then _ else _) = _
          rw [hJ]
        obtain ⟨f, hf⟩ : ∃ f, b2 (JF l) off = f := ⟨_, rfl⟩
        rw [hf] at HRW hbs hst
        have HBS := Lib.hid hbs
        have HST := Lib.hid hst
        clear hx hJ hf hbs hst
        obtain ⟨bl, hbl⟩ : ∃ z, liI (s2 (JF l) m) off = z := ⟨_, rfl⟩
        rw [hbl] at HBK HBS
        clear hbl
        obtain ⟨hci, hfi⟩ := ow_int HRW.out (k := off) (by omega)
        obtain ⟨hcq, hfq⟩ := ow_int HRW.out (k := off + x) hJn
        rw [liI_get f (show off < n by omega)] at hci
        rw [liI_get f hJn] at hcq
        have hx0 : (0 : Int) ≤ (x : Int) := by omega
        have hxn : (x : Int) < ((n - off : Nat) : Int) := by omega
        have h0n : (0 : Int) < ((n - off : Nat) : Int) := by omega
        have hbk := HBK.out
        have hrow := HRW.out
        have hnew := HN2.out
        have hne : (Value.slice (some ⟨g, 0, none⟩) n cap).ownBlock ≠ u6.ownBlock := fun e' => by
          have h1 := own_base hbk g (by rw [← e']; rfl)
          omega
        go_wp2_with (at_builtin; refine wpList_append_own _ rfl _ _ 22 rfl w9.heap.size 3 i0 (.int .i64 0) 1 8 Try.underlying22 hi hz0 hz1 hz2 rfl (by decide) _ off _ rfl (hbk.alloc _) ⟨wq.heap.size, 0, none⟩ 1 1 [.int .i64 (f (off + x) : Nat)] rfl rfl ?d1 ?d2 ?d3 ?d4 ?d5 ?_)
        try (case d1 => exact one_cell wq _ _)
        try (case d2 => first | rfl | (intro u hu; simp at hu; subst hu; rfl))
        try (case d3 => first | (unfold maxLen; omega) | omega)
        try (case d4 => omega)
        try (case d5 => first | (simp; have := HSZ.out; omega) | (have := HSZ.out; omega))
        intro v' w1 how hgr _
        have hrow1 := (hrow.alloc (.cells #[.int .i64 (f (off + x) : Nat)] 3)).kept hgr (.inr hne)
        have hnew1 := (hnew.alloc (.cells #[.int .i64 (f (off + x) : Nat)] 3)).grown' hgr (fun k hk => by
          have h1 := own_base hbk k hk
          have h2 := HN.out.le
          omega)
        have hsz1 : w9.heap.size ≤ w1.heap.size := by
          have h1 := hgr.size
          have h2 := HSZ.out
          simp at h1
          omega
        have HB2 : Hid (w1.ownsRow w9.heap.size 3 1 v' (off + 1) ((liI (s2 (JF l) m) (off + 1)).map fun x => .int .i64 x)) := Lib.hid (by
          rw [HBS.out, List.map_append]; exact how)
        obtain ⟨hci1, hfi1⟩ := ow_int hrow1 (k := off) (by omega)
        obtain ⟨hcq1, hfq1⟩ := ow_int hrow1 (k := off + x) hJn
        rw [liI_get f (show off < n by omega)] at hci1
        have HQ2 : Hid ((w1.setCell ⟨g, off + x, none⟩ (.int .i64 (f off : Nat))).ownsRow w.heap.size 3 1 (.slice (some ⟨g, 0, none⟩) n cap) n ((liI (b2 (JF l) (off + 1)) n).map fun x => .int .i64 x)) := Lib.hid (by
          rw [HST.out, List.map_set]; exact ow_set hrow1 _ _)
        have HB3 : Hid ((w1.setCell ⟨g, off + x, none⟩ (.int .i64 (f off : Nat))).ownsRow w9.heap.size 3 1 v' (off + 1) ((liI (s2 (JF l) m) (off + 1)).map fun x => .int .i64 x)) := Lib.hid (ow_far HB2.out (fun e' => by
          have := own_base HB2.out g e'
          omega) _)
        have HN5 : Hid (New w (w1.setCell ⟨g, off + x, none⟩ (.int .i64 (f off : Nat)))) := Lib.hid (hnew1.setCell hgb _)
        have HS5 : Hid (w9.heap.size ≤ (w1.setCell ⟨g, off + x, none⟩ (.int .i64 (f off : Nat))).heap.size) := Lib.hid (by simpa using hsz1)
        clear how hgr hrow hnew hbk hrow1 hnew1 hsz1 HB2 c1 hci hfi hcq hfq hne HST HBS
        have e1 : n - off - 1 = n - (off + 1) := by omega
        have e2 : cap - off - 1 = cap - (off + 1) := by omega
        by_cases hck : cap - off = 1
        · go_wp2_with fail
          have e3 : (0 : Nat) = cap - (off + 1) := by omega
          refine ⟨⟨off + 1, off, by omega, by go_num, ?_, Lib.hid (fun h => by omega), HQ2.out, HB3.out, HN5.out, HS5⟩, by simp [intOf]; omega⟩
          rw [← e1, ← e3]
        · go_wp2_with fail
          refine ⟨⟨off + 1, off + 1, by omega, by go_num, ?_, Lib.hid (fun h => rfl), HQ2.out, HB3.out, HN5.out, HS5⟩, by simp [intOf]; omega⟩
          rw [← e1, ← e2]
      · obtain rfl : k = m := by omega
        have how := HBK.out
        rw [HPK.out] at how
        obtain ⟨a1, c1, rfl, hz⟩ := ZRow.of_owns how (by omega) HIN.out
        have HZR := Lib.hid hz
        clear how hz HBK HRW
        go_wp2
        go_ret
        exact ⟨a1, c1, rfl, HZR.out, HN2.out⟩
end Go.Proofs.Ytaajphopnmdmcaa
namespace Go.Proofs.Ytaajphopnmdmcaa
open Go Go.RowKit Go.Bv
set_option linter.unusedVariables false
theorem pk_cells {n : Nat} {c : List Int} (h : rp2 n c) : (∀ k, k < c.length → 0 ≤ (pkI c).getD k 0 ∧ (pkI c).getD k 0 < (n : Int)) ∧ (∀ j k, j < k → k < c.length → (pkI c).getD j 0 ≠ (pkI c).getD k 0) := by
  have h1 := h.1
  have h2 := rp2_F h
  unfold pkI
  constructor
  · intro k hk
    rw [liI_get _ hk]
    have := s2_lt h2 _ (Nat.le_refl _) k (by omega)
    omega
  · intro j k hj hk he
    rw [liI_get _ (by omega), liI_get _ hk] at he
    have := s2_inj h2 (Nat.le_refl _) (x := j) (y := k) (by omega) (by omega) (by omega)
    omega
set_option maxRecDepth 100000 in
set_option maxHeartbeats 8000000 in
theorem chc_41 (n : Nat) (hn : n ≤ 256) (a : Option Addr) (m c : Nat) (cl : List Int) (w : World) (h : ZRow w a m c (pkI cl)) (hl : rp2 n cl) (hlm : cl.length = m) :
    Calls Try.prog 14 #[.int .i64 (n : Int), .slice a m c] w fun e w' => ∃ a' c', e = .returned (.tuple #[.slice a' (m : Nat) c', .int .i64 0]) ∧ ZRow w' a' m c' cl ∧ New w w' := by
  have HL := Lib.hid hlm
  have HH := Lib.hid h
  have HR := Lib.hid hl
  have HF := Lib.hid (rp2_F hl)
  rw [HL.out] at HF
  have hmn : m ≤ n := by have := hl.1; rw [HL.out] at this; exact this
  have HZ : Hid (szE (n : Int) (m : Int) = 0) := Lib.hid (if_neg (by omega))
  have HSZ := Lib.hid (fun w => sizes_41 (n : Int) (m : Int) w)
  rw [HZ.out] at HSZ
  have HPC := Lib.hid (pk_cells hl)
  rw [HL.out] at HPC
  have HI := Lib.hid (ispick_41 n (by omega) a m c (pkI cl) w h (by omega) HPC.out.1 HPC.out.2)
  have HS := Lib.hid (fun w => sorted_41 n w (by omega))
  have hmk : ∀ W : World, (Instr.makeSlice 22 (.int .i64 (m : Int)) (.int .i64 (m : Int))).run Try.prog W = .ok (.slice (some ⟨W.heap.size, 0, none⟩) m m) (W.alloc (.cells (madeCells #[.int .i64 0] m) 3)) := fun W => make_int m (by omega) _ W rfl
  have M0 : Hid True := Lib.hid trivial
  clear h hl hlm HZ
  go_enter Try.func14, Try.ntmps14
  go_wp2_with fail
  refine (HSZ.out _).mono ?_
  rintro e w' ⟨rfl, hw⟩
  replace hw := hw.symm
  subst hw
  go_wp2_with fail
  refine (HI.out).mono ?_
  rintro e w9 ⟨rfl, hn9⟩
  have HN := Lib.hid hn9
  have HN9 := Lib.hid hn9
  clear hn9 HI HSZ HPC
  go_wp2_with fail
  go_cut [7, 8, 9] (fun c r t wx => ∃ g1 g2 g3, c = .slice (some ⟨g1, 0, none⟩) m m ∧ r = .slice (some ⟨g2, 0, none⟩) n n ∧ t = .slice (some ⟨g3, 0, none⟩) n n ∧ wx.ownsRow w9.heap.size 3 1 (.slice (some ⟨g1, 0, none⟩) m m) m ((liI (fun _ => 0) m).map fun x => .int .i64 x) ∧ wx.ownsRow w9.heap.size 3 1 (.slice (some ⟨g2, 0, none⟩) n n) n ((liI (fun x => x) n).map fun x => .int .i64 x) ∧ wx.ownsRow w9.heap.size 3 1 (.slice (some ⟨g3, 0, none⟩) n n) n ((liI (fun x => x) n).map fun x => .int .i64 x) ∧ (g1 ≠ g2 ∧ g1 ≠ g3 ∧ g2 ≠ g3) ∧ New w9 wx)
  case first =>
    go_region_held3 (fun w' => New w9 w')
      (first | with_reducible assumption | with_reducible exact (New.refl _).drew | with_reducible exact New.drew (by assumption) | with_reducible exact ((New.refl _).alloc _).drew | with_reducible exact (((New.refl _).drew).alloc _).drew | with_reducible exact ((New.refl _).drew).alloc _ | with_reducible exact New.alloc (by assumption) _ | with_reducible exact (New.drew (by assumption)).alloc _ | with_reducible exact (New.alloc (by assumption) _).drew | with_reducible exact ((New.drew (by assumption)).alloc _).drew | with_reducible exact (New.drew (by assumption)).drew)
      (first
      | (go_at_call 31
         clear M0
         refine (HS.out _).mono ?_
         rintro e wA ⟨gA, rfl, howA, hnA⟩
         have hn5 : New w9 wA := by first
           | with_reducible exact (New.refl w9).drew.trans hnA
           | with_reducible exact ((New.refl w9).drew.alloc _).trans hnA
           | with_reducible exact ((New.refl w9).alloc _).drew.trans hnA
           | with_reducible exact (((New.refl w9).drew.alloc _).drew).trans hnA
           | with_reducible exact (New.refl w9).trans hnA)
      | (go_at_call 31
         refine (HS.out _).mono ?_
         rintro e wB ⟨gB, rfl, howB, hnB⟩
         have hnAB := hnB.le
         have hn6 : New w9 wB := by first
           | with_reducible exact hn5.drew.trans hnB
           | with_reducible exact (hn5.drew.alloc _).trans hnB
           | with_reducible exact ((hn5.alloc _).drew).trans hnB
           | with_reducible exact ((hn5.drew.alloc _).drew).trans hnB
           | with_reducible exact (hn5.alloc _).trans hnB
           | with_reducible exact hn5.trans hnB))
    all_goals (
      go_wp2_with fail
      go_meet
      case rel =>
        have kA := ow_in howA
        have kB := ow_in howB
        have k5 := hn5.le
        try simp at kA
        try simp at kB
        first
          | exact ⟨_, _, _, rfl, rfl, rfl, ow_new (ow_new (ow_made w9 _ _ _ m _ (Nat.le_refl _) (by omega) (by rw [made_toList, zeros_li]) (by rw [List.length_map, liI_len])) ((New.refl _).drew.trans hnA)) hnB, ow_new (ow_base howA (by simp)) hnB, ow_base howB k5, ⟨fun e => by omega, fun e => by omega, fun e => by omega⟩, by assumption⟩
          | exact ⟨_, _, _, rfl, rfl, rfl, ow_new (ow_made wA _ _ _ m _ k5 (by omega) (by rw [made_toList, zeros_li]) (by rw [List.length_map, liI_len])) hnB, ow_new (ow_base howA (by simp)) (((New.refl _).alloc _).trans hnB), ow_base howB (by simp; omega), ⟨fun e => by omega, fun e => by omega, fun e => by omega⟩, by assumption⟩
          | exact ⟨_, _, _, rfl, rfl, rfl, ow_made wB _ _ _ m _ hn6.le (by omega) (by rw [made_toList, zeros_li]) (by rw [List.length_map, liI_len]), ow_new (ow_new (ow_base howA (by simp)) hnB) ((New.refl _).alloc _), ow_new (ow_base howB k5) ((New.refl _).alloc _), ⟨fun e => by omega, fun e => by omega, fun e => by omega⟩, by assumption⟩)
  case rest =>
    obtain ⟨g1, g2, g3, rfl, rfl, rfl, ho1, ho2, ho3, ⟨hg12, hg13, hg23⟩, hn⟩ := hcut
    clear hmk M0
    rw [← HL.out, ← ctI_zero cl, HL.out] at ho1
    have HO1 := Lib.hid ho1
    have HO2 := Lib.hid ho2
    have HO3 := Lib.hid ho3
    replace HN := Lib.hid (HN.out.trans hn)
    have HG : Hid (w.heap.size ≤ g1 ∧ w.heap.size ≤ g2 ∧ w.heap.size ≤ g3) := Lib.hid (by
      have h0 := HN9.out.le
      have h1 := (ow_in ho1).1
      have h2 := (ow_in ho2).1
      have h3 := (ow_in ho3).1
      omega)
    have hne12 : ¬ g1 = g2 := hg12
    have hne21 : ¬ g2 = g1 := fun e => hg12 e.symm
    have hne13 : ¬ g1 = g3 := hg13
    have hne31 : ¬ g3 = g1 := fun e => hg13 e.symm
    have hne23 : ¬ g2 = g3 := hg23
    have hne32 : ¬ g3 = g2 := fun e => hg23 e.symm
    clear ho1 ho2 ho3 hn hg12 hg13 hg23
    go_wp2_with fail
    go_loopw [33] (fun iv wr => ∃ k : Nat, k ≤ m ∧ iv = .int .i64 (k : Int) ∧ wr.ownsRow w9.heap.size 3 1 (.slice (some ⟨g1, 0, none⟩) m m) m ((ctI cl k).map fun x => .int .i64 x) ∧ wr.ownsRow w9.heap.size 3 1 (.slice (some ⟨g2, 0, none⟩) n n) n ((liI (s2 (JF cl) k) n).map fun x => .int .i64 x) ∧ wr.ownsRow w9.heap.size 3 1 (.slice (some ⟨g3, 0, none⟩) n n) n ((liI (i2 (JF cl) k) n).map fun x => .int .i64 x) ∧ New w wr) (fun iv _ => m - (intOf iv).toNat)
    case atStart => exact ⟨0, Nat.zero_le _, rfl, HO1.out, HO2.out, HO3.out, HN.out⟩
    case round =>
      clear HO1 HO2 HO3 HN
      obtain ⟨k, hk, rfl, h1, h2, h3, hnew⟩ := hrel
      have HO1 := Lib.hid h1
      have HO2 := Lib.hid h2
      have HO3 := Lib.hid h3
      have HN := Lib.hid hnew
      obtain ⟨wq, hwq⟩ : ∃ z, z = wr := ⟨_, rfl⟩
      rw [← hwq] at HO1 HO2 HO3 HN ⊢
      clear h1 h2 h3 hnew hwq
      by_cases hlt : (k : Int) < (m : Int)
      · have hk0 : (0 : Int) ≤ (k : Int) := by omega
        have hkn : (k : Int) < (n : Int) := by omega
        have hkn' : k < n := by omega
        obtain ⟨b, off, rfl, hc⟩ := (HH.out.stay HN.out).addr (by omega)
        have c1 := hc k (by omega)
        clear hc
        obtain ⟨x, hx, hJ, hJn⟩ := JF_at HR.out (k := k) (by rw [HL.out]; omega)
        have hP0 : (pkI cl).getD k 0 = ((s2 (JF cl) k (k + x) : Nat) : Int) := by
          unfold pkI
          rw [HL.out, liI_get _ (show k < m by omega), s2_put HF.out (show k < m by omega), hJ]
        rw [hP0] at c1
        have hE1 : ctI cl (k + 1) = (ctI cl k).set k (x : Int) := by rw [← hx, ctI_set cl (by rw [HL.out]; omega)]
        have hN2 : s2 (JF cl) (k + 1) = sw (s2 (JF cl) k) k (k + x) := by show sw _ _ _ = _; rw [hJ]
        have hN3 : i2 (JF cl) (k + 1) = swI (s2 (JF cl) k) (i2 (JF cl) k) k (k + x) := by show swI _ _ _ _ = _; rw [hJ]
        have hlk := s2_lt HF.out k (by omega)
        have hinv := (s2_i2 HF.out k (by omega)).1 (k + x) hJn
        obtain ⟨f, hf⟩ : ∃ z, s2 (JF cl) k = z := ⟨_, rfl⟩
        rw [hf] at HO2 c1 hN2 hN3 hlk hinv
        obtain ⟨gf, hgf⟩ : ∃ z, i2 (JF cl) k = z := ⟨_, rfl⟩
        rw [hgf] at HO3 hN3 hinv
        obtain ⟨q, hq⟩ : ∃ z, k + x = z := ⟨_, rfl⟩
        rw [hq] at hJn c1 hN2 hN3 hinv
        have hqx : (q : Int) - (k : Int) = (x : Int) := by omega
        have hfk := hlk k hkn'
        have hfq := hlk q hJn
        have HE1 := Lib.hid hE1
        have HE2 : Hid (liI (s2 (JF cl) (k + 1)) n = ((liI f n).set k (f q : Int)).set q (f k : Int)) := Lib.hid (by rw [hN2, liI_sw f hkn' hJn])
        have HE3 : Hid (liI (i2 (JF cl) (k + 1)) n = ((liI gf n).set (f q) (k : Int)).set (f k) (q : Int)) := Lib.hid (by rw [hN3, liI_swI f gf hfq hfk])
        clear hP0 hx hJ hE1 hN2 hN3 hlk hf hgf
        obtain ⟨d1, e1⟩ := ow_int HO3.out (k := f q) hfq
        rw [liI_get gf hfq, hinv] at d1
        obtain ⟨d2, e2⟩ := ow_int HO1.out (k := k) (by omega)
        have hx0 : (0 : Int) ≤ (f q : Nat) := by omega
        have hxn : ((f q : Nat) : Int) < (n : Int) := by omega
        go_wp2_with fail
        have HA1 : Hid ((wq.setCell ⟨g1, k, none⟩ (.int .i64 (x : Nat))).ownsRow w9.heap.size 3 1 (.slice (some ⟨g1, 0, none⟩) m m) m ((ctI cl (k + 1)).map fun x => .int .i64 x)) := Lib.hid (by
          rw [HE1.out, List.map_set]; exact ow_set HO1.out _ _)
        have HA2 := Lib.hid (ow_far HO2.out (a := ⟨g1, k, none⟩) (by simp [Value.ownBlock]; exact hne21) (.int .i64 (x : Nat)))
        have HA3 := Lib.hid (ow_far HO3.out (a := ⟨g1, k, none⟩) (by simp [Value.ownBlock]; exact hne31) (.int .i64 (x : Nat)))
        have HA4 : Hid (New w (wq.setCell ⟨g1, k, none⟩ (.int .i64 (x : Nat)))) := Lib.hid (HN.out.setCell (by have := HG.out; show _ ≤ g1; omega) _)
        clear HO1 HO2 HO3 HN c1 d1 d2 e1 e2
        obtain ⟨W1, hW1⟩ : ∃ z, wq.setCell ⟨g1, k, none⟩ (.int .i64 (x : Nat)) = z := ⟨_, rfl⟩
        rw [hW1] at HA1 HA2 HA3 HA4 ⊢
        clear hW1
        obtain ⟨d1, e1⟩ := ow_int HA2.out (k := k) hkn'
        obtain ⟨d2, e2⟩ := ow_int HA2.out (k := q) hJn
        rw [liI_get f hkn'] at d1
        rw [liI_get f hJn] at d2
        have hq0 : (0 : Int) ≤ (q : Int) := by omega
        have hqm : (q : Int) < (n : Int) := by omega
        obtain ⟨hs1, hs2⟩ := ow_int (l := (liI f n).set k (f q : Int)) (by rw [List.map_set]; exact ow_set HA2.out k (.int .i64 (f q : Nat))) (k := q) hJn
        have HB2 : Hid (((W1.setCell ⟨g2, k, none⟩ (.int .i64 (f q : Nat))).setCell ⟨g2, q, none⟩ (.int .i64 (f k : Nat))).ownsRow w9.heap.size 3 1 (.slice (some ⟨g2, 0, none⟩) n n) n ((((liI f n).set k (f q : Int)).set q (f k : Int)).map fun x => .int .i64 x)) := Lib.hid (by
          rw [List.map_set, List.map_set]; exact ow_set (ow_set HA2.out _ _) _ _)
        have HB1 := Lib.hid (ow_far (ow_far HA1.out (a := ⟨g2, k, none⟩) (by simp [Value.ownBlock]; exact hne12) (.int .i64 (f q : Nat))) (a := ⟨g2, q, none⟩) (by simp [Value.ownBlock]; exact hne12) (.int .i64 (f k : Nat)))
        have HB3 := Lib.hid (ow_far (ow_far HA3.out (a := ⟨g2, k, none⟩) (by simp [Value.ownBlock]; exact hne32) (.int .i64 (f q : Nat))) (a := ⟨g2, q, none⟩) (by simp [Value.ownBlock]; exact hne32) (.int .i64 (f k : Nat)))
        have HB4 : Hid (New w ((W1.setCell ⟨g2, k, none⟩ (.int .i64 (f q : Nat))).setCell ⟨g2, q, none⟩ (.int .i64 (f k : Nat)))) := Lib.hid ((HA4.out.setCell (by have := HG.out; show _ ≤ g2; omega) _).setCell (by have := HG.out; show _ ≤ g2; omega) _)
        go_region
        replace HB1 := Lib.hid (ow_new HB1.out (New.refl _).drew)
        replace HB2 := Lib.hid (ow_new HB2.out (New.refl _).drew)
        replace HB3 := Lib.hid (ow_new HB3.out (New.refl _).drew)
        replace HB4 := Lib.hid (New.drew HB4.out)
        clear HA1 HA2 HA3 HA4 d1 e1 d2 e2 hs1 hs2
        obtain ⟨W2, hW2⟩ : ∃ z, ((W1.setCell ⟨g2, k, none⟩ (.int .i64 (f q : Nat))).setCell ⟨g2, q, none⟩ (.int .i64 (f k : Nat))).drew = z := ⟨_, rfl⟩
        rw [hW2] at HB1 HB2 HB3 HB4 ⊢
        clear hW2
        have hr1 : W2.cell? ⟨g2, k, none⟩ = some (.int .i64 (f q : Nat)) := by
          have h1 := (ow_int HB2.out (k := k) hkn').1
          rw [liI_sw f hkn' hJn, liI_get _ hkn', sw_at] at h1
          exact h1
        have hr2 : W2.cell? ⟨g2, q, none⟩ = some (.int .i64 (f k : Nat)) := by
          have h1 := (ow_int HB2.out (k := q) hJn).1
          rw [liI_sw f hkn' hJn, liI_get _ hJn, sw_at2] at h1
          exact h1
        obtain ⟨d1, e1⟩ := ow_int HB3.out (k := f q) hfq
        obtain ⟨d2, e2⟩ := ow_int HB3.out (k := f k) hfk
        obtain ⟨hs1, hs2⟩ := ow_int (l := (liI gf n).set (f q) (k : Int)) (by rw [List.map_set]; exact ow_set HB3.out (f q) (.int .i64 (k : Int))) (k := f k) hfk
        have HC3 : Hid (((W2.setCell ⟨g3, f q, none⟩ (.int .i64 (k : Int))).setCell ⟨g3, f k, none⟩ (.int .i64 (q : Nat))).ownsRow w9.heap.size 3 1 (.slice (some ⟨g3, 0, none⟩) n n) n ((((liI gf n).set (f q) (k : Int)).set (f k) (q : Int)).map fun x => .int .i64 x)) := Lib.hid (by
          rw [List.map_set, List.map_set]; exact ow_set (ow_set HB3.out _ _) _ _)
        have HC1 := Lib.hid (ow_far (ow_far HB1.out (a := ⟨g3, f q, none⟩) (by simp [Value.ownBlock]; exact hne13) (.int .i64 (k : Int))) (a := ⟨g3, f k, none⟩) (by simp [Value.ownBlock]; exact hne13) (.int .i64 (q : Nat)))
        have HC2 := Lib.hid (ow_far (ow_far HB2.out (a := ⟨g3, f q, none⟩) (by simp [Value.ownBlock]; exact hne23) (.int .i64 (k : Int))) (a := ⟨g3, f k, none⟩) (by simp [Value.ownBlock]; exact hne23) (.int .i64 (q : Nat)))
        have HC4 : Hid (New w ((W2.setCell ⟨g3, f q, none⟩ (.int .i64 (k : Int))).setCell ⟨g3, f k, none⟩ (.int .i64 (q : Nat)))) := Lib.hid ((HB4.out.setCell (by have := HG.out; show _ ≤ g3; omega) _).setCell (by have := HG.out; show _ ≤ g3; omega) _)
        have hx20 : (0 : Int) ≤ (f k : Nat) := by omega
        have hx2m : ((f k : Nat) : Int) < (n : Int) := by omega
        go_wp2_with fail
        go_region
        rw [← HE3.out] at HC3
        rw [← HE2.out] at HC2
        replace HC1 := Lib.hid (ow_new HC1.out (New.refl _).drew)
        replace HC2 := Lib.hid (ow_new HC2.out (New.refl _).drew)
        replace HC3 := Lib.hid (ow_new HC3.out (New.refl _).drew)
        replace HC4 := Lib.hid (New.drew HC4.out)
        clear HB1 HB2 HB3 HB4 d1 e1 d2 e2 hs1 hs2 hr1 hr2
        obtain ⟨W3, hW3⟩ : ∃ z, ((W2.setCell ⟨g3, f q, none⟩ (.int .i64 (k : Int))).setCell ⟨g3, f k, none⟩ (.int .i64 (q : Nat))).drew = z := ⟨_, rfl⟩
        rw [hW3] at HC1 HC2 HC3 HC4 ⊢
        clear hW3
        go_wp2
        exact ⟨⟨k + 1, by omega, by go_num, HC1.out, HC2.out, HC3.out, HC4.out⟩, by simp [intOf]; omega⟩
      · obtain rfl : k = m := by omega
        have hE : ctI cl k = cl := by rw [← HL.out]; exact ctI_all cl
        rw [hE] at HO1
        clear hE
        have HIN : Hid (∀ z ∈ cl, In64 z) := Lib.hid (by
          intro z hz
          obtain ⟨i, hi, rfl⟩ := List.getElem_of_mem hz
          have := HR.out.2 i hi
          rw [List.getD_eq_getElem?_getD, List.getElem?_eq_getElem hi, Option.getD_some] at this
          unfold In64; omega)
        obtain ⟨ar, cr, he, hzr⟩ := ZRow.of_owns HO1.out (by omega) HIN.out
        cases he
        have HZR := Lib.hid hzr
        clear hzr
        go_wp2_with fail
        go_ret2
        exact ⟨_, _, rfl, HZR.out, HN.out⟩
end Go.Proofs.Ytaajphopnmdmcaa
