/- Plain lemmas: picks, and the choices that lead to them. · subset: sizes, rows, which lists are choices, which are picks. · subset.Pick; the document's own Pick. · subset.Choices. -/
import Derived.Test.YtajjpllhihgkdaaShfM
import Derived.Test.YtajjpllhihgkdaaShfD
namespace Go.Bv
set_option linter.unusedVariables false
/-- the row after k exchanges, from the first place on -/
def s2 (J : Nat → Nat) : Nat → Nat → Nat
  | 0 => fun x => x
  | k + 1 => sw (s2 J k) k (J k)
def i2 (J : Nat → Nat) : Nat → Nat → Nat
  | 0 => fun x => x
  | k + 1 => swI (s2 J k) (i2 J k) k (J k)
def rt2 (J : Nat → Nat) (m n : Nat) : Prop := ∀ i, i < m → i ≤ J i ∧ J i < n
theorem s2_lt {J : Nat → Nat} {m n : Nat} (h : rt2 J m n) : ∀ k, k ≤ m → ∀ x, x < n → s2 J k x < n
  | 0, _, x, hx => hx
  | k + 1, hk, x, hx => sw_lt (by have := h k (by omega); omega) (h k (by omega)).2 (s2_lt h k (by omega)) x hx
theorem i2_lt {J : Nat → Nat} {m n : Nat} (h : rt2 J m n) : ∀ k, k ≤ m → ∀ x, x < n → i2 J k x < n
  | 0, _, x, hx => hx
  | k + 1, hk, x, hx => swI_lt (by have := h k (by omega); omega) (h k (by omega)).2 (i2_lt h k (by omega)) x hx
theorem s2_i2 {J : Nat → Nat} {m n : Nat} (h : rt2 J m n) : ∀ k, k ≤ m → (∀ x, x < n → i2 J k (s2 J k x) = x) ∧ (∀ y, y < n → s2 J k (i2 J k y) = y)
  | 0, _ => ⟨fun _ _ => rfl, fun _ _ => rfl⟩
  | k + 1, hk => by
    obtain ⟨h1, h2⟩ := s2_i2 h k (by omega)
    exact sw_inv (i := k) (j := J k) (by have := h k (by omega); omega) (h k (by omega)).2 h1 h2
theorem s2_inj {J : Nat → Nat} {m n : Nat} (h : rt2 J m n) {k : Nat} (hk : k ≤ m) {x y : Nat} (hx : x < n) (hy : y < n) (he : s2 J k x = s2 J k y) : x = y := by
  rw [← (s2_i2 h k hk).1 x hx, ← (s2_i2 h k hk).1 y hy, he]
theorem s2_stay {J : Nat → Nat} {m n : Nat} (h : rt2 J m n) {k x : Nat} (hx : x < k) : ∀ d, k + d ≤ m → s2 J (k + d) x = s2 J k x
  | 0, _ => rfl
  | d + 1, hd => by
    show sw (s2 J (k + d)) (k + d) (J (k + d)) x = _
    have h1 := h (k + d) (by omega)
    unfold sw
    rw [if_neg (by omega), if_neg (by omega)]
    exact s2_stay h hx d (by omega)
theorem s2_put {J : Nat → Nat} {m n : Nat} (h : rt2 J m n) {k : Nat} (hk : k < m) : s2 J m k = s2 J k (J k) := by
  have h1 := s2_stay h (k := k + 1) (x := k) (by omega) (m - (k + 1)) (by omega)
  rw [show k + 1 + (m - (k + 1)) = m by omega] at h1
  rw [h1]
  show sw _ _ _ _ = _
  unfold sw
  by_cases e : k = J k
  · rw [if_pos e]; exact congrArg _ e
  · rw [if_neg e, if_pos rfl]
/-- the document's block: what is left in front stays -/
def b2 (J : Nat → Nat) : Nat → Nat → Nat
  | 0 => fun x => x
  | k + 1 => fun y => if y = J k then b2 J k k else b2 J k y
theorem b2_s2 {J : Nat → Nat} {m n : Nat} (h : rt2 J m n) : ∀ k, k ≤ m → ∀ y, k ≤ y → b2 J k y = s2 J k y
  | 0, _, _, _ => rfl
  | k + 1, hk, y, hy => by
    show (if y = J k then b2 J k k else b2 J k y) = sw (s2 J k) k (J k) y
    unfold sw
    rw [b2_s2 h k (by omega) k (Nat.le_refl _), b2_s2 h k (by omega) y (by omega)]
    by_cases e : y = J k
    · rw [if_pos e, if_pos e]
    · rw [if_neg e, if_neg e, if_neg (by omega)]
/-- whether c may be choices of a pick of n -/
def rp2 (n : Nat) (c : List Int) : Prop := c.length ≤ n ∧ ∀ i, i < c.length → 0 ≤ c.getD i 0 ∧ c.getD i 0 ≤ (n : Int) - 1 - (i : Int)
def JF (c : List Int) (i : Nat) : Nat := i + (c.getD i 0).toNat
theorem rp2_F {n : Nat} {c : List Int} (h : rp2 n c) : rt2 (JF c) c.length n := fun i hi => by have := h.2 i hi; unfold JF; omega
/-- what choices pick -/
def pkI (c : List Int) : List Int := liI (s2 (JF c) c.length) c.length
theorem pkI_len (c : List Int) : (pkI c).length = c.length := liI_len _ _
theorem pkI_lt {n : Nat} {c : List Int} (h : rp2 n c) {x : Nat} (hx : x < c.length) : s2 (JF c) c.length x < n := s2_lt (rp2_F h) _ (Nat.le_refl _) x (by have := h.1; omega)
/-- the choices told so far, zeros behind them -/
def ctI (c : List Int) (k : Nat) : List Int := (List.range c.length).map fun i => if i < k then c.getD i 0 else 0
theorem ctI_len (c : List Int) (k : Nat) : (ctI c k).length = c.length := by unfold ctI; simp
theorem ctI_get (c : List Int) (k : Nat) {i : Nat} (h : i < c.length) : (ctI c k).getD i 0 = if i < k then c.getD i 0 else 0 := by
  unfold ctI; rw [List.getD_eq_getElem?_getD, List.getElem?_map, List.getElem?_range h]; rfl
theorem ctI_set (c : List Int) {k : Nat} (h : k < c.length) : (ctI c k).set k (c.getD k 0) = ctI c (k + 1) := by
  apply ints_eq (n := c.length) (by rw [List.length_set, ctI_len]) (ctI_len _ _)
  intro i hi
  rw [ctI_get c (k + 1) hi, List.getD_eq_getElem?_getD, List.getElem?_set, ctI_len]
  by_cases e : k = i
  · subst e; rw [if_pos rfl, if_pos h, if_pos (by omega)]; rfl
  · rw [if_neg e, ← List.getD_eq_getElem?_getD, ctI_get c k hi]
    by_cases e2 : i < k
    · rw [if_pos e2, if_pos (by omega)]
    · rw [if_neg e2, if_neg (by omega)]
theorem ctI_all (c : List Int) : ctI c c.length = c := by
  apply ints_eq (n := c.length) (ctI_len _ _) rfl
  intro i hi
  rw [ctI_get c _ hi, if_pos hi]
theorem ctI_zero (c : List Int) : ctI c 0 = liI (fun _ => 0) c.length := by
  apply ints_eq (n := c.length) (ctI_len _ _) (liI_len _ _)
  intro i hi
  rw [ctI_get c _ hi, if_neg (by omega), liI_get _ hi]; rfl
end Go.Bv
namespace Go.Proofs.Ytajjpllhihgkdaa
open Go Go.RowKit Go.Bv
set_option linter.unusedVariables false
/-- what is wrong with sizes -/
def szE (n k : Int) : Int := if n < 0 ∨ 256 < n ∨ n < k then 1 else 0
theorem sizes_41 (n k : Int) (w : World) : Calls Try.prog 56 #[.int .i64 n, .int .i64 k] w fun e w' => e = .returned (.int .i64 (szE n k)) ∧ w' = w := by
  by_cases h1 : n < 0
  · have HE : Hid (szE n k = 1) := Lib.hid (if_pos (.inl h1))
    go_enter Try.func56, Try.ntmps56
    go_wp2
    go_ret
    rw [HE.out]; exact ⟨rfl, rfl⟩
  · by_cases h2 : 256 < n
    · have HE : Hid (szE n k = 1) := Lib.hid (if_pos (.inr (.inl h2)))
      go_enter Try.func56, Try.ntmps56
      go_wp2
      go_ret
      rw [HE.out]; exact ⟨rfl, rfl⟩
    · by_cases h3 : n < k
      · have HE : Hid (szE n k = 1) := Lib.hid (if_pos (.inr (.inr h3)))
        go_enter Try.func56, Try.ntmps56
        go_wp2
        go_ret
        rw [HE.out]; exact ⟨rfl, rfl⟩
      · have HE : Hid (szE n k = 0) := Lib.hid (if_neg (by omega))
        go_enter Try.func56, Try.ntmps56
        go_wp2
        go_ret
        rw [HE.out]; exact ⟨rfl, rfl⟩
/-- whether the first k may be choices -/
def r2B (n : Int) (c : List Int) : Nat → Bool
  | 0 => true
  | k + 1 => r2B n c k && (decide (0 ≤ c.getD k 0) && decide (c.getD k 0 ≤ n - 1 - (k : Int)))
theorem r2B_iff {n : Int} {c : List Int} : ∀ {k}, r2B n c k = true ↔ ∀ i, i < k → 0 ≤ c.getD i 0 ∧ c.getD i 0 ≤ n - 1 - (i : Int)
  | 0 => ⟨fun _ i h => by omega, fun _ => rfl⟩
  | k + 1 => by
    show (r2B n c k && (decide (0 ≤ c.getD k 0) && decide (c.getD k 0 ≤ n - 1 - (k : Int)))) = true ↔ _
    rw [Bool.and_eq_true, Bool.and_eq_true, decide_eq_true_eq, decide_eq_true_eq, r2B_iff (k := k)]
    constructor
    · rintro ⟨h1, h2⟩ i hi
      by_cases e : i = k
      · subst e; exact h2
      · exact h1 i (by omega)
    · intro h
      exact ⟨fun i hi => h i (by omega), h k (by omega)⟩
theorem r2B_no {n : Int} {c : List Int} {m k : Nat} (hk : k < m) (h : c.getD k 0 < 0 ∨ n - 1 - (k : Int) < c.getD k 0) : r2B n c m = false := by
  rw [← Bool.not_eq_true, r2B_iff]
  intro h2
  have := h2 k hk
  omega
set_option maxRecDepth 100000 in
set_option maxHeartbeats 2000000 in
theorem ispick_41 (N : Nat) (hN : N ≤ 100000) (a : Option Addr) (n c : Nat) (p : List Int) (w : World) (h : ZRow w a n c p) (hn : n ≤ 100000) (h1 : ∀ k, k < n → 0 ≤ p.getD k 0 ∧ p.getD k 0 < (N : Int)) (h2 : ∀ j k, j < k → k < n → p.getD j 0 ≠ p.getD k 0) :
    Calls Try.prog 57 #[.int .i64 (N : Int), .slice a n c] w fun e w' => e = .returned (.bool true) ∧ New w w' := by
  have HH := Lib.hid h
  have HMK := Lib.hid (make_bool N (by omega))
  have HN0 : Hid (∀ (k : Nat), k < n → 0 ≤ p.getD k 0 ∧ p.getD k 0 < (N : Int)) := Lib.hid h1
  have HN1 : Hid (∀ (k y : Nat), k < n → p.getD k 0 = (y : Int) → seI p y k = false) := Lib.hid (fun k y hk he => by
    rw [← Bool.not_eq_true, seI_iff]
    rintro ⟨j, hj, hje⟩
    exact h2 j k hj hk (hje.trans he.symm))
  clear h h1 h2
  go_enter Try.func57, Try.ntmps57
  go_wp2_with fail
  rw [HMK.out _ _ rfl]
  go_wp2_with fail
  go_loopw [12] (fun iv wr => ∃ k : Nat, k ≤ n ∧ iv = .int .i64 (k : Int) ∧ wr.ownsRow w.heap.size 4 1 (.slice (some ⟨w.heap.size, 0, none⟩) N N) N ((seL p N k).map fun x => .bool x) ∧ New w wr) (fun iv _ => n - (intOf iv).toNat)
  case atStart => exact ⟨0, Nat.zero_le _, rfl, ow_made w _ _ _ N _ (Nat.le_refl _) (by omega) (by rw [made_toList, seL_zero p]) (by rw [List.length_map, seL_len]), (New.refl w).alloc _⟩
  case round =>
    obtain ⟨k, hk, rfl, hown, hnew⟩ := hrel
    by_cases hlt : (k : Int) < (n : Int)
    · have hk0 : (0 : Int) ≤ (k : Int) := by omega
      obtain ⟨b, off, rfl, hc⟩ := (HH.out.stay hnew).addr (by omega)
      have c1 := hc k (by omega)
      clear hc
      obtain ⟨z, hz⟩ : ∃ z : Nat, p.getD k 0 = (z : Int) := ⟨(p.getD k 0).toNat, by have := HN0.out k (by omega); omega⟩
      have hzN : z < N := by have := HN0.out k (by omega); rw [hz] at this; omega
      have hs := HN1.out k z (by omega) hz
      have HST := Lib.hid (seL_set p N k z hzN hz)
      rw [hz] at c1
      obtain ⟨hc2, hf2⟩ := ow_bool hown (k := z) hzN
      rw [seL_get p k hzN, hs] at hc2
      have hy0 : (0 : Int) ≤ (z : Int) := by omega
      have hyN : (z : Int) < (N : Int) := by omega
      have hy1 : ¬ (N : Int) ≤ (z : Int) := by omega
      have hy2 : ¬ (z : Int) < 0 := by omega
      have HO2 : Hid ((wr.setCell ⟨w.heap.size, z, none⟩ (.bool true)).ownsRow w.heap.size 4 1 (.slice (some ⟨w.heap.size, 0, none⟩) N N) N ((seL p N (k + 1)).map fun x => .bool x)) := Lib.hid (by
        rw [← HST.out, List.map_set]; exact ow_set hown z _)
      have HN2 : Hid (New w (wr.setCell ⟨w.heap.size, z, none⟩ (.bool true))) := Lib.hid (hnew.setCell (Nat.le_refl _) _)
      clear hown hnew hs hz
      go_wp2
      exact ⟨⟨k + 1, by omega, by go_num, HO2.out, HN2.out⟩, by simp [intOf]; omega⟩
    · obtain rfl : k = n := by omega
      clear hown
      go_wp2
      go_ret
      exact ⟨rfl, hnew⟩
end Go.Proofs.Ytajjpllhihgkdaa
namespace Go.Proofs.Ytajjpllhihgkdaa
open Go Go.RowKit Go.Bv
set_option linter.unusedVariables false
theorem liI_takes (f : Nat → Nat) {n m : Nat} (h : m ≤ n) : (liI f n).take m = liI f m := by
  apply ints_eq (n := m) (by rw [List.length_take, liI_len]; omega) (liI_len _ _)
  intro i hi
  rw [List.getD_eq_getElem?_getD, List.getElem?_take, if_pos hi, ← List.getD_eq_getElem?_getD, liI_get f (show i < n by omega), liI_get f hi]
theorem JF_at {n : Nat} {c : List Int} (h : rp2 n c) {k : Nat} (hk : k < c.length) : ∃ x : Nat, c.getD k 0 = (x : Int) ∧ JF c k = k + x ∧ k + x < n := by
  have h1 := h.2 k hk
  refine ⟨(c.getD k 0).toNat, by omega, rfl, by omega⟩
end Go.Proofs.Ytajjpllhihgkdaa
namespace Go.Proofs.Ytajjpllhihgkdaa
open Go Go.RowKit Go.Bv
set_option linter.unusedVariables false
theorem pk_cells {n : Nat} {c : List Int} (h : rp2 n c) : (∀ k, k < c.length → 0 ≤ (pkI c).getD k 0 ∧ (pkI c).getD k 0 < (n : Int)) ∧ (∀ j k, j < k → k < c.length → (pkI c).getD j 0 ≠ (pkI c).getD k 0) := by
  have h1 := h.1
  have h2 := rp2_F h
  unfold pkI
  constructor
  · intro k hk
    rw [liI_get _ hk]
    have := s2_lt h2 _ (Nat.le_refl _) k (by omega)
    omega
  · intro j k hj hk he
    rw [liI_get _ (by omega), liI_get _ hk] at he
    have := s2_inj h2 (Nat.le_refl _) (x := j) (y := k) (by omega) (by omega) (by omega)
    omega
end Go.Proofs.Ytajjpllhihgkdaa
