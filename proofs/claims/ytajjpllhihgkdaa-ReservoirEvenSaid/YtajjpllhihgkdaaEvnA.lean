import Derived.Test.YtajjpllhihgkdaaShfM
import Derived.Test.YtajjpllhihgkdaaShfD
import Derived.Handy
import Derived.BigRegion
import Derived.Maps.AppendAt
import Derived.Deep.DeepCutAuto
import Derived.Deep.RegionHeld3
/- Plain lemmas: decisions, and the orders that they lead to. · reservoir: what is wrong with numbers and decisions; arrivals. -/
namespace Go.Bv
open Go Go.RowKit
set_option linter.unusedVariables false
/-- the row after j arrivals -/
def oS (k : Nat) (d : Nat → Nat) : Nat → Nat → Nat
  | 0 => fun x => x
  | j + 1 => sw (oS k d j) (k + j) (d j)
def rtD (k m : Nat) (d : Nat → Nat) : Prop := ∀ i, i < m → d i ≤ k + i
theorem oS_high {k m : Nat} {d : Nat → Nat} (h : rtD k m d) : ∀ j, j ≤ m → ∀ x, k + j ≤ x → oS k d j x = x
  | 0, _, x, _ => rfl
  | j + 1, hj, x, hx => by
    have h1 := h j (by omega)
    show sw (oS k d j) (k + j) (d j) x = x
    unfold sw
    rw [if_neg (by omega), if_neg (by omega)]
    exact oS_high h j (by omega) x (by omega)
theorem oS_lt {k m : Nat} {d : Nat → Nat} (h : rtD k m d) : ∀ j, j ≤ m → ∀ n, k + j ≤ n → ∀ x, x < n → oS k d j x < n
  | 0, _, n, _, x, hx => hx
  | j + 1, hj, n, hn, x, hx => sw_lt (by omega) (by have := h j (by omega); omega) (oS_lt h j (by omega) n (by omega)) x hx
/-- of the slots -/
theorem oS_low {k m : Nat} {d : Nat → Nat} (h : rtD k m d) {j : Nat} (hj : j < m) {x : Nat} (hx : x < k) : oS k d (j + 1) x = if d j = x then k + j else oS k d j x := by
  show sw (oS k d j) (k + j) (d j) x = _
  unfold sw
  by_cases e : d j = x
  · rw [if_pos e.symm, if_pos e]
    exact oS_high h j (by omega) (k + j) (Nat.le_refl _)
  · rw [if_neg (fun e2 => e e2.symm), if_neg (by omega), if_neg e]
theorem sw_sw (f : Nat → Nat) (i j : Nat) : sw (sw f i j) i j = f := by
  funext x
  unfold sw
  by_cases e : x = j
  · subst e
    by_cases e2 : i = x
    · subst e2; simp
    · simp [e2]
  · by_cases e2 : x = i
    · subst e2; simp [e]
    · simp [e, e2]
theorem sw_inj {f : Nat → Nat} {n i j : Nat} (hi : i < n) (hj : j < n) (h : ∀ x y, x < n → y < n → f x = f y → x = y) : ∀ x y, x < n → y < n → sw f i j x = sw f i j y → x = y := by
  intro x y hx hy he
  unfold sw at he
  by_cases e1 : x = j
  · by_cases e2 : y = j
    · omega
    · rw [if_pos e1, if_neg e2] at he
      by_cases e3 : y = i
      · rw [if_pos e3] at he; have := h i j hi hj he; omega
      · rw [if_neg e3] at he; have := h i y hi hy he; omega
  · by_cases e2 : y = j
    · rw [if_neg e1, if_pos e2] at he
      by_cases e3 : x = i
      · rw [if_pos e3] at he; have := h j i hj hi he; omega
      · rw [if_neg e3] at he; have := h x i hx hi he; omega
    · rw [if_neg e1, if_neg e2] at he
      by_cases e3 : x = i
      · by_cases e4 : y = i
        · omega
        · rw [if_pos e3, if_neg e4] at he; have := h j y hj hy he; omega
      · by_cases e4 : y = i
        · rw [if_neg e3, if_pos e4] at he; have := h x j hx hj he; omega
        · rw [if_neg e3, if_neg e4] at he; exact h x y hx hy he
theorem oS_inj {k m : Nat} {d : Nat → Nat} (h : rtD k m d) : ∀ j, j ≤ m → ∀ n, k + j ≤ n → ∀ x y, x < n → y < n → oS k d j x = oS k d j y → x = y
  | 0, _, n, _, x, y, _, _, he => he
  | j + 1, hj, n, hn, x, y, hx, hy, he => sw_inj (i := k + j) (j := d j) (by omega) (by have := h j (by omega); omega) (oS_inj h j (by omega) n (by omega)) x y hx hy he
/-- whether d may be decisions of n items and k slots -/
def rdI (n k : Nat) (d : List Int) : Prop := d.length = n - k ∧ ∀ i, i < n - k → 0 ≤ d.getD i 0 ∧ d.getD i 0 ≤ (k : Int) + (i : Int)
theorem rdI_F {n k : Nat} {d : List Int} (h : rdI n k d) : rtD k (n - k) (fnI d) := fun i hi => by have := h.2 i hi; unfold fnI; omega
/-- the slots, the order -/
def slI (n k : Nat) (d : List Int) : List Int := liI (oS k (fnI d) (n - k)) k
def odI (n k : Nat) (d : List Int) : List Int := liI (oS k (fnI d) (n - k)) n
theorem slI_len (n k : Nat) (d : List Int) : (slI n k d).length = k := liI_len _ _
theorem odI_len (n k : Nat) (d : List Int) : (odI n k d).length = n := liI_len _ _
theorem odI_or {n k : Nat} {d : List Int} (hk : k ≤ n) (h : rdI n k d) : isO (odI n k d) := by
  have h2 := rdI_F h
  unfold isO odI
  rw [liI_len]
  constructor
  · intro j hj
    rw [liI_get _ hj]
    have := oS_lt h2 (n - k) (Nat.le_refl _) n (by omega) j hj
    omega
  · intro j l hj hl he
    rw [liI_get _ (by omega), liI_get _ hl] at he
    have := oS_inj h2 (n - k) (Nat.le_refl _) n (by omega) j l (by omega) hl (by omega)
    omega
/-- undone: the place of a number in the row, from the front -/
def ixF (f : Nat → Nat) (v : Nat) : Nat → Nat
  | 0 => 0
  | c + 1 => if ixF f v c < c then ixF f v c else if f c = v then c else c + 1
theorem ixF_le (f : Nat → Nat) (v : Nat) : ∀ c, ixF f v c ≤ c
  | 0 => Nat.le_refl _
  | c + 1 => by
    show (if ixF f v c < c then ixF f v c else if f c = v then c else c + 1) ≤ c + 1
    have := ixF_le f v c
    split
    · omega
    · split <;> omega
theorem ixF_at {f : Nat → Nat} {v : Nat} : ∀ {c}, ixF f v c < c → f (ixF f v c) = v
  | 0, h => by omega
  | c + 1, h => by
    have e : ixF f v (c + 1) = if ixF f v c < c then ixF f v c else if f c = v then c else c + 1 := rfl
    by_cases h1 : ixF f v c < c
    · rw [e, if_pos h1]; exact ixF_at h1
    · rw [e, if_neg h1] at h ⊢
      by_cases h2 : f c = v
      · rw [if_pos h2]; exact h2
      · rw [if_neg h2] at h; omega
theorem ixF_some {f : Nat → Nat} {v : Nat} : ∀ {c j}, j < c → f j = v → ixF f v c < c
  | 0, j, h, _ => by omega
  | c + 1, j, h, he => by
    show (if ixF f v c < c then ixF f v c else if f c = v then c else c + 1) < c + 1
    by_cases h1 : ixF f v c < c
    · rw [if_pos h1]; omega
    · rw [if_neg h1]
      by_cases e : j = c
      · subst e; rw [if_pos he]; omega
      · exact absurd (ixF_some (c := c) (by omega) he) h1
theorem ixF_one {f : Nat → Nat} {v c j : Nat} (hj : j < c) (he : f j = v) (h : ∀ x y, x < c → y < c → f x = f y → x = y) : ixF f v c = j := by
  have h1 := ixF_some hj he
  exact h _ _ h1 hj ((ixF_at h1).trans he.symm)
/-- the row after t items are taken off -/
def unF (p : Nat → Nat) (n : Nat) : Nat → Nat → Nat
  | 0 => p
  | t + 1 => sw (unF p n t) (n - 1 - t) (ixF (unF p n t) (n - 1 - t) (n - t))
/-- a row on the first c places is an order of the first c numbers, the rest stand at their places -/
def onF (f : Nat → Nat) (c n : Nat) : Prop := (∀ x, x < c → f x < c) ∧ (∀ x y, x < c → y < c → f x = f y → x = y) ∧ ∀ x, c ≤ x → x < n → f x = x
theorem onF_has {f : Nat → Nat} {c n : Nat} (h : onF f c n) {v : Nat} (hv : v < c) : ∃ j, j < c ∧ f j = v := by
  have ho : isO (liI f c) := by
    unfold isO
    rw [liI_len]
    refine ⟨fun j hj => ?_, fun j k hj hk he => ?_⟩
    · rw [liI_get _ hj]; have := h.1 j hj; omega
    · rw [liI_get _ (by omega), liI_get _ hk] at he
      have := h.2.1 j k (by omega) hk (by omega)
      omega
  obtain ⟨j, hj, he⟩ := isO_on ho (i := v) (by rw [liI_len]; exact hv)
  rw [liI_len] at hj
  rw [liI_get _ hj] at he
  exact ⟨j, hj, by omega⟩
theorem onF_step {f : Nat → Nat} {c n j : Nat} (h : onF f (c + 1) n) (hj : j < c + 1) (he : f j = c) : onF (sw f c j) c n := by
  obtain ⟨h1, h2, h3⟩ := h
  have hs : ∀ x, sw f c j x = if x = j then f c else if x = c then f j else f x := fun x => rfl
  refine ⟨fun x hx => ?_, fun x y hx hy hxy => ?_, fun x hx hn => ?_⟩
  · rw [hs]
    by_cases e : x = j
    · rw [if_pos e]
      have h4 := h1 c (by omega)
      by_cases e2 : f c = c
      · have := h2 c j (by omega) hj (by omega); omega
      · omega
    · rw [if_neg e, if_neg (by omega)]
      have h4 := h1 x (by omega)
      by_cases e2 : f x = c
      · have := h2 x j (by omega) hj (by omega); omega
      · omega
  · exact sw_inj (n := c + 1) (by omega) hj h2 x y (by omega) (by omega) hxy
  · rw [hs]
    by_cases e : x = c
    · subst e
      by_cases e2 : x = j
      · rw [if_pos e2]; rw [← e2] at he; exact he
      · rw [if_neg e2, if_pos rfl]; exact he
    · rw [if_neg (by omega), if_neg e]; exact h3 x (by omega) hn
theorem unF_on {p : Nat → Nat} {n : Nat} (hp : orF p n) : ∀ t, t ≤ n → onF (unF p n t) (n - t) n
  | 0, _ => ⟨hp.1, hp.2, fun x hx hn => by omega⟩
  | t + 1, ht => by
    have ih := unF_on hp t (by omega)
    obtain ⟨c, hc⟩ : ∃ c, n - 1 - t = c := ⟨_, rfl⟩
    have hc1 : n - t = c + 1 := by omega
    rw [hc1] at ih
    show onF (sw (unF p n t) (n - 1 - t) (ixF (unF p n t) (n - 1 - t) (n - t))) (n - (t + 1)) n
    rw [hc, hc1, show n - (t + 1) = c by omega]
    obtain ⟨j, hj, he⟩ := onF_has ih (v := c) (by omega)
    have h1 := ixF_some hj he
    exact onF_step ih h1 (ixF_at h1)
/-- the decisions that are told of an order -/
def unD (p : Nat → Nat) (n k : Nat) (i : Nat) : Nat := ixF (unF p n (n - 1 - (k + i))) (k + i) (k + i + 1)
theorem unD_rt {p : Nat → Nat} {n k : Nat} (hp : orF p n) : rtD k (n - k) (unD p n k) := fun i hi => by
  have h := unF_on hp (n - 1 - (k + i)) (by omega)
  rw [show n - (n - 1 - (k + i)) = k + i + 1 by omega] at h
  obtain ⟨j, hj, he⟩ := onF_has h (v := k + i) (by omega)
  have h1 := ixF_some hj he
  unfold unD
  omega
/-- the row that comes if f stood there at first -/
def frS (f : Nat → Nat) (k : Nat) (d : Nat → Nat) : Nat → Nat → Nat
  | 0 => f
  | j + 1 => sw (frS f k d j) (k + j) (d j)
theorem oS_fr (k : Nat) (d : Nat → Nat) : ∀ j, oS k d j = frS (fun x => x) k d j
  | 0 => rfl
  | j + 1 => by show sw (oS k d j) _ _ = sw (frS _ k d j) _ _; rw [oS_fr k d j]
/-- from what stood there at first the decisions lead back -/
theorem fr_un {p : Nat → Nat} {n k : Nat} (hk : k ≤ n) : ∀ j, j ≤ n - k → frS (unF p n (n - k)) k (unD p n k) j = unF p n (n - k - j)
  | 0, _ => rfl
  | j + 1, hj => by
    show sw (frS (unF p n (n - k)) k (unD p n k) j) (k + j) (unD p n k j) = _
    rw [fr_un hk j (by omega)]
    obtain ⟨t, ht⟩ : ∃ t, n - k - (j + 1) = t := ⟨_, rfl⟩
    rw [show n - k - j = t + 1 by omega, ht]
    show sw (sw (unF p n t) (n - 1 - t) (ixF (unF p n t) (n - 1 - t) (n - t))) (k + j) (unD p n k j) = _
    unfold unD
    rw [show n - 1 - (k + j) = t by omega, show n - 1 - t = k + j by omega, show n - t = k + j + 1 by omega]
    exact sw_sw _ _ _
/-- of an order that decisions lead to, they are told -/
theorem un_od {n k : Nat} {d : Nat → Nat} (hk : k ≤ n) (h : rtD k (n - k) d) : ∀ t, t ≤ n - k → unF (oS k d (n - k)) n t = oS k d (n - k - t)
  | 0, _ => rfl
  | t + 1, ht => by
    show sw (unF (oS k d (n - k)) n t) (n - 1 - t) (ixF (unF (oS k d (n - k)) n t) (n - 1 - t) (n - t)) = _
    rw [un_od hk h t (by omega)]
    obtain ⟨j, hj⟩ : ∃ j, n - k - (t + 1) = j := ⟨_, rfl⟩
    rw [show n - k - t = j + 1 by omega, hj, show n - 1 - t = k + j by omega, show n - t = k + j + 1 by omega]
    have hd := h j (by omega)
    have hx : ixF (oS k d (j + 1)) (k + j) (k + j + 1) = d j := by
      refine ixF_one (by omega) ?_ (oS_inj h (j + 1) (by omega) (k + j + 1) (by omega))
      show sw (oS k d j) (k + j) (d j) (d j) = _
      unfold sw
      rw [if_pos rfl]
      exact oS_high h j (by omega) _ (Nat.le_refl _)
    rw [hx]
    exact sw_sw _ _ _
theorem unD_od {n k : Nat} {d : Nat → Nat} (hk : k ≤ n) (h : rtD k (n - k) d) {i : Nat} (hi : i < n - k) : unD (oS k d (n - k)) n k i = d i := by
  unfold unD
  rw [un_od hk h _ (by omega), show n - k - (n - 1 - (k + i)) = i + 1 by omega]
  have hd := h i hi
  refine ixF_one (by omega) ?_ (oS_inj h (i + 1) (by omega) (k + i + 1) (by omega))
  show sw (oS k d i) (k + i) (d i) (d i) = _
  unfold sw
  rw [if_pos rfl]
  exact oS_high h i (by omega) _ (Nat.le_refl _)
end Go.Bv
namespace Go.Proofs.Ytajjpllhihgkdaa
open Go Go.RowKit Go.Bv
set_option linter.unusedVariables false
/-- what is wrong with n items and k slots -/
def ckE (n k : Int) : Int := if n < 0 ∨ k < 0 ∨ n < k then 1 else if 256 < n then 9 else 0
theorem check_42 (n k : Int) (w : World) : Calls Try.prog 12 #[.int .i64 n, .int .i64 k] w fun e w' => e = .returned (.int .i64 (ckE n k)) ∧ w' = w := by
  by_cases h1 : n < 0
  · have HE : Hid (ckE n k = 1) := Lib.hid (if_pos (.inl h1))
    go_enter Try.func12, Try.ntmps12
    go_wp2
    go_ret
    rw [HE.out]; exact ⟨rfl, rfl⟩
  by_cases h2 : k < 0
  · have HE : Hid (ckE n k = 1) := Lib.hid (if_pos (.inr (.inl h2)))
    go_enter Try.func12, Try.ntmps12
    go_wp2
    go_ret
    rw [HE.out]; exact ⟨rfl, rfl⟩
  by_cases h3 : n < k
  · have HE : Hid (ckE n k = 1) := Lib.hid (if_pos (.inr (.inr h3)))
    go_enter Try.func12, Try.ntmps12
    go_wp2
    go_ret
    rw [HE.out]; exact ⟨rfl, rfl⟩
  by_cases h4 : 256 < n
  · have HE : Hid (ckE n k = 9) := Lib.hid (by unfold ckE; rw [if_neg (by omega), if_pos h4])
    go_enter Try.func12, Try.ntmps12
    go_wp2
    go_ret
    rw [HE.out]; exact ⟨rfl, rfl⟩
  · have HE : Hid (ckE n k = 0) := Lib.hid (by unfold ckE; rw [if_neg (by omega), if_neg h4])
    go_enter Try.func12, Try.ntmps12
    go_wp2
    go_ret
    rw [HE.out]; exact ⟨rfl, rfl⟩
theorem checkr_42 (n k : Int) (w : World) : Calls Try.prog 11 #[.int .i64 n, .int .i64 k] w fun e w' => e = .returned (.int .i64 (ckE n k)) ∧ w' = w := by
  by_cases h1 : n < 0
  · have HE : Hid (ckE n k = 1) := Lib.hid (if_pos (.inl h1))
    go_enter Try.func11, Try.ntmps11
    go_wp2
    go_ret
    rw [HE.out]; exact ⟨rfl, rfl⟩
  by_cases h2 : k < 0
  · have HE : Hid (ckE n k = 1) := Lib.hid (if_pos (.inr (.inl h2)))
    go_enter Try.func11, Try.ntmps11
    go_wp2
    go_ret
    rw [HE.out]; exact ⟨rfl, rfl⟩
  by_cases h3 : n < k
  · have HE : Hid (ckE n k = 1) := Lib.hid (if_pos (.inr (.inr h3)))
    go_enter Try.func11, Try.ntmps11
    go_wp2
    go_ret
    rw [HE.out]; exact ⟨rfl, rfl⟩
  by_cases h4 : 256 < n
  · have HE : Hid (ckE n k = 9) := Lib.hid (by unfold ckE; rw [if_neg (by omega), if_pos h4])
    go_enter Try.func11, Try.ntmps11
    go_wp2
    go_ret
    rw [HE.out]; exact ⟨rfl, rfl⟩
  · have HE : Hid (ckE n k = 0) := Lib.hid (by unfold ckE; rw [if_neg (by omega), if_neg h4])
    go_enter Try.func11, Try.ntmps11
    go_wp2
    go_ret
    rw [HE.out]; exact ⟨rfl, rfl⟩
/-- whether the first m may be decisions -/
def rkB (k : Int) (d : List Int) : Nat → Bool
  | 0 => true
  | m + 1 => rkB k d m && (decide (0 ≤ d.getD m 0) && decide (d.getD m 0 ≤ k + (m : Int)))
theorem rkB_iff {k : Int} {d : List Int} : ∀ {m}, rkB k d m = true ↔ ∀ i, i < m → 0 ≤ d.getD i 0 ∧ d.getD i 0 ≤ k + (i : Int)
  | 0 => ⟨fun _ i h => by omega, fun _ => rfl⟩
  | m + 1 => by
    show (rkB k d m && (decide (0 ≤ d.getD m 0) && decide (d.getD m 0 ≤ k + (m : Int)))) = true ↔ _
    rw [Bool.and_eq_true, Bool.and_eq_true, decide_eq_true_eq, decide_eq_true_eq, rkB_iff (m := m)]
    constructor
    · rintro ⟨h1, h2⟩ i hi
      by_cases e : i = m
      · subst e; exact h2
      · exact h1 i (by omega)
    · intro h
      exact ⟨fun i hi => h i (by omega), h m (by omega)⟩
def rdB (n k : Nat) (d : List Int) : Bool := decide (d.length = n - k) && rkB (k : Int) d (n - k)
def rdE (n k : Nat) (d : List Int) : Int := if rdB n k d then 0 else 2
theorem rdB_iff {n k : Nat} {d : List Int} : rdB n k d = true ↔ rdI n k d := by
  unfold rdB rdI
  rw [Bool.and_eq_true, decide_eq_true_eq, rkB_iff]
theorem rdB_no {n k : Nat} {d : List Int} (h : ¬ rdI n k d) : rdB n k d = false := by rw [← Bool.not_eq_true, rdB_iff]; exact h
theorem rdB_len {n k : Nat} {d : List Int} (h : d.length ≠ n - k) : rdB n k d = false := rdB_no (fun h2 => h h2.1)
theorem rdB_at {n k : Nat} {d : List Int} {i : Nat} (hi : i < n - k) (h : d.getD i 0 < 0 ∨ (k : Int) + (i : Int) < d.getD i 0) : rdB n k d = false := rdB_no (fun h2 => by have := h2.2 i hi; omega)
set_option maxRecDepth 100000 in
set_option maxHeartbeats 2000000 in
theorem right_42 (n k : Nat) (hk : k ≤ n) (hn : n ≤ 100000) (a : Option Addr) (m c : Nat) (d : List Int) (w : World) (h : ZRow w a m c d) :
    Calls Try.prog 13 #[.int .i64 (n : Int), .int .i64 (k : Int), .slice a m c] w fun e w' => e = .returned (.bool (rdB n k d)) ∧ w' = w := by
  have HL := Lib.hid h.len_eq
  have HH := Lib.hid h
  obtain ⟨j, hj⟩ : ∃ j, n - k = j := ⟨_, rfl⟩
  have hji : (n : Int) - (k : Int) = (j : Int) := by omega
  clear h
  by_cases hm : m = j
  case neg =>
    have HF : Hid (rdB n k d = false) := Lib.hid (rdB_len (by rw [HL.out, hj]; exact hm))
    have hb : ((m : Int) != (j : Int)) = true := by simp; omega
    go_enter Try.func13, Try.ntmps13
    go_wp2
    go_ret
    rw [HF.out]; exact ⟨rfl, rfl⟩
  subst hm
  have hb : ((m : Int) != (m : Int)) = false := by simp
  have HNO : Hid (∀ i, i < m → d.getD i 0 < 0 ∨ (k : Int) + (i : Int) < d.getD i 0 → rdB n k d = false) := Lib.hid (fun i hi h => rdB_at (by omega) h)
  have HY : Hid ((∀ i, i < m → 0 ≤ d.getD i 0 ∧ d.getD i 0 ≤ (k : Int) + (i : Int)) → rdB n k d = true) := Lib.hid (fun h => rdB_iff.2 ⟨by rw [HL.out, hj], by rw [hj]; exact h⟩)
  go_enter Try.func13, Try.ntmps13
  go_wp2_with fail
  go_loop [17] (fun iv => ∃ i : Nat, i ≤ m ∧ iv = .int .i64 (i : Int) ∧ Hid (∀ j, j < i → 0 ≤ d.getD j 0 ∧ d.getD j 0 ≤ (k : Int) + (j : Int))) (fun iv => m - (intOf iv).toNat)
  case atStart => exact ⟨0, Nat.zero_le _, rfl, Lib.hid (fun i hi => by omega)⟩
  case round =>
    obtain ⟨i, hi, rfl, HO⟩ := hrel
    by_cases hlt : (i : Int) < (m : Int)
    · have hi0 : (0 : Int) ≤ (i : Int) := by omega
      obtain ⟨b, off, rfl, hc⟩ := HH.out.addr (by omega)
      have c1 := hc i (by omega)
      clear hc
      have HN9 := Lib.hid (HNO.out i (by omega))
      obtain ⟨x, hx⟩ : ∃ x, d.getD i 0 = x := ⟨_, rfl⟩
      rw [hx] at c1 HN9
      have HX := Lib.hid hx
      clear hx
      by_cases h1 : x < 0
      · have HF := Lib.hid (HN9.out (.inl h1))
        go_wp2
        go_ret
        rw [HF.out]; exact ⟨rfl, rfl⟩
      by_cases h2 : (k : Int) + (i : Int) < x
      · have HF := Lib.hid (HN9.out (.inr h2))
        go_wp2
        go_ret
        rw [HF.out]; exact ⟨rfl, rfl⟩
      have HO2 : Hid (∀ j, j < i + 1 → 0 ≤ d.getD j 0 ∧ d.getD j 0 ≤ (k : Int) + (j : Int)) := Lib.hid (fun j hj => by
        by_cases e : j = i
        · subst e; rw [HX.out]; omega
        · exact HO.out j (by omega))
      go_wp2
      exact ⟨⟨i + 1, by omega, by go_num, HO2.out⟩, by simp [intOf]; omega⟩
    · obtain rfl : i = m := by omega
      have HF := Lib.hid (HY.out HO.out)
      go_wp2
      go_ret
      rw [HF.out]; exact ⟨rfl, rfl⟩
theorem arr_q (k : Int) (a : Option Addr) (m c : Nat) (w : World) :
    Calls Try.prog 34 #[.int .i64 k, .slice a m c] w fun e w' => e = .returned (.func (Fn.func 53) #[] #[.pointer (some ⟨w.heap.size + 1, 0, none⟩), .pointer (some ⟨w.heap.size, 0, none⟩)]) ∧ w'.heap[w.heap.size]? = some (.cells #[.int .i64 k] 3 (0, 0)) ∧ w'.heap[w.heap.size + 1]? = some (.cells #[.slice a m c] 22 (0, 0)) ∧ New w w' := by
  have h1 := heap_alloc_new w (.cells #[.int .i64 k] 3)
  have h2 := (((New.refl (w.alloc (.cells #[.int .i64 k] 3))).alloc (.cells #[.slice a m c] 22)).block _ (lt_of_block h1)).trans h1
  have h3 := heap_alloc_new (w.alloc (.cells #[.int .i64 k] 3)) (.cells #[.slice a m c] 22)
  rw [show (w.alloc (.cells #[.int .i64 k] 3)).heap.size = w.heap.size + 1 by simp] at h3
  have H2 := Lib.hid h2
  have H3 := Lib.hid h3
  clear h1 h2 h3
  go_enter Try.func34, Try.ntmps34
  go_wp2
  go_ret
  exact ⟨rfl, H2.out, H3.out, ((New.refl w).alloc _).alloc _⟩
set_option maxRecDepth 100000 in
set_option maxHeartbeats 2000000 in
/-- each item is visited with its decision -/
theorem arr1_q (k m : Nat) (a : Option Addr) (c : Nat) (d : List Int) (b1 b2 G : Nat) (caps : Array Value) (I : Nat → World → Prop) (w : World) (hkm : k + m ≤ 1000000) (hG : ∀ (x y : Value) (w : World), (callFunc G (#[x, y] ++ caps)).run Try.prog w = .ok (.enter G (#[x, y] ++ caps)) w)
    (h0 : I 0 w) (hb : ∀ i w', I i w' → w'.heap[b1]? = some (.cells #[.slice a m c] 22 (0, 0)) ∧ w'.heap[b2]? = some (.cells #[.int .i64 (k : Int)] 3 (0, 0)) ∧ ZRow w' a m c d)
    (hs : ∀ i w', i < m → I i w' → Calls Try.prog G (#[.int .i64 ((k + i : Nat) : Int), .int .i64 (d.getD i 0)] ++ caps) w' fun e w'' => e = .returned (.tuple #[]) ∧ I (i + 1) w'') :
    Calls Try.prog 53 #[.func (Fn.func G) #[] caps, .pointer (some ⟨b1, 0, none⟩), .pointer (some ⟨b2, 0, none⟩)] w fun e w' => e = .returned (.tuple #[]) ∧ I m w' := by
  have HB := Lib.hid hb
  have HS := Lib.hid hs
  have HG := Lib.hid hG
  have H0 := Lib.hid h0
  obtain ⟨e1, _, _⟩ := hb 0 w h0
  have k1 := cell_of_row _ _ 0 _ _ _ e1
  clear hb hs h0 e1 hG
  go_enter Try.func53, Try.ntmps53
  go_wp2_with fail
  go_loopw [8] (fun iv wr => ∃ i : Nat, i ≤ m ∧ iv = .int .i64 (i : Int) ∧ Hid (I i wr)) (fun iv _ => m - (intOf iv).toNat)
  case atStart => exact ⟨0, Nat.zero_le _, rfl, H0⟩
  case round =>
    clear k1
    obtain ⟨i, hi, rfl, HI⟩ := hrel
    obtain ⟨e1, e2, e3⟩ := HB.out i _ HI.out
    have k2 := cell_of_row _ _ 0 _ _ _ e2
    by_cases hlt : (i : Int) < (m : Int)
    · have hi0 : (0 : Int) ≤ (i : Int) := by omega
      obtain ⟨b, off, rfl, hc⟩ := e3.addr (by omega)
      have c1 := hc i (by omega)
      have HC := Lib.hid (HS.out i _ (by omega) HI.out)
      obtain ⟨s, hs⟩ : ∃ s, k + i = s := ⟨_, rfl⟩
      have hks : (k : Int) + (i : Int) = (s : Int) := by omega
      rw [hs] at HC
      obtain ⟨x, hx⟩ : ∃ x, d.getD i 0 = x := ⟨_, rfl⟩
      rw [hx] at c1 HC
      clear hc hx e1 e2 e3
      go_wp2_with fail
      rw [HG.out, Oper.upon_enter]
      refine (HC.out).mono ?_
      rintro e w9 ⟨rfl, hI⟩
      have HI9 := Lib.hid hI
      clear hI HC
      go_wp2
      exact ⟨⟨i + 1, by omega, by go_num, HI9⟩, by simp [intOf]; omega⟩
    · obtain rfl : i = m := by omega
      clear e1 e2 e3 k2
      go_wp2
      go_end0
      exact ⟨rfl, HI.out⟩
theorem cd1_q (b : Nat) (v : Bool) (item dec : Int) (w : World) (h : w.heap[b]? = some (.cells #[.bool v] 4 (0, 0))) :
    Calls Try.prog 52 #[.int .i64 item, .int .i64 dec, .pointer (some ⟨b, 0, none⟩)] w fun e w' => e = .returned (.tuple #[]) ∧ w' = w.setCell ⟨b, 0, none⟩ (.bool (v || (decide (dec < 0) || decide (item < dec)))) := by
  have k0 := cell_of_row _ _ 0 _ _ _ h
  have kf := frozen_of_row _ _ 0 _ _ h
  clear h
  cases v
  · by_cases h1 : dec < 0
    · have d1 : decide (dec < 0) = true := decide_eq_true h1
      go_enter Try.func52, Try.ntmps52
      go_wp2
      go_end0
      first | exact ⟨rfl, rfl⟩ | exact ⟨rfl, by rw [d1]; rfl⟩
    · have d1 : decide (dec < 0) = false := decide_eq_false h1
      by_cases h2 : item < dec
      · have d2 : decide (item < dec) = true := decide_eq_true h2
        go_enter Try.func52, Try.ntmps52
        go_wp2
        go_end0
        first | exact ⟨rfl, rfl⟩ | exact ⟨rfl, by rw [d1]; rfl⟩
      · have d2 : decide (item < dec) = false := decide_eq_false h2
        go_enter Try.func52, Try.ntmps52
        go_wp2
        go_end0
        first | exact ⟨rfl, rfl⟩ | exact ⟨rfl, by rw [d1]; rfl⟩
  · go_enter Try.func52, Try.ntmps52
    go_wp2
    go_end0
    exact ⟨rfl, rfl⟩
/-- the boxes of a visit's row stay -/
def Vis (w0 : World) (b1 b2 : Nat) (k : Int) (a : Option Addr) (m c : Nat) (d : List Int) (w : World) : Prop := w.heap[b1]? = some (.cells #[.slice a m c] 22 (0, 0)) ∧ w.heap[b2]? = some (.cells #[.int .i64 k] 3 (0, 0)) ∧ New w0 w
theorem Vis.set {w0 w : World} {b1 b2 : Nat} {k : Int} {a : Option Addr} {m c : Nat} {d : List Int} (h : Vis w0 b1 b2 k a m c d w) {g j : Nat} (h1 : g ≠ b1) (h2 : g ≠ b2) (h0 : w0.heap.size ≤ g) (u : Value) : Vis w0 b1 b2 k a m c d (w.setCell ⟨g, j, none⟩ u) :=
  ⟨(heap_setCell_other _ _ _ _ (fun e => h1 e.symm)).trans h.1, (heap_setCell_other _ _ _ _ (fun e => h2 e.symm)).trans h.2.1, h.2.2.setCell h0 _⟩
set_option maxRecDepth 100000 in
set_option maxHeartbeats 2000000 in
theorem cd_err (n k : Int) (a : Option Addr) (m c : Nat) (w : World) (h : ¬ ckE n k = 0) :
    Calls Try.prog 32 #[.int .i64 n, .int .i64 k, .slice a m c] w fun e w' => e = .returned (.int .i64 (ckE n k)) ∧ w' = w := by
  have HC := Lib.hid (check_42 n k w)
  obtain ⟨z, hz⟩ : ∃ z, ckE n k = z := ⟨_, rfl⟩
  rw [hz] at HC h ⊢
  clear hz
  have hb : (z != 0) = true := by simpa using h
  go_enter Try.func32, Try.ntmps32
  go_wp2_with fail
  refine HC.out.mono ?_
  rintro e w' ⟨rfl, hw⟩
  replace hw := hw.symm
  subst hw
  go_wp2
  go_ret
  exact ⟨rfl, rfl⟩
set_option maxRecDepth 100000 in
set_option maxHeartbeats 2000000 in
theorem cd_q (n k : Nat) (hk : k ≤ n) (hn : n ≤ 256) (a : Option Addr) (m c : Nat) (d : List Int) (w : World) (h : ZRow w a m c d) :
    Calls Try.prog 32 #[.int .i64 (n : Int), .int .i64 (k : Int), .slice a m c] w fun e w' => e = .returned (.int .i64 (rdE n k d)) ∧ New w w' := by
  have HC := Lib.hid (check_42 (n : Int) (k : Int) w)
  rw [show ckE (n : Int) (k : Int) = 0 from by unfold ckE; rw [if_neg (by omega), if_neg (by omega)]] at HC
  have HL := Lib.hid h.len_eq
  obtain ⟨j, hj⟩ : ∃ j, n - k = j := ⟨_, rfl⟩
  have hji : (n : Int) - (k : Int) = (j : Int) := by omega
  by_cases hm : m = j
  case neg =>
    have HF : Hid (rdE n k d = 2) := Lib.hid (by unfold rdE; rw [rdB_len (by rw [HL.out, hj]; exact hm)]; rfl)
    have hb : ((m : Int) != (j : Int)) = true := by simp; omega
    clear h
    go_enter Try.func32, Try.ntmps32
    go_wp2_with fail
    refine HC.out.mono ?_
    rintro e w' ⟨rfl, hw⟩
    replace hw := hw.symm
    subst hw
    go_wp2
    go_ret
    rw [HF.out]; exact ⟨rfl, New.refl _⟩
  subst hm
  have hb : ((m : Int) != (m : Int)) = false := by simp
  have HRD : Hid (rdB n k d = rkB (k : Int) d m) := Lib.hid (by unfold rdB; rw [HL.out, hj, decide_eq_true rfl]; rfl)
  have hbw := heap_alloc_new w (.cells #[.bool false] 4)
  obtain ⟨W1, hW1⟩ : ∃ z, w.alloc (.cells #[.bool false] 4) = z := ⟨_, rfl⟩
  have hn1 : New w W1 := hW1 ▸ (New.refl w).alloc _
  have hs1 : W1.heap.size = w.heap.size + 1 := by rw [← hW1]; simp
  rw [hW1] at hbw
  have HW1 := Lib.hid hW1
  have HA := Lib.hid (arr_q (k : Int) a m c W1)
  have HV : Hid (∀ w2, w2.heap[W1.heap.size]? = some (.cells #[.int .i64 (k : Int)] 3 (0, 0)) → w2.heap[W1.heap.size + 1]? = some (.cells #[.slice a m c] 22 (0, 0)) → New W1 w2 → Calls Try.prog 53 #[.func (Fn.func 52) #[] #[.pointer (some ⟨w.heap.size, 0, none⟩)], .pointer (some ⟨W1.heap.size + 1, 0, none⟩), .pointer (some ⟨W1.heap.size, 0, none⟩)] w2 fun e w' => e = .returned (.tuple #[]) ∧ w'.heap[w.heap.size]? = some (.cells #[.bool (!rkB (k : Int) d m)] 4 (0, 0)) ∧ New w w') := Lib.hid (fun w2 g1 g2 gn => by
    refine (arr1_q k m a c d (W1.heap.size + 1) W1.heap.size 52 #[.pointer (some ⟨w.heap.size, 0, none⟩)] (fun i w' => w'.heap[w.heap.size]? = some (.cells #[.bool (!rkB (k : Int) d i)] 4 (0, 0)) ∧ Vis w (W1.heap.size + 1) W1.heap.size (k : Int) a m c d w') w2 (by omega) (fun x y w => by kernel_rfl) ⟨(gn.block _ (lt_of_block hbw)).trans hbw, g2, g1, hn1.trans gn⟩ (fun i w' hI => ⟨hI.2.1, hI.2.2.1, h.stay hI.2.2.2⟩) (fun i w' hi hI => ?_)).mono (fun e w' hh => ⟨hh.1, hh.2.1, hh.2.2.2.2⟩)
    refine (cd1_q w.heap.size _ _ _ w' hI.1).mono ?_
    rintro e w3 ⟨rfl, rfl⟩
    refine ⟨rfl, ?_, hI.2.set (by omega) (by omega) (Nat.le_refl _) _⟩
    have h3 := heap_setCell_same w' w.heap.size 0 _ _ (.bool (!rkB (k : Int) d i || (decide (d.getD i 0 < 0) || decide (((k + i : Nat) : Int) < d.getD i 0)))) hI.1
    have he : (!rkB (k : Int) d (i + 1)) = (!rkB (k : Int) d i || (decide (d.getD i 0 < 0) || decide (((k + i : Nat) : Int) < d.getD i 0))) := by
      show (!(rkB (k : Int) d i && (decide (0 ≤ d.getD i 0) && decide (d.getD i 0 ≤ (k : Int) + (i : Int))))) = _
      rw [Bool.not_and, Bool.not_and]
      congr 1
      congr 1
      · rw [← decide_not]; exact decide_eq_decide.2 (by omega)
      · rw [← decide_not]; exact decide_eq_decide.2 (by omega)
    rw [he]
    exact h3)
  clear h hW1 hn1 hs1 hbw
  go_enter Try.func32, Try.ntmps32
  go_wp2_with fail
  refine HC.out.mono ?_
  rintro e w' ⟨rfl, hw⟩
  replace hw := hw.symm
  subst hw
  go_wp2_with fail
  rw [HW1.out]
  refine HA.out.mono ?_
  rintro e w2 ⟨rfl, g1, g2, gn⟩
  have HV2 := Lib.hid (HV.out w2 g1 g2 gn)
  clear g1 g2 gn HV HA
  have HRE : Hid (rdE n k d = if rkB (k : Int) d m then 0 else 2) := Lib.hid (by unfold rdE; rw [HRD.out])
  go_wp2_with fail
  refine HV2.out.mono ?_
  rintro e w3 ⟨rfl, hb3, hn3⟩
  have k0 := cell_of_row _ _ 0 _ _ _ hb3
  have HN3 := Lib.hid hn3
  clear hb3 hn3 HV2
  rcases hr : rkB (k : Int) d m with _ | _
  · rw [hr] at k0 HRE
    have HF : Hid (rdE n k d = 2) := Lib.hid (by rw [HRE.out]; rfl)
    clear hr HRE
    go_wp2
    go_ret
    rw [HF.out]; exact ⟨rfl, HN3.out⟩
  · rw [hr] at k0 HRE
    have HF : Hid (rdE n k d = 0) := Lib.hid (by rw [HRE.out]; rfl)
    clear hr HRE
    go_wp2
    go_ret
    rw [HF.out]; exact ⟨rfl, HN3.out⟩
end Go.Proofs.Ytajjpllhihgkdaa
/- reservoir.Slots, Order; the document's own. · reservoir.Order; the document's own Slots and Order. -/
namespace Go.Proofs.Ytajjpllhihgkdaa
open Go Go.RowKit Go.Bv
set_option linter.unusedVariables false
set_option maxRecDepth 100000 in
set_option maxHeartbeats 2000000 in
theorem sorted_42 (n : Nat) (w : World) (hn : n ≤ 1000000) :
    Calls Try.prog 33 #[.int .i64 (n : Int)] w fun e w' => ∃ g, e = .returned (.slice (some ⟨g, 0, none⟩) (n : Nat) n) ∧ w'.ownsRow w.heap.size 3 1 (.slice (some ⟨g, 0, none⟩) n n) n ((liI (fun x => x) n).map fun x => .int .i64 x) ∧ New w w' := by
  obtain ⟨i0, hi, hz0, hz1, hz2⟩ := info_parts info_int40
  have HMK := Lib.hid (make_int n hn)
  go_enter Try.func33, Try.ntmps33
  go_wp2_with fail
  rw [HMK.out _ _ rfl]
  go_wp2_with fail
  go_loopw [9] (fun iv wr => ∃ k : Nat, k ≤ n ∧ iv = .int .i64 (k : Int) ∧ wr.ownsRow w.heap.size 3 1 (.slice (some ⟨w.heap.size, 0, none⟩) n n) n ((sqI n k).map fun x => .int .i64 x) ∧ New w wr) (fun iv _ => n - (intOf iv).toNat)
  case atStart => exact ⟨0, Nat.zero_le _, rfl, ow_made w _ _ _ n _ (Nat.le_refl _) (by omega) (by rw [made_toList, sqI_zero]) (by rw [List.length_map, sqI, liI_len]), (New.refl w).alloc _⟩
  case round =>
    obtain ⟨k, hk, rfl, hown, hnew⟩ := hrel
    by_cases hlt : (k : Int) < (n : Int)
    · have hk0 : (0 : Int) ≤ (k : Int) := by omega
      obtain ⟨hc1, hf1⟩ := ow_int hown (k := k) (by omega)
      have HO2 : Hid ((wr.setCell ⟨w.heap.size, k, none⟩ (.int .i64 (k : Int))).ownsRow w.heap.size 3 1 (.slice (some ⟨w.heap.size, 0, none⟩) n n) n ((sqI n (k + 1)).map fun x => .int .i64 x)) := Lib.hid (by
        rw [← sqI_set n k (by omega), List.map_set]; exact ow_set hown k _)
      have HN2 : Hid (New w (wr.setCell ⟨w.heap.size, k, none⟩ (.int .i64 (k : Int)))) := Lib.hid (hnew.setCell (Nat.le_refl _) _)
      clear hown hnew
      go_wp2
      exact ⟨⟨k + 1, by omega, by go_num, HO2.out, HN2.out⟩, by simp [intOf]; omega⟩
    · obtain rfl : k = n := by omega
      rw [sqI_all] at hown
      go_wp2
      go_ret
      exact ⟨_, rfl, hown, hnew⟩

theorem sl1_lt (bk bs g k cap x : Nat) (item : Int) (w : World) (hk : w.heap[bk]? = some (.cells #[.int .i64 (k : Int)] 3 (0, 0))) (hs : w.heap[bs]? = some (.cells #[.slice (some ⟨g, 0, none⟩) k cap] 22 (0, 0))) (hx : x < k) (hc : ∃ u, w.cell? ⟨g, x, none⟩ = some u) (hf : w.frozen? ⟨g, x, none⟩ = false) :
    Calls Try.prog 35 #[.int .i64 item, .int .i64 (x : Int), .pointer (some ⟨bk, 0, none⟩), .pointer (some ⟨bs, 0, none⟩)] w fun e w' => e = .returned (.tuple #[]) ∧ w' = w.setCell ⟨g, x, none⟩ (.int .i64 item) := by
  have k0 := cell_of_row _ _ 0 _ _ _ hk
  have k1 := cell_of_row _ _ 0 _ _ _ hs
  obtain ⟨u, hc⟩ := hc
  have h1 : (x : Int) < (k : Int) := by omega
  have h0 : (0 : Int) ≤ (x : Int) := by omega
  clear hk hs
  go_enter Try.func35, Try.ntmps35
  go_wp2
  go_end0
  exact ⟨rfl, rfl⟩
theorem sl1_ge (bk bs k : Nat) (item x : Int) (w : World) (hk : w.heap[bk]? = some (.cells #[.int .i64 (k : Int)] 3 (0, 0))) (hx : ¬ x < (k : Int)) :
    Calls Try.prog 35 #[.int .i64 item, .int .i64 x, .pointer (some ⟨bk, 0, none⟩), .pointer (some ⟨bs, 0, none⟩)] w fun e w' => e = .returned (.tuple #[]) ∧ w' = w := by
  have k0 := cell_of_row _ _ 0 _ _ _ hk
  clear hk
  go_enter Try.func35, Try.ntmps35
  go_wp2
  go_end0
  exact ⟨rfl, rfl⟩
theorem slots_err (n k : Int) (a : Option Addr) (m c : Nat) (w : World) (h : ¬ ckE n k = 0) :
    Calls Try.prog 9 #[.int .i64 n, .int .i64 k, .slice a m c] w fun e w' => e = .returned (.tuple #[.slice none 0 0, .int .i64 (ckE n k)]) ∧ New w w' := by
  have HC := Lib.hid (fun w => cd_err n k a m c w h)
  obtain ⟨z, hz⟩ : ∃ z, ckE n k = z := ⟨_, rfl⟩
  rw [hz] at HC h ⊢
  clear hz
  have hb : (z != 0) = true := by simpa using h
  have hbk := heap_alloc_new w (.cells #[.int .i64 k] 3)
  have k0 := cell_of_row _ _ 0 _ _ _ hbk
  clear hbk
  go_enter Try.func9, Try.ntmps9
  go_wp2_with fail
  refine (HC.out _).mono ?_
  rintro e w' ⟨rfl, hw⟩
  replace hw := hw.symm
  subst hw
  go_wp2
  go_ret2
  exact ⟨rfl, (New.refl _).alloc _⟩
theorem slots_bad (n k : Nat) (hk : k ≤ n) (hn : n ≤ 256) (a : Option Addr) (m c : Nat) (d : List Int) (w : World) (h : ZRow w a m c d) (hb : rdB n k d = false) :
    Calls Try.prog 9 #[.int .i64 (n : Int), .int .i64 (k : Int), .slice a m c] w fun e w' => e = .returned (.tuple #[.slice none 0 0, .int .i64 2]) ∧ New w w' := by
  have HC := Lib.hid (cd_q n k hk hn a m c d _ (h.stay ((New.refl w).alloc (.cells #[.int .i64 (k : Int)] 3))))
  rw [show rdE n k d = 2 by unfold rdE; rw [hb]; rfl] at HC
  have k0 := cell_of_row _ _ 0 _ _ _ (heap_alloc_new w (.cells #[.int .i64 (k : Int)] 3))
  clear h hb
  go_enter Try.func9, Try.ntmps9
  go_wp2_with fail
  refine HC.out.mono ?_
  rintro e w9 ⟨rfl, hn9⟩
  have HN := Lib.hid (((New.refl w).alloc _).trans hn9)
  clear hn9 HC
  go_wp2
  go_ret2
  exact ⟨rfl, HN.out⟩
set_option maxRecDepth 100000 in
set_option maxHeartbeats 2000000 in
theorem sl_visit (n k : Nat) (hk : k ≤ n) (hn : n ≤ 256) (a : Option Addr) (m c : Nat) (d : List Int) (w W1 : World) (h : ZRow w a m c d) (hd : rdI n k d) (hbk : W1.heap[w.heap.size]? = some (.cells #[.int .i64 (k : Int)] 3 (0, 0))) (hn1 : New w W1) (hs1 : W1.heap.size = w.heap.size + 1) (w3 w5 w6 : World) (g : Nat) (hn3 : New W1 w3) (hg3 : w3.heap.size ≤ g) (hg5 : g ≠ w5.heap.size) (how : w5.ownsRow w3.heap.size 3 1 (.slice (some ⟨g, 0, none⟩) k k) k ((liI (fun x => x) k).map fun x => .int .i64 x)) (hn5 : New w3 w5) (g1 : w6.heap[(w5.alloc (.cells #[.slice (some ⟨g, 0, none⟩) k k] 22)).heap.size]? = some (.cells #[.int .i64 (k : Int)] 3 (0, 0))) (g2 : w6.heap[(w5.alloc (.cells #[.slice (some ⟨g, 0, none⟩) k k] 22)).heap.size + 1]? = some (.cells #[.slice a m c] 22 (0, 0))) (gn : New (w5.alloc (.cells #[.slice (some ⟨g, 0, none⟩) k k] 22)) w6) :
    Calls Try.prog 53 #[.func (Fn.func 35) #[] #[.pointer (some ⟨w.heap.size, 0, none⟩), .pointer (some ⟨w5.heap.size, 0, none⟩)], .pointer (some ⟨(w5.alloc (.cells #[.slice (some ⟨g, 0, none⟩) k k] 22)).heap.size + 1, 0, none⟩), .pointer (some ⟨(w5.alloc (.cells #[.slice (some ⟨g, 0, none⟩) k k] 22)).heap.size, 0, none⟩)] w6 fun e w' => e = .returned (.tuple #[]) ∧ w'.heap[w5.heap.size]? = some (.cells #[.slice (some ⟨g, 0, none⟩) k k] 22 (0, 0)) ∧ w'.ownsRow w3.heap.size 3 1 (.slice (some ⟨g, 0, none⟩) k k) k ((slI n k d).map fun x => .int .i64 x) ∧ New w w' := by
  have hm : m = n - k := by rw [← h.len_eq]; exact hd.1
  have hF := rdI_F hd
  have hb5 := heap_alloc_new w5 (.cells #[.slice (some ⟨g, 0, none⟩) k k] 22)
  obtain ⟨W5, hW5⟩ : ∃ z, w5.alloc (.cells #[.slice (some ⟨g, 0, none⟩) k k] 22) = z := ⟨_, rfl⟩
  have hs5 : W5.heap.size = w5.heap.size + 1 := by rw [← hW5]; simp
  have hn55 : New w5 W5 := hW5 ▸ (New.refl w5).alloc _
  rw [hW5] at g1 g2 gn hb5 ⊢
  have hg6 := (ow_in how).2.1
  have z1 := hn3.le
  have z2 := hn5.le
  have z3 := gn.le
  have hfl : d.length = n - k := hd.1
  have hk6 : w6.heap[w.heap.size]? = some (.cells #[.int .i64 (k : Int)] 3 (0, 0)) := by
    have q1 := lt_of_block hbk
    exact (gn.block w.heap.size (by omega)).trans ((hn55.block w.heap.size (by omega)).trans ((hn5.block w.heap.size (by omega)).trans ((hn3.block w.heap.size q1).trans hbk)))
  have hb6 : w6.heap[w5.heap.size]? = some (.cells #[.slice (some ⟨g, 0, none⟩) k k] 22 (0, 0)) := (gn.block _ (lt_of_block hb5)).trans hb5
  have ho6 := ow_new (ow_new how hn55) gn
  have hn6 : New w w6 := (((hn1.trans hn3).trans hn5).trans hn55).trans gn
  have hG : ∀ (x y : Value) (w' : World), (callFunc 35 (#[x, y] ++ #[.pointer (some ⟨w.heap.size, 0, none⟩), .pointer (some ⟨w5.heap.size, 0, none⟩)])).run Try.prog w' = .ok (.enter 35 (#[x, y] ++ #[.pointer (some ⟨w.heap.size, 0, none⟩), .pointer (some ⟨w5.heap.size, 0, none⟩)])) w' := fun x y w' => by kernel_rfl
  obtain ⟨P, hP⟩ : ∃ P : Nat → World → Prop, P = fun i w' => w'.heap[w5.heap.size]? = some (.cells #[.slice (some ⟨g, 0, none⟩) k k] 22 (0, 0)) ∧ w'.heap[w.heap.size]? = some (.cells #[.int .i64 (k : Int)] 3 (0, 0)) ∧ w'.ownsRow w3.heap.size 3 1 (.slice (some ⟨g, 0, none⟩) k k) k ((liI (oS k (fnI d) i) k).map fun x => .int .i64 x) ∧ Vis w (W5.heap.size + 1) W5.heap.size (k : Int) a m c d w' := ⟨_, rfl⟩
  have p0 : P 0 w6 := by rw [hP]; exact ⟨hb6, hk6, ho6, g2, g1, hn6⟩
  have pb : ∀ i w', P i w' → w'.heap[W5.heap.size + 1]? = some (.cells #[.slice a m c] 22 (0, 0)) ∧ w'.heap[W5.heap.size]? = some (.cells #[.int .i64 (k : Int)] 3 (0, 0)) ∧ ZRow w' a m c d := fun i w' hI => by
    rw [hP] at hI
    exact ⟨hI.2.2.2.1, hI.2.2.2.2.1, h.stay hI.2.2.2.2.2⟩
  have ps : ∀ i w', i < m → P i w' → Calls Try.prog 35 (#[.int .i64 ((k + i : Nat) : Int), .int .i64 (d.getD i 0)] ++ #[.pointer (some ⟨w.heap.size, 0, none⟩), .pointer (some ⟨w5.heap.size, 0, none⟩)]) w' fun e w'' => e = .returned (.tuple #[]) ∧ P (i + 1) w'' := fun i w' hi hI => by
    rw [hP] at hI ⊢
    obtain ⟨i1, i2, i3, i4⟩ := hI
    have hdi := hd.2 i (by omega)
    obtain ⟨x, hx⟩ : ∃ x : Nat, d.getD i 0 = (x : Int) := ⟨(d.getD i 0).toNat, by omega⟩
    have hfx : fnI d i = x := by unfold fnI; rw [hx]; rfl
    rw [hx]
    by_cases hxk : x < k
    · obtain ⟨e1, e2⟩ := ow_int i3 (k := x) hxk
      refine (sl1_lt w.heap.size w5.heap.size g k k x _ w' i2 i1 hxk ⟨_, e1⟩ e2).mono ?_
      rintro e w9 ⟨rfl, rfl⟩
      have h9 := ow_set i3 x (.int .i64 ((k + i : Nat) : Int))
      have he : liI (oS k (fnI d) (i + 1)) k = (liI (oS k (fnI d) i) k).set x ((k + i : Nat) : Int) := by
        rw [liI_set _ _ hxk]
        exact liI_ext (fun y hy => by
          rw [oS_low hF (by omega) hy, hfx]
          by_cases e : y = x
          · rw [if_pos e.symm, if_pos e]
          · rw [if_neg (fun e2 => e e2.symm), if_neg e])
      refine ⟨rfl, (heap_setCell_other _ _ _ _ (by show w5.heap.size ≠ g; omega)).trans i1, (heap_setCell_other _ _ _ _ (by show w.heap.size ≠ g; omega)).trans i2, ?_, i4.set (by omega) (by omega) (by omega) _⟩
      rw [he, List.map_set]
      exact h9
    · refine (sl1_ge w.heap.size w5.heap.size k _ _ w' i2 (by omega)).mono ?_
      rintro e w9 ⟨rfl, rfl⟩
      refine ⟨rfl, i1, i2, ?_, i4⟩
      rw [show liI (oS k (fnI d) (i + 1)) k = liI (oS k (fnI d) i) k from liI_ext (fun y hy => by
        rw [oS_low hF (by omega) hy, hfx, if_neg (by omega)])]
      exact i3
  refine (arr1_q k m a c d (W5.heap.size + 1) W5.heap.size 35 #[.pointer (some ⟨w.heap.size, 0, none⟩), .pointer (some ⟨w5.heap.size, 0, none⟩)] P w6 (by omega) hG p0 pb ps).mono ?_
  rintro e w' ⟨he, hh⟩
  rw [hP] at hh
  refine ⟨he, hh.1, ?_, hh.2.2.2.2.2⟩
  have h9 := hh.2.2.1
  unfold slI
  rw [← hm]; exact h9
set_option maxRecDepth 100000 in
set_option maxHeartbeats 2000000 in
theorem slots_q (n k : Nat) (hk : k ≤ n) (hn : n ≤ 256) (a : Option Addr) (m c : Nat) (d : List Int) (w : World) (h : ZRow w a m c d) (hd : rdI n k d) :
    Calls Try.prog 9 #[.int .i64 (n : Int), .int .i64 (k : Int), .slice a m c] w fun e w' => ∃ a' c', e = .returned (.tuple #[.slice a' (k : Nat) c', .int .i64 0]) ∧ ZRow w' a' k c' (slI n k d) ∧ New w w' := by
  have hF := rdI_F hd
  have hbk := heap_alloc_new w (.cells #[.int .i64 (k : Int)] 3)
  obtain ⟨W1, hW1⟩ : ∃ z, w.alloc (.cells #[.int .i64 (k : Int)] 3) = z := ⟨_, rfl⟩
  have hn1 : New w W1 := hW1 ▸ (New.refl w).alloc _
  have hs1 : W1.heap.size = w.heap.size + 1 := by rw [← hW1]; simp
  rw [hW1] at hbk
  have HW1 := Lib.hid hW1
  have HC := Lib.hid (cd_q n k hk hn a m c d W1 (h.stay hn1))
  rw [show rdE n k d = 0 by unfold rdE; rw [rdB_iff.2 hd]; rfl] at HC
  have k0 := cell_of_row _ _ 0 _ _ _ hbk
  have HBK := Lib.hid hbk
  have HN1 := Lib.hid hn1
  have HS := Lib.hid (fun w => sorted_42 k w (by omega))
  have HV := Lib.hid (fun w3 w5 w6 g hn3 hg3 hg5 how hn5 g1 g2 gn => sl_visit n k hk hn a m c d w W1 h hd hbk hn1 hs1 w3 w5 w6 g hn3 hg3 hg5 how hn5 g1 g2 gn)
  have HIN : Hid (∀ z ∈ slI n k d, In64 z) := Lib.hid (in64_li _ (fun x hx => by have := oS_lt hF (n - k) (Nat.le_refl _) n (by omega) x (by omega); omega))
  clear h hd hF hW1 hn1 hbk
  go_enter Try.func9, Try.ntmps9
  go_wp2_with fail
  rw [HW1.out]
  refine HC.out.mono ?_
  rintro e w3 ⟨rfl, hn3⟩
  have HN3 := Lib.hid hn3
  have k3 : w3.cell? ⟨w.heap.size, 0, none⟩ = some (.int .i64 (k : Int)) := (hn3.cell (World.block_lt_of_cell? _ _ k0)).trans k0
  clear hn3 HC k0
  go_wp2_with fail
  refine (HS.out _).mono ?_
  rintro e w5 ⟨g, rfl, how, hn5⟩
  have HO := Lib.hid how
  have HN5 := Lib.hid hn5
  have HGI := Lib.hid (ow_in how)
  have k5 : w5.cell? ⟨w.heap.size, 0, none⟩ = some (.int .i64 (k : Int)) := (hn5.cell (World.block_lt_of_cell? _ _ k3)).trans k3
  have k6 : (w5.alloc (.cells #[.slice (some ⟨g, 0, none⟩) k k] 22)).cell? ⟨w.heap.size, 0, none⟩ = some (.int .i64 (k : Int)) := Lib.cell?_alloc_some _ k5
  clear how hn5 HS k3 k5
  have HAR := Lib.hid (arr_q (k : Int) a m c (w5.alloc (.cells #[.slice (some ⟨g, 0, none⟩) k k] 22)))
  have HV2 := Lib.hid (fun w6 g1 g2 gn => HV.out w3 w5 w6 g HN3.out HGI.out.1 (by have := HGI.out.2.1; omega) HO.out HN5.out g1 g2 gn)
  rw [show (w5.alloc (.cells #[.slice (some ⟨g, 0, none⟩) k k] 22)).heap.size = w5.heap.size + 1 by simp] at HAR HV2
  go_wp2_with fail
  refine HAR.out.mono ?_
  rintro e w6 ⟨rfl, g1, g2, gn⟩
  replace HV2 := Lib.hid (HV2.out w6 g1 g2 gn)
  clear g1 g2 gn HV HAR k6
  go_wp2_with fail
  refine HV2.out.mono ?_
  rintro e w7 ⟨rfl, g3, how, hn7⟩
  have k7 := cell_of_row _ _ 0 _ _ _ g3
  obtain ⟨a', c', he, hz⟩ := ZRow.of_owns how (by omega) HIN.out
  cases he
  have HZ := Lib.hid hz
  have HN7 := Lib.hid hn7
  clear g3 how hn7 hz HV2
  go_wp2
  go_ret2
  exact ⟨_, _, rfl, HZ.out, HN7.out⟩
theorem order_err (n k : Int) (a : Option Addr) (m c : Nat) (w : World) (h : ¬ ckE n k = 0) :
    Calls Try.prog 10 #[.int .i64 n, .int .i64 k, .slice a m c] w fun e w' => e = .returned (.tuple #[.slice none 0 0, .int .i64 (ckE n k)]) ∧ New w w' := by
  have HC := Lib.hid (fun w => cd_err n k a m c w h)
  obtain ⟨z, hz⟩ : ∃ z, ckE n k = z := ⟨_, rfl⟩
  rw [hz] at HC h ⊢
  clear hz
  have hb : (z != 0) = true := by simpa using h
  go_enter Try.func10, Try.ntmps10
  go_wp2_with fail
  refine (HC.out _).mono ?_
  rintro e w' ⟨rfl, hw⟩
  replace hw := hw.symm
  subst hw
  go_wp2
  go_ret2
  exact ⟨rfl, New.refl _⟩
theorem order_bad (n k : Nat) (hk : k ≤ n) (hn : n ≤ 256) (a : Option Addr) (m c : Nat) (d : List Int) (w : World) (h : ZRow w a m c d) (hb : rdB n k d = false) :
    Calls Try.prog 10 #[.int .i64 (n : Int), .int .i64 (k : Int), .slice a m c] w fun e w' => e = .returned (.tuple #[.slice none 0 0, .int .i64 2]) ∧ New w w' := by
  have HC := Lib.hid (cd_q n k hk hn a m c d w h)
  rw [show rdE n k d = 2 by unfold rdE; rw [hb]; rfl] at HC
  clear h hb
  go_enter Try.func10, Try.ntmps10
  go_wp2_with fail
  refine HC.out.mono ?_
  rintro e w9 ⟨rfl, hn9⟩
  have HN := Lib.hid hn9
  clear hn9 HC
  go_wp2
  go_ret2
  exact ⟨rfl, HN.out⟩
set_option maxRecDepth 100000 in
set_option maxHeartbeats 4000000 in
theorem od1_q (bs B j x : Nat) (v : Value) (f : Nat → Nat) (w : World) (hB : B ≤ w.heap.size) (hj : j ≤ 1000) (hx : x ≤ j) (hf : f j = j) (hs : w.heap[bs]? = some (.cells #[v] 22 (0, 0))) (hv : v.ownBlock ≠ some bs) (ho : w.ownsRow B 3 1 v j ((liI f j).map fun x => .int .i64 x)) :
    Calls Try.prog 36 #[.int .i64 (j : Int), .int .i64 (x : Int), .pointer (some ⟨bs, 0, none⟩)] w fun e w' => e = .returned (.tuple #[]) ∧ ∃ v', w'.heap[bs]? = some (.cells #[v'] 22 (0, 0)) ∧ w'.ownsRow B 3 1 v' (j + 1) ((liI (sw f j x) (j + 1)).map fun x => .int .i64 x) ∧ (∀ b, b < w.heap.size → b ≠ bs → v.ownBlock ≠ some b → w'.heap[b]? = w.heap[b]?) ∧ (∀ b, v'.ownBlock = some b → v.ownBlock = some b ∨ w.heap.size ≤ b) ∧ w.heap.size ≤ w'.heap.size ∧ ∀ W0 : World, New W0 w → W0.heap.size ≤ bs → W0.heap.size ≤ B → New W0 w' := by
  have hbs := lt_of_block hs
  obtain ⟨i0, hi, hz0, hz1, hz2⟩ := info_parts info_int40
  have k0 := cell_of_row _ _ 0 _ _ _ hs
  have kf := frozen_of_row _ _ 0 _ _ hs
  have HS := Lib.hid hs
  have HO := Lib.hid ho
  clear hs ho
  go_enter Try.func36, Try.ntmps36
  go_wp2_with (at_builtin; refine wpList_append_own_at _ rfl _ _ 22 rfl B 3 i0 (.int .i64 0) 1 8 Try.underlying22 hi hz0 hz1 hz2 rfl (by decide) _ j _ rfl (HO.out.alloc _) ⟨w.heap.size, 0, none⟩ 1 1 [.int .i64 (j : Int)] rfl rfl ?c1 ?c2 ?c3 ?c4 ?c5 ?_)
  try (case c1 => exact one_cell w _ _)
  try (case c2 => first | rfl | (intro u hu; simp at hu; subst hu; rfl))
  try (case c3 => first | (unfold maxLen; omega) | omega)
  try (case c4 => omega)
  try (case c5 => first | (simp; omega) | omega)
  intro v' w1 how hgr _ hob
  have how2 : w1.ownsRow B 3 1 v' (j + 1) ((liI f (j + 1)).map fun x => .int .i64 x) := by
    rw [liI_succ, hf, List.map_append]; exact how
  obtain ⟨g, cap, rfl, hg, hgs, hgc, hgc2⟩ := ow_shape how2 (by omega)
  have hsb : (w.alloc (.cells #[.int .i64 (j : Int)] 3)).heap.size = w.heap.size + 1 := by simp
  have hgo : v.ownBlock = some g ∨ w.heap.size ≤ g := by
    rcases hob with e | e
    · left; rw [← e]; rfl
    · right
      have e2 : g = (w.alloc (.cells #[.int .i64 (j : Int)] 3)).heap.size := by simpa [Value.ownBlock] using e
      omega
  have HGO := Lib.hid hgo
  have hne : ¬ g = bs := by
    intro e
    rcases hgo with h | h
    · rw [e] at h; exact hv h
    · omega
  have hne2 : ¬ bs = g := fun e => hne e.symm
  have hb1 : w1.heap[bs]? = some (.cells #[v] 22 (0, 0)) := (hgr.block bs (by rw [hsb]; omega) (fun e => hv e.symm)).trans ((((New.refl w).alloc _).block _ (lt_of_block HS.out)).trans HS.out)
  have k1 := frozen_of_row _ _ 0 _ _ hb1
  have HSZ : Hid (w.heap.size ≤ w1.heap.size) := Lib.hid (by have := hgr.size; rw [hsb] at this; omega)
  have HKP : Hid (∀ b, b < w.heap.size → b ≠ bs → v.ownBlock ≠ some b → w1.heap[b]? = w.heap[b]?) := Lib.hid (fun b h1 h2 h3 => (hgr.block b (by rw [hsb]; omega) (fun e => h3 e.symm)).trans (((New.refl w).alloc _).block _ h1))
  have k2 : w1.cell? ⟨bs, 0, none⟩ = some v := cell_of_row _ _ 0 _ _ _ hb1
  have HB1 := Lib.hid (heap_setCell_same w1 bs 0 _ _ (.slice (some ⟨g, 0, none⟩) (j + 1 : Nat) cap) hb1)
  have HO1 := Lib.hid (ow_far how2 (a := ⟨bs, 0, none⟩) (by simp [Value.ownBlock]; exact hne) (.slice (some ⟨g, 0, none⟩) (j + 1 : Nat) cap))
  have HKP2 : Hid (∀ b, b < w.heap.size → b ≠ bs → v.ownBlock ≠ some b → (w1.setCell ⟨bs, 0, none⟩ (.slice (some ⟨g, 0, none⟩) (j + 1 : Nat) cap)).heap[b]? = w.heap[b]?) := Lib.hid (fun b h1 h2 h3 => (heap_setCell_other _ _ _ _ h2).trans (HKP.out b h1 h2 h3))
  have HNW : Hid (∀ W0 : World, New W0 w → W0.heap.size ≤ bs → W0.heap.size ≤ B → New W0 (w1.setCell ⟨bs, 0, none⟩ (.slice (some ⟨g, 0, none⟩) (j + 1 : Nat) cap))) := Lib.hid (fun W0 h1 h2 h3 => ((h1.alloc _).grown' hgr (fun k e => Nat.le_trans h3 (own_base HO.out k e))).setCell (p := ⟨bs, 0, none⟩) h2 _)
  clear how hgr how2 hb1 k0 kf HS HO HKP hob hgo hbs
  go_wp2_with fail
  obtain ⟨W2, hW2⟩ : ∃ z, w1.setCell ⟨bs, 0, none⟩ (.slice (some ⟨g, 0, none⟩) (j + 1 : Nat) cap) = z := ⟨_, rfl⟩
  have HSZ2 : Hid (w.heap.size ≤ W2.heap.size) := Lib.hid (by rw [← hW2]; simp; exact HSZ.out)
  rw [hW2] at HB1 HO1 HKP2 HNW ⊢
  clear hW2 k1 k2
  have kb : W2.cell? ⟨bs, 0, none⟩ = some (.slice (some ⟨g, 0, none⟩) (j + 1 : Nat) cap) := cell_of_row _ _ 0 _ _ _ HB1.out
  obtain ⟨cj, fj⟩ := ow_int HO1.out (k := j) (by omega)
  obtain ⟨cx, fx⟩ := ow_int HO1.out (k := x) (by omega)
  rw [liI_get f (show j < j + 1 by omega)] at cj
  rw [liI_get f (show x < j + 1 by omega)] at cx
  have hj0 : (0 : Int) ≤ (j : Int) := by omega
  have hj1 : (j : Int) < (j : Int) + 1 := by omega
  have hx0 : (0 : Int) ≤ (x : Int) := by omega
  have hx1 : (x : Int) < (j : Int) + 1 := by omega
  obtain ⟨s1, s2⟩ := ow_int (l := (liI f (j + 1)).set j (f x : Int)) (by rw [List.map_set]; exact ow_set HO1.out j (.int .i64 (f x : Nat))) (k := x) (by omega)
  have HO3 : Hid (((W2.setCell ⟨g, j, none⟩ (.int .i64 (f x : Nat))).setCell ⟨g, x, none⟩ (.int .i64 (f j : Nat))).ownsRow B 3 1 (.slice (some ⟨g, 0, none⟩) (j + 1 : Nat) cap) (j + 1) ((liI (sw f j x) (j + 1)).map fun x => .int .i64 x)) := Lib.hid (by
    rw [← liI_sw f (show j < j + 1 by omega) (show x < j + 1 by omega), List.map_set, List.map_set]
    exact ow_set (ow_set HO1.out _ _) _ _)
  have HB3 : Hid (((W2.setCell ⟨g, j, none⟩ (.int .i64 (f x : Nat))).setCell ⟨g, x, none⟩ (.int .i64 (f j : Nat))).heap[bs]? = some (.cells #[.slice (some ⟨g, 0, none⟩) (j + 1 : Nat) cap] 22 (0, 0))) := Lib.hid ((heap_setCell_other _ _ _ _ hne2).trans ((heap_setCell_other _ _ _ _ hne2).trans HB1.out))
  have HK3 : Hid (∀ b, b < w.heap.size → b ≠ bs → v.ownBlock ≠ some b → ((W2.setCell ⟨g, j, none⟩ (.int .i64 (f x : Nat))).setCell ⟨g, x, none⟩ (.int .i64 (f j : Nat))).heap[b]? = w.heap[b]?) := Lib.hid (fun b h1 h2 h3 => by
    have hbg : b ≠ g := fun e => by
      rcases HGO.out with h | h
      · rw [e] at h3; exact h3 h
      · omega
    exact (heap_setCell_other _ _ _ _ hbg).trans ((heap_setCell_other _ _ _ _ hbg).trans (HKP2.out b h1 h2 h3)))
  rw [hf] at HO3 HB3 HK3
  clear HB1 HO1 HKP2
  go_region
  all_goals (
    go_end0
    exact ⟨rfl, _, HB3.out, ow_new HO3.out (New.refl _).drew, HK3.out, (fun b hb => by
      have e : g = b := by simpa [Value.ownBlock] using hb
      subst e; exact HGO.out), (by simp; exact HSZ2.out), fun W0 h1 h2 h3 => (((HNW.out W0 h1 h2 h3).setCell (p := ⟨g, j, none⟩) (Nat.le_trans h3 hg) _).setCell (p := ⟨g, x, none⟩) (Nat.le_trans h3 hg) _).drew⟩)
end Go.Proofs.Ytajjpllhihgkdaa
namespace Go.Proofs.Ytajjpllhihgkdaa
open Go Go.RowKit Go.Bv
set_option linter.unusedVariables false
theorem sw_same (f : Nat → Nat) (x : Nat) : sw f x x = f := by
  funext y
  unfold sw
  by_cases e : y = x
  · rw [if_pos e, e]
  · rw [if_neg e, if_neg e]
theorem own_form {w : World} {base : Nat} {e : TypeId} {v : Value} {n : Nat} {xs : List Value} (h : w.ownsRow base e 1 v n xs) : ∃ p cap, v = .slice p n cap := by
  rcases h.2 with ⟨rfl, rfl⟩ | ⟨g, cap, cur, rfl, _⟩
  · exact ⟨_, _, rfl⟩
  · exact ⟨_, _, rfl⟩
set_option maxRecDepth 100000 in
set_option maxHeartbeats 2000000 in
theorem od_visit (n k : Nat) (hk : k ≤ n) (hn : n ≤ 256) (a : Option Addr) (m c : Nat) (d : List Int) (w : World) (h : ZRow w a m c d) (hd : rdI n k d) (w5 w6 : World) (B g : Nat) (hB : w.heap.size ≤ B) (hn1 : New w w5) (how : w5.ownsRow B 3 1 (.slice (some ⟨g, 0, none⟩) k k) k ((liI (fun x => x) k).map fun x => .int .i64 x)) (g1 : w6.heap[w5.heap.size + 1]? = some (.cells #[.int .i64 (k : Int)] 3 (0, 0))) (g2 : w6.heap[w5.heap.size + 1 + 1]? = some (.cells #[.slice a m c] 22 (0, 0))) (gn : New (w5.alloc (.cells #[.slice (some ⟨g, 0, none⟩) k k] 22)) w6) :
    Calls Try.prog 53 #[.func (Fn.func 36) #[] #[.pointer (some ⟨w5.heap.size, 0, none⟩)], .pointer (some ⟨w5.heap.size + 1 + 1, 0, none⟩), .pointer (some ⟨w5.heap.size + 1, 0, none⟩)] w6 fun e w' => e = .returned (.tuple #[]) ∧ ∃ v, w'.heap[w5.heap.size]? = some (.cells #[v] 22 (0, 0)) ∧ w'.ownsRow B 3 1 v n ((odI n k d).map fun x => .int .i64 x) ∧ New w w' := by
  have hm : m = n - k := by rw [← h.len_eq]; exact hd.1
  have hF := rdI_F hd
  have hb5 := heap_alloc_new w5 (.cells #[.slice (some ⟨g, 0, none⟩) k k] 22)
  have hn55 : New w5 (w5.alloc (.cells #[.slice (some ⟨g, 0, none⟩) k k] 22)) := (New.refl w5).alloc _
  have hg6 := ow_in how
  have z1 := hn1.le
  have hb6 : w6.heap[w5.heap.size]? = some (.cells #[.slice (some ⟨g, 0, none⟩) k k] 22 (0, 0)) := (gn.block _ (lt_of_block hb5)).trans hb5
  have ho6 := ow_new (ow_new how hn55) gn
  have hn6 : New w w6 := (hn1.trans hn55).trans gn
  have hG : ∀ (x y : Value) (w' : World), (callFunc 36 (#[x, y] ++ #[.pointer (some ⟨w5.heap.size, 0, none⟩)])).run Try.prog w' = .ok (.enter 36 (#[x, y] ++ #[.pointer (some ⟨w5.heap.size, 0, none⟩)])) w' := fun x y w' => by kernel_rfl
  obtain ⟨P, hP⟩ : ∃ P : Nat → World → Prop, P = fun i w' => ∃ v, w'.heap[w5.heap.size]? = some (.cells #[v] 22 (0, 0)) ∧ w'.ownsRow B 3 1 v (k + i) ((liI (oS k (fnI d) i) (k + i)).map fun x => .int .i64 x) ∧ (v.ownBlock ≠ some w5.heap.size ∧ v.ownBlock ≠ some (w5.heap.size + 1) ∧ v.ownBlock ≠ some (w5.heap.size + 1 + 1)) ∧ w'.heap[w5.heap.size + 1 + 1]? = some (.cells #[.slice a m c] 22 (0, 0)) ∧ w'.heap[w5.heap.size + 1]? = some (.cells #[.int .i64 (k : Int)] 3 (0, 0)) ∧ New w w' := ⟨_, rfl⟩
  have hob : ∀ q, w5.heap.size ≤ q → (Value.slice (some ⟨g, 0, none⟩) k k).ownBlock ≠ some q := fun q hq e => by
    have e2 : g = q := by simpa [Value.ownBlock] using e
    omega
  have p0 : P 0 w6 := by rw [hP]; exact ⟨_, hb6, ho6, ⟨hob _ (by omega), hob _ (by omega), hob _ (by omega)⟩, g2, g1, hn6⟩
  have pb : ∀ i w', P i w' → w'.heap[w5.heap.size + 1 + 1]? = some (.cells #[.slice a m c] 22 (0, 0)) ∧ w'.heap[w5.heap.size + 1]? = some (.cells #[.int .i64 (k : Int)] 3 (0, 0)) ∧ ZRow w' a m c d := fun i w' hI => by
    rw [hP] at hI
    obtain ⟨v, _, _, _, q1, q2, q3⟩ := hI
    exact ⟨q1, q2, h.stay q3⟩
  have ps : ∀ i w', i < m → P i w' → Calls Try.prog 36 (#[.int .i64 ((k + i : Nat) : Int), .int .i64 (d.getD i 0)] ++ #[.pointer (some ⟨w5.heap.size, 0, none⟩)]) w' fun e w'' => e = .returned (.tuple #[]) ∧ P (i + 1) w'' := fun i w' hi hI => by
    rw [hP] at hI ⊢
    obtain ⟨v, i1, i2, ⟨i3, i4, i5⟩, i6, i7, i8⟩ := hI
    have hdi := hd.2 i (by omega)
    obtain ⟨x, hx⟩ : ∃ x : Nat, d.getD i 0 = (x : Int) := ⟨(d.getD i 0).toNat, by omega⟩
    have hfx : fnI d i = x := by unfold fnI; rw [hx]; rfl
    rw [hx]
    have l6 := lt_of_block i6
    have l7 := lt_of_block i7
    have l8 := i8.le
    refine (od1_q w5.heap.size B (k + i) x v (oS k (fnI d) i) w' (by have := (ow_in how).1; omega) (by omega) (by omega) (oS_high hF i (by omega) (k + i) (Nat.le_refl _)) i1 i3 i2).mono ?_
    rintro e w9 ⟨rfl, v', j1, j2, j3, j4, j5, j6⟩
    have hst : oS k (fnI d) (i + 1) = sw (oS k (fnI d) i) (k + i) x := by show sw _ _ _ = _; rw [hfx]
    have hno : ∀ q, q < w'.heap.size → v.ownBlock ≠ some q → v'.ownBlock ≠ some q := fun q hq h1 h2 => by
      rcases j4 q h2 with h3 | h3
      · exact h1 h3
      · omega
    refine ⟨rfl, v', j1, ?_, ⟨hno _ (by omega) i3, hno _ (by omega) i4, hno _ (by omega) i5⟩, (j3 _ l6 (by omega) i5).trans i6, (j3 _ l7 (by omega) i4).trans i7, j6 w i8 (by omega) hB⟩
    rw [hst, show k + (i + 1) = k + i + 1 by omega]
    exact j2
  refine (arr1_q k m a c d (w5.heap.size + 1 + 1) (w5.heap.size + 1) 36 #[.pointer (some ⟨w5.heap.size, 0, none⟩)] P w6 (by omega) hG p0 pb ps).mono ?_
  rintro e w' ⟨he, hh⟩
  rw [hP] at hh
  obtain ⟨v, q1, q2, _, _, _, q3⟩ := hh
  refine ⟨he, v, q1, ?_, q3⟩
  unfold odI
  rw [hm, show k + (n - k) = n by omega] at q2
  exact q2
set_option maxRecDepth 100000 in
set_option maxHeartbeats 2000000 in
theorem order_q (n k : Nat) (hk : k ≤ n) (hn : n ≤ 256) (a : Option Addr) (m c : Nat) (d : List Int) (w : World) (h : ZRow w a m c d) (hd : rdI n k d) :
    Calls Try.prog 10 #[.int .i64 (n : Int), .int .i64 (k : Int), .slice a m c] w fun e w' => ∃ a' c', e = .returned (.tuple #[.slice a' (n : Nat) c', .int .i64 0]) ∧ ZRow w' a' n c' (odI n k d) ∧ New w w' := by
  have hF := rdI_F hd
  have HC := Lib.hid (cd_q n k hk hn a m c d w h)
  rw [show rdE n k d = 0 by unfold rdE; rw [rdB_iff.2 hd]; rfl] at HC
  have HS := Lib.hid (fun w => sorted_42 k w (by omega))
  have HV := Lib.hid (fun w5 w6 B g hB hn1 how g1 g2 gn => od_visit n k hk hn a m c d w h hd w5 w6 B g hB hn1 how g1 g2 gn)
  have HIN : Hid (∀ z ∈ odI n k d, In64 z) := Lib.hid (in64_li _ (fun x hx => by have := oS_lt hF (n - k) (Nat.le_refl _) n (by omega) x hx; omega))
  clear h hd hF
  go_enter Try.func10, Try.ntmps10
  go_wp2_with fail
  refine HC.out.mono ?_
  rintro e w3 ⟨rfl, hn3⟩
  have HN3 := Lib.hid hn3
  clear hn3 HC
  go_wp2_with fail
  refine (HS.out _).mono ?_
  rintro e w5 ⟨g, rfl, how, hn5⟩
  have HO := Lib.hid how
  have HN5 := Lib.hid hn5
  clear how hn5 HS
  have HAR := Lib.hid (arr_q (k : Int) a m c (w5.alloc (.cells #[.slice (some ⟨g, 0, none⟩) k k] 22)))
  have HV2 := Lib.hid (fun w6 g1 g2 gn => HV.out w5 w6 w3.heap.size g HN3.out.le (HN3.out.trans HN5.out) HO.out g1 g2 gn)
  rw [show (w5.alloc (.cells #[.slice (some ⟨g, 0, none⟩) k k] 22)).heap.size = w5.heap.size + 1 by simp] at HAR
  go_wp2_with fail
  refine HAR.out.mono ?_
  rintro e w6 ⟨rfl, g1, g2, gn⟩
  replace HV2 := Lib.hid (HV2.out w6 g1 g2 gn)
  clear g1 g2 gn HV HAR
  go_wp2_with fail
  refine HV2.out.mono ?_
  rintro e w7 ⟨rfl, v, g3, how, hn7⟩
  have k7 := cell_of_row _ _ 0 _ _ _ g3
  obtain ⟨a', c', rfl, hz⟩ := ZRow.of_owns how (by omega) HIN.out
  have HZ := Lib.hid hz
  have HN7 := Lib.hid hn7
  clear g3 how hn7 hz HV2
  go_wp2
  go_ret2
  exact ⟨_, _, rfl, HZ.out, HN7.out⟩
/-- the slots that are told so far: the first s of them, and of the next one what the first i decisions say -/
def rsL (k m : Nat) (d : Nat → Nat) (s i : Nat) : List Int := liI (fun x => if x < s then oS k d m x else if x = s then oS k d i x else x) k
theorem rsL_next (k m : Nat) (d : Nat → Nat) (s : Nat) : rsL k m d s m = rsL k m d (s + 1) 0 := liI_ext (fun x _ => by
  by_cases h1 : x < s
  · rw [if_pos h1, if_pos (by omega)]
  · rw [if_neg h1]
    by_cases h2 : x = s
    · rw [if_pos h2, if_pos (by omega)]
    · rw [if_neg h2, if_neg (by omega)]
      by_cases h3 : x = s + 1
      · rw [if_pos h3]; rfl
      · rw [if_neg h3])
theorem rsL_zero (k m : Nat) (d : Nat → Nat) : rsL k m d 0 0 = liI (fun x => x) k := liI_ext (fun x _ => by
  rw [if_neg (by omega)]
  by_cases h : x = 0
  · rw [if_pos h]; rfl
  · rw [if_neg h])
theorem rsL_all (k m : Nat) (d : Nat → Nat) : rsL k m d k 0 = liI (oS k d m) k := liI_ext (fun x hx => by rw [if_pos hx])
theorem rsL_yes {k m : Nat} {d : Nat → Nat} {s i : Nat} (hs : s < k) (h : oS k d (i + 1) s = k + i) : (rsL k m d s i).set s ((k + i : Nat) : Int) = rsL k m d s (i + 1) := by
  unfold rsL
  rw [liI_set _ _ hs]
  apply liI_ext
  intro x hx
  by_cases e : x = s
  · subst e; rw [if_pos rfl, if_neg (by omega), if_pos rfl, h]
  · rw [if_neg e, if_neg e, if_neg e]
theorem rsL_no {k m : Nat} {d : Nat → Nat} {s i : Nat} (h : oS k d (i + 1) s = oS k d i s) : rsL k m d s i = rsL k m d s (i + 1) := liI_ext (fun x _ => by
  by_cases e : x = s
  · subst e; rw [if_neg (by omega), if_pos rfl, if_neg (by omega), if_pos rfl, h]
  · rw [if_neg e, if_neg e])
set_option maxRecDepth 100000 in
set_option maxHeartbeats 4000000 in
theorem slotsr_42 (n k : Nat) (hk : k ≤ n) (hn : n ≤ 256) (a : Option Addr) (m c : Nat) (d : List Int) (w : World) (h : ZRow w a m c d) (hd : rdI n k d) :
    Calls Try.prog 15 #[.int .i64 (n : Int), .int .i64 (k : Int), .slice a m c] w fun e w' => ∃ a' c', e = .returned (.slice a' (k : Nat) c') ∧ ZRow w' a' k c' (slI n k d) ∧ New w w' := by
  have hF := rdI_F hd
  have hmn : m = n - k := by rw [← h.len_eq]; exact hd.1
  have HH := Lib.hid h
  have HD := Lib.hid (fun i (hi : i < m) => hd.2 i (by omega))
  have HF : Hid (∀ j, j < m → ∀ x, x < k → oS k (fnI d) (j + 1) x = if fnI d j = x then k + j else oS k (fnI d) j x) := Lib.hid (fun j hj x hx => oS_low hF (by omega) hx)
  have HSL : Hid (slI n k d = liI (oS k (fnI d) m) k) := Lib.hid (by unfold slI; rw [hmn])
  have HLT : Hid (∀ x, x < k → oS k (fnI d) m x < n) := Lib.hid (fun x hx => oS_lt hF m (by omega) n (by omega) x (by omega))
  have hkm : k + m ≤ 256 := by omega
  have HR := Lib.hid (fun w => row_ref40 k w (by omega))
  clear h hd hF hmn
  go_enter Try.func15, Try.ntmps15
  go_wp2_with fail
  refine (HR.out _).mono ?_
  rintro e w1 ⟨v, rfl, how, hn1⟩
  obtain ⟨p0, cap0, rfl⟩ := own_form how
  have HO := Lib.hid how
  have HN := Lib.hid hn1
  clear how hn1 HR
  go_wp2_with fail
  go_loopw [15] (fun iv wr => ∃ s : Nat, s ≤ k ∧ iv = .int .i64 (s : Int) ∧ wr.ownsRow w.heap.size 3 1 (.slice p0 k cap0) k ((rsL k m (fnI d) s 0).map fun x => .int .i64 x) ∧ New w wr) (fun iv _ => k - (intOf iv).toNat)
  case atStart => exact ⟨0, Nat.zero_le _, rfl, by rw [rsL_zero]; exact HO.out, HN.out⟩
  case round =>
    clear HO HN
    obtain ⟨s, hs, rfl, hown, hnew⟩ := hrel
    by_cases hlt : (s : Int) < (k : Int)
    · have hs0 : (0 : Int) ≤ (s : Int) := by omega
      have hsk : s < k := by omega
      obtain ⟨g, cap, he0, hg, hgs, hgc, hgc2⟩ := ow_shape hown (by omega)
      cases he0
      have HO := Lib.hid hown
      have HN := Lib.hid hnew
      clear hown hnew hgs
      go_wp2_with fail
      go_loopw [20] (fun jv wr => ∃ i : Nat, i ≤ m ∧ jv = .int .i64 (i : Int) ∧ wr.ownsRow w.heap.size 3 1 (.slice (some ⟨g, 0, none⟩) k cap0) k ((rsL k m (fnI d) s i).map fun x => .int .i64 x) ∧ New w wr) (fun jv _ => m - (intOf jv).toNat)
      case atStart => exact ⟨0, Nat.zero_le _, rfl, HO.out, HN.out⟩
      case round =>
        clear HO HN
        obtain ⟨i, hi, rfl, hown, hnew⟩ := hrel
        by_cases hlt2 : (i : Int) < (m : Int)
        · have hi0 : (0 : Int) ≤ (i : Int) := by omega
          obtain ⟨b, off, rfl, hc⟩ := (HH.out.stay hnew).addr (by omega)
          have c1 := hc i (by omega)
          have hdi := HD.out i (by omega)
          have hst := HF.out i (by omega) s hsk
          obtain ⟨x, hx⟩ : ∃ x : Nat, d.getD i 0 = (x : Int) := ⟨(d.getD i 0).toNat, by omega⟩
          have hfx : fnI d i = x := by unfold fnI; rw [hx]; rfl
          rw [hfx] at hst
          rw [hx] at c1
          obtain ⟨r, hr⟩ : ∃ r, k + i = r := ⟨_, rfl⟩
          have hri : (k : Int) + (i : Int) = (r : Int) := by omega
          clear hc hdi hx hfx
          by_cases he : x = s
          · subst he
            rw [if_pos rfl] at hst
            have HS2 := Lib.hid (rsL_yes (k := k) (m := m) (d := fnI d) hsk hst)
            rw [hr] at HS2
            obtain ⟨c2, f2⟩ := ow_int hown (k := x) hsk
            have HO2 : Hid ((wr.setCell ⟨g, x, none⟩ (.int .i64 (r : Nat))).ownsRow w.heap.size 3 1 (.slice (some ⟨g, 0, none⟩) k cap0) k ((rsL k m (fnI d) x (i + 1)).map fun x => .int .i64 x)) := Lib.hid (by
              rw [← HS2.out, List.map_set]; exact ow_set hown x _)
            have HN2 : Hid (New w (wr.setCell ⟨g, x, none⟩ (.int .i64 (r : Nat)))) := Lib.hid (hnew.setCell hg _)
            have hb : ((x : Int) == (x : Int)) = true := by simp
            clear hown hnew hst HS2
            go_wp2
            exact ⟨⟨i + 1, by omega, by go_num, HO2.out, HN2.out⟩, by simp [intOf]; omega⟩
          · rw [if_neg he] at hst
            have HO2 : Hid (wr.ownsRow w.heap.size 3 1 (.slice (some ⟨g, 0, none⟩) k cap0) k ((rsL k m (fnI d) s (i + 1)).map fun x => .int .i64 x)) := Lib.hid (by
              rw [← rsL_no (k := k) (m := m) hst]; exact hown)
            have hb : ((x : Int) == (s : Int)) = false := by rw [beq_eq_false_iff_ne]; omega
            clear hown hst
            go_wp2
            exact ⟨⟨i + 1, by omega, by go_num, HO2.out, hnew⟩, by simp [intOf]; omega⟩
        · obtain rfl : i = m := by omega
          have HO2 : Hid (wr.ownsRow w.heap.size 3 1 (.slice (some ⟨g, 0, none⟩) k cap0) k ((rsL k i (fnI d) (s + 1) 0).map fun x => .int .i64 x)) := Lib.hid (by
            rw [← rsL_next]; exact hown)
          clear hown
          go_wp2
          exact ⟨⟨s + 1, by omega, by go_num, HO2.out, hnew⟩, by simp [intOf]; omega⟩
    · obtain rfl : s = k := by omega
      rw [rsL_all, ← HSL.out] at hown
      obtain ⟨a', c', he0, hz⟩ := ZRow.of_owns hown (by omega) (by rw [HSL.out]; exact in64_li _ (fun x hx => by have := HLT.out x hx; omega))
      cases he0
      have HZ := Lib.hid hz
      have HN := Lib.hid hnew
      clear hown hz hnew
      go_wp2
      go_ret
      exact ⟨_, _, rfl, HZ.out, HN.out⟩
set_option maxRecDepth 100000 in
set_option maxHeartbeats 4000000 in
theorem orderr_42 (n k : Nat) (hk : k ≤ n) (hn : n ≤ 256) (a : Option Addr) (m c : Nat) (d : List Int) (w : World) (h : ZRow w a m c d) (hd : rdI n k d) :
    Calls Try.prog 16 #[.int .i64 (n : Int), .int .i64 (k : Int), .slice a m c] w fun e w' => ∃ a' c', e = .returned (.slice a' (n : Nat) c') ∧ ZRow w' a' n c' (odI n k d) ∧ New w w' := by
  obtain ⟨i0, hi, hz0, hz1, hz2⟩ := info_parts info_int40
  have hF := rdI_F hd
  have hmn : m = n - k := by rw [← h.len_eq]; exact hd.1
  have HH := Lib.hid h
  have HD := Lib.hid (fun i (hi : i < m) => hd.2 i (by omega))
  have HHI : Hid (∀ j, j ≤ m → oS k (fnI d) j (k + j) = k + j) := Lib.hid (fun j hj => oS_high hF j (by omega) _ (Nat.le_refl _))
  have HOD : Hid (odI n k d = liI (oS k (fnI d) m) (k + m)) := Lib.hid (by unfold odI; rw [hmn, show k + (n - k) = n by omega])
  have HLT : Hid (∀ x, x < k + m → oS k (fnI d) m x < n) := Lib.hid (fun x hx => oS_lt hF m (by omega) n (by omega) x (by omega))
  have HKM : Hid (k + m = n) := Lib.hid (by omega)
  have hkm : k + m ≤ 256 := by omega
  have HR := Lib.hid (fun w => row_ref40 k w (by omega))
  clear h hd hF hmn
  go_enter Try.func16, Try.ntmps16
  go_wp2_with fail
  refine (HR.out _).mono ?_
  rintro e w1 ⟨v, rfl, how, hn1⟩
  have HO := Lib.hid how
  have HN := Lib.hid hn1
  clear how hn1 HR
  go_wp2_with fail
  go_loopw [7, 14] (fun v iv wr => ∃ i : Nat, i ≤ m ∧ iv = .int .i64 (i : Int) ∧ wr.ownsRow w.heap.size 3 1 v (k + i) ((liI (oS k (fnI d) i) (k + i)).map fun x => .int .i64 x) ∧ New w wr) (fun _ iv _ => m - (intOf iv).toNat)
  case atStart => exact ⟨0, Nat.zero_le _, rfl, HO.out, HN.out⟩
  case round =>
    clear HO HN
    obtain ⟨i, hi9, rfl, hown, hnew⟩ := hrel
    obtain ⟨wq, hwq⟩ : ∃ z, z = wr := ⟨_, rfl⟩
    rw [← hwq] at hown hnew ⊢
    clear hwq
    by_cases hlt : (i : Int) < (m : Int)
    · have hi0 : (0 : Int) ≤ (i : Int) := by omega
      obtain ⟨b, off, rfl, hc⟩ := (HH.out.stay hnew).addr (by omega)
      have c1 := hc i (by omega)
      have hdi := HD.out i (by omega)
      have hhi := HHI.out i (by omega)
      obtain ⟨x, hx⟩ : ∃ x : Nat, d.getD i 0 = (x : Int) := ⟨(d.getD i 0).toNat, by omega⟩
      have hfx : fnI d i = x := by unfold fnI; rw [hx]; rfl
      have HST : Hid (oS k (fnI d) (i + 1) = sw (oS k (fnI d) i) (k + i) x) := Lib.hid (by show sw _ _ _ = _; rw [hfx])
      rw [hx] at c1
      obtain ⟨r, hr⟩ : ∃ r, k + i = r := ⟨_, rfl⟩
      have hri : (k : Int) + (i : Int) = (r : Int) := by omega
      have hr1 : k + (i + 1) = r + 1 := by omega
      have hxr : x ≤ r := by omega
      obtain ⟨f, hf⟩ : ∃ f, oS k (fnI d) i = f := ⟨_, rfl⟩
      rw [hf, hr] at hown hhi HST
      have hr256 : r ≤ 256 := by omega
      clear hc hdi hx hfx hf hr
      by_cases he : x = r
      · subst he
        have hb : ((x : Int) == (x : Int)) = true := by simp
        have HE : Hid (liI (sw f x x) (x + 1) = liI f x ++ [(x : Int)]) := Lib.hid (by
          rw [sw_same, liI_succ, hhi])
        go_wp2_with (at_builtin; refine wpList_append_own _ rfl _ _ 22 rfl w.heap.size 3 i0 (.int .i64 0) 1 8 Try.underlying22 hi hz0 hz1 hz2 rfl (by decide) _ x _ rfl (hown.alloc _) ⟨wq.heap.size, 0, none⟩ 1 1 [.int .i64 (x : Int)] rfl rfl ?c1 ?c2 ?c3 ?c4 ?c5 ?_)
        try (case c1 => exact one_cell wq _ _)
        try (case c2 => first | rfl | (intro u hu; simp at hu; subst hu; rfl))
        try (case c3 => first | (unfold maxLen; omega) | omega)
        try (case c4 => omega)
        try (case c5 => first | (simp; have := hnew.le; omega) | (have := hnew.le; omega))
        intro v' w2 how hgr _
        have HO2 : Hid (w2.ownsRow w.heap.size 3 1 v' (k + (i + 1)) ((liI (oS k (fnI d) (i + 1)) (k + (i + 1))).map fun x => .int .i64 x)) := Lib.hid (by
          rw [HST.out, hr1, HE.out, List.map_append]; exact how)
        have HN1 := Lib.hid ((hnew.alloc _).grown' hgr (own_base hown))
        clear how hgr hown hnew
        go_wp2
        exact ⟨⟨i + 1, by omega, by go_num, HO2.out, HN1.out⟩, by simp [intOf]; omega⟩
      · have hb : ((x : Int) == (r : Int)) = false := by rw [beq_eq_false_iff_ne]; omega
        have hxr2 : x < r := by omega
        obtain ⟨g, cap, rfl, hg, hgs, hgc, hgc2⟩ := ow_shape hown (by omega)
        obtain ⟨c2, f2⟩ := ow_int hown (k := x) hxr2
        rw [liI_get f hxr2] at c2
        have hx0 : (0 : Int) ≤ (x : Int) := by omega
        have hx1 : (x : Int) < (r : Int) := by omega
        have HE : Hid ((liI f r ++ [((f x : Nat) : Int)]).set x (r : Int) = liI (sw f r x) (r + 1)) := Lib.hid (by
          rw [← liI_sw f (show r < r + 1 by omega) (show x < r + 1 by omega), hhi]
          congr 1
          rw [liI_succ, List.set_append_right _ _ (by rw [liI_len]; exact Nat.le_refl _), liI_len, Nat.sub_self]
          rfl)
        go_wp2_with (at_builtin; refine wpList_append_own _ rfl _ _ 22 rfl w.heap.size 3 i0 (.int .i64 0) 1 8 Try.underlying22 hi hz0 hz1 hz2 rfl (by decide) _ r _ rfl (hown.alloc _) ⟨wq.heap.size, 0, none⟩ 1 1 [.int .i64 ((f x : Nat) : Int)] rfl rfl ?d1 ?d2 ?d3 ?d4 ?d5 ?_)
        try (case d1 => exact one_cell wq _ _)
        try (case d2 => first | rfl | (intro u hu; simp at hu; subst hu; rfl))
        try (case d3 => first | (unfold maxLen; omega) | omega)
        try (case d4 => omega)
        try (case d5 => first | (simp; have := hnew.le; omega) | (have := hnew.le; omega))
        intro v' w2 how hgr _
        have hn2 := (hnew.alloc _).grown' hgr (own_base hown)
        have how2 : w2.ownsRow w.heap.size 3 1 v' (r + 1) ((liI f r ++ [((f x : Nat) : Int)]).map fun x => .int .i64 x) := by rw [List.map_append]; exact how
        obtain ⟨g2, cap2, rfl, hg2, _, _, _⟩ := ow_shape how2 (by omega)
        obtain ⟨c3, f3⟩ := ow_int how2 (k := x) (by omega)
        have HO2 : Hid ((w2.setCell ⟨g2, x, none⟩ (.int .i64 (r : Int))).ownsRow w.heap.size 3 1 (.slice (some ⟨g2, 0, none⟩) (r + 1 : Nat) cap2) (k + (i + 1)) ((liI (oS k (fnI d) (i + 1)) (k + (i + 1))).map fun x => .int .i64 x)) := Lib.hid (by
          rw [HST.out, hr1, ← HE.out, List.map_set]; exact ow_set how2 x _)
        have HN1 : Hid (New w (w2.setCell ⟨g2, x, none⟩ (.int .i64 (r : Int)))) := Lib.hid (hn2.setCell hg2 _)
        have hx2 : (x : Int) < (r : Int) + 1 := by omega
        clear how hgr hown hnew how2 hn2
        go_wp2
        exact ⟨⟨i + 1, by omega, by go_num, HO2.out, HN1.out⟩, by simp [intOf]; omega⟩
    · obtain rfl : i = m := by omega
      rw [← HOD.out, HKM.out] at hown
      obtain ⟨a', c', rfl, hz⟩ := ZRow.of_owns hown (by omega) (by rw [HOD.out]; exact in64_li _ (fun x hx => by have := HLT.out x hx; omega))
      have HZ := Lib.hid hz
      have HN := Lib.hid hnew
      clear hown hz hnew
      go_wp2
      go_ret
      exact ⟨_, _, rfl, HZ.out, HN.out⟩
end Go.Proofs.Ytajjpllhihgkdaa
/- The law ReservoirSlots. -/
namespace Go.Proofs.Ytajjpllhihgkdaa
open Go Go.RowKit Go.Bv
set_option linter.unusedVariables false
set_option maxRecDepth 100000 in
set_option maxHeartbeats 2000000 in
theorem awake42 (w : World) : Calls Try.prog 8 #[] w fun e w' => e = .returned (.bool true) ∧ New w w' := by
  have hrd : rdI 3 1 [0, 2] := by
    refine ⟨rfl, fun i hi => ?_⟩
    match i, hi with
    | 0, _ => decide
    | 1, _ => decide
  have hsl : slI 3 1 [0, 2] = [1] := by decide +kernel
  obtain ⟨_, _, he, hz⟩ := ZRow.of_owns (l := [0, 2]) (ow_made w w.heap.size 3 #[.int .i64 0, .int .i64 2] 2 _ (Nat.le_refl _) (by omega) rfl rfl) (by omega) (by intro z hz; simp at hz; unfold In64; omega)
  cases he
  have hpc := slots_q 3 1 (by omega) (by omega) _ _ _ _ _ hz hrd
  rw [hsl] at hpc
  have HPC := Lib.hid hpc
  clear hrd hsl hz hpc
  go_enter Try.func8, Try.ntmps8
  go_wp2_with fail
  refine (HPC.out).mono ?_
  rintro e w9 ⟨a', c', rfl, hq, hn⟩
  have HN := Lib.hid (((New.refl w).alloc (.cells #[.int .i64 0, .int .i64 2] 3)).trans hn)
  obtain ⟨b, off, rfl, hc⟩ := hq.addr (by omega)
  have c0 := hc 0 (by omega)
  rw [Nat.add_zero] at c0
  rw [show ([1] : List Int).getD 0 0 = 1 from rfl] at c0
  clear hn hq hc HPC
  go_wp2
  go_ret
  exact ⟨rfl, HN.out⟩
theorem zrow_head {w : World} {a : Option Addr} {len cap k : Nat} {l : List Int} (h : ZRow w a len cap l) (hk : k ≤ len) : ZRow w a k cap (l.take k) where
  len_eq := by rw [List.length_take, h.len_eq]; omega
  le := Nat.le_trans hk h.le
  most := Nat.le_trans hk h.most
  room := h.room
  none := fun e => by have := h.none e; omega
  cell := fun b off e i hi => by
    rw [List.getD_eq_getElem?_getD, List.getElem?_take, if_pos hi, ← List.getD_eq_getElem?_getD]
    exact h.cell b off e i (by omega)
  spot := fun x e h0 => h.spot x e (by omega)
  old := fun x e h0 => h.old x e (by omega)
  wf := fun z hz => h.wf z (List.mem_of_mem_take hz)
theorem sl_take {n k : Nat} (hk : k ≤ n) (d : List Int) : (odI n k d).take k = slI n k d := by
  unfold odI slI
  apply ints_eq (n := k) (by rw [List.length_take, liI_len]; omega) (liI_len _ _)
  intro i hi
  rw [List.getD_eq_getElem?_getD, List.getElem?_take, if_pos hi, ← List.getD_eq_getElem?_getD, liI_get _ (show i < n by omega), liI_get _ hi]
set_option maxRecDepth 100000 in
set_option maxHeartbeats 8000000 in
theorem ReservoirSlots_walk (W : World) (a0 : Int) (w0 : (Lit.int .i64 a0).wf = true) (a1 : Int) (w1 : (Lit.int .i64 a1).wf = true) (a2 : Option Addr) (n2 m2 : Nat) (z2 : List Int) (w2 : IRow .i64 W a2 n2 m2 z2) (r2 : m2 * 8 ≤ 140737488351232) :
    Calls Try.prog 3 #[.int .i64 a0, .int .i64 a1, .slice a2 n2 m2] W fun e w' => e = .returned (.bool true) ∧ Below W.heap.size W w' := by
  obtain ⟨d, hd⟩ := w2.ints r2
  have H2 := Lib.hid hd
  have HL2 := Lib.hid hd.len_eq
  clear w2 r2 hd
  have hn0 := wfi64 w0
  have hn1 := wfi64 w1
  clear w0 w1
  have HA := Lib.hid awake42
  go_enter Try.func3, Try.ntmps3
  go_wp2_with fail
  refine (HA.out _).mono ?_
  rintro e wA ⟨rfl, hn⟩
  replace H2 := Lib.hid (H2.out.stay hn)
  have HN := Lib.hid hn
  clear hn HA
  by_cases g0 : 60 < a0 ∧ a0 ≤ 256
  · obtain ⟨ga, gb⟩ := g0
    go_wp2
    go_ret
    exact ⟨rfl, HN.out⟩
  have e0 : ¬ 60 < a0 ∨ (60 < a0 ∧ ¬ a0 ≤ 256) := by omega
  have HC := Lib.hid (fun w => check_42 a0 a1 w)
  have HCR := Lib.hid (fun w => checkr_42 a0 a1 w)
  by_cases hk : ckE a0 a1 = 0
  case neg =>
    have HS := Lib.hid (fun w => slots_err a0 a1 a2 n2 m2 w hk)
    have HO := Lib.hid (fun w => order_err a0 a1 a2 n2 m2 w hk)
    obtain ⟨z, hz⟩ : ∃ z, ckE a0 a1 = z := ⟨_, rfl⟩
    rw [hz] at HC HCR HS HO hk
    have hz1 : (z != z) = false := by simp
    have hz2 : (z == 0) = false := by rw [beq_eq_false_iff_ne]; exact hk
    have hz3 : (z != 0) = true := by simpa using hk
    have hz4 : (z == z) = true := by simp
    clear hz
    rcases e0 with e0 | ⟨e0, e0'⟩
    all_goals (
      go_wp2_with fail
      refine (HS.out _).mono ?_
      rintro e wN ⟨rfl, hn⟩
      replace H2 := Lib.hid (H2.out.stay hn)
      replace HN := Lib.hid (HN.out.trans hn)
      clear hn
      go_wp2_with fail
      refine (HO.out _).mono ?_
      rintro e wN ⟨rfl, hn⟩
      replace H2 := Lib.hid (H2.out.stay hn)
      replace HN := Lib.hid (HN.out.trans hn)
      clear hn
      go_wp2_with fail
      refine (HCR.out _).mono ?_
      rintro e w' ⟨rfl, hw⟩
      replace hw := hw.symm
      subst hw
      go_wp2_with fail
      refine (HC.out _).mono ?_
      rintro e w' ⟨rfl, hw⟩
      replace hw := hw.symm
      subst hw
      go_wp2
      go_ret
      exact ⟨rfl, HN.out⟩)
  have hk2 : 0 ≤ a0 ∧ 0 ≤ a1 ∧ a1 ≤ a0 ∧ a0 ≤ 256 := by
    unfold ckE at hk
    by_cases h1 : a0 < 0 ∨ a1 < 0 ∨ a0 < a1
    · rw [if_pos h1] at hk; omega
    · rw [if_neg h1] at hk
      by_cases h2 : 256 < a0
      · rw [if_pos h2] at hk; omega
      · omega
  have e0' : ¬ 60 < a0 := by omega
  rw [hk] at HC HCR
  obtain ⟨n, rfl⟩ : ∃ n : Nat, a0 = (n : Int) := ⟨a0.toNat, by omega⟩
  obtain ⟨k, rfl⟩ : ∃ k : Nat, a1 = (k : Int) := ⟨a1.toNat, by omega⟩
  have hkn : k ≤ n := by omega
  have hn256 : n ≤ 256 := by omega
  clear hk g0 e0 hk2
  have HRI := Lib.hid (fun w (h : ZRow w a2 n2 m2 d) => right_42 n k hkn (by omega) a2 n2 m2 d w h)
  by_cases hrd : rdI n k d
  case neg =>
    have HS := Lib.hid (fun w (h : ZRow w a2 n2 m2 d) => slots_bad n k hkn hn256 a2 n2 m2 d w h (rdB_no hrd))
    have HO := Lib.hid (fun w (h : ZRow w a2 n2 m2 d) => order_bad n k hkn hn256 a2 n2 m2 d w h (rdB_no hrd))
    rw [rdB_no hrd] at HRI
    clear hrd
    go_wp2_with fail
    refine (HS.out _ H2.out).mono ?_
    rintro e wN ⟨rfl, hn⟩
    replace H2 := Lib.hid (H2.out.stay hn)
    replace HN := Lib.hid (HN.out.trans hn)
    clear hn
    go_wp2_with fail
    refine (HO.out _ H2.out).mono ?_
    rintro e wN ⟨rfl, hn⟩
    replace H2 := Lib.hid (H2.out.stay hn)
    replace HN := Lib.hid (HN.out.trans hn)
    clear hn
    go_wp2_with fail
    refine (HCR.out _).mono ?_
    rintro e w' ⟨rfl, hw⟩
    replace hw := hw.symm
    subst hw
    go_wp2_with fail
    refine (HC.out _).mono ?_
    rintro e w' ⟨rfl, hw⟩
    replace hw := hw.symm
    subst hw
    go_wp2_with fail
    refine (HRI.out _ H2.out).mono ?_
    rintro e w' ⟨rfl, hw⟩
    replace hw := hw.symm
    subst hw
    go_wp2
    go_ret
    exact ⟨rfl, HN.out⟩
  have HS := Lib.hid (fun w (h : ZRow w a2 n2 m2 d) => slots_q n k hkn hn256 a2 n2 m2 d w h hrd)
  have HO := Lib.hid (fun w (h : ZRow w a2 n2 m2 d) => order_q n k hkn hn256 a2 n2 m2 d w h hrd)
  have HSR := Lib.hid (fun w (h : ZRow w a2 n2 m2 d) => slotsr_42 n k hkn hn256 a2 n2 m2 d w h hrd)
  have HOR := Lib.hid (fun w (h : ZRow w a2 n2 m2 d) => orderr_42 n k hkn hn256 a2 n2 m2 d w h hrd)
  have HTK := Lib.hid (sl_take hkn d)
  rw [rdB_iff.2 hrd] at HRI
  clear hrd
  go_wp2_with fail
  refine (HS.out _ H2.out).mono ?_
  rintro e wN ⟨a4, c4, rfl, hz4, hn⟩
  replace H2 := Lib.hid (H2.out.stay hn)
  replace HN := Lib.hid (HN.out.trans hn)
  have HQ4 := Lib.hid hz4
  clear hz4
  clear hn
  go_wp2_with fail
  refine (HO.out _ H2.out).mono ?_
  rintro e wN ⟨a5, c5, rfl, hz5, hn⟩
  replace H2 := Lib.hid (H2.out.stay hn)
  replace HQ4 := Lib.hid (HQ4.out.stay hn)
  replace HN := Lib.hid (HN.out.trans hn)
  have HQ5 := Lib.hid hz5
  clear hz5
  clear hn
  go_wp2_with fail
  refine (HCR.out _).mono ?_
  rintro e w' ⟨rfl, hw⟩
  replace hw := hw.symm
  subst hw
  go_wp2_with fail
  refine (HC.out _).mono ?_
  rintro e w' ⟨rfl, hw⟩
  replace hw := hw.symm
  subst hw
  go_wp2_with fail
  refine (HRI.out _ H2.out).mono ?_
  rintro e w' ⟨rfl, hw⟩
  replace hw := hw.symm
  subst hw
  go_wp2_with fail
  refine (HSR.out _ H2.out).mono ?_
  rintro e wN ⟨a6, c6, rfl, hz6, hn⟩
  replace H2 := Lib.hid (H2.out.stay hn)
  replace HQ4 := Lib.hid (HQ4.out.stay hn)
  replace HQ5 := Lib.hid (HQ5.out.stay hn)
  replace HN := Lib.hid (HN.out.trans hn)
  have HQ6 := Lib.hid hz6
  clear hz6
  clear hn
  go_wp2_with fail
  refine (ints_ref _ _ _ _ _ _ _ _ _ HQ4.out HQ6.out).mono ?_
  rintro e wN ⟨rfl, hn⟩
  replace H2 := Lib.hid (H2.out.stay hn)
  replace HQ4 := Lib.hid (HQ4.out.stay hn)
  replace HQ5 := Lib.hid (HQ5.out.stay hn)
  replace HN := Lib.hid (HN.out.trans hn)
  clear hn
  rw [beq_self_eq_true]
  go_wp2_with fail
  refine (HOR.out _ H2.out).mono ?_
  rintro e wN ⟨a7, c7, rfl, hz7, hn⟩
  replace HQ4 := Lib.hid (HQ4.out.stay hn)
  replace HQ5 := Lib.hid (HQ5.out.stay hn)
  replace HN := Lib.hid (HN.out.trans hn)
  have HQ7 := Lib.hid hz7
  clear hz7
  clear hn
  go_wp2_with fail
  refine (ints_ref _ _ _ _ _ _ _ _ _ HQ5.out HQ7.out).mono ?_
  rintro e wN ⟨rfl, hn⟩
  replace HQ4 := Lib.hid (HQ4.out.stay hn)
  replace HQ5 := Lib.hid (HQ5.out.stay hn)
  replace HN := Lib.hid (HN.out.trans hn)
  clear hn
  rw [beq_self_eq_true]
  have hkz : (k : Int) ≤ (n : Int) := by omega
  have hk0 : (0 : Int) ≤ (k : Int) := by omega
  have hnc : (n : Int) ≤ (c5 : Int) := by have := HQ5.out.le; omega
  have hkc : (k : Int) ≤ (c5 : Int) := by omega
  have hq8 := zrow_head HQ5.out hkn
  rw [HTK.out] at hq8
  have HQ8 := Lib.hid hq8
  clear hq8
  go_wp2_with fail
  refine (ints_ref _ _ _ _ _ _ _ _ _ HQ8.out HQ4.out).mono ?_
  rintro e wN ⟨rfl, hn⟩
  replace HN := Lib.hid (HN.out.trans hn)
  rw [beq_self_eq_true]
  clear hn
  go_wp2
  go_ret
  exact ⟨rfl, HN.out⟩
end Go.Proofs.Ytajjpllhihgkdaa
/- reservoir.Undo; the document's From; the law ReservoirUndoes. -/
namespace Go.Bv
open Go Go.RowKit
set_option linter.unusedVariables false
theorem ixF_congr {f g : Nat → Nat} {v : Nat} : ∀ {c}, (∀ x, x < c → f x = g x) → ixF f v c = ixF g v c
  | 0, _ => rfl
  | c + 1, h => by
    show (if ixF f v c < c then ixF f v c else if f c = v then c else c + 1) = (if ixF g v c < c then ixF g v c else if g c = v then c else c + 1)
    rw [ixF_congr (fun x hx => h x (by omega)), h c (by omega)]
theorem unF_congr {p q : Nat → Nat} {n : Nat} (hp : orF p n) (h : ∀ x, x < n → p x = q x) : ∀ t, t ≤ n → ∀ x, x < n → unF p n t x = unF q n t x
  | 0, _, x, hx => h x hx
  | t + 1, ht, x, hx => by
    have ih := unF_congr hp h t (by omega)
    have hon := unF_on hp t (by omega)
    have hix : ixF (unF p n t) (n - 1 - t) (n - t) = ixF (unF q n t) (n - 1 - t) (n - t) := ixF_congr (fun y hy => ih y (by omega))
    obtain ⟨j, hj, he⟩ := onF_has hon (v := n - 1 - t) (by omega)
    have h1 := ixF_some hj he
    show sw (unF p n t) (n - 1 - t) (ixF (unF p n t) (n - 1 - t) (n - t)) x = sw (unF q n t) (n - 1 - t) (ixF (unF q n t) (n - 1 - t) (n - t)) x
    rw [← hix]
    unfold sw
    rw [ih (n - 1 - t) (by omega), ih _ (show ixF (unF p n t) (n - 1 - t) (n - t) < n by omega), ih x hx]
theorem unD_congr {p q : Nat → Nat} {n k : Nat} (hp : orF p n) (h : ∀ x, x < n → p x = q x) {i : Nat} (hi : k + i < n) : unD p n k i = unD q n k i := by
  unfold unD
  exact ixF_congr (fun x hx => unF_congr hp h _ (by omega) x (by omega))
theorem frS_congr (f : Nat → Nat) (k : Nat) {d e : Nat → Nat} : ∀ m, (∀ i, i < m → d i = e i) → frS f k d m = frS f k e m
  | 0, _ => rfl
  | m + 1, h => by
    show sw (frS f k d m) _ (d m) = sw (frS f k e m) _ (e m)
    rw [frS_congr f k m (fun i hi => h i (by omega)), h m (by omega)]
theorem frS_high {f : Nat → Nat} {k m n : Nat} {d : Nat → Nat} (hf : ∀ x, k ≤ x → x < n → f x = x) (h : rtD k m d) : ∀ j, j ≤ m → ∀ x, k + j ≤ x → x < n → frS f k d j x = x
  | 0, _, x, h1, h2 => hf x h1 h2
  | j + 1, hj, x, h1, h2 => by
    have h3 := h j (by omega)
    show sw (frS f k d j) (k + j) (d j) x = x
    unfold sw
    rw [if_neg (by omega), if_neg (by omega)]
    exact frS_high hf h j (by omega) x (by omega) h2
theorem frS_lt {f : Nat → Nat} {k m n : Nat} {d : Nat → Nat} (hf : ∀ x, x < n → f x < n) (h : rtD k m d) : ∀ j, j ≤ m → k + j ≤ n → ∀ x, x < n → frS f k d j x < n
  | 0, _, _, x, hx => hf x hx
  | j + 1, hj, hn, x, hx => sw_lt (by omega) (by have := h j (by omega); omega) (frS_lt hf h j (by omega) (by omega)) x hx
/-- what is told of an order: decisions, and what stood there at first -/
def udI (n k : Nat) (p : List Int) : List Int := liI (unD (fnI p) n k) (n - k)
def ufI (n k : Nat) (p : List Int) : List Int := liI (unF (fnI p) n (n - k)) k
theorem udI_rd {n k : Nat} {p : List Int} (hp : isO p) (hn : p.length = n) (hk : k ≤ n) : rdI n k (udI n k p) := by
  have h := unD_rt (k := k) (n := n) (by have := fnI_or hp; rwa [hn] at this)
  refine ⟨liI_len _ _, fun i hi => ?_⟩
  unfold udI
  rw [liI_get _ hi]
  have := h i hi
  omega
theorem onF_or {f : Nat → Nat} {c n : Nat} (h : onF f c n) : isO (liI f c) := by
  unfold isO
  rw [liI_len]
  refine ⟨fun j hj => ?_, fun j k hj hk he => ?_⟩
  · rw [liI_get _ hj]; have := h.1 j hj; omega
  · rw [liI_get _ (by omega), liI_get _ hk] at he
    have := h.2.1 j k (by omega) hk (by omega)
    omega
theorem ufI_or {n k : Nat} {p : List Int} (hp : isO p) (hn : p.length = n) (hk : k ≤ n) : isO (ufI n k p) := by
  have h := unF_on (n := n) (by have := fnI_or hp; rwa [hn] at this) (n - k) (by omega)
  rw [show n - (n - k) = k by omega] at h
  exact onF_or h
theorem fr_udI {n k : Nat} {p : List Int} (hp : isO p) (hn : p.length = n) (hk : k ≤ n) : liI (frS (unF (fnI p) n (n - k)) k (fnI (udI n k p)) (n - k)) n = p := by
  have he : ∀ i, i < n - k → fnI (udI n k p) i = unD (fnI p) n k i := fun i hi => fnI_li _ hi
  rw [frS_congr _ k (n - k) he, fr_un hk (n - k) (Nat.le_refl _), Nat.sub_self]
  have h := li_fn (p := p) (fun j hj => (hp.1 j hj).1)
  rw [hn] at h
  exact h
theorem ud_od {n k : Nat} {d : List Int} (hk : k ≤ n) (h : rdI n k d) : udI n k (odI n k d) = d := by
  have hF := rdI_F h
  have ho := fnI_or (odI_or hk h)
  rw [odI_len] at ho
  have hd := li_fn (p := d) (fun j hj => (h.2 j (by rw [← h.1]; exact hj)).1)
  rw [h.1] at hd
  unfold udI
  refine (liI_ext fun x hx => ?_).trans hd
  rw [unD_congr (q := oS k (fnI d) (n - k)) ho (fun y hy => fnI_li _ hy) (by omega)]
  exact unD_od hk hF hx
theorem uf_od {n k : Nat} {d : List Int} (hk : k ≤ n) (h : rdI n k d) : ufI n k (odI n k d) = liI (fun x => x) k := by
  have hF := rdI_F h
  have ho := fnI_or (odI_or hk h)
  rw [odI_len] at ho
  unfold ufI
  refine liI_ext fun x hx => ?_
  rw [unF_congr (q := oS k (fnI d) (n - k)) ho (fun y hy => fnI_li _ hy) (n - k) (by omega) x (by omega), un_od hk hF (n - k) (Nat.le_refl _), Nat.sub_self]
  rfl
/-- the decisions told so far, from the last one down -/
def ucL (p : Nat → Nat) (n k t : Nat) : List Int := liI (fun i => if n - k ≤ i + t then unD p n k i else 0) (n - k)
theorem ucL_zero (p : Nat → Nat) (n k : Nat) : ucL p n k 0 = liI (fun _ => 0) (n - k) := liI_ext (fun x hx => if_neg (by omega))
theorem ucL_all (p : Nat → Nat) (n k : Nat) : ucL p n k (n - k) = liI (unD p n k) (n - k) := liI_ext (fun x hx => if_pos (by omega))
theorem ucL_set (p : Nat → Nat) {n k t i : Nat} (h : n - k = i + t + 1) : (ucL p n k t).set i ((unD p n k i : Nat) : Int) = ucL p n k (t + 1) := by
  unfold ucL
  rw [liI_set _ _ (by omega)]
  apply liI_ext
  intro x hx
  by_cases e : x = i
  · subst e; rw [if_pos rfl, if_pos (by omega)]
  · rw [if_neg e]
    by_cases e2 : n - k ≤ x + t
    · rw [if_pos e2, if_pos (by omega)]
    · rw [if_neg e2, if_neg (by omega)]
end Go.Bv
namespace Go.Proofs.Ytajjpllhihgkdaa
open Go Go.RowKit Go.Bv
set_option linter.unusedVariables false
theorem own_below {w : World} {base size : Nat} {e : TypeId} {v : Value} {n : Nat} {xs : List Value} (h : w.ownsRow base e size v n xs) : ∀ g, v.ownBlock = some g → g < w.heap.size := by
  intro g hg
  rcases h.2 with ⟨rfl, _⟩ | ⟨g', cap, cur, rfl, hb, hc, _⟩
  · cases hg
  · have e : g' = g := by simpa [Value.ownBlock] using hg
    subst e
    exact lt_of_block hc
theorem index_q (a : Option Addr) (m cap v : Nat) (f : Nat → Nat) (w : World) (h : ZRow w a m cap (liI f m)) (hv : ixF f v m < m) :
    Calls Try.prog 39 #[.slice a m cap, .int .i64 (v : Int)] w fun e w' => e = .returned (.int .i64 ((ixF f v m : Nat) : Int)) ∧ w' = w := by
  have hm := h.most
  have HH := Lib.hid h
  have HV := Lib.hid hv
  have HLE : Hid (∀ c, c ≤ m → ixF f v c = c ∨ ixF f v m = ixF f v c) := Lib.hid (fun c hc => by
    by_cases e : ixF f v c < c
    · right
      have key : ∀ d, ixF f v (c + d) = ixF f v c := fun d => by
        induction d with
        | zero => rfl
        | succ d ih =>
          show (if ixF f v (c + d) < c + d then ixF f v (c + d) else _) = _
          rw [if_pos (by omega), ih]
      have := key (m - c)
      rwa [show c + (m - c) = m by omega] at this
    · left; have := ixF_le f v c; omega)
  have HST : Hid (∀ c, c < m → ixF f v c = c → f c = v → ixF f v m = c) := Lib.hid (fun c hc h1 h2 => by
    have e : ixF f v (c + 1) = c := by
      show (if ixF f v c < c then ixF f v c else if f c = v then c else c + 1) = c
      rw [if_neg (by omega), if_pos h2]
    rcases HLE.out (c + 1) (by omega) with h3 | h3
    · omega
    · omega)
  have HNO : Hid (∀ c, ixF f v c = c → f c ≠ v → ixF f v (c + 1) = c + 1) := Lib.hid (fun c h1 h2 => by
    show (if ixF f v c < c then ixF f v c else if f c = v then c else c + 1) = c + 1
    rw [if_neg (by omega), if_neg h2])
  clear h hv HLE
  go_enter Try.func39, Try.ntmps39
  go_wp2_with fail
  go_loop [8] (fun iv => ∃ j : Nat, j ≤ m ∧ iv = .int .i64 (j : Int) ∧ Hid (ixF f v j = j)) (fun iv => m - (intOf iv).toNat)
  case atStart => exact ⟨0, Nat.zero_le _, rfl, Lib.hid rfl⟩
  case round =>
    obtain ⟨j, hj, rfl, HJ⟩ := hrel
    by_cases hlt : (j : Int) < (m : Int)
    · have hj0 : (0 : Int) ≤ (j : Int) := by omega
      obtain ⟨b, off, rfl, hc⟩ := HH.out.addr (by omega)
      have c1 := hc j (by omega)
      rw [liI_get _ (by omega)] at c1
      clear hc
      by_cases he : f j = v
      · have HF := Lib.hid (HST.out j (by omega) HJ.out he)
        rw [he] at c1
        have hb : ((v : Int) == (v : Int)) = true := by simp
        go_wp2
        go_ret
        rw [HF.out]; exact ⟨rfl, rfl⟩
      · have HF := Lib.hid (HNO.out j HJ.out he)
        have hb : ((v : Int) == ((f j : Nat) : Int)) = false := by rw [beq_eq_false_iff_ne]; omega
        go_wp2
        exact ⟨⟨j + 1, by omega, by go_num, HF⟩, by simp [intOf]; omega⟩
    · obtain rfl : j = m := by omega
      exact absurd HV.out (by rw [HJ.out]; omega)
theorem undo_err (n k : Int) (a : Option Addr) (m c : Nat) (w : World) (h : ¬ ckE n k = 0) :
    Calls Try.prog 17 #[.int .i64 n, .int .i64 k, .slice a m c] w fun e w' => e = .returned (.tuple #[.slice none 0 0, .slice none 0 0, .int .i64 (ckE n k)]) ∧ w' = w := by
  have HC := Lib.hid (check_42 n k w)
  obtain ⟨z, hz⟩ : ∃ z, ckE n k = z := ⟨_, rfl⟩
  rw [hz] at HC h ⊢
  clear hz
  have hb : (z != 0) = true := by simpa using h
  go_enter Try.func17, Try.ntmps17
  go_wp2_with fail
  refine HC.out.mono ?_
  rintro e w' ⟨rfl, hw⟩
  replace hw := hw.symm
  subst hw
  go_wp2
  go_ret3
  exact ⟨rfl, rfl⟩
theorem undo_bad (n k : Nat) (hk : k ≤ n) (hn : n ≤ 256) (a : Option Addr) (m c : Nat) (p : List Int) (w : World) (h : ZRow w a m c p) (hb : ¬ (m = n ∧ isO p)) :
    Calls Try.prog 17 #[.int .i64 (n : Int), .int .i64 (k : Int), .slice a m c] w fun e w' => e = .returned (.tuple #[.slice none 0 0, .slice none 0 0, .int .i64 2]) ∧ New w w' := by
  have HC := Lib.hid (check_42 (n : Int) (k : Int) w)
  rw [show ckE (n : Int) (k : Int) = 0 from by unfold ckE; rw [if_neg (by omega), if_neg (by omega)]] at HC
  by_cases hm : m = n
  · subst hm
    have HI := Lib.hid (is_40 a m c p w h (by omega))
    rw [isB_no (fun h2 => hb ⟨rfl, h2⟩)] at HI
    have hb2 : ((m : Int) != (m : Int)) = false := by simp
    clear h hb
    go_enter Try.func17, Try.ntmps17
    go_wp2_with fail
    refine HC.out.mono ?_
    rintro e w' ⟨rfl, hw⟩
    replace hw := hw.symm
    subst hw
    go_wp2_with fail
    refine HI.out.mono ?_
    rintro e w9 ⟨rfl, hn9⟩
    have HN := Lib.hid hn9
    clear hn9
    go_wp2
    go_ret3
    exact ⟨rfl, HN.out⟩
  · have hb2 : ((m : Int) != (n : Int)) = true := by simp; omega
    clear h hb
    go_enter Try.func17, Try.ntmps17
    go_wp2_with fail
    refine HC.out.mono ?_
    rintro e w' ⟨rfl, hw⟩
    replace hw := hw.symm
    subst hw
    go_wp2
    go_ret3
    exact ⟨rfl, New.refl _⟩
set_option maxRecDepth 100000 in
set_option maxHeartbeats 4000000 in
theorem undo_qo (n k : Nat) (hk : k ≤ n) (hn : n ≤ 256) (a : Option Addr) (c : Nat) (p : List Int) (w : World) (h : ZRow w a n c p) (hp : isO p) :
    Calls Try.prog 17 #[.int .i64 (n : Int), .int .i64 (k : Int), .slice a n c] w fun e w' => ∃ g2 a2 c2 B2, e = .returned (.tuple #[.slice (some ⟨g2, 0, none⟩) (n - k : Nat) (n - k : Nat), .slice a2 (k : Nat) c2, .int .i64 0]) ∧ w'.ownsRow w.heap.size 3 1 (.slice (some ⟨g2, 0, none⟩) (n - k : Nat) (n - k : Nat)) (n - k) ((udI n k p).map fun x => .int .i64 x) ∧ (∀ z ∈ udI n k p, In64 z) ∧ g2 < B2 ∧ w'.ownsRow B2 3 1 (.slice a2 (k : Nat) c2) k ((ufI n k p).map fun x => .int .i64 x) ∧ (∀ z ∈ ufI n k p, In64 z) ∧ New w w' := by
  have HC := Lib.hid (check_42 (n : Int) (k : Int) w)
  rw [show ckE (n : Int) (k : Int) = 0 from by unfold ckE; rw [if_neg (by omega), if_neg (by omega)]] at HC
  have HI := Lib.hid (is_40 a n c p w h (by omega))
  rw [isB_iff.2 hp] at HI
  have hb2 : ((n : Int) != (n : Int)) = false := by simp
  have HCL := Lib.hid (fun w' (hn' : New w w') => clone_z a n c p w' (h.stay hn'))
  have hor := fnI_or hp
  rw [h.len_eq] at hor
  have HOR := Lib.hid hor
  have HP0 : Hid (liI (fnI p) n = p) := Lib.hid (by
    have h9 := li_fn (p := p) (fun j hj => (hp.1 j hj).1)
    rwa [h.len_eq] at h9)
  obtain ⟨K, hK⟩ : ∃ K, n - k = K := ⟨_, rfl⟩
  have hji : (n : Int) - (k : Int) = (K : Int) := by omega
  have HKK := Lib.hid hK
  have hmk : ∀ W : World, (Instr.makeSlice 22 (.int .i64 (K : Int)) (.int .i64 (K : Int))).run Try.prog W = .ok (.slice (some ⟨W.heap.size, 0, none⟩) K K) (W.alloc (.cells (madeCells #[.int .i64 0] K) 3)) := fun W => make_int K (by omega) _ W rfl
  have hwK : IntKind.i64.wrap (K : Int) = (K : Int) := by unfold IntKind.wrap; simp [IntKind.signed, IntKind.bits]; omega
  have hK256 : K ≤ 256 := by omega
  rw [hK]
  clear h hp hor hK
  go_enter Try.func17, Try.ntmps17
  go_wp2_with fail
  refine HC.out.mono ?_
  rintro e w' ⟨rfl, hw⟩
  replace hw := hw.symm
  subst hw
  go_wp2_with fail
  refine HI.out.mono ?_
  rintro e w9 ⟨rfl, hn9⟩
  have HN9 := Lib.hid hn9
  replace HCL := Lib.hid (fun w' (h : New w9 w') => HCL.out w' (hn9.trans h))
  clear hn9 HC HI
  go_wp2_with fail
  go_cut [10, 11] (fun r d wx => ∃ g2, d = .slice (some ⟨g2, 0, none⟩) K K ∧ wx.ownsRow w9.heap.size 3 1 r n (p.map fun x => .int .i64 x) ∧ wx.ownsRow w9.heap.size 3 1 (.slice (some ⟨g2, 0, none⟩) K K) K ((liI (fun _ => 0) K).map fun x => .int .i64 x) ∧ r.ownBlock ≠ some g2 ∧ New w9 wx)
  case first =>
    go_region_held3 (fun w' => New w9 w')
      ((first | with_reducible assumption | with_reducible exact (New.refl _).drew | with_reducible exact New.drew (by assumption) | with_reducible exact ((New.refl _).alloc _).drew | with_reducible exact (((New.refl _).drew).alloc _).drew | with_reducible exact ((New.refl _).drew).alloc _ | with_reducible exact New.alloc (by assumption) _))
      (first
      | (go_at_call 38
         refine (HCL.out _ (by first | with_reducible assumption | with_reducible exact (New.refl _).drew | with_reducible exact New.drew (by assumption) | with_reducible exact ((New.refl _).alloc _).drew | with_reducible exact (((New.refl _).drew).alloc _).drew | with_reducible exact ((New.refl _).drew).alloc _ | with_reducible exact New.alloc (by assumption) _)).mono ?_
         rintro e w4 ⟨vr, rfl, how, hn4⟩
         have hn5 : New w9 w4 := by first
           | with_reducible exact (New.refl w9).drew.trans hn4
           | with_reducible exact ((New.refl w9).drew.alloc _).trans hn4
           | with_reducible exact ((New.refl w9).alloc _).drew.trans hn4
           | with_reducible exact (((New.refl w9).drew.alloc _).drew).trans hn4
           | with_reducible exact (New.refl w9).trans hn4))
    all_goals (
      go_wp2_with fail
      go_meet
      case rel => first
        | exact ⟨_, rfl, ow_base how (by simp), ow_new (ow_made w9 _ _ _ K _ (Nat.le_refl _) (by omega) (by rw [made_toList, zeros_li]) (by rw [List.length_map, liI_len])) ((New.refl _).drew.trans hn4), (fun e => by have := own_base how _ e; simp at this; omega), hn5⟩
        | exact ⟨_, rfl, ow_new (ow_base how (by simp)) ((New.refl _).alloc _), ow_made w4 _ _ _ K _ hn5.le (by omega) (by rw [made_toList, zeros_li]) (by rw [List.length_map, liI_len]), (fun e => by have := own_below how _ e; omega), hn5.alloc _⟩)
  case rest =>
    obtain ⟨g2, rfl, ho1, ho2, hg12, hn⟩ := hcut
    obtain ⟨pr, cr, rfl⟩ := own_form ho1
    clear hmk hwK
    rw [← HP0.out] at ho1
    have HO1 := Lib.hid ho1
    have HO2 := Lib.hid ho2
    have HN := Lib.hid (HN9.out.trans hn)
    have HG2 := Lib.hid hg12
    have HB9 : Hid (w.heap.size ≤ w9.heap.size) := Lib.hid HN9.out.le
    have HZ0 := Lib.hid (ucL_zero (fnI p) n k)
    have HIX : Hid (∀ t, t < K → ixF (unF (fnI p) n t) (n - 1 - t) (n - t) < n - t) := Lib.hid (fun t ht => by
      obtain ⟨j, hj, he⟩ := onF_has (unF_on HOR.out t (by have := HKK.out; omega)) (v := n - 1 - t) (by have := HKK.out; omega)
      exact ixF_some hj he)
    have HLT : Hid (∀ t, t ≤ K → ∀ x, x < n - t → unF (fnI p) n t x < n - t) := Lib.hid (fun t ht => (unF_on HOR.out t (by have := HKK.out; omega)).1)
    clear ho1 ho2 hn hg12 HOR HP0 HN9
    go_wp2_with fail
    go_loopw [10, 12] (fun rv iv wr => ∃ (t : Nat) (z : Int) , t ≤ K ∧ iv = .int .i64 z ∧ Hid (z = (n : Int) - 1 - (t : Int)) ∧ rv = .slice pr (n - t : Nat) cr ∧ wr.ownsRow w9.heap.size 3 1 (.slice pr (n - t : Nat) cr) (n - t) ((liI (unF (fnI p) n t) (n - t)).map fun x => .int .i64 x) ∧ wr.ownsRow w9.heap.size 3 1 (.slice (some ⟨g2, 0, none⟩) K K) K ((ucL (fnI p) n k t).map fun x => .int .i64 x) ∧ New w wr) (fun _ iv _ => (intOf iv + 1).toNat)
    case atStart => exact ⟨0, _, Nat.zero_le _, rfl, Lib.hid (by omega), rfl, HO1.out, (by rw [HZ0.out, HKK.out]; exact HO2.out), HN.out⟩
    case round =>
      clear HO1 HO2 HN
      obtain ⟨t, z, ht, rfl, HZ, rfl, h1, h2, hnew⟩ := hrel
      have hKK := HKK.out
      have hz := HZ.out
      obtain ⟨wq, hwq⟩ : ∃ z, z = wr := ⟨_, rfl⟩
      rw [← hwq] at h1 h2 hnew ⊢
      clear hwq
      by_cases hlt : t < K
      · obtain ⟨j, hj⟩ : ∃ j, n - 1 - t = j := ⟨_, rfl⟩
        have hnt : n - t = j + 1 := by omega
        have hnt2 : n - (t + 1) = j := by omega
        obtain rfl : z = (j : Int) := by omega
        have hix := HIX.out t hlt
        have hlf := HLT.out t ht
        rw [hnt] at h1 hix hlf ⊢
        rw [hj] at hix
        obtain ⟨i, hi⟩ : ∃ i, j - k = i := ⟨_, rfl⟩
        have hji2 : (j : Int) - (k : Int) = (i : Int) := by omega
        have HU : Hid (unF (fnI p) n (t + 1) = sw (unF (fnI p) n t) j (ixF (unF (fnI p) n t) j (j + 1))) := Lib.hid (by
          show sw (unF (fnI p) n t) (n - 1 - t) (ixF (unF (fnI p) n t) (n - 1 - t) (n - t)) = _
          rw [hj, hnt])
        have HS2 : Hid ((ucL (fnI p) n k t).set i ((ixF (unF (fnI p) n t) j (j + 1) : Nat) : Int) = ucL (fnI p) n k (t + 1)) := Lib.hid (by
          rw [← ucL_set (fnI p) (n := n) (k := k) (t := t) (i := i) (by omega)]
          have e : unD (fnI p) n k i = ixF (unF (fnI p) n t) j (j + 1) := by
            unfold unD
            rw [show k + i = j by omega, show n - 1 - j = t by omega]
          rw [e])
        obtain ⟨f, hf⟩ : ∃ f, unF (fnI p) n t = f := ⟨_, rfl⟩
        rw [hf] at h1 hix hlf HU HS2
        obtain ⟨g, cap, he, hg, hgs, hgc, hgc2⟩ := ow_shape h1 (by omega)
        cases he
        obtain ⟨_, _, he, hzr⟩ := ZRow.of_owns h1 (by omega) (in64_li _ (fun x hx => by have := hlf x hx; omega))
        cases he
        have HX := Lib.hid (index_q _ _ _ j f wq hzr hix)
        obtain ⟨q, hq⟩ : ∃ q, ixF f j (j + 1) = q := ⟨_, rfl⟩
        rw [hq] at HX hix HU HS2
        have hne : g ≠ g2 := fun e => HG2.out (by rw [e]; rfl)
        obtain ⟨d1, e1⟩ := ow_int h2 (k := i) (by omega)
        have hv2 : (Value.slice (some ⟨g2, 0, none⟩) K K).ownBlock ≠ some g := by
          simp [Value.ownBlock]; exact fun e => hne e.symm
        have hv1 : (Value.slice (some ⟨g, 0, none⟩) (j + 1) cr).ownBlock ≠ some g2 := by
          simp [Value.ownBlock]; exact hne
        have k1 := ow_far h1 (a := ⟨g2, i, none⟩) hv1 (.int .i64 (q : Nat))
        have k2 := ow_set h2 i (.int .i64 (q : Nat))
        have hgb2 := (ow_in h2).1
        obtain ⟨cj, fj⟩ := ow_int k1 (k := j) (by omega)
        obtain ⟨cq, fq⟩ := ow_int k1 (k := q) (by omega)
        rw [liI_get _ (show j < j + 1 by omega)] at cj
        have k3 := ow_set k1 q (.int .i64 ((f j : Nat) : Int))
        have k4 := ow_cut k3 (m := j) (by omega)
        have HR1 : Hid (((wq.setCell ⟨g2, i, none⟩ (.int .i64 (q : Nat))).setCell ⟨g, q, none⟩ (.int .i64 ((f j : Nat) : Int))).ownsRow w9.heap.size 3 1 (.slice (some ⟨g, 0, none⟩) (n - (t + 1) : Nat) cr) (n - (t + 1)) ((liI (unF (fnI p) n (t + 1)) (n - (t + 1))).map fun x => .int .i64 x)) := Lib.hid (by
          rw [hnt2, HU.out, ← row_next f (show q ≤ j by omega), List.map_take, List.map_set]
          exact k4)
        have HR2 : Hid (((wq.setCell ⟨g2, i, none⟩ (.int .i64 (q : Nat))).setCell ⟨g, q, none⟩ (.int .i64 ((f j : Nat) : Int))).ownsRow w9.heap.size 3 1 (.slice (some ⟨g2, 0, none⟩) K K) K ((ucL (fnI p) n k (t + 1)).map fun x => .int .i64 x)) := Lib.hid (by
          rw [← HS2.out, List.map_set]
          exact ow_far k2 (a := ⟨g, q, none⟩) hv2 _)
        have HNN : Hid (New w ((wq.setCell ⟨g2, i, none⟩ (.int .i64 (q : Nat))).setCell ⟨g, q, none⟩ (.int .i64 ((f j : Nat) : Int)))) := Lib.hid ((hnew.setCell (p := ⟨g2, i, none⟩) (Nat.le_trans HB9.out hgb2) _).setCell (p := ⟨g, q, none⟩) (Nat.le_trans HB9.out hg) _)
        have hkj : (k : Int) ≤ (j : Int) := by omega
        have hj0 : (0 : Int) ≤ (j : Int) := by omega
        have hj1 : (j : Int) < (j : Int) + 1 := by omega
        have hjc : (j : Int) ≤ (cr : Int) := by omega
        have hq0 : (0 : Int) ≤ (q : Int) := by omega
        have hq1 : (q : Int) < (j : Int) + 1 := by omega
        have hi0 : (0 : Int) ≤ (i : Int) := by omega
        have hiK : (i : Int) < (K : Int) := by omega
        have HZ2 : Hid ((j : Int) - 1 = (n : Int) - 1 - ((t + 1 : Nat) : Int)) := Lib.hid (by omega)
        have HT9 : Hid (n - (t + 1) = j) := Lib.hid hnt2
        have HT1 : Hid (t + 1 ≤ K) := Lib.hid hlt
        clear h1 h2 hnew k1 k2 k3 k4 hzr hf hq hz hKK hj hnt hnt2 hi hix hlf
        go_wp2_with fail
        refine HX.out.mono ?_
        rintro e w' ⟨rfl, hw⟩
        replace hw := hw.symm
        subst hw
        clear HX
        go_wp2
        exact ⟨⟨t + 1, _, HT1.out, rfl, HZ2, by rw [HT9.out], HR1.out, HR2.out, HNN.out⟩, by first | (simp [intOf]; done) | (simp [intOf]; omega)⟩
      · obtain rfl : t = K := by omega
        have hnk : n - t = k := by omega
        rw [hnk] at h1 ⊢
        have hzk : z < (k : Int) := by omega
        have hlf := HLT.out t (Nat.le_refl _)
        rw [hnk] at hlf
        obtain ⟨_, _, he, hz1⟩ := ZRow.of_owns h1 (by omega) (in64_li _ (fun x hx => by have := hlf x hx; omega))
        cases he
        have hua : ucL (fnI p) n k t = udI n k p := by rw [← hKK]; exact ucL_all _ _ _
        rw [hua] at h2
        have HIU : Hid (∀ z ∈ udI n k p, In64 z) := Lib.hid (by
          unfold udI
          rw [hKK]
          exact in64_li _ (fun x hx => by
            have := ixF_le (unF (fnI p) n (n - 1 - (k + x))) (k + x) (k + x + 1)
            unfold unD
            omega))
        have HG3 : Hid (g2 < wq.heap.size) := Lib.hid (ow_in h2).2.1
        have HZ2 := Lib.hid (ow_base h2 HB9.out)
        have HUF : Hid (liI (unF (fnI p) n t) k = ufI n k p) := Lib.hid (by unfold ufI; rw [hKK])
        have HCZ := Lib.hid (clone_z _ _ _ _ wq hz1)
        rw [HUF.out] at HCZ
        have HN := Lib.hid hnew
        have HIN : Hid (∀ z ∈ ufI n k p, In64 z) := Lib.hid (by rw [← HUF.out]; exact in64_li _ (fun x hx => by have := hlf x hx; omega))
        clear h1 h2 hnew hz1 hua hz hKK hnk hlf
        go_wp2_with fail
        refine HCZ.out.mono ?_
        rintro e w8 ⟨v, rfl, how, hn8⟩
        obtain ⟨a', c', rfl⟩ := own_form how
        have HZ3 := Lib.hid how
        replace HZ2 := Lib.hid (ow_new HZ2.out hn8)
        replace HN := Lib.hid (HN.out.trans hn8)
        clear how hn8 HCZ
        go_wp2
        go_ret3
        exact ⟨_, _, _, _, rfl, HZ2.out, HIU.out, HG3.out, HZ3.out, HIN.out, HN.out⟩
theorem undo_q (n k : Nat) (hk : k ≤ n) (hn : n ≤ 256) (a : Option Addr) (c : Nat) (p : List Int) (w : World) (h : ZRow w a n c p) (hp : isO p) :
    Calls Try.prog 17 #[.int .i64 (n : Int), .int .i64 (k : Int), .slice a n c] w fun e w' => ∃ a1 c1 a2 c2, e = .returned (.tuple #[.slice a1 (n - k : Nat) c1, .slice a2 (k : Nat) c2, .int .i64 0]) ∧ ZRow w' a1 (n - k) c1 (udI n k p) ∧ ZRow w' a2 k c2 (ufI n k p) ∧ New w w' := by
  refine (undo_qo n k hk hn a c p w h hp).mono ?_
  rintro e w' ⟨g2, a2, c2, B2, rfl, h1, h2, h3, h4, h5, h6⟩
  obtain ⟨_, _, he, z1⟩ := ZRow.of_owns h1 (by omega) h2
  cases he
  obtain ⟨_, _, he, z2⟩ := ZRow.of_owns h4 (by omega) h5
  cases he
  exact ⟨_, _, _, _, rfl, z1, z2, h6⟩
set_option maxRecDepth 100000 in
set_option maxHeartbeats 4000000 in
theorem from_42 (k m n : Nat) (hkm : k + m ≤ 256) (hkn : k + m = n) (a b : Option Addr) (ca cb : Nat) (f0 : Nat → Nat) (d : List Int) (w : World) (hf : ZRow w a k ca (liI f0 k)) (h : ZRow w b m cb d) (hd : ∀ i, i < m → 0 ≤ d.getD i 0 ∧ d.getD i 0 ≤ (k : Int) + (i : Int)) (hhi : ∀ x, k ≤ x → x < n → f0 x = x) (hlt : ∀ x, x < n → f0 x < n) :
    Calls Try.prog 19 #[.slice a k ca, .slice b m cb] w fun e w' => ∃ a' c', e = .returned (.slice a' (k + m : Nat) c') ∧ ZRow w' a' (k + m) c' (liI (frS f0 k (fnI d) m) (k + m)) ∧ New w w' := by
  obtain ⟨i0, hi, hz0, hz1, hz2⟩ := info_parts info_int40
  have hrt : rtD k m (fnI d) := fun i hi => by have := hd i hi; unfold fnI; omega
  have HH := Lib.hid h
  have HD := Lib.hid hd
  have HHI : Hid (∀ j, j < m → frS f0 k (fnI d) j (k + j) = k + j) := Lib.hid (fun j hj => frS_high (n := n) hhi hrt j (by omega) _ (Nat.le_refl _) (by omega))
  have HLT : Hid (∀ x, x < k + m → frS f0 k (fnI d) m x < n) := Lib.hid (fun x hx => frS_lt hlt hrt m (Nat.le_refl _) (by omega) x (by omega))
  have HF := Lib.hid hf
  have HKN := Lib.hid hkn
  clear h hd hhi hlt hrt hf hkn
  have hHK : Hid (∀ w', New w w' → ∀ v, w'.ownsRow w.heap.size 3 1 v k ((liI f0 k).map fun x => .int .i64 x) → w'.ownsRow w.heap.size 3 1 v (k + 0) ((liI (frS f0 k (fnI d) 0) (k + 0)).map fun x => .int .i64 x)) := Lib.hid (fun _ _ _ h => h)
  rcases a with _ | x
  · obtain ⟨rfl, rfl⟩ := HF.out.none rfl
    go_enter Try.func19, Try.ntmps19
    have HO := Lib.hid (hHK.out w (New.refl _) _ (World.ownsRow_nil w _ _ 1))
    have HN := Lib.hid (New.refl w)
    clear hHK HF
    go_wp2_with fail
    go_loopw [5, 14] (fun v iv wr => ∃ i : Nat, i ≤ m ∧ iv = .int .i64 (i : Int) ∧ wr.ownsRow w.heap.size 3 1 v (0 + i) ((liI (frS f0 0 (fnI d) i) (0 + i)).map fun x => .int .i64 x) ∧ New w wr) (fun _ iv _ => m - (intOf iv).toNat)
    case atStart => exact ⟨0, Nat.zero_le _, rfl, HO.out, HN.out⟩
    case round =>
      clear HO HN
      obtain ⟨i, hi9, rfl, hown, hnew⟩ := hrel
      obtain ⟨wq, hwq⟩ : ∃ z, z = wr := ⟨_, rfl⟩
      rw [← hwq] at hown hnew ⊢
      clear hwq
      by_cases hlt : (i : Int) < (m : Int)
      · have hi0 : (0 : Int) ≤ (i : Int) := by omega
        obtain ⟨b, off, rfl, hc⟩ := (HH.out.stay hnew).addr (by omega)
        have c1 := hc i (by omega)
        have hdi := HD.out i (by omega)
        have hhi := HHI.out i (by omega)
        obtain ⟨x, hx⟩ : ∃ x : Nat, d.getD i 0 = (x : Int) := ⟨(d.getD i 0).toNat, by omega⟩
        have hfx : fnI d i = x := by unfold fnI; rw [hx]; rfl
        have HST : Hid (frS f0 0 (fnI d) (i + 1) = sw (frS f0 0 (fnI d) i) (0 + i) x) := Lib.hid (by show sw _ _ _ = _; rw [hfx])
        rw [hx] at c1
        obtain ⟨r, hr⟩ : ∃ r, 0 + i = r := ⟨_, rfl⟩
        have hri : (0 : Int) + (i : Int) = (r : Int) := by omega
        have hr1 : 0 + (i + 1) = r + 1 := by omega
        have hxr : x ≤ r := by omega
        obtain ⟨f, hf⟩ : ∃ f, frS f0 0 (fnI d) i = f := ⟨_, rfl⟩
        rw [hf, hr] at hown hhi HST
        have hr256 : r ≤ 256 := by omega
        clear hc hdi hx hfx hf hr
        by_cases he : x = r
        · subst he
          have hb : ((x : Int) == (x : Int)) = true := by simp
          have HE : Hid (liI (sw f x x) (x + 1) = liI f x ++ [(x : Int)]) := Lib.hid (by
            rw [sw_same, liI_succ, hhi])
          go_wp2_with (at_builtin; refine wpList_append_own _ rfl _ _ 22 rfl w.heap.size 3 i0 (.int .i64 0) 1 8 Try.underlying22 hi hz0 hz1 hz2 rfl (by decide) _ x _ rfl (hown.alloc _) ⟨wq.heap.size, 0, none⟩ 1 1 [.int .i64 (x : Int)] rfl rfl ?c1 ?c2 ?c3 ?c4 ?c5 ?_)
          try (case c1 => exact one_cell wq _ _)
          try (case c2 => first | rfl | (intro u hu; simp at hu; subst hu; rfl))
          try (case c3 => first | (unfold maxLen; omega) | omega)
          try (case c4 => omega)
          try (case c5 => first | (simp; have := hnew.le; omega) | (have := hnew.le; omega))
          intro v' w2 how hgr _
          have HO2 : Hid (w2.ownsRow w.heap.size 3 1 v' (0 + (i + 1)) ((liI (frS f0 0 (fnI d) (i + 1)) (0 + (i + 1))).map fun x => .int .i64 x)) := Lib.hid (by
            rw [HST.out, hr1, HE.out, List.map_append]; exact how)
          have HN1 := Lib.hid ((hnew.alloc _).grown' hgr (own_base hown))
          clear how hgr hown hnew
          go_wp2
          exact ⟨⟨i + 1, by omega, by go_num, HO2.out, HN1.out⟩, by simp [intOf]; omega⟩
        · have hb : ((x : Int) == (r : Int)) = false := by rw [beq_eq_false_iff_ne]; omega
          have hxr2 : x < r := by omega
          obtain ⟨g, cap, rfl, hg, hgs, hgc, hgc2⟩ := ow_shape hown (by omega)
          obtain ⟨c2, f2⟩ := ow_int hown (k := x) hxr2
          rw [liI_get f hxr2] at c2
          have hx0 : (0 : Int) ≤ (x : Int) := by omega
          have hx1 : (x : Int) < (r : Int) := by omega
          have HE : Hid ((liI f r ++ [((f x : Nat) : Int)]).set x (r : Int) = liI (sw f r x) (r + 1)) := Lib.hid (by
            rw [← liI_sw f (show r < r + 1 by omega) (show x < r + 1 by omega), hhi]
            congr 1
            rw [liI_succ, List.set_append_right _ _ (by rw [liI_len]; exact Nat.le_refl _), liI_len, Nat.sub_self]
            rfl)
          go_wp2_with (at_builtin; refine wpList_append_own _ rfl _ _ 22 rfl w.heap.size 3 i0 (.int .i64 0) 1 8 Try.underlying22 hi hz0 hz1 hz2 rfl (by decide) _ r _ rfl (hown.alloc _) ⟨wq.heap.size, 0, none⟩ 1 1 [.int .i64 ((f x : Nat) : Int)] rfl rfl ?d1 ?d2 ?d3 ?d4 ?d5 ?_)
          try (case d1 => exact one_cell wq _ _)
          try (case d2 => first | rfl | (intro u hu; simp at hu; subst hu; rfl))
          try (case d3 => first | (unfold maxLen; omega) | omega)
          try (case d4 => omega)
          try (case d5 => first | (simp; have := hnew.le; omega) | (have := hnew.le; omega))
          intro v' w2 how hgr _
          have hn2 := (hnew.alloc _).grown' hgr (own_base hown)
          have how2 : w2.ownsRow w.heap.size 3 1 v' (r + 1) ((liI f r ++ [((f x : Nat) : Int)]).map fun x => .int .i64 x) := by rw [List.map_append]; exact how
          obtain ⟨g2, cap2, rfl, hg2, _, _, _⟩ := ow_shape how2 (by omega)
          obtain ⟨c3, f3⟩ := ow_int how2 (k := x) (by omega)
          have HO2 : Hid ((w2.setCell ⟨g2, x, none⟩ (.int .i64 (r : Int))).ownsRow w.heap.size 3 1 (.slice (some ⟨g2, 0, none⟩) (r + 1 : Nat) cap2) (0 + (i + 1)) ((liI (frS f0 0 (fnI d) (i + 1)) (0 + (i + 1))).map fun x => .int .i64 x)) := Lib.hid (by
            rw [HST.out, hr1, ← HE.out, List.map_set]; exact ow_set how2 x _)
          have HN1 : Hid (New w (w2.setCell ⟨g2, x, none⟩ (.int .i64 (r : Int)))) := Lib.hid (hn2.setCell hg2 _)
          have hx2 : (x : Int) < (r : Int) + 1 := by omega
          clear how hgr hown hnew how2 hn2
          go_wp2
          exact ⟨⟨i + 1, by omega, by go_num, HO2.out, HN1.out⟩, by simp [intOf]; omega⟩
      · obtain rfl : i = m := by omega
        obtain ⟨a', c', rfl, hz⟩ := ZRow.of_owns hown (by omega) (in64_li _ (fun x hx => by have := HLT.out x hx; have := HKN.out; omega))
        have HZ := Lib.hid hz
        have HN := Lib.hid hnew
        clear hown hz hnew
        go_wp2
        go_ret
        exact ⟨_, _, rfl, (by have h9 := HZ.out; rw [Nat.zero_add] at h9; exact h9), HN.out⟩
  · go_enter Try.func19, Try.ntmps19
    go_wp2_with (at_builtin; refine wpList_append_own _ rfl _ _ 22 rfl w.heap.size 3 i0 (.int .i64 0) 1 8 Try.underlying22 hi hz0 hz1 hz2 rfl (by decide) _ 0 [] rfl (World.ownsRow_nil w _ _ 1) x k ca ((liI f0 k).map fun x => .int .i64 x) rfl ?f1 ?f2 ?f3 ?f4 ?f5 ?f6 ?_)
    try (case f1 => rw [List.length_map, liI_len]; omega)
    try (case f2 => intro j u hj; exact HF.out.olds x rfl j u hj)
    try (case f3 => intro u hu; rw [List.mem_map] at hu; obtain ⟨y, _, rfl⟩ := hu; rfl)
    try (case f4 => unfold maxLen; omega)
    try (case f5 => omega)
    try (case f6 => exact Nat.le_refl _)
    intro v1 w1 how hgr _
    have HN := Lib.hid ((New.refl w).grown' hgr (fun k hk => by cases hk))
    have HO := Lib.hid (hHK.out w1 HN.out _ (by simpa using how))
    clear how hgr hHK HF
    go_wp2_with fail
    go_loopw [5, 14] (fun v iv wr => ∃ i : Nat, i ≤ m ∧ iv = .int .i64 (i : Int) ∧ wr.ownsRow w.heap.size 3 1 v (k + i) ((liI (frS f0 k (fnI d) i) (k + i)).map fun x => .int .i64 x) ∧ New w wr) (fun _ iv _ => m - (intOf iv).toNat)
    case atStart => exact ⟨0, Nat.zero_le _, rfl, HO.out, HN.out⟩
    case round =>
      clear HO HN
      obtain ⟨i, hi9, rfl, hown, hnew⟩ := hrel
      obtain ⟨wq, hwq⟩ : ∃ z, z = wr := ⟨_, rfl⟩
      rw [← hwq] at hown hnew ⊢
      clear hwq
      by_cases hlt : (i : Int) < (m : Int)
      · have hi0 : (0 : Int) ≤ (i : Int) := by omega
        obtain ⟨b, off, rfl, hc⟩ := (HH.out.stay hnew).addr (by omega)
        have c1 := hc i (by omega)
        have hdi := HD.out i (by omega)
        have hhi := HHI.out i (by omega)
        obtain ⟨x, hx⟩ : ∃ x : Nat, d.getD i 0 = (x : Int) := ⟨(d.getD i 0).toNat, by omega⟩
        have hfx : fnI d i = x := by unfold fnI; rw [hx]; rfl
        have HST : Hid (frS f0 k (fnI d) (i + 1) = sw (frS f0 k (fnI d) i) (k + i) x) := Lib.hid (by show sw _ _ _ = _; rw [hfx])
        rw [hx] at c1
        obtain ⟨r, hr⟩ : ∃ r, k + i = r := ⟨_, rfl⟩
        have hri : (k : Int) + (i : Int) = (r : Int) := by omega
        have hr1 : k + (i + 1) = r + 1 := by omega
        have hxr : x ≤ r := by omega
        obtain ⟨f, hf⟩ : ∃ f, frS f0 k (fnI d) i = f := ⟨_, rfl⟩
        rw [hf, hr] at hown hhi HST
        have hr256 : r ≤ 256 := by omega
        clear hc hdi hx hfx hf hr
        by_cases he : x = r
        · subst he
          have hb : ((x : Int) == (x : Int)) = true := by simp
          have HE : Hid (liI (sw f x x) (x + 1) = liI f x ++ [(x : Int)]) := Lib.hid (by
            rw [sw_same, liI_succ, hhi])
          go_wp2_with (at_builtin; refine wpList_append_own _ rfl _ _ 22 rfl w.heap.size 3 i0 (.int .i64 0) 1 8 Try.underlying22 hi hz0 hz1 hz2 rfl (by decide) _ x _ rfl (hown.alloc _) ⟨wq.heap.size, 0, none⟩ 1 1 [.int .i64 (x : Int)] rfl rfl ?c1 ?c2 ?c3 ?c4 ?c5 ?_)
          try (case c1 => exact one_cell wq _ _)
          try (case c2 => first | rfl | (intro u hu; simp at hu; subst hu; rfl))
          try (case c3 => first | (unfold maxLen; omega) | omega)
          try (case c4 => omega)
          try (case c5 => first | (simp; have := hnew.le; omega) | (have := hnew.le; omega))
          intro v' w2 how hgr _
          have HO2 : Hid (w2.ownsRow w.heap.size 3 1 v' (k + (i + 1)) ((liI (frS f0 k (fnI d) (i + 1)) (k + (i + 1))).map fun x => .int .i64 x)) := Lib.hid (by
            rw [HST.out, hr1, HE.out, List.map_append]; exact how)
          have HN1 := Lib.hid ((hnew.alloc _).grown' hgr (own_base hown))
          clear how hgr hown hnew
          go_wp2
          exact ⟨⟨i + 1, by omega, by go_num, HO2.out, HN1.out⟩, by simp [intOf]; omega⟩
        · have hb : ((x : Int) == (r : Int)) = false := by rw [beq_eq_false_iff_ne]; omega
          have hxr2 : x < r := by omega
          obtain ⟨g, cap, rfl, hg, hgs, hgc, hgc2⟩ := ow_shape hown (by omega)
          obtain ⟨c2, f2⟩ := ow_int hown (k := x) hxr2
          rw [liI_get f hxr2] at c2
          have hx0 : (0 : Int) ≤ (x : Int) := by omega
          have hx1 : (x : Int) < (r : Int) := by omega
          have HE : Hid ((liI f r ++ [((f x : Nat) : Int)]).set x (r : Int) = liI (sw f r x) (r + 1)) := Lib.hid (by
            rw [← liI_sw f (show r < r + 1 by omega) (show x < r + 1 by omega), hhi]
            congr 1
            rw [liI_succ, List.set_append_right _ _ (by rw [liI_len]; exact Nat.le_refl _), liI_len, Nat.sub_self]
            rfl)
          go_wp2_with (at_builtin; refine wpList_append_own _ rfl _ _ 22 rfl w.heap.size 3 i0 (.int .i64 0) 1 8 Try.underlying22 hi hz0 hz1 hz2 rfl (by decide) _ r _ rfl (hown.alloc _) ⟨wq.heap.size, 0, none⟩ 1 1 [.int .i64 ((f x : Nat) : Int)] rfl rfl ?d1 ?d2 ?d3 ?d4 ?d5 ?_)
          try (case d1 => exact one_cell wq _ _)
          try (case d2 => first | rfl | (intro u hu; simp at hu; subst hu; rfl))
          try (case d3 => first | (unfold maxLen; omega) | omega)
          try (case d4 => omega)
          try (case d5 => first | (simp; have := hnew.le; omega) | (have := hnew.le; omega))
          intro v' w2 how hgr _
          have hn2 := (hnew.alloc _).grown' hgr (own_base hown)
          have how2 : w2.ownsRow w.heap.size 3 1 v' (r + 1) ((liI f r ++ [((f x : Nat) : Int)]).map fun x => .int .i64 x) := by rw [List.map_append]; exact how
          obtain ⟨g2, cap2, rfl, hg2, _, _, _⟩ := ow_shape how2 (by omega)
          obtain ⟨c3, f3⟩ := ow_int how2 (k := x) (by omega)
          have HO2 : Hid ((w2.setCell ⟨g2, x, none⟩ (.int .i64 (r : Int))).ownsRow w.heap.size 3 1 (.slice (some ⟨g2, 0, none⟩) (r + 1 : Nat) cap2) (k + (i + 1)) ((liI (frS f0 k (fnI d) (i + 1)) (k + (i + 1))).map fun x => .int .i64 x)) := Lib.hid (by
            rw [HST.out, hr1, ← HE.out, List.map_set]; exact ow_set how2 x _)
          have HN1 : Hid (New w (w2.setCell ⟨g2, x, none⟩ (.int .i64 (r : Int)))) := Lib.hid (hn2.setCell hg2 _)
          have hx2 : (x : Int) < (r : Int) + 1 := by omega
          clear how hgr hown hnew how2 hn2
          go_wp2
          exact ⟨⟨i + 1, by omega, by go_num, HO2.out, HN1.out⟩, by simp [intOf]; omega⟩
      · obtain rfl : i = m := by omega
        obtain ⟨a', c', rfl, hz⟩ := ZRow.of_owns hown (by omega) (in64_li _ (fun x hx => by have := HLT.out x hx; have := HKN.out; omega))
        have HZ := Lib.hid hz
        have HN := Lib.hid hnew
        clear hown hz hnew
        go_wp2
        go_ret
        exact ⟨_, _, rfl, HZ.out, HN.out⟩
end Go.Proofs.Ytajjpllhihgkdaa
