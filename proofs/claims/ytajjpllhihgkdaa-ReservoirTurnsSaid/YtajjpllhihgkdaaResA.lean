/- Plain lemmas: decisions, and the orders that they lead to. · reservoir: what is wrong with numbers and decisions; arrivals. -/
import Derived.Test.YtajjpllhihgkdaaShfM
import Derived.Test.YtajjpllhihgkdaaShfD
import Derived.Handy
namespace Go.Bv
open Go Go.RowKit
set_option linter.unusedVariables false
/-- the row after j arrivals -/
def oS (k : Nat) (d : Nat → Nat) : Nat → Nat → Nat
  | 0 => fun x => x
  | j + 1 => sw (oS k d j) (k + j) (d j)
def rtD (k m : Nat) (d : Nat → Nat) : Prop := ∀ i, i < m → d i ≤ k + i
theorem oS_high {k m : Nat} {d : Nat → Nat} (h : rtD k m d) : ∀ j, j ≤ m → ∀ x, k + j ≤ x → oS k d j x = x
  | 0, _, x, _ => rfl
  | j + 1, hj, x, hx => by
    have h1 := h j (by omega)
    show sw (oS k d j) (k + j) (d j) x = x
    unfold sw
    rw [if_neg (by omega), if_neg (by omega)]
    exact oS_high h j (by omega) x (by omega)
theorem oS_lt {k m : Nat} {d : Nat → Nat} (h : rtD k m d) : ∀ j, j ≤ m → ∀ n, k + j ≤ n → ∀ x, x < n → oS k d j x < n
  | 0, _, n, _, x, hx => hx
  | j + 1, hj, n, hn, x, hx => sw_lt (by omega) (by have := h j (by omega); omega) (oS_lt h j (by omega) n (by omega)) x hx
/-- of the slots -/
theorem oS_low {k m : Nat} {d : Nat → Nat} (h : rtD k m d) {j : Nat} (hj : j < m) {x : Nat} (hx : x < k) : oS k d (j + 1) x = if d j = x then k + j else oS k d j x := by
  show sw (oS k d j) (k + j) (d j) x = _
  unfold sw
  by_cases e : d j = x
  · rw [if_pos e.symm, if_pos e]
    exact oS_high h j (by omega) (k + j) (Nat.le_refl _)
  · rw [if_neg (fun e2 => e e2.symm), if_neg (by omega), if_neg e]
theorem sw_sw (f : Nat → Nat) (i j : Nat) : sw (sw f i j) i j = f := by
  funext x
  unfold sw
  by_cases e : x = j
  · subst e
    by_cases e2 : i = x
    · subst e2; simp
    · simp [e2]
  · by_cases e2 : x = i
    · subst e2; simp [e]
    · simp [e, e2]
theorem sw_inj {f : Nat → Nat} {n i j : Nat} (hi : i < n) (hj : j < n) (h : ∀ x y, x < n → y < n → f x = f y → x = y) : ∀ x y, x < n → y < n → sw f i j x = sw f i j y → x = y := by
  intro x y hx hy he
  unfold sw at he
  by_cases e1 : x = j
  · by_cases e2 : y = j
    · omega
    · rw [if_pos e1, if_neg e2] at he
      by_cases e3 : y = i
      · rw [if_pos e3] at he; have := h i j hi hj he; omega
      · rw [if_neg e3] at he; have := h i y hi hy he; omega
  · by_cases e2 : y = j
    · rw [if_neg e1, if_pos e2] at he
      by_cases e3 : x = i
      · rw [if_pos e3] at he; have := h j i hj hi he; omega
      · rw [if_neg e3] at he; have := h x i hx hi he; omega
    · rw [if_neg e1, if_neg e2] at he
      by_cases e3 : x = i
      · by_cases e4 : y = i
        · omega
        · rw [if_pos e3, if_neg e4] at he; have := h j y hj hy he; omega
      · by_cases e4 : y = i
        · rw [if_neg e3, if_pos e4] at he; have := h x j hx hj he; omega
        · rw [if_neg e3, if_neg e4] at he; exact h x y hx hy he
theorem oS_inj {k m : Nat} {d : Nat → Nat} (h : rtD k m d) : ∀ j, j ≤ m → ∀ n, k + j ≤ n → ∀ x y, x < n → y < n → oS k d j x = oS k d j y → x = y
  | 0, _, n, _, x, y, _, _, he => he
  | j + 1, hj, n, hn, x, y, hx, hy, he => sw_inj (i := k + j) (j := d j) (by omega) (by have := h j (by omega); omega) (oS_inj h j (by omega) n (by omega)) x y hx hy he
/-- whether d may be decisions of n items and k slots -/
def rdI (n k : Nat) (d : List Int) : Prop := d.length = n - k ∧ ∀ i, i < n - k → 0 ≤ d.getD i 0 ∧ d.getD i 0 ≤ (k : Int) + (i : Int)
theorem rdI_F {n k : Nat} {d : List Int} (h : rdI n k d) : rtD k (n - k) (fnI d) := fun i hi => by have := h.2 i hi; unfold fnI; omega
/-- the slots, the order -/
def slI (n k : Nat) (d : List Int) : List Int := liI (oS k (fnI d) (n - k)) k
def odI (n k : Nat) (d : List Int) : List Int := liI (oS k (fnI d) (n - k)) n
theorem slI_len (n k : Nat) (d : List Int) : (slI n k d).length = k := liI_len _ _
theorem odI_len (n k : Nat) (d : List Int) : (odI n k d).length = n := liI_len _ _
theorem odI_or {n k : Nat} {d : List Int} (hk : k ≤ n) (h : rdI n k d) : isO (odI n k d) := by
  have h2 := rdI_F h
  unfold isO odI
  rw [liI_len]
  constructor
  · intro j hj
    rw [liI_get _ hj]
    have := oS_lt h2 (n - k) (Nat.le_refl _) n (by omega) j hj
    omega
  · intro j l hj hl he
    rw [liI_get _ (by omega), liI_get _ hl] at he
    have := oS_inj h2 (n - k) (Nat.le_refl _) n (by omega) j l (by omega) hl (by omega)
    omega
/-- undone: the place of a number in the row, from the front -/
def ixF (f : Nat → Nat) (v : Nat) : Nat → Nat
  | 0 => 0
  | c + 1 => if ixF f v c < c then ixF f v c else if f c = v then c else c + 1
theorem ixF_le (f : Nat → Nat) (v : Nat) : ∀ c, ixF f v c ≤ c
  | 0 => Nat.le_refl _
  | c + 1 => by
    show (if ixF f v c < c then ixF f v c else if f c = v then c else c + 1) ≤ c + 1
    have := ixF_le f v c
    split
    · omega
    · split <;> omega
theorem ixF_at {f : Nat → Nat} {v : Nat} : ∀ {c}, ixF f v c < c → f (ixF f v c) = v
  | 0, h => by omega
  | c + 1, h => by
    have e : ixF f v (c + 1) = if ixF f v c < c then ixF f v c else if f c = v then c else c + 1 := rfl
    by_cases h1 : ixF f v c < c
    · rw [e, if_pos h1]; exact ixF_at h1
    · rw [e, if_neg h1] at h ⊢
      by_cases h2 : f c = v
      · rw [if_pos h2]; exact h2
      · rw [if_neg h2] at h; omega
theorem ixF_some {f : Nat → Nat} {v : Nat} : ∀ {c j}, j < c → f j = v → ixF f v c < c
  | 0, j, h, _ => by omega
  | c + 1, j, h, he => by
    show (if ixF f v c < c then ixF f v c else if f c = v then c else c + 1) < c + 1
    by_cases h1 : ixF f v c < c
    · rw [if_pos h1]; omega
    · rw [if_neg h1]
      by_cases e : j = c
      · subst e; rw [if_pos he]; omega
      · exact absurd (ixF_some (c := c) (by omega) he) h1
theorem ixF_one {f : Nat → Nat} {v c j : Nat} (hj : j < c) (he : f j = v) (h : ∀ x y, x < c → y < c → f x = f y → x = y) : ixF f v c = j := by
  have h1 := ixF_some hj he
  exact h _ _ h1 hj ((ixF_at h1).trans he.symm)
/-- the row after t items are taken off -/
def unF (p : Nat → Nat) (n : Nat) : Nat → Nat → Nat
  | 0 => p
  | t + 1 => sw (unF p n t) (n - 1 - t) (ixF (unF p n t) (n - 1 - t) (n - t))
/-- a row on the first c places is an order of the first c numbers, the rest stand at their places -/
def onF (f : Nat → Nat) (c n : Nat) : Prop := (∀ x, x < c → f x < c) ∧ (∀ x y, x < c → y < c → f x = f y → x = y) ∧ ∀ x, c ≤ x → x < n → f x = x
theorem onF_has {f : Nat → Nat} {c n : Nat} (h : onF f c n) {v : Nat} (hv : v < c) : ∃ j, j < c ∧ f j = v := by
  have ho : isO (liI f c) := by
    unfold isO
    rw [liI_len]
    refine ⟨fun j hj => ?_, fun j k hj hk he => ?_⟩
    · rw [liI_get _ hj]; have := h.1 j hj; omega
    · rw [liI_get _ (by omega), liI_get _ hk] at he
      have := h.2.1 j k (by omega) hk (by omega)
      omega
  obtain ⟨j, hj, he⟩ := isO_on ho (i := v) (by rw [liI_len]; exact hv)
  rw [liI_len] at hj
  rw [liI_get _ hj] at he
  exact ⟨j, hj, by omega⟩
theorem onF_step {f : Nat → Nat} {c n j : Nat} (h : onF f (c + 1) n) (hj : j < c + 1) (he : f j = c) : onF (sw f c j) c n := by
  obtain ⟨h1, h2, h3⟩ := h
  have hs : ∀ x, sw f c j x = if x = j then f c else if x = c then f j else f x := fun x => rfl
  refine ⟨fun x hx => ?_, fun x y hx hy hxy => ?_, fun x hx hn => ?_⟩
  · rw [hs]
    by_cases e : x = j
    · rw [if_pos e]
      have h4 := h1 c (by omega)
      by_cases e2 : f c = c
      · have := h2 c j (by omega) hj (by omega); omega
      · omega
    · rw [if_neg e, if_neg (by omega)]
      have h4 := h1 x (by omega)
      by_cases e2 : f x = c
      · have := h2 x j (by omega) hj (by omega); omega
      · omega
  · exact sw_inj (n := c + 1) (by omega) hj h2 x y (by omega) (by omega) hxy
  · rw [hs]
    by_cases e : x = c
    · subst e
      by_cases e2 : x = j
      · rw [if_pos e2]; rw [← e2] at he; exact he
      · rw [if_neg e2, if_pos rfl]; exact he
    · rw [if_neg (by omega), if_neg e]; exact h3 x (by omega) hn
theorem unF_on {p : Nat → Nat} {n : Nat} (hp : orF p n) : ∀ t, t ≤ n → onF (unF p n t) (n - t) n
  | 0, _ => ⟨hp.1, hp.2, fun x hx hn => by omega⟩
  | t + 1, ht => by
    have ih := unF_on hp t (by omega)
    obtain ⟨c, hc⟩ : ∃ c, n - 1 - t = c := ⟨_, rfl⟩
    have hc1 : n - t = c + 1 := by omega
    rw [hc1] at ih
    show onF (sw (unF p n t) (n - 1 - t) (ixF (unF p n t) (n - 1 - t) (n - t))) (n - (t + 1)) n
    rw [hc, hc1, show n - (t + 1) = c by omega]
    obtain ⟨j, hj, he⟩ := onF_has ih (v := c) (by omega)
    have h1 := ixF_some hj he
    exact onF_step ih h1 (ixF_at h1)
/-- the decisions that are told of an order -/
def unD (p : Nat → Nat) (n k : Nat) (i : Nat) : Nat := ixF (unF p n (n - 1 - (k + i))) (k + i) (k + i + 1)
theorem unD_rt {p : Nat → Nat} {n k : Nat} (hp : orF p n) : rtD k (n - k) (unD p n k) := fun i hi => by
  have h := unF_on hp (n - 1 - (k + i)) (by omega)
  rw [show n - (n - 1 - (k + i)) = k + i + 1 by omega] at h
  obtain ⟨j, hj, he⟩ := onF_has h (v := k + i) (by omega)
  have h1 := ixF_some hj he
  unfold unD
  omega
/-- the row that comes if f stood there at first -/
def frS (f : Nat → Nat) (k : Nat) (d : Nat → Nat) : Nat → Nat → Nat
  | 0 => f
  | j + 1 => sw (frS f k d j) (k + j) (d j)
theorem oS_fr (k : Nat) (d : Nat → Nat) : ∀ j, oS k d j = frS (fun x => x) k d j
  | 0 => rfl
  | j + 1 => by show sw (oS k d j) _ _ = sw (frS _ k d j) _ _; rw [oS_fr k d j]
/-- from what stood there at first the decisions lead back -/
theorem fr_un {p : Nat → Nat} {n k : Nat} (hk : k ≤ n) : ∀ j, j ≤ n - k → frS (unF p n (n - k)) k (unD p n k) j = unF p n (n - k - j)
  | 0, _ => rfl
  | j + 1, hj => by
    show sw (frS (unF p n (n - k)) k (unD p n k) j) (k + j) (unD p n k j) = _
    rw [fr_un hk j (by omega)]
    obtain ⟨t, ht⟩ : ∃ t, n - k - (j + 1) = t := ⟨_, rfl⟩
    rw [show n - k - j = t + 1 by omega, ht]
    show sw (sw (unF p n t) (n - 1 - t) (ixF (unF p n t) (n - 1 - t) (n - t))) (k + j) (unD p n k j) = _
    unfold unD
    rw [show n - 1 - (k + j) = t by omega, show n - 1 - t = k + j by omega, show n - t = k + j + 1 by omega]
    exact sw_sw _ _ _
/-- of an order that decisions lead to, they are told -/
theorem un_od {n k : Nat} {d : Nat → Nat} (hk : k ≤ n) (h : rtD k (n - k) d) : ∀ t, t ≤ n - k → unF (oS k d (n - k)) n t = oS k d (n - k - t)
  | 0, _ => rfl
  | t + 1, ht => by
    show sw (unF (oS k d (n - k)) n t) (n - 1 - t) (ixF (unF (oS k d (n - k)) n t) (n - 1 - t) (n - t)) = _
    rw [un_od hk h t (by omega)]
    obtain ⟨j, hj⟩ : ∃ j, n - k - (t + 1) = j := ⟨_, rfl⟩
    rw [show n - k - t = j + 1 by omega, hj, show n - 1 - t = k + j by omega, show n - t = k + j + 1 by omega]
    have hd := h j (by omega)
    have hx : ixF (oS k d (j + 1)) (k + j) (k + j + 1) = d j := by
      refine ixF_one (by omega) ?_ (oS_inj h (j + 1) (by omega) (k + j + 1) (by omega))
      show sw (oS k d j) (k + j) (d j) (d j) = _
      unfold sw
      rw [if_pos rfl]
      exact oS_high h j (by omega) _ (Nat.le_refl _)
    rw [hx]
    exact sw_sw _ _ _
theorem unD_od {n k : Nat} {d : Nat → Nat} (hk : k ≤ n) (h : rtD k (n - k) d) {i : Nat} (hi : i < n - k) : unD (oS k d (n - k)) n k i = d i := by
  unfold unD
  rw [un_od hk h _ (by omega), show n - k - (n - 1 - (k + i)) = i + 1 by omega]
  have hd := h i hi
  refine ixF_one (by omega) ?_ (oS_inj h (i + 1) (by omega) (k + i + 1) (by omega))
  show sw (oS k d i) (k + i) (d i) (d i) = _
  unfold sw
  rw [if_pos rfl]
  exact oS_high h i (by omega) _ (Nat.le_refl _)
end Go.Bv
namespace Go.Proofs.Ytajjpllhihgkdaa
open Go Go.RowKit Go.Bv
set_option linter.unusedVariables false
/-- what is wrong with n items and k slots -/
def ckE (n k : Int) : Int := if n < 0 ∨ k < 0 ∨ n < k then 1 else if 256 < n then 9 else 0
theorem check_42 (n k : Int) (w : World) : Calls Try.prog 12 #[.int .i64 n, .int .i64 k] w fun e w' => e = .returned (.int .i64 (ckE n k)) ∧ w' = w := by
  by_cases h1 : n < 0
  · have HE : Hid (ckE n k = 1) := Lib.hid (if_pos (.inl h1))
    go_enter Try.func12, Try.ntmps12
    go_wp2
    go_ret
    rw [HE.out]; exact ⟨rfl, rfl⟩
  by_cases h2 : k < 0
  · have HE : Hid (ckE n k = 1) := Lib.hid (if_pos (.inr (.inl h2)))
    go_enter Try.func12, Try.ntmps12
    go_wp2
    go_ret
    rw [HE.out]; exact ⟨rfl, rfl⟩
  by_cases h3 : n < k
  · have HE : Hid (ckE n k = 1) := Lib.hid (if_pos (.inr (.inr h3)))
    go_enter Try.func12, Try.ntmps12
    go_wp2
    go_ret
    rw [HE.out]; exact ⟨rfl, rfl⟩
  by_cases h4 : 256 < n
  · have HE : Hid (ckE n k = 9) := Lib.hid (by unfold ckE; rw [if_neg (by omega), if_pos h4])
    go_enter Try.func12, Try.ntmps12
    go_wp2
    go_ret
    rw [HE.out]; exact ⟨rfl, rfl⟩
  · have HE : Hid (ckE n k = 0) := Lib.hid (by unfold ckE; rw [if_neg (by omega), if_neg h4])
    go_enter Try.func12, Try.ntmps12
    go_wp2
    go_ret
    rw [HE.out]; exact ⟨rfl, rfl⟩
theorem checkr_42 (n k : Int) (w : World) : Calls Try.prog 11 #[.int .i64 n, .int .i64 k] w fun e w' => e = .returned (.int .i64 (ckE n k)) ∧ w' = w := by
  by_cases h1 : n < 0
  · have HE : Hid (ckE n k = 1) := Lib.hid (if_pos (.inl h1))
    go_enter Try.func11, Try.ntmps11
    go_wp2
    go_ret
    rw [HE.out]; exact ⟨rfl, rfl⟩
  by_cases h2 : k < 0
  · have HE : Hid (ckE n k = 1) := Lib.hid (if_pos (.inr (.inl h2)))
    go_enter Try.func11, Try.ntmps11
    go_wp2
    go_ret
    rw [HE.out]; exact ⟨rfl, rfl⟩
  by_cases h3 : n < k
  · have HE : Hid (ckE n k = 1) := Lib.hid (if_pos (.inr (.inr h3)))
    go_enter Try.func11, Try.ntmps11
    go_wp2
    go_ret
    rw [HE.out]; exact ⟨rfl, rfl⟩
  by_cases h4 : 256 < n
  · have HE : Hid (ckE n k = 9) := Lib.hid (by unfold ckE; rw [if_neg (by omega), if_pos h4])
    go_enter Try.func11, Try.ntmps11
    go_wp2
    go_ret
    rw [HE.out]; exact ⟨rfl, rfl⟩
  · have HE : Hid (ckE n k = 0) := Lib.hid (by unfold ckE; rw [if_neg (by omega), if_neg h4])
    go_enter Try.func11, Try.ntmps11
    go_wp2
    go_ret
    rw [HE.out]; exact ⟨rfl, rfl⟩
/-- whether the first m may be decisions -/
def rkB (k : Int) (d : List Int) : Nat → Bool
  | 0 => true
  | m + 1 => rkB k d m && (decide (0 ≤ d.getD m 0) && decide (d.getD m 0 ≤ k + (m : Int)))
theorem rkB_iff {k : Int} {d : List Int} : ∀ {m}, rkB k d m = true ↔ ∀ i, i < m → 0 ≤ d.getD i 0 ∧ d.getD i 0 ≤ k + (i : Int)
  | 0 => ⟨fun _ i h => by omega, fun _ => rfl⟩
  | m + 1 => by
    show (rkB k d m && (decide (0 ≤ d.getD m 0) && decide (d.getD m 0 ≤ k + (m : Int)))) = true ↔ _
    rw [Bool.and_eq_true, Bool.and_eq_true, decide_eq_true_eq, decide_eq_true_eq, rkB_iff (m := m)]
    constructor
    · rintro ⟨h1, h2⟩ i hi
      by_cases e : i = m
      · subst e; exact h2
      · exact h1 i (by omega)
    · intro h
      exact ⟨fun i hi => h i (by omega), h m (by omega)⟩
def rdB (n k : Nat) (d : List Int) : Bool := decide (d.length = n - k) && rkB (k : Int) d (n - k)
def rdE (n k : Nat) (d : List Int) : Int := if rdB n k d then 0 else 2
theorem rdB_iff {n k : Nat} {d : List Int} : rdB n k d = true ↔ rdI n k d := by
  unfold rdB rdI
  rw [Bool.and_eq_true, decide_eq_true_eq, rkB_iff]
theorem rdB_no {n k : Nat} {d : List Int} (h : ¬ rdI n k d) : rdB n k d = false := by rw [← Bool.not_eq_true, rdB_iff]; exact h
theorem rdB_len {n k : Nat} {d : List Int} (h : d.length ≠ n - k) : rdB n k d = false := rdB_no (fun h2 => h h2.1)
theorem rdB_at {n k : Nat} {d : List Int} {i : Nat} (hi : i < n - k) (h : d.getD i 0 < 0 ∨ (k : Int) + (i : Int) < d.getD i 0) : rdB n k d = false := rdB_no (fun h2 => by have := h2.2 i hi; omega)
set_option maxRecDepth 100000 in
set_option maxHeartbeats 2000000 in
theorem right_42 (n k : Nat) (hk : k ≤ n) (hn : n ≤ 100000) (a : Option Addr) (m c : Nat) (d : List Int) (w : World) (h : ZRow w a m c d) :
    Calls Try.prog 13 #[.int .i64 (n : Int), .int .i64 (k : Int), .slice a m c] w fun e w' => e = .returned (.bool (rdB n k d)) ∧ w' = w := by
  have HL := Lib.hid h.len_eq
  have HH := Lib.hid h
  obtain ⟨j, hj⟩ : ∃ j, n - k = j := ⟨_, rfl⟩
  have hji : (n : Int) - (k : Int) = (j : Int) := by omega
  clear h
  by_cases hm : m = j
  case neg =>
    have HF : Hid (rdB n k d = false) := Lib.hid (rdB_len (by rw [HL.out, hj]; exact hm))
    have hb : ((m : Int) != (j : Int)) = true := by simp; omega
    go_enter Try.func13, Try.ntmps13
    go_wp2
    go_ret
    rw [HF.out]; exact ⟨rfl, rfl⟩
  subst hm
  have hb : ((m : Int) != (m : Int)) = false := by simp
  have HNO : Hid (∀ i, i < m → d.getD i 0 < 0 ∨ (k : Int) + (i : Int) < d.getD i 0 → rdB n k d = false) := Lib.hid (fun i hi h => rdB_at (by omega) h)
  have HY : Hid ((∀ i, i < m → 0 ≤ d.getD i 0 ∧ d.getD i 0 ≤ (k : Int) + (i : Int)) → rdB n k d = true) := Lib.hid (fun h => rdB_iff.2 ⟨by rw [HL.out, hj], by rw [hj]; exact h⟩)
  go_enter Try.func13, Try.ntmps13
  go_wp2_with fail
  go_loop [17] (fun iv => ∃ i : Nat, i ≤ m ∧ iv = .int .i64 (i : Int) ∧ Hid (∀ j, j < i → 0 ≤ d.getD j 0 ∧ d.getD j 0 ≤ (k : Int) + (j : Int))) (fun iv => m - (intOf iv).toNat)
  case atStart => exact ⟨0, Nat.zero_le _, rfl, Lib.hid (fun i hi => by omega)⟩
  case round =>
    obtain ⟨i, hi, rfl, HO⟩ := hrel
    by_cases hlt : (i : Int) < (m : Int)
    · have hi0 : (0 : Int) ≤ (i : Int) := by omega
      obtain ⟨b, off, rfl, hc⟩ := HH.out.addr (by omega)
      have c1 := hc i (by omega)
      clear hc
      have HN9 := Lib.hid (HNO.out i (by omega))
      obtain ⟨x, hx⟩ : ∃ x, d.getD i 0 = x := ⟨_, rfl⟩
      rw [hx] at c1 HN9
      have HX := Lib.hid hx
      clear hx
      by_cases h1 : x < 0
      · have HF := Lib.hid (HN9.out (.inl h1))
        go_wp2
        go_ret
        rw [HF.out]; exact ⟨rfl, rfl⟩
      by_cases h2 : (k : Int) + (i : Int) < x
      · have HF := Lib.hid (HN9.out (.inr h2))
        go_wp2
        go_ret
        rw [HF.out]; exact ⟨rfl, rfl⟩
      have HO2 : Hid (∀ j, j < i + 1 → 0 ≤ d.getD j 0 ∧ d.getD j 0 ≤ (k : Int) + (j : Int)) := Lib.hid (fun j hj => by
        by_cases e : j = i
        · subst e; rw [HX.out]; omega
        · exact HO.out j (by omega))
      go_wp2
      exact ⟨⟨i + 1, by omega, by go_num, HO2.out⟩, by simp [intOf]; omega⟩
    · obtain rfl : i = m := by omega
      have HF := Lib.hid (HY.out HO.out)
      go_wp2
      go_ret
      rw [HF.out]; exact ⟨rfl, rfl⟩
theorem arr_q (k : Int) (a : Option Addr) (m c : Nat) (w : World) :
    Calls Try.prog 34 #[.int .i64 k, .slice a m c] w fun e w' => e = .returned (.func (Fn.func 53) #[] #[.pointer (some ⟨w.heap.size + 1, 0, none⟩), .pointer (some ⟨w.heap.size, 0, none⟩)]) ∧ w'.heap[w.heap.size]? = some (.cells #[.int .i64 k] 3 (0, 0)) ∧ w'.heap[w.heap.size + 1]? = some (.cells #[.slice a m c] 22 (0, 0)) ∧ New w w' := by
  have h1 := heap_alloc_new w (.cells #[.int .i64 k] 3)
  have h2 := (((New.refl (w.alloc (.cells #[.int .i64 k] 3))).alloc (.cells #[.slice a m c] 22)).block _ (lt_of_block h1)).trans h1
  have h3 := heap_alloc_new (w.alloc (.cells #[.int .i64 k] 3)) (.cells #[.slice a m c] 22)
  rw [show (w.alloc (.cells #[.int .i64 k] 3)).heap.size = w.heap.size + 1 by simp] at h3
  have H2 := Lib.hid h2
  have H3 := Lib.hid h3
  clear h1 h2 h3
  go_enter Try.func34, Try.ntmps34
  go_wp2
  go_ret
  exact ⟨rfl, H2.out, H3.out, ((New.refl w).alloc _).alloc _⟩
set_option maxRecDepth 100000 in
set_option maxHeartbeats 2000000 in
/-- each item is visited with its decision -/
theorem arr1_q (k m : Nat) (a : Option Addr) (c : Nat) (d : List Int) (b1 b2 G : Nat) (caps : Array Value) (I : Nat → World → Prop) (w : World) (hkm : k + m ≤ 1000000) (hG : ∀ (x y : Value) (w : World), (callFunc G (#[x, y] ++ caps)).run Try.prog w = .ok (.enter G (#[x, y] ++ caps)) w)
    (h0 : I 0 w) (hb : ∀ i w', I i w' → w'.heap[b1]? = some (.cells #[.slice a m c] 22 (0, 0)) ∧ w'.heap[b2]? = some (.cells #[.int .i64 (k : Int)] 3 (0, 0)) ∧ ZRow w' a m c d)
    (hs : ∀ i w', i < m → I i w' → Calls Try.prog G (#[.int .i64 ((k + i : Nat) : Int), .int .i64 (d.getD i 0)] ++ caps) w' fun e w'' => e = .returned (.tuple #[]) ∧ I (i + 1) w'') :
    Calls Try.prog 53 #[.func (Fn.func G) #[] caps, .pointer (some ⟨b1, 0, none⟩), .pointer (some ⟨b2, 0, none⟩)] w fun e w' => e = .returned (.tuple #[]) ∧ I m w' := by
  have HB := Lib.hid hb
  have HS := Lib.hid hs
  have HG := Lib.hid hG
  have H0 := Lib.hid h0
  obtain ⟨e1, _, _⟩ := hb 0 w h0
  have k1 := cell_of_row _ _ 0 _ _ _ e1
  clear hb hs h0 e1 hG
  go_enter Try.func53, Try.ntmps53
  go_wp2_with fail
  go_loopw [8] (fun iv wr => ∃ i : Nat, i ≤ m ∧ iv = .int .i64 (i : Int) ∧ Hid (I i wr)) (fun iv _ => m - (intOf iv).toNat)
  case atStart => exact ⟨0, Nat.zero_le _, rfl, H0⟩
  case round =>
    clear k1
    obtain ⟨i, hi, rfl, HI⟩ := hrel
    obtain ⟨e1, e2, e3⟩ := HB.out i _ HI.out
    have k2 := cell_of_row _ _ 0 _ _ _ e2
    by_cases hlt : (i : Int) < (m : Int)
    · have hi0 : (0 : Int) ≤ (i : Int) := by omega
      obtain ⟨b, off, rfl, hc⟩ := e3.addr (by omega)
      have c1 := hc i (by omega)
      have HC := Lib.hid (HS.out i _ (by omega) HI.out)
      obtain ⟨s, hs⟩ : ∃ s, k + i = s := ⟨_, rfl⟩
      have hks : (k : Int) + (i : Int) = (s : Int) := by omega
      rw [hs] at HC
      obtain ⟨x, hx⟩ : ∃ x, d.getD i 0 = x := ⟨_, rfl⟩
      rw [hx] at c1 HC
      clear hc hx e1 e2 e3
      go_wp2_with fail
      rw [HG.out, Oper.upon_enter]
      refine (HC.out).mono ?_
      rintro e w9 ⟨rfl, hI⟩
      have HI9 := Lib.hid hI
      clear hI HC
      go_wp2
      exact ⟨⟨i + 1, by omega, by go_num, HI9⟩, by simp [intOf]; omega⟩
    · obtain rfl : i = m := by omega
      clear e1 e2 e3 k2
      go_wp2
      go_end0
      exact ⟨rfl, HI.out⟩
theorem cd1_q (b : Nat) (v : Bool) (item dec : Int) (w : World) (h : w.heap[b]? = some (.cells #[.bool v] 4 (0, 0))) :
    Calls Try.prog 52 #[.int .i64 item, .int .i64 dec, .pointer (some ⟨b, 0, none⟩)] w fun e w' => e = .returned (.tuple #[]) ∧ w' = w.setCell ⟨b, 0, none⟩ (.bool (v || (decide (dec < 0) || decide (item < dec)))) := by
  have k0 := cell_of_row _ _ 0 _ _ _ h
  have kf := frozen_of_row _ _ 0 _ _ h
  clear h
  cases v
  · by_cases h1 : dec < 0
    · have d1 : decide (dec < 0) = true := decide_eq_true h1
      go_enter Try.func52, Try.ntmps52
      go_wp2
      go_end0
      first | exact ⟨rfl, rfl⟩ | exact ⟨rfl, by rw [d1]; rfl⟩
    · have d1 : decide (dec < 0) = false := decide_eq_false h1
      by_cases h2 : item < dec
      · have d2 : decide (item < dec) = true := decide_eq_true h2
        go_enter Try.func52, Try.ntmps52
        go_wp2
        go_end0
        first | exact ⟨rfl, rfl⟩ | exact ⟨rfl, by rw [d1]; rfl⟩
      · have d2 : decide (item < dec) = false := decide_eq_false h2
        go_enter Try.func52, Try.ntmps52
        go_wp2
        go_end0
        first | exact ⟨rfl, rfl⟩ | exact ⟨rfl, by rw [d1]; rfl⟩
  · go_enter Try.func52, Try.ntmps52
    go_wp2
    go_end0
    exact ⟨rfl, rfl⟩
/-- the boxes of a visit's row stay -/
def Vis (w0 : World) (b1 b2 : Nat) (k : Int) (a : Option Addr) (m c : Nat) (d : List Int) (w : World) : Prop := w.heap[b1]? = some (.cells #[.slice a m c] 22 (0, 0)) ∧ w.heap[b2]? = some (.cells #[.int .i64 k] 3 (0, 0)) ∧ New w0 w
theorem Vis.set {w0 w : World} {b1 b2 : Nat} {k : Int} {a : Option Addr} {m c : Nat} {d : List Int} (h : Vis w0 b1 b2 k a m c d w) {g j : Nat} (h1 : g ≠ b1) (h2 : g ≠ b2) (h0 : w0.heap.size ≤ g) (u : Value) : Vis w0 b1 b2 k a m c d (w.setCell ⟨g, j, none⟩ u) :=
  ⟨(heap_setCell_other _ _ _ _ (fun e => h1 e.symm)).trans h.1, (heap_setCell_other _ _ _ _ (fun e => h2 e.symm)).trans h.2.1, h.2.2.setCell h0 _⟩
set_option maxRecDepth 100000 in
set_option maxHeartbeats 2000000 in
theorem cd_err (n k : Int) (a : Option Addr) (m c : Nat) (w : World) (h : ¬ ckE n k = 0) :
    Calls Try.prog 32 #[.int .i64 n, .int .i64 k, .slice a m c] w fun e w' => e = .returned (.int .i64 (ckE n k)) ∧ w' = w := by
  have HC := Lib.hid (check_42 n k w)
  obtain ⟨z, hz⟩ : ∃ z, ckE n k = z := ⟨_, rfl⟩
  rw [hz] at HC h ⊢
  clear hz
  have hb : (z != 0) = true := by simpa using h
  go_enter Try.func32, Try.ntmps32
  go_wp2_with fail
  refine HC.out.mono ?_
  rintro e w' ⟨rfl, hw⟩
  replace hw := hw.symm
  subst hw
  go_wp2
  go_ret
  exact ⟨rfl, rfl⟩
set_option maxRecDepth 100000 in
set_option maxHeartbeats 2000000 in
theorem cd_q (n k : Nat) (hk : k ≤ n) (hn : n ≤ 256) (a : Option Addr) (m c : Nat) (d : List Int) (w : World) (h : ZRow w a m c d) :
    Calls Try.prog 32 #[.int .i64 (n : Int), .int .i64 (k : Int), .slice a m c] w fun e w' => e = .returned (.int .i64 (rdE n k d)) ∧ New w w' := by
  have HC := Lib.hid (check_42 (n : Int) (k : Int) w)
  rw [show ckE (n : Int) (k : Int) = 0 from by unfold ckE; rw [if_neg (by omega), if_neg (by omega)]] at HC
  have HL := Lib.hid h.len_eq
  obtain ⟨j, hj⟩ : ∃ j, n - k = j := ⟨_, rfl⟩
  have hji : (n : Int) - (k : Int) = (j : Int) := by omega
  by_cases hm : m = j
  case neg =>
    have HF : Hid (rdE n k d = 2) := Lib.hid (by unfold rdE; rw [rdB_len (by rw [HL.out, hj]; exact hm)]; rfl)
    have hb : ((m : Int) != (j : Int)) = true := by simp; omega
    clear h
    go_enter Try.func32, Try.ntmps32
    go_wp2_with fail
    refine HC.out.mono ?_
    rintro e w' ⟨rfl, hw⟩
    replace hw := hw.symm
    subst hw
    go_wp2
    go_ret
    rw [HF.out]; exact ⟨rfl, New.refl _⟩
  subst hm
  have hb : ((m : Int) != (m : Int)) = false := by simp
  have HRD : Hid (rdB n k d = rkB (k : Int) d m) := Lib.hid (by unfold rdB; rw [HL.out, hj, decide_eq_true rfl]; rfl)
  have hbw := heap_alloc_new w (.cells #[.bool false] 4)
  obtain ⟨W1, hW1⟩ : ∃ z, w.alloc (.cells #[.bool false] 4) = z := ⟨_, rfl⟩
  have hn1 : New w W1 := hW1 ▸ (New.refl w).alloc _
  have hs1 : W1.heap.size = w.heap.size + 1 := by rw [← hW1]; simp
  rw [hW1] at hbw
  have HW1 := Lib.hid hW1
  have HA := Lib.hid (arr_q (k : Int) a m c W1)
  have HV : Hid (∀ w2, w2.heap[W1.heap.size]? = some (.cells #[.int .i64 (k : Int)] 3 (0, 0)) → w2.heap[W1.heap.size + 1]? = some (.cells #[.slice a m c] 22 (0, 0)) → New W1 w2 → Calls Try.prog 53 #[.func (Fn.func 52) #[] #[.pointer (some ⟨w.heap.size, 0, none⟩)], .pointer (some ⟨W1.heap.size + 1, 0, none⟩), .pointer (some ⟨W1.heap.size, 0, none⟩)] w2 fun e w' => e = .returned (.tuple #[]) ∧ w'.heap[w.heap.size]? = some (.cells #[.bool (!rkB (k : Int) d m)] 4 (0, 0)) ∧ New w w') := Lib.hid (fun w2 g1 g2 gn => by
    refine (arr1_q k m a c d (W1.heap.size + 1) W1.heap.size 52 #[.pointer (some ⟨w.heap.size, 0, none⟩)] (fun i w' => w'.heap[w.heap.size]? = some (.cells #[.bool (!rkB (k : Int) d i)] 4 (0, 0)) ∧ Vis w (W1.heap.size + 1) W1.heap.size (k : Int) a m c d w') w2 (by omega) (fun x y w => by kernel_rfl) ⟨(gn.block _ (lt_of_block hbw)).trans hbw, g2, g1, hn1.trans gn⟩ (fun i w' hI => ⟨hI.2.1, hI.2.2.1, h.stay hI.2.2.2⟩) (fun i w' hi hI => ?_)).mono (fun e w' hh => ⟨hh.1, hh.2.1, hh.2.2.2.2⟩)
    refine (cd1_q w.heap.size _ _ _ w' hI.1).mono ?_
    rintro e w3 ⟨rfl, rfl⟩
    refine ⟨rfl, ?_, hI.2.set (by omega) (by omega) (Nat.le_refl _) _⟩
    have h3 := heap_setCell_same w' w.heap.size 0 _ _ (.bool (!rkB (k : Int) d i || (decide (d.getD i 0 < 0) || decide (((k + i : Nat) : Int) < d.getD i 0)))) hI.1
    have he : (!rkB (k : Int) d (i + 1)) = (!rkB (k : Int) d i || (decide (d.getD i 0 < 0) || decide (((k + i : Nat) : Int) < d.getD i 0))) := by
      show (!(rkB (k : Int) d i && (decide (0 ≤ d.getD i 0) && decide (d.getD i 0 ≤ (k : Int) + (i : Int))))) = _
      rw [Bool.not_and, Bool.not_and]
      congr 1
      congr 1
      · rw [← decide_not]; exact decide_eq_decide.2 (by omega)
      · rw [← decide_not]; exact decide_eq_decide.2 (by omega)
    rw [he]
    exact h3)
  clear h hW1 hn1 hs1 hbw
  go_enter Try.func32, Try.ntmps32
  go_wp2_with fail
  refine HC.out.mono ?_
  rintro e w' ⟨rfl, hw⟩
  replace hw := hw.symm
  subst hw
  go_wp2_with fail
  rw [HW1.out]
  refine HA.out.mono ?_
  rintro e w2 ⟨rfl, g1, g2, gn⟩
  have HV2 := Lib.hid (HV.out w2 g1 g2 gn)
  clear g1 g2 gn HV HA
  have HRE : Hid (rdE n k d = if rkB (k : Int) d m then 0 else 2) := Lib.hid (by unfold rdE; rw [HRD.out])
  go_wp2_with fail
  refine HV2.out.mono ?_
  rintro e w3 ⟨rfl, hb3, hn3⟩
  have k0 := cell_of_row _ _ 0 _ _ _ hb3
  have HN3 := Lib.hid hn3
  clear hb3 hn3 HV2
  rcases hr : rkB (k : Int) d m with _ | _
  · rw [hr] at k0 HRE
    have HF : Hid (rdE n k d = 2) := Lib.hid (by rw [HRE.out]; rfl)
    clear hr HRE
    go_wp2
    go_ret
    rw [HF.out]; exact ⟨rfl, HN3.out⟩
  · rw [hr] at k0 HRE
    have HF : Hid (rdE n k d = 0) := Lib.hid (by rw [HRE.out]; rfl)
    clear hr HRE
    go_wp2
    go_ret
    rw [HF.out]; exact ⟨rfl, HN3.out⟩
end Go.Proofs.Ytajjpllhihgkdaa
