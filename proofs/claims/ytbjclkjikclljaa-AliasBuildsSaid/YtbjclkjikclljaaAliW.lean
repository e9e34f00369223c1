/- Layer 43: the mathematics of weights: in the table that is made of weights, each item is told by n times its weight. -/
import Derived.Test.YtbjclkjikclljaaAliP
namespace Go.Ali
set_option linter.unusedVariables false
/-- what a filled column counts for an item -/
def ctN (T : Nat) (s : St) (j c : Nat) : Nat := if s.fl c then (if c = j then (s.be c).toNat else 0) + (if s.al c = j then T - (s.be c).toNat else 0) else 0
/-- what holds while a table is made -/
structure Inv (n : Nat) (T : BitVec 64) (w : Nat → BitVec 64) (s : St) : Prop where
  bal : Bal n T s
  op : ∀ i, i < n → s.fl i = false → s.be i = T ∧ s.al i = i
  lo : ∀ i, i < n → (s.be i).toNat ≤ T.toNat
  al : ∀ i, i < n → s.al i < n
  wt : ∀ j, j < n → sm (ctN T.toNat s j) n + opn s j = n * (w j).toNat
theorem sm_zero : ∀ n, sm (fun _ => 0) n = 0
  | 0 => rfl
  | n + 1 => by show sm _ n + 0 = 0; rw [sm_zero n]
theorem inv_start {n : Nat} {T : BitVec 64} {w : Nat → BitVec 64} (hn : n ≤ 256) (hw : ∀ i, i < n → (w i).toNat ≤ 4294967296) (hT : T.toNat = sm (fun i => (w i).toNat) n) : Inv n T w (st0 n T w) := by
  refine ⟨bal_start hn hw hT, fun i _ _ => ⟨rfl, rfl⟩, fun i _ => Nat.le_refl _, fun i hi => hi, fun j hj => ?_⟩
  have e : sm (ctN T.toNat (st0 n T w) j) n = 0 := by
    rw [sm_congr (g := fun _ => 0) (fun i _ => by unfold ctN st0; simp), sm_zero]
  rw [e]
  unfold opn st0
  simp only [Bool.false_eq_true, if_false]
  rw [BitVec.toNat_mul, BitVec.toNat_ofNat, Nat.mod_eq_of_lt (show n < 2 ^ 64 by omega)]
  have h1 := hw j hj
  have h2 : n * (w j).toNat ≤ 256 * 4294967296 := Nat.mul_le_mul hn h1
  rw [Nat.mod_eq_of_lt (by omega)]; omega
theorem inv_put {n : Nat} {T : BitVec 64} {w : Nat → BitVec 64} {s : St} (h : Inv n T w s) {j g : Nat} (hj : fnd (ls T s) n = some j) (hg : fnd (mo T s) n = some g) : Inv n T w (put T s j g) := by
  obtain ⟨f1, f2, l1, l2, hne, c1, c2, c3⟩ := put_has hj hg
  refine ⟨bal_put h.bal hj hg, fun i hi hf => ?_, fun i hi => ?_, fun i hi => ?_, fun x hx => ?_⟩
  · have hf : upd s.fl j true i = false := hf
    have e : i ≠ j := fun e => by rw [e, upd_same] at hf; cases hf
    rw [upd_other _ _ e] at hf
    show upd s.be j _ i = T ∧ upd s.al j g i = i
    rw [upd_other _ _ e, upd_other _ _ e]
    exact h.op i hi hf
  · show (upd s.be j _ i).toNat ≤ _
    by_cases e : i = j
    · rw [e, upd_same]; omega
    · rw [upd_other _ _ e]; exact h.lo i hi
  · show upd s.al j g i < n
    by_cases e : i = j
    · rw [e, upd_same]; exact l2
    · rw [upd_other _ _ e]; exact h.al i hi
  · have hw := h.wt x hx
    have e1 : ∀ i, i < n → ctN T.toNat (put T s j g) x i = upd (ctN T.toNat s x) j ((if j = x then (s.has j).toNat else 0) + (if g = x then T.toNat - (s.has j).toNat else 0)) i := by
      intro i hi
      unfold ctN put
      simp only
      by_cases e : i = j
      · subst e; rw [upd_same, upd_same, upd_same, upd_same]; rfl
      · rw [upd_other _ _ e, upd_other _ _ e, upd_other _ _ e, upd_other _ _ e]
    rw [sm_congr e1]
    have s1 := sm_upd (ctN T.toNat s x) j ((if j = x then (s.has j).toNat else 0) + (if g = x then T.toNat - (s.has j).toNat else 0)) n l1
    have z0 : ctN T.toNat s x j = 0 := by unfold ctN; rw [f1]; rfl
    rw [z0] at s1
    have o1 : opn s x = if s.fl x then 0 else (s.has x).toNat := rfl
    have o2 : opn (put T s j g) x = if upd s.fl j true x then 0 else (upd s.has g (s.has g - (T - s.has j)) x).toNat := rfl
    rw [o2]
    rw [o1] at hw
    by_cases e : x = j
    · subst e
      rw [f1] at hw
      rw [upd_same]
      rw [if_pos rfl, if_neg (Ne.symm hne)] at s1 ⊢
      simp only [Bool.false_eq_true, if_false] at hw
      simp only [if_pos]
      omega
    · rw [upd_other _ _ e]
      rw [if_neg (Ne.symm e)] at s1 ⊢
      by_cases e2 : x = g
      · subst e2
        rw [upd_same, f2, c3]
        rw [f2] at hw
        rw [if_pos rfl] at s1 ⊢
        simp only [Bool.false_eq_true, if_false] at hw ⊢
        omega
      · rw [upd_other _ _ e2]
        rw [if_neg (Ne.symm e2)] at s1 ⊢
        omega
theorem inv_run {n : Nat} {T : BitVec 64} {w : Nat → BitVec 64} : ∀ (m : Nat) {s : St}, Inv n T w s → Inv n T w (run n T m s)
  | 0, s, h => h
  | m + 1, s, h => by
    cases hl : fnd (ls T s) n with
    | none => rw [run_none (stp_no hl)]; exact h
    | some j =>
      obtain ⟨g, hg⟩ := bal_more h.bal hl
      rw [run_some (stp_yes hl hg)]
      exact inv_run m (inv_put h hl hg)
theorem unf_none {fl : Nat → Bool} : ∀ {n : Nat}, unf fl n = 0 → ∀ i, i < n → fl i = true
  | 0, _, i, hi => absurd hi (by omega)
  | n + 1, h, i, hi => by
    have h : unf fl n + (if fl n then 0 else 1) = 0 := h
    by_cases e : i = n
    · subst e
      cases hf : fl i with
      | true => rfl
      | false => rw [hf] at h; simp at h
    · exact unf_none (n := n) (by omega) i (by omega)
theorem run_stops {n : Nat} {T : BitVec 64} {w : Nat → BitVec 64} : ∀ (m : Nat) {s : St}, Inv n T w s → unf s.fl n ≤ m → fnd (ls T (run n T m s)) n = none
  | 0, s, h, hu => fnd_none.2 fun i hi => by
      have := unf_none (fl := s.fl) (by omega) i hi
      show (!s.fl i && _) = false
      rw [this]; rfl
  | m + 1, s, h, hu => by
    cases hl : fnd (ls T s) n with
    | none => rw [run_none (stp_no hl)]; exact hl
    | some j =>
      obtain ⟨g, hg⟩ := bal_more h.bal hl
      rw [run_some (stp_yes hl hg)]
      obtain ⟨f1, f2, l1, l2, hne, c1, c2, c3⟩ := put_has hl hg
      have u := unf_put s.fl j f1 n l1
      have hfl : (put T s j g).fl = upd s.fl j true := rfl
      exact run_stops m (inv_put h hl hg) (by rw [hfl]; omega)
/-- what is left open has just what a column holds -/
theorem left_even {n : Nat} {T : BitVec 64} {w : Nat → BitVec 64} {s : St} (h : Inv n T w s) (hs : fnd (ls T s) n = none) : ∀ i, i < n → s.fl i = false → (s.has i).toNat = T.toNat := by
  have hno := fnd_none.1 hs
  have hge : ∀ i, i < n → s.fl i = false → T.toNat ≤ (s.has i).toNat := by
    intro i hi hf
    have := hno i hi
    simp only [ls, hf, Bool.not_false, Bool.true_and, decide_eq_false_iff_not] at this
    omega
  have hb := h.bal
  unfold Bal at hb
  intro i0 hi0 hf0
  have key : ∀ m, m ≤ n → T.toNat * unf s.fl m + (if i0 < m then (s.has i0).toNat - T.toNat else 0) ≤ sm (opn s) m := by
    intro m
    induction m with
    | zero => intro _; rw [if_neg (by omega)]; exact Nat.zero_le _
    | succ m ih =>
      intro hm
      have ih := ih (by omega)
      show T.toNat * (unf s.fl m + _) + _ ≤ sm (opn s) m + (if s.fl m then 0 else (s.has m).toNat)
      rw [Nat.mul_add]
      cases hf : s.fl m with
      | true =>
        have e : i0 ≠ m := fun e => by rw [e, hf] at hf0; cases hf0
        simp only [if_pos]
        by_cases e2 : i0 < m
        · rw [if_pos e2] at ih; rw [if_pos (show i0 < m + 1 by omega)]; simpa using ih
        · rw [if_neg e2] at ih; rw [if_neg (show ¬ i0 < m + 1 by omega)]; simpa using ih
      | false =>
        have hg := hge m (by omega) hf
        simp only [Bool.false_eq_true, if_false, Nat.mul_one]
        by_cases e : i0 = m
        · subst e
          rw [if_neg (by omega)] at ih
          rw [if_pos (by omega)]; omega
        · by_cases e2 : i0 < m
          · rw [if_pos e2] at ih; rw [if_pos (show i0 < m + 1 by omega)]; omega
          · rw [if_neg e2] at ih; rw [if_neg (show ¬ i0 < m + 1 by omega)]; omega
  have := key n (Nat.le_refl _)
  rw [if_pos hi0] at this
  have := hge i0 hi0 hf0
  omega
theorem getD_map {α : Type} (f : Nat → α) (n i : Nat) (d : α) (h : i < n) : ((List.range n).map f).getD i d = f i := by
  rw [List.getD_eq_getElem?_getD, List.getElem?_map, List.getElem?_range h]; rfl
/-- a table's columns as lists -/
def beL (n : Nat) (s : St) : List (BitVec 64) := (List.range n).map s.be
def alL (n : Nat) (s : St) : List Int := (List.range n).map fun i => ((s.al i : Nat) : Int)
theorem wn_sum {T n : Nat} {be : List (BitVec 64)} {al : List Int} {j : Int} : ∀ k, wnN T be al j k = sm (fun c => ptN be al j c T) k
  | 0 => rfl
  | k + 1 => by show wnN T be al j k + _ = sm _ k + _; rw [wn_sum k (n := n)]
theorem sm_add (f g : Nat → Nat) : ∀ n, sm (fun i => f i + g i) n = sm f n + sm g n
  | 0 => rfl
  | n + 1 => by show sm _ n + (f n + g n) = (sm f n + f n) + (sm g n + g n); rw [sm_add f g n]; omega
theorem sm_one (j v : Nat) : ∀ n, sm (fun i => if i = j then v else 0) n = if j < n then v else 0
  | 0 => rfl
  | n + 1 => by
    show sm _ n + (if n = j then v else 0) = _
    rw [sm_one j v n]
    by_cases e : n = j
    · subst e; rw [if_neg (by omega), if_pos rfl, if_pos (by omega), Nat.zero_add]
    · rw [if_neg e]
      by_cases e2 : j < n
      · rw [if_pos e2, if_pos (by omega), Nat.add_zero]
      · rw [if_neg e2, if_neg (by omega)]
/-- each item is told by n times its weight -/
theorem wn_of_inv {n : Nat} {T : BitVec 64} {w : Nat → BitVec 64} {s : St} (h : Inv n T w s) (hs : fnd (ls T s) n = none) {j : Nat} (hj : j < n) : wnN T.toNat (beL n s) (alL n s) (j : Int) n = n * (w j).toNat := by
  rw [wn_sum (n := n), ← h.wt j hj]
  have e : ∀ c, c < n → ptN (beL n s) (alL n s) (j : Int) c T.toNat = ctN T.toNat s j c + (if c = j then opn s j else 0) := by
    intro c hc
    unfold ptN beL alL
    rw [getD_map _ _ _ _ hc, getD_map _ _ _ _ hc]
    have hlo := h.lo c hc
    rw [Nat.min_eq_right hlo]
    have q1 : ((c : Int) = (j : Int)) = (c = j) := by apply propext; omega
    have q2 : (((s.al c : Nat) : Int) = (j : Int)) = (s.al c = j) := by apply propext; omega
    simp only [q1, q2]
    unfold ctN
    cases hf : s.fl c with
    | true =>
      simp only [if_pos]
      by_cases e : c = j
      · subst e; unfold opn; rw [hf]; simp
      · rw [if_neg e, if_neg e]; rfl
    | false =>
      obtain ⟨o1, o2⟩ := h.op c hc hf
      have o3 := left_even h hs c hc hf
      rw [o1, o2]
      simp only [Bool.false_eq_true, if_false]
      by_cases e : c = j
      · subst e; unfold opn; rw [hf]; simp; exact o3.symm
      · rw [if_neg e, if_neg e, if_neg e]
  rw [sm_congr e, sm_add, sm_one, if_pos hj]
end Go.Ali
namespace Go.Proofs.Ytbjclkjikclljaa
open Go Go.Ali
set_option linter.unusedVariables false
theorem we_good {l : List (BitVec 64)} (h : wE l = 0) : 1 ≤ l.length ∧ l.length ≤ 256 ∧ (∀ i, i < l.length → (l.getD i 0).toNat ≤ 4294967296) ∧ 0 < (tot l l.length).toNat := by
  by_cases h1 : l.length < 1 ∨ 256 < l.length
  · rw [we_len h1] at h; cases h
  have h2 : ∀ i, i < l.length → (l.getD i 0).toNat ≤ 4294967296 := by
    intro i hi
    by_cases e : 4294967296 < (l.getD i 0).toNat
    · rw [we_big h1 hi e] at h; cases h
    · omega
  refine ⟨by omega, by omega, h2, ?_⟩
  have h3 := tot_zero h1 h2
  rcases hb : (tot l l.length == 0#64) with _ | _
  · rw [beq_eq_false_iff_ne] at hb
    rcases Nat.eq_zero_or_pos (tot l l.length).toNat with e | e
    · exact absurd (BitVec.eq_of_toNat_eq e) hb
    · exact e
  · rw [hb] at h3
    rw [we_zero h1 h2 (fun i hi => by simpa using List.all_eq_true.1 h3.symm i (List.mem_range.2 hi))] at h
    cases h
theorem cols_good {l : List (BitVec 64)} (h : wE l = 0) : (tot l l.length).toNat ≤ 1099511627776 ∧ Inv l.length (tot l l.length) (fun i => l.getD i 0) (cols l) ∧ fnd (ls (tot l l.length) (cols l)) l.length = none := by
  obtain ⟨h1, h2, h3, h4⟩ := we_good h
  have ht := tot_nat (l := l) (k := l.length) h2 h3
  have hs := sm_le (f := fun i => (l.getD i 0).toNat) (b := 4294967296) (n := l.length) h3
  have hm : l.length * 4294967296 ≤ 256 * 4294967296 := Nat.mul_le_mul h2 (Nat.le_refl _)
  have hi := inv_start (T := tot l l.length) (w := fun i => l.getD i 0) h2 h3 ht
  refine ⟨by omega, inv_run _ hi, run_stops _ hi ?_⟩
  show unf (fun _ => false) l.length ≤ _
  rw [unf_all]; exact Nat.le_refl _
theorem beL_len (n : Nat) (s : St) : (beL n s).length = n := by unfold beL; rw [List.length_map, List.length_range]
theorem alL_len (n : Nat) (s : St) : (alL n s).length = n := by unfold alL; rw [List.length_map, List.length_range]
theorem te_cols {l : List (BitVec 64)} (h : wE l = 0) : tE (tot l l.length) (beL l.length (cols l)) (alL l.length (cols l)) = 0 := by
  obtain ⟨h1, h2, h3, h4⟩ := we_good h
  obtain ⟨h5, hi, hs⟩ := cols_good h
  refine te_ok ?_ (by omega) (by omega) (fun i hil => ?_) (fun i hil => ?_)
  · rw [beL_len, alL_len]; omega
  · rw [beL_len] at hil
    have := hi.lo i hil
    unfold beL
    rw [getD_map _ _ _ _ hil]; omega
  · rw [beL_len] at hil ⊢
    have := hi.al i hil
    unfold alL
    rw [getD_map _ _ _ _ hil]; omega
/-- how many pairs tell an item, as words -/
theorem wt_cols {l : List (BitVec 64)} (h : wE l = 0) {j : Nat} (hj : j < l.length) : wtV (tot l l.length) (beL l.length (cols l)) (alL l.length (cols l)) (j : Int) = BitVec.ofNat 64 l.length * l.getD j 0 ∧ rwK (tot l l.length) (beL l.length (cols l)) (alL l.length (cols l)) (j : Int) l.length = BitVec.ofNat 64 l.length * l.getD j 0 ∧ (BitVec.ofNat 64 l.length * l.getD j 0).toNat = l.length * (l.getD j 0).toNat := by
  obtain ⟨h1, h2, h3, h4⟩ := we_good h
  obtain ⟨h5, hi, hs⟩ := cols_good h
  have hte := te_cols h
  have hb : ∀ i, i < l.length → ((beL l.length (cols l)).getD i 0).toNat ≤ (tot l l.length).toNat := fun i hil => by
    unfold beL
    rw [getD_map _ _ _ _ hil]
    exact hi.lo i hil
  have hn := rw_nat (T := tot l l.length) (be := beL l.length (cols l)) (al := alL l.length (cols l)) (j := (j : Int)) h5 h2 hb
  rw [wn_of_inv hi hs hj] at hn
  have hw := h3 j hj
  have hm : l.length * (l.getD j 0).toNat ≤ 256 * 4294967296 := Nat.mul_le_mul h2 hw
  have hp : (BitVec.ofNat 64 l.length * l.getD j 0).toNat = l.length * (l.getD j 0).toNat := by
    rw [BitVec.toNat_mul, BitVec.toNat_ofNat, Nat.mod_eq_of_lt (show l.length < 2 ^ 64 by omega), Nat.mod_eq_of_lt (by omega)]
  have hr : rwK (tot l l.length) (beL l.length (cols l)) (alL l.length (cols l)) (j : Int) l.length = BitVec.ofNat 64 l.length * l.getD j 0 := BitVec.eq_of_toNat_eq (by rw [hn, hp])
  refine ⟨?_, hr, hp⟩
  rw [wt_ok (je_ok hte (by rw [beL_len]; omega)), beL_len, bf_weight (Int.le_refl _) hb, hr]
/-- the sum of what all items are told by -/
def totn (l : List (BitVec 64)) : Nat → BitVec 64
  | 0 => 0#64
  | k + 1 => totn l k + BitVec.ofNat 64 l.length * l.getD k 0
theorem totn_is (l : List (BitVec 64)) : ∀ k, totn l k = BitVec.ofNat 64 l.length * tot l k
  | 0 => by show 0#64 = _ * 0#64; rw [BitVec.mul_zero]
  | k + 1 => by show totn l k + _ = _ * (tot l k + l.getD k 0); rw [totn_is l k, BitVec.mul_add]
end Go.Proofs.Ytbjclkjikclljaa
