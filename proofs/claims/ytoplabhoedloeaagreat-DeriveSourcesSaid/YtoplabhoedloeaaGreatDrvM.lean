/- Layer 45: the mathematics of labels and paths. -/
import Derived.Test.YtoplabhoedloeaaGreatBv
import Derived.Lib.IndexMore
namespace Go.Drv
set_option linter.unusedVariables false
/-- bytes of a label -/
def isLb (b : UInt8) : Bool := (97 ≤ b.toNat && b.toNat ≤ 122) || (48 ≤ b.toNat && b.toNat ≤ 57) || b.toNat == 45 || b.toNat == 95
/-- what is wrong with a label -/
def labE (l : List UInt8) : Int := if l.length = 0 then 3 else if 64 < l.length then 4 else if l.all isLb then 0 else 5
/-- the parts of a text between separators -/
def spl : List UInt8 → List (List UInt8)
  | [] => [[]]
  | b :: t => if b = 47 then [] :: spl t else match spl t with
    | [] => [[b]]
    | h :: tl => (b :: h) :: tl
theorem spl_ne : ∀ l, spl l ≠ []
  | [] => by unfold spl; simp
  | b :: t => by
    unfold spl
    by_cases e : b = 47
    · rw [if_pos e]; simp
    · rw [if_neg e]
      cases h : spl t with
      | nil => simp
      | cons x y => simp
def pts (l : List UInt8) : List (List UInt8) := if l = [] then [] else spl l
theorem spl_app (m : List UInt8) : ∀ l, spl (l ++ 47 :: m) = spl l ++ spl m
  | [] => by
    show (if (47 : UInt8) = 47 then [] :: spl m else _) = _
    rw [if_pos rfl]; rfl
  | b :: t => by
    show spl (b :: (t ++ 47 :: m)) = spl (b :: t) ++ spl m
    rw [spl, spl, spl_app m t]
    by_cases e : b = 47
    · rw [if_pos e, if_pos e]; rfl
    · rw [if_neg e, if_neg e]
      cases h : spl t with
      | nil => exact absurd h (spl_ne t)
      | cons x y => rfl
/-- one byte more -/
theorem spl_snoc (b : UInt8) (hb : b ≠ 47) : ∀ l : List UInt8, ∀ out s, spl l = out ++ [s] → spl (l ++ [b]) = out ++ [s ++ [b]]
  | [], out, s, h => by
    have h : [[]] = out ++ [s] := h
    have ho : out = [] := by
      cases out with
      | nil => rfl
      | cons x y => simp at h
    subst ho
    have hs : s = [] := by simpa using h.symm
    subst hs
    show spl [b] = _
    rw [spl, if_neg hb]
    rfl
  | c :: t, out, s, h => by
    show spl (c :: (t ++ [b])) = _
    rw [spl] at h ⊢
    by_cases e : c = 47
    · rw [if_pos e] at h ⊢
      cases out with
      | nil => 
        have : spl t = [] := by simpa using (List.cons.inj h).2
        exact absurd this (spl_ne t)
      | cons x y =>
        rw [List.cons_append] at h ⊢
        obtain ⟨h1, h2⟩ := List.cons.inj h
        rw [spl_snoc b hb t y s h2, h1]
    · rw [if_neg e] at h ⊢
      cases hs : spl t with
      | nil => exact absurd hs (spl_ne t)
      | cons x y =>
        rw [hs] at h
        have h : (c :: x) :: y = out ++ [s] := h
        cases out with
        | nil =>
          have h : (c :: x) :: y = [s] := h
          obtain ⟨h1, h2⟩ := List.cons.inj h
          subst h2
          rw [spl_snoc b hb t [] x (by rw [hs]; rfl)]
          rw [← h1]; rfl
        | cons o y' =>
          rw [List.cons_append] at h
          obtain ⟨h1, h2⟩ := List.cons.inj h
          rw [spl_snoc b hb t (x :: y') s (by rw [hs, h2]; rfl)]
          show (c :: x) :: (y' ++ [s ++ [b]]) = _
          rw [h1]; rfl
theorem spl_sep (l : List UInt8) : spl (l ++ [47]) = spl l ++ [[]] := spl_app [] l
/-- what Cut tells of a text -/
theorem idx_cons (b : UInt8) (l : List UInt8) : Lib.index (b :: l) [47] = if b = 47 then 0 else if Lib.index l [47] = -1 then -1 else Lib.index l [47] + 1 := by
  rw [Lib.index]
  by_cases e : b = 47
  · subst e
    rw [if_pos rfl]
    simp [List.isPrefixOf]
  · rw [if_neg e]
    have : ([47] : List UInt8).isPrefixOf (b :: l) = false := by
      simp only [List.isPrefixOf, Bool.and_true, beq_eq_false_iff_ne]
      exact fun h => e h.symm
    rw [this]
    simp only [Bool.false_eq_true, if_false, beq_iff_eq]
theorem cut_spl : ∀ l : List UInt8, spl l = (Lib.cut l [47]).1 :: (if (Lib.cut l [47]).2.2 then spl (Lib.cut l [47]).2.1 else [])
  | [] => by
    have : Lib.index [] [47] = -1 := rfl
    unfold Lib.cut
    rw [this]
    rfl
  | b :: t => by
    have ih := cut_spl t
    have hge := Lib.index_ge t [47]
    have hi := idx_cons b t
    rw [spl]
    unfold Lib.cut at ih ⊢
    by_cases e : b = 47
    · rw [if_pos e] at hi ⊢
      rw [hi]
      simp
    · rw [if_neg e] at hi ⊢
      by_cases e2 : Lib.index t [47] = -1
      · rw [if_pos e2] at hi
        rw [e2] at ih
        rw [hi]
        rw [if_neg (by omega)] at ih ⊢
        rw [ih]
        try rfl
      · rw [if_neg e2] at hi
        rw [if_pos (by omega)] at ih
        rw [hi, if_pos (by omega), ih]
        obtain ⟨n, hn⟩ : ∃ n : Nat, Lib.index t [47] = (n : Int) := ⟨(Lib.index t [47]).toNat, by omega⟩
        rw [hn]
        have h1 : ((n : Int) + 1).toNat = n + 1 := by omega
        have h2 : (n : Int).toNat = n := by omega
        simp only [h1, h2, if_true, List.take_succ_cons]
        have h3 : n + 1 + ([47] : List UInt8).length = (n + ([47] : List UInt8).length) + 1 := by simp
        rw [h3, List.drop_succ_cons]
theorem cut_short {l : List UInt8} (h : (Lib.cut l [47]).2.2 = true) : (Lib.cut l [47]).2.1.length < l.length := by
  unfold Lib.cut at h ⊢
  by_cases e : 0 ≤ Lib.index l [47]
  · rw [if_pos e] at h ⊢
    simp only [List.length_drop, List.length_cons, List.length_nil]
    cases l with
    | nil => exact absurd e (by decide)
    | cons x y => simp; omega
  · rw [if_neg e] at h; cases h
/-- the first thing that is wrong with parts -/
def fstE : List (List UInt8) → Int
  | [] => 0
  | x :: t => if labE x = 0 then fstE t else labE x
def ptE (ps : List (List UInt8)) : Int := if fstE ps ≠ 0 then fstE ps else if 16 < ps.length then 9 else 0
theorem fst_app : ∀ (a b : List (List UInt8)), fstE (a ++ b) = if fstE a = 0 then fstE b else fstE a
  | [], b => by show fstE b = if (0 : Int) = 0 then fstE b else 0; rw [if_pos rfl]
  | x :: t, b => by
    show (if labE x = 0 then fstE (t ++ b) else labE x) = _
    rw [fst_app t b]
    show _ = if (if labE x = 0 then fstE t else labE x) = 0 then fstE b else (if labE x = 0 then fstE t else labE x)
    by_cases e : labE x = 0
    · rw [if_pos e, if_pos e]
    · rw [if_neg e, if_neg e, if_neg e]
theorem pts_join {a b : List UInt8} (ha : a ≠ []) (hb : b ≠ []) : pts (a ++ 47 :: b) = pts a ++ pts b := by
  unfold pts
  rw [if_neg (by simp), if_neg ha, if_neg hb, spl_app]
end Go.Drv
