/- For all bytes: their sum, they with it, and what they are without it, as the document says: the walk of the statement SealSums; the chapter's example. -/
import Derived.Test.YthcolfmjjfjmiaaDoorSeaC
import Derived.Test.YthcolfmjjfjmiaaDoorSeaA
namespace Go.Proofs.YthcolfmjjfjmiaaDoor
open Go.RowKit Go.Bv
set_option linter.unusedVariables false
theorem bnone16 (w : World) : BRow w none 0 0 [] := ⟨rfl, Nat.le_refl _, by omega, by omega, fun _ => ⟨rfl, rfl⟩, (fun _ _ e => by cases e), (fun _ e => by cases e), (fun _ e => by cases e)⟩
set_option maxRecDepth 100000 in
set_option maxHeartbeats 1000000 in
theorem awake16 (w : World) (hE : EtD 5 36 83 w) : Calls Tryd.prog 6 #[] w fun e w' => e = .returned (.bool true) ∧ New w w' := by
  have HE := Lib.hid hE
  clear hE
  go_enter Tryd.func6, Tryd.ntmps6
  go_wp2_with fail
  refine (wrap_err 4 3 (by omega) _).mono ?_
  rintro e w9 ⟨rfl, rfl⟩
  go_wp2_with fail
  refine (errno_err 4 3 _ HE.out).mono ?_
  rintro e w9 ⟨rfl, hn⟩
  have HN := Lib.hid hn
  clear hn
  go_wp2_with fail
  refine (at_err 4 3 _ (HE.out.stay HN.out)).mono ?_
  rintro e w9 ⟨rfl, hn⟩
  replace HN := Lib.hid (HN.out.trans hn)
  clear hn
  go_wp2_with fail
  refine (seal_16 none 0 0 [] _ (bnone16 _) (by omega)).mono ?_
  rintro e w9 ⟨a', c', rfl, _, hn⟩
  replace HN := Lib.hid (HN.out.trans hn)
  clear hn
  go_wp2
  go_ret
  exact ⟨rfl, HN.out⟩
set_option maxRecDepth 100000 in
set_option maxHeartbeats 4000000 in
theorem SealSums_walk (W : World) (a0 : Option Addr) (n0 m0 : Nat) (z0 : List Int) (w0 : IRow .u8 W a0 n0 m0 z0) (r0 : m0 * 1 ≤ 140737488351232) (hE : EtD 5 36 83 W) :
    Calls Tryd.prog 3 #[.slice a0 n0 m0] W fun e w' => e = .returned (.bool true) ∧ Below W.heap.size W w' := by
  obtain ⟨l, hl⟩ := w0.bytes r0
  have HB := Lib.hid hl
  have hmo := hl.most
  clear w0 r0 hl
  have HA := Lib.hid (awake16 W hE)
  clear hE
  go_enter Tryd.func3, Tryd.ntmps3
  go_wp2_with fail
  refine HA.out.mono ?_
  rintro e w9 ⟨rfl, hn⟩
  have HN := Lib.hid hn
  clear hn HA
  by_cases hs : (3000 : Int) < (n0 : Int)
  · go_wp2
    go_ret
    exact ⟨rfl, HN.out⟩
  have HS4 : Hid (n0 + 4 ≤ 140737488355328) := Lib.hid (by omega)
  clear hmo
  by_cases hlt : n0 < 4
  · go_wp2_with fail
    refine (open_short _ n0 _ _ hlt).mono ?_
    rintro e w9 ⟨rfl, rfl⟩
    go_wp2_with fail
    refine (openr_short _ n0 _ _ hlt).mono ?_
    rintro e w9 ⟨rfl, rfl⟩
    go_wp2_with fail
    refine (sum_16 _ _ _ l _ (HB.out.stay HN.out)).mono ?_
    rintro e w9 ⟨rfl, hn⟩
    replace HN := Lib.hid (HN.out.trans hn)
    clear hn
    go_wp2_with fail
    refine (sum_ref16 _ _ _ l _ (HB.out.stay HN.out)).mono ?_
    rintro e w9 ⟨rfl, hn⟩
    replace HN := Lib.hid (HN.out.trans hn)
    clear hn
    go_wp2_with fail
    refine (seal_16 _ _ _ l _ (HB.out.stay HN.out) HS4.out).mono ?_
    rintro e w9 ⟨ra, rc, rfl, hr, hn⟩
    have HRA := Lib.hid hr
    clear hr
    replace HN := Lib.hid (HN.out.trans hn)
    clear hn
    go_wp2_with fail
    refine (seal_ref16 _ _ _ l _ (HB.out.stay HN.out) HS4.out).mono ?_
    rintro e w9 ⟨rb, rd', rfl, hr, hn⟩
    have HRB := Lib.hid hr
    replace HRA := Lib.hid (HRA.out.stay hn)
    clear hr
    replace HN := Lib.hid (HN.out.trans hn)
    clear hn
    have hbq : ∀ q : List (BitVec 8), (q == q) = true := fun q => beq_self_eq_true q
    go_wp2_with fail
    refine (same_any _ _ _ _ _ _ (seal16 l) (seal16 l) _ HRA.out HRB.out).mono ?_
    rintro e w9 ⟨rfl, rfl⟩
    rw [hbq]
    go_wp2_with fail
    refine (same_any _ _ _ _ _ _ [] [] _ (bnone16 _) (bnone16 _)).mono ?_
    rintro e w9 ⟨rfl, rfl⟩
    rw [hbq]
    go_wp2
    go_ret
    exact ⟨rfl, HN.out⟩
  obtain ⟨b, off, rfl, _⟩ := HB.out.addr (by omega)
  have hn4 : 4 ≤ n0 := by omega
  have HOR := Lib.hid (fun w' (hn : New W w') => openr_any b off n0 m0 l w' (HB.out.stay hn) hn4)
  cases hok : ok16 l
  · rw [hok] at HOR
    simp only [Bool.false_eq_true, if_false] at HOR
    go_wp2_with fail
    refine (open_no b off n0 m0 l _ (HB.out.stay HN.out) hn4 hok).mono ?_
    rintro e w9 ⟨rfl, hn⟩
    replace HN := Lib.hid (HN.out.trans hn)
    clear hn
    go_wp2_with fail
    refine (HOR.out _ HN.out).mono ?_
    rintro e w9 ⟨rfl, hn⟩
    replace HN := Lib.hid (HN.out.trans hn)
    clear hn
    go_wp2_with fail
    refine (sum_16 _ _ _ l _ (HB.out.stay HN.out)).mono ?_
    rintro e w9 ⟨rfl, hn⟩
    replace HN := Lib.hid (HN.out.trans hn)
    clear hn
    go_wp2_with fail
    refine (sum_ref16 _ _ _ l _ (HB.out.stay HN.out)).mono ?_
    rintro e w9 ⟨rfl, hn⟩
    replace HN := Lib.hid (HN.out.trans hn)
    clear hn
    go_wp2_with fail
    refine (seal_16 _ _ _ l _ (HB.out.stay HN.out) HS4.out).mono ?_
    rintro e w9 ⟨ra, rc, rfl, hr, hn⟩
    have HRA := Lib.hid hr
    clear hr
    replace HN := Lib.hid (HN.out.trans hn)
    clear hn
    go_wp2_with fail
    refine (seal_ref16 _ _ _ l _ (HB.out.stay HN.out) HS4.out).mono ?_
    rintro e w9 ⟨rb, rd', rfl, hr, hn⟩
    have HRB := Lib.hid hr
    replace HRA := Lib.hid (HRA.out.stay hn)
    clear hr
    replace HN := Lib.hid (HN.out.trans hn)
    clear hn
    have hbq : ∀ q : List (BitVec 8), (q == q) = true := fun q => beq_self_eq_true q
    go_wp2_with fail
    refine (same_any _ _ _ _ _ _ (seal16 l) (seal16 l) _ HRA.out HRB.out).mono ?_
    rintro e w9 ⟨rfl, rfl⟩
    rw [hbq]
    go_wp2_with fail
    refine (same_any _ _ _ _ _ _ [] [] _ (bnone16 _) (bnone16 _)).mono ?_
    rintro e w9 ⟨rfl, rfl⟩
    rw [hbq]
    go_wp2
    go_ret
    exact ⟨rfl, HN.out⟩
  · rw [hok] at HOR
    simp only [if_true] at HOR
    go_wp2_with fail
    refine (open_yes b off n0 m0 l _ (HB.out.stay HN.out) hn4 hok).mono ?_
    rintro e w9 ⟨ia, ic, rfl, hri, hn⟩
    have HI := Lib.hid hri
    clear hri
    replace HN := Lib.hid (HN.out.trans hn)
    clear hn
    go_wp2_with fail
    refine (HOR.out _ HN.out).mono ?_
    rintro e w9 ⟨rfl, hn⟩
    replace HI := Lib.hid (HI.out.stay hn)
    replace HN := Lib.hid (HN.out.trans hn)
    clear hn
    go_wp2_with fail
    refine (sum_16 _ _ _ l _ (HB.out.stay HN.out)).mono ?_
    rintro e w9 ⟨rfl, hn⟩
    replace HI := Lib.hid (HI.out.stay hn)
    replace HN := Lib.hid (HN.out.trans hn)
    clear hn
    go_wp2_with fail
    refine (sum_ref16 _ _ _ l _ (HB.out.stay HN.out)).mono ?_
    rintro e w9 ⟨rfl, hn⟩
    replace HI := Lib.hid (HI.out.stay hn)
    replace HN := Lib.hid (HN.out.trans hn)
    clear hn
    go_wp2_with fail
    refine (seal_16 _ _ _ l _ (HB.out.stay HN.out) HS4.out).mono ?_
    rintro e w9 ⟨ra, rc, rfl, hr, hn⟩
    have HRA := Lib.hid hr
    clear hr
    replace HI := Lib.hid (HI.out.stay hn)
    replace HN := Lib.hid (HN.out.trans hn)
    clear hn
    go_wp2_with fail
    refine (seal_ref16 _ _ _ l _ (HB.out.stay HN.out) HS4.out).mono ?_
    rintro e w9 ⟨rb, rd', rfl, hr, hn⟩
    have HRB := Lib.hid hr
    replace HRA := Lib.hid (HRA.out.stay hn)
    clear hr
    replace HI := Lib.hid (HI.out.stay hn)
    replace HN := Lib.hid (HN.out.trans hn)
    clear hn
    have hbq : ∀ q : List (BitVec 8), (q == q) = true := fun q => beq_self_eq_true q
    go_wp2_with fail
    refine (same_any _ _ _ _ _ _ (seal16 l) (seal16 l) _ HRA.out HRB.out).mono ?_
    rintro e w9 ⟨rfl, rfl⟩
    rw [hbq]
    go_wp2_with fail
    refine (same_any _ _ _ _ _ _ (l.take (n0 - 4)) (l.take (n0 - 4)) _ HI.out (row_front (HB.out.stay HN.out) (by omega))).mono ?_
    rintro e w9 ⟨rfl, rfl⟩
    rw [hbq]
    go_wp2
    go_ret
    exact ⟨rfl, HN.out⟩
end Go.Proofs.YthcolfmjjfjmiaaDoor
