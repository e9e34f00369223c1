/- Layer 22: equal rows. -/
import Derived.Test.YtadkbpdbbgjkgaaTabC
namespace Go.Proofs.Ytadkbpdbbgjkgaa
open Go Go.RowKit Go.Bv
set_option linter.unusedVariables false
set_option maxRecDepth 100000
theorem eq_to {la lb : List Int} (hl : la.length = lb.length) (h : ∀ i, i < la.length → la.getD i 0 = lb.getD i 0) : (la == lb) = true := by
  rw [beq_iff_eq]
  refine List.ext_getElem hl fun i h1 h2 => ?_
  have := h i h1
  rw [List.getD_eq_getElem?_getD, List.getD_eq_getElem?_getD, List.getElem?_eq_getElem h1, List.getElem?_eq_getElem h2] at this
  exact this
theorem ne_at {la lb : List Int} {i : Nat} (h : la.getD i 0 ≠ lb.getD i 0) : (la == lb) = false := by
  rw [beq_eq_false_iff_ne]; intro e; rw [e] at h; exact h rfl
set_option maxHeartbeats 4000000 in
theorem equal_any (a b : Option Addr) (m ca cb : Nat) (la lb : List Int) (w : World) (ha : ZRow w a m ca la) (hb : ZRow w b m cb lb) :
    Calls Try.prog 57 #[.slice a m ca, .slice b m cb] w fun e w' => e = .returned (.bool (la == lb)) ∧ New w w' := by
  have hla := ha.len_eq
  have hlb := hb.len_eq
  have hmost := ha.most
  have HA := Lib.hid ha
  have HB := Lib.hid hb
  clear ha hb
  go_enter Try.func57, Try.ntmps57
  go_wp2
  go_loopw [9] (fun iv wr => ∃ k : Nat, k ≤ m ∧ iv = .int .i64 (k : Int) ∧ New w wr ∧ Hid (∀ j, j < k → la.getD j 0 = lb.getD j 0)) (fun iv _ => m - (intOf iv).toNat)
  case atStart => exact ⟨0, Nat.zero_le _, rfl, by first | exact New.refl _ | exact (New.refl _).drew, Lib.hid (fun j hj => absurd hj (by omega))⟩
  case round =>
    obtain ⟨k, hk, rfl, hnew, HE⟩ := hrel
    by_cases hlt : (k : Int) < (m : Int)
    · have hk0 : (0 : Int) ≤ (k : Int) := by omega
      obtain ⟨p1, o1, rfl, d1⟩ := (HA.out.stay hnew).addr (by omega)
      obtain ⟨p2, o2, rfl, d2⟩ := (HB.out.stay hnew).addr (by omega)
      replace d1 := d1 k (by omega)
      replace d2 := d2 k (by omega)
      have HN := Lib.hid hnew
      obtain ⟨x, hx⟩ : ∃ x, la.getD k 0 = x := ⟨_, rfl⟩
      obtain ⟨y, hy⟩ : ∃ y, lb.getD k 0 = y := ⟨_, rfl⟩
      rw [hx] at d1
      rw [hy] at d2
      have HX := Lib.hid hx
      have HY := Lib.hid hy
      clear hx hy hnew
      by_cases hxy : x = y
      · subst hxy
        have hb : (x != x) = false := by simp
        have HE2 : Hid (∀ j, j < k + 1 → la.getD j 0 = lb.getD j 0) := Lib.hid (fun j hj => by
          by_cases e : j = k
          · subst e; rw [HX.out, HY.out]
          · exact HE.out j (by omega))
        go_wp2
        exact ⟨⟨k + 1, by omega, by go_num, HN.out, HE2⟩, by simp [intOf]; omega⟩
      · have hb : (x != y) = true := by rw [bne_iff_ne]; exact hxy
        have HF := Lib.hid (ne_at (la := la) (lb := lb) (i := k) (by rw [HX.out, HY.out]; exact hxy))
        go_wp2
        go_ret
        rw [HF.out]
        exact ⟨rfl, HN.out⟩
    · obtain rfl : k = m := by omega
      have HF := Lib.hid (eq_to (by omega) (fun j hj => HE.out j (by omega)) : (la == lb) = true)
      go_wp2
      go_ret
      rw [HF.out]
      exact ⟨rfl, hnew⟩
end Go.Proofs.Ytadkbpdbbgjkgaa
