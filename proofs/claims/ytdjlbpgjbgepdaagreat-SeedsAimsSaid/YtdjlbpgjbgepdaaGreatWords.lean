/- Contract of the document's own Words: whether two lists of words are alike. -/
import Derived.Test.YtdjlbpgjbgepdaaGreatProg
import Derived.Test.YtdjlbpgjbgepdaaGreatRowQ
import Derived.Deep.QuietTactic
import Derived.BigQuiet
namespace Go.Proofs.YtdjlbpgjbgepdaaGreat
open Go.RowKit Go.Bv
set_option linter.unusedVariables false
theorem words_eq {la lb : List (BitVec 64)} {n : Nat} (ha : la.length = n) (hb : lb.length = n) (h : ∀ j, j < n → la.getD j 0 = lb.getD j 0) : la = lb := by
  apply List.ext_getElem (by omega)
  intro j h1 h2
  have := h j (by omega)
  rw [List.getD_eq_getElem?_getD, List.getD_eq_getElem?_getD, List.getElem?_eq_getElem h1, List.getElem?_eq_getElem h2] at this
  simpa using this
set_option maxHeartbeats 1000000 in
theorem words_ref (a b : Option Addr) (na ca nb cb : Nat) (la lb : List (BitVec 64)) (W w : World) (ha : QRow w a na ca la) (hb : QRow w b nb cb lb) (hg : New W w) :
    Calls Tryz.prog 22 #[.slice a na ca, .slice b nb cb] w fun e w' => e = .returned (.bool (la == lb)) ∧ New w w' ∧ New W w' := by
  have hma := ha.most
  have hmb := hb.most
  by_cases hl : na = nb
  · subst hl
    have Hla := Lib.hid ha.len_eq
    have Hlb := Lib.hid hb.len_eq
    go_enter Tryz.func22, Tryz.ntmps22
    go_wp2
    go_loopw [13] (fun i wr => ∃ k : Nat, k ≤ na ∧ i = .int .i64 k ∧ Hid (∀ j, j < k → la.getD j 0 = lb.getD j 0) ∧ New w wr) (fun i _ => na - (intOf i).toNat)
    case atStart => exact ⟨0, by omega, rfl, Lib.hid (fun j hj => by omega), New.refl w⟩
    case round =>
      obtain ⟨k, hk, rfl, H, hn⟩ := hrel
      by_cases hlt : (k : Int) < na
      · obtain ⟨b1, o1, rfl, hc1⟩ := (ha.stay hn).addr (by omega)
        obtain ⟨b2, o2, rfl, hc2⟩ := (hb.stay hn).addr (by omega)
        have c1 := hc1 k (by omega)
        have c2 := hc2 k (by omega)
        clear hc1 hc2
        by_cases hxy : la.getD k 0 = lb.getD k 0
        · have Hxy := Lib.hid hxy
          rw [hxy] at c1
          clear hxy
          generalize lb.getD k 0 = y at c1 c2
          go_wp2
          go_quiet (fail)
          go_wp2
          refine ⟨⟨k + 1, by omega, by go_num, Lib.hid (fun j hj => ?_), hn.drewN nq⟩, by simp [intOf]; omega⟩
          by_cases e : j = k
          · subst e; exact Hxy.out
          · exact H.out j (by omega)
        · have hf : (la == lb) = false := by
            rw [beq_eq_false_iff_ne]; intro e; exact hxy (by rw [e])
          have HF := Lib.hid hf
          have hne : (la.getD k 0 != lb.getD k 0) = true := by rw [bne_iff_ne]; exact hxy
          clear hf hxy
          generalize la.getD k 0 = x at c1 hne
          generalize lb.getD k 0 = y at c2 hne
          go_wp2
          go_quiet (fail)
          go_wp2
          go_ret
          exact ⟨retB HF.out.symm, hn.drewN nq, hg.trans (hn.drewN nq)⟩
      · obtain rfl : k = na := by omega
        go_wp2
        go_ret
        refine ⟨retB ?_, hn, hg.trans hn⟩
        rw [words_eq Hla.out Hlb.out H.out]; simp
  · have hne : ((na : Int) != (nb : Int)) = true := by rw [bne_iff_ne]; omega
    have hf : (la == lb) = false := by
      rw [beq_eq_false_iff_ne]; intro e; exact hl (by rw [← ha.len_eq, ← hb.len_eq, e])
    have HF := Lib.hid hf
    clear hf
    go_enter Tryz.func22, Tryz.ntmps22
    go_wp2
    go_ret
    exact ⟨retB (HF.out).symm, New.refl w, hg⟩
end Go.Proofs.YtdjlbpgjbgepdaaGreat
