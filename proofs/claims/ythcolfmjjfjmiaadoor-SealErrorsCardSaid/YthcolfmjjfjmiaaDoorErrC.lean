/- Layer 16: an error's word with its place; any error with any place is found again: the walk of the statement SealErrors. -/
import Derived.Test.YthcolfmjjfjmiaaDoorErrB
namespace Go.Bv
open Go Go.RowKit
/-- an error's word, and its place where it has one -/
def wd16 (c p : Int) : ByteArray := if p = -1 then nm16 c else nm16 c ++ (⟨#[32, 97, 116, 32]⟩ ++ iS p)
theorem wd16_no (c : Int) : wd16 c (-1) = nm16 c := by unfold wd16; rw [if_pos rfl]
theorem wd16_at (c p : Int) (h : ¬ p = -1) : wd16 c p = nm16 c ++ (⟨#[32, 97, 116, 32]⟩ ++ iS p) := by unfold wd16; rw [if_neg h]
end Go.Bv
namespace Go.Proofs.YthcolfmjjfjmiaaDoor
open Go.RowKit Go.Bv
set_option linter.unusedVariables false
set_option maxHeartbeats 1000000 in
theorem fault_word (c p : Int) (h0 : -9223372036854775808 ≤ p) (h1 : p ≤ 9223372036854775807) (w : World) (hN : NmD 1 w) (ht : Lib.TabIs Tryd.prog w "internal/strconv.uint64pow10" .u64 Lib.pow10Tab) : Calls Tryd.prog 27 #[.agg #[.int .i64 c, .int .i64 p]] w fun e w' => e = .returned (.string (wd16 c p)) ∧ New w w' := by
  have n1 := (New.refl w).alloc (.cells #[.int .i64 c, .int .i64 p] 52)
  have HB := Lib.hid (heap_alloc_new w (.cells #[.int .i64 c, .int .i64 p] 52))
  have HNM := Lib.hid (hN.stay n1)
  have HTB := Lib.hid (tabIs_stay ht n1)
  have HN := Lib.hid n1
  clear hN ht n1
  by_cases hp : p = -1
  · subst hp
    have k0 := cell_of_row _ _ 0 _ _ _ HB.out
    have k1 := cell_of_row _ _ 1 _ _ _ HB.out
    have HV := Lib.hid (wd16_no c)
    have HC := Lib.hid (code_err c _ HNM.out)
    go_enter Tryd.func27, Tryd.ntmps27
    go_wp2_with fail
    refine HC.out.mono ?_
    rintro e w9 ⟨rfl, rfl⟩
    go_wp2
    go_ret
    exact ⟨by rw [HV.out]; rfl, HN.out⟩
  · have HV := Lib.hid (wd16_at c p hp)
    have hpb : (p == -1) = false := by rw [beq_eq_false_iff_ne]; exact hp
    have hs1 : ¬ 9223372036854775807 < (nm16 c).size + (⟨#[32, 97, 116, 32]⟩ : ByteArray).size := by
      have := nm16_size c
      have e : (⟨#[32, 97, 116, 32]⟩ : ByteArray).size = 4 := rfl
      omega
    have hs2 : ¬ 9223372036854775807 < (nm16 c ++ (⟨#[32, 97, 116, 32]⟩ : ByteArray)).size + (iS p).size := by
      have := nm16_size c
      have := iS_size p h0 h1
      rw [ByteArray.size_append]
      have e : (⟨#[32, 97, 116, 32]⟩ : ByteArray).size = 4 := rfl
      omega
    have k1 := cell_of_row _ _ 1 _ _ _ HB.out
    go_enter Tryd.func27, Tryd.ntmps27
    go_wp2_with fail
    clear k1
    go_wp2_with fail
    refine wp_region_class (fun w' => (w'.heap[w.heap.size]? = some (.cells #[.int .i64 c, .int .i64 p] 52 (0, 0))) ∧ New (w.alloc (.cells #[.int .i64 c, .int .i64 p] 52)) w') (by kernel_rfl) (by kernel_rfl) ⟨((New.refl (w.alloc (.cells #[.int .i64 c, .int .i64 p] 52))).drew.block _ (lt_of_block HB.out)).trans HB.out, (New.refl _).drew⟩ ?_
    intro I _ f hall hback
    have HSTEP : Hid (∀ n w', New (f n) w' → ∃ m, w' = f m) := Lib.hid fun n w' hn => hback w' ⟨(hn.block _ (lt_of_block (hall n).1)).trans (hall n).1, (hall n).2.trans hn⟩
    have HALL := Lib.hid fun n => (hall n).2
    have HNA := Lib.hid fun n => HNM.out.stay (hall n).2
    have HTA := Lib.hid fun n => tabIs_stay HTB.out (hall n).2
    have s0 := fun n => cell_of_row _ _ 0 _ _ _ ((hall n).1)
    have s1 := fun n => cell_of_row _ _ 1 _ _ _ ((hall n).1)
    clear hall hback
    repeat (go_big_quiet_step (first
      | (go_at_call 43; refine class_same (code_err c _ (HNA.out _)))
      | (go_at_call 44; refine class_new HSTEP.out (itoa_16 p h0 h1 _ (HTA.out _)))))
    refine wpQuiet_nil ?_
    rintro w9 ⟨n1, hw1⟩
    have hS := HALL.out n1
    rw [← hw1] at hS
    replace HB := Lib.hid ((hS.block _ (lt_of_block HB.out)).trans HB.out)
    replace HN := Lib.hid (HN.out.trans hS)
    clear HALL HNA HTA HSTEP hw1 hS s0 s1
    go_wp2
    go_ret
    refine ⟨?_, HN.out⟩
    rw [HV.out, ← ByteArray.append_assoc]
    rfl
theorem word_nil (w : World) : Calls Tryd.prog 17 #[.nilIface] w fun e w' => e = .returned (.string ⟨#[111, 107]⟩) ∧ w' = w := by
  go_enter Tryd.func17, Tryd.ntmps17
  go_wp2
  go_ret
  exact ⟨rfl, rfl⟩
theorem word_err (c p : Int) (h0 : -9223372036854775808 ≤ p) (h1 : p ≤ 9223372036854775807) (w : World) (hg : EtD 5 36 83 w) (hN : NmD 1 w) (ht : Lib.TabIs Tryd.prog w "internal/strconv.uint64pow10" .u64 Lib.pow10Tab) : Calls Tryd.prog 17 #[errV c p] w fun e w' => e = .returned (.string (wd16 c p)) ∧ New w w' := by
  have HF := Lib.hid (fault_in c p w hg)
  have HW := Lib.hid (fun w' (hn : New w w') => fault_word c p h0 h1 w' (hN.stay hn) (tabIs_stay ht hn))
  clear hg hN ht
  go_enter Tryd.func17, Tryd.ntmps17
  go_wp2_with fail
  refine HF.out.mono ?_
  rintro e w9 ⟨rfl, hn⟩
  have HN := Lib.hid hn
  clear hn
  go_wp2_with fail
  refine (HW.out _ HN.out).mono ?_
  rintro e w9 ⟨rfl, hn⟩
  replace HN := Lib.hid (HN.out.trans hn)
  clear hn HF HW
  go_wp2
  go_ret
  exact ⟨rfl, HN.out⟩
set_option maxRecDepth 100000 in
set_option maxHeartbeats 4000000 in
theorem SealErrors_walk (W : World) (c : Int) (wc : (Lit.int .i64 c).wf = true) (p : Int) (wp : (Lit.int .i64 p).wf = true) (hE : EtD 5 36 83 W) (hN : NmD 1 W) (ht : Lib.TabIs Tryd.prog W "internal/strconv.uint64pow10" .u64 Lib.pow10Tab) :
    Calls Tryd.prog 5 #[.int .i64 c, .int .i64 p] W fun e w' => e = .returned (.bool true) ∧ Below W.heap.size W w' := by
  obtain ⟨h0, h1⟩ : -9223372036854775808 ≤ p ∧ p ≤ 9223372036854775807 := by
    simp [Lit.wf] at wp
    have m1 : IntKind.i64.min = -9223372036854775808 := rfl
    have m2 : IntKind.i64.max = 9223372036854775807 := rfl
    omega
  clear wc wp
  have HA := Lib.hid (awake16 W hE)
  have HE := Lib.hid hE
  have HNM := Lib.hid hN
  have HTB := Lib.hid ht
  clear hE hN ht
  by_cases hc : c = 0
  · subst hc
    go_enter Tryd.func5, Tryd.ntmps5
    go_wp2_with fail
    refine HA.out.mono ?_
    rintro e w9 ⟨rfl, hn⟩
    have HN := Lib.hid hn
    clear hn HA
    go_wp2_with fail
    refine (wrap_ok p _).mono ?_
    rintro e w9 ⟨rfl, rfl⟩
    go_wp2_with fail
    refine (errno_nil _).mono ?_
    rintro e w9 ⟨rfl, rfl⟩
    go_wp2_with fail
    refine (at_nil _).mono ?_
    rintro e w9 ⟨rfl, rfl⟩
    go_wp2_with fail
    refine (word_nil _).mono ?_
    rintro e w9 ⟨rfl, rfl⟩
    go_wp2
    go_ret
    exact ⟨rfl, HN.out⟩
  have hcb : (c == 0) = false := by rw [beq_eq_false_iff_ne]; exact hc
  have hcc : (c == c) = true := beq_self_eq_true c
  have hpp : (p == p) = true := beq_self_eq_true p
  by_cases hp : p = -1
  · have hpn : (p != -1) = false := by rw [hp]; rfl
    have HV : Hid (wd16 c p = nm16 c) := Lib.hid (by rw [hp]; exact wd16_no c)
    have HRN := Lib.hid (fun w => rname_16 c hc w)
    have HWR := Lib.hid (fun w => wrap_err c p hc w)
    clear hp hc
    go_enter Tryd.func5, Tryd.ntmps5
    go_wp2_with fail
    refine HA.out.mono ?_
    rintro e w9 ⟨rfl, hn⟩
    have HN := Lib.hid hn
    clear hn HA
    go_wp2_with fail
    refine (HWR.out _).mono ?_
    rintro e w9 ⟨rfl, rfl⟩
    go_wp2_with fail
    refine (HRN.out _).mono ?_
    rintro e w9 ⟨rfl, hn⟩
    replace HN := Lib.hid (HN.out.trans hn)
    clear hn
    go_wp2_with fail
    refine (errno_err c p _ (HE.out.stay HN.out)).mono ?_
    rintro e w9 ⟨rfl, hn⟩
    replace HN := Lib.hid (HN.out.trans hn)
    clear hn
    go_wp2_with fail
    refine (at_err c p _ (HE.out.stay HN.out)).mono ?_
    rintro e w9 ⟨rfl, hn⟩
    replace HN := Lib.hid (HN.out.trans hn)
    clear hn
    go_wp2_with fail
    refine (word_err c p h0 h1 _ (HE.out.stay HN.out) (HNM.out.stay HN.out) (tabIs_stay HTB.out HN.out)).mono ?_
    rintro e w9 ⟨rfl, hn⟩
    replace HN := Lib.hid (HN.out.trans hn)
    clear hn
    rw [HV.out]
    go_wp2
    go_ret
    exact ⟨rfl, HN.out⟩
  · have hpn : (p != -1) = true := by rw [bne_iff_ne]; exact hp
    have HV := Lib.hid (wd16_at c p hp)
    have HRN := Lib.hid (fun w => rname_16 c hc w)
    have HWR := Lib.hid (fun w => wrap_err c p hc w)
    have HDG := Lib.hid (fun w => digits_16 p h0 h1 w)
    have hs1 : ¬ 9223372036854775807 < (⟨#[32, 97, 116, 32]⟩ : ByteArray).size + (iS p).size := by
      have := iS_size p h0 h1
      have e : (⟨#[32, 97, 116, 32]⟩ : ByteArray).size = 4 := rfl
      omega
    have hs2 : ¬ 9223372036854775807 < (nm16 c).size + ((⟨#[32, 97, 116, 32]⟩ : ByteArray) ++ iS p).size := by
      have := nm16_size c
      have := iS_size p h0 h1
      rw [ByteArray.size_append]
      have e : (⟨#[32, 97, 116, 32]⟩ : ByteArray).size = 4 := rfl
      omega
    clear hp hc
    go_enter Tryd.func5, Tryd.ntmps5
    go_wp2_with fail
    refine HA.out.mono ?_
    rintro e w9 ⟨rfl, hn⟩
    have HN := Lib.hid hn
    clear hn HA
    go_wp2_with fail
    refine (HWR.out _).mono ?_
    rintro e w9 ⟨rfl, rfl⟩
    go_wp2_with fail
    refine (HRN.out _).mono ?_
    rintro e w9 ⟨rfl, hn⟩
    replace HN := Lib.hid (HN.out.trans hn)
    clear hn
    go_wp2_with fail
    refine (HDG.out _).mono ?_
    rintro e w9 ⟨rfl, hn⟩
    replace HN := Lib.hid (HN.out.trans hn)
    clear hn
    go_wp2_with fail
    refine (errno_err c p _ (HE.out.stay HN.out)).mono ?_
    rintro e w9 ⟨rfl, hn⟩
    replace HN := Lib.hid (HN.out.trans hn)
    clear hn
    go_wp2_with fail
    refine (at_err c p _ (HE.out.stay HN.out)).mono ?_
    rintro e w9 ⟨rfl, hn⟩
    replace HN := Lib.hid (HN.out.trans hn)
    clear hn
    go_wp2_with fail
    refine (word_err c p h0 h1 _ (HE.out.stay HN.out) (HNM.out.stay HN.out) (tabIs_stay HTB.out HN.out)).mono ?_
    rintro e w9 ⟨rfl, hn⟩
    replace HN := Lib.hid (HN.out.trans hn)
    clear hn
    rw [HV.out]
    go_wp2
    go_ret
    exact ⟨rfl, HN.out⟩
end Go.Proofs.YthcolfmjjfjmiaaDoor
