/- Layer 22: the document's Targets; Shift where something is wrong. -/
import Derived.Test.YtadkbpdbbgjkgaaTabX
namespace Go.Proofs.Ytadkbpdbbgjkgaa
open Go Go.RowKit Go.Bv Go.Tab
set_option linter.unusedVariables false
set_option maxRecDepth 100000
set_option maxHeartbeats 8000000 in
theorem targets_ref (bits : Int) (hb1 : 1 ≤ bits) (hb2 : bits ≤ 64) (x : Option Addr) (nx cx : Nat) (xl : List (BitVec 64)) (y : Option Addr) (ny cy : Nat) (yl : List (BitVec 64)) (w : World) (hx : QRow w x nx cx xl) (hy : QRow w y ny cy yl) :
    Calls Try.prog 29 #[.int .i64 bits, .slice x nx cx, .slice y ny cy] w fun e w' => e = .returned (.int .i64 (tgE bits.toNat xl yl)) ∧ New w w' := by
  have hlx := hx.len_eq
  have hly := hy.len_eq
  by_cases h2 : xl.length < 1 ∨ 3 < xl.length ∨ yl.length ≠ xl.length
  · have HE := Lib.hid (tg_len (bits := bits.toNat) h2)
    rw [hlx, hly] at h2
    have h3 : (nx : Int) < 1 ∨ (¬ (nx : Int) < 1 ∧ (3 : Int) < (nx : Int)) ∨ (¬ (nx : Int) < 1 ∧ ¬ (3 : Int) < (nx : Int) ∧ ((nx : Int) != (ny : Int)) = true) := by
      rw [bne_iff_ne]; omega
    clear h2 hx hy hlx hly
    rcases h3 with h3 | ⟨h3, h4⟩ | ⟨h3, h4, h5⟩
    all_goals (
      go_enter Try.func29, Try.ntmps29
      go_wp2
      go_ret
      rw [HE.out]
      exact ⟨rfl, New.refl _⟩)
  · have HLE := Lib.hid h2
    have hn1 : 0 < nx := by omega
    have hn3 : nx ≤ 3 := by omega
    obtain rfl : ny = nx := by omega
    have h3 : ¬ (ny : Int) < 1 := by omega
    have h4 : ¬ (3 : Int) < (ny : Int) := by omega
    have HLW := Lib.hid (fun z w => low_ref z bits bits.toNat (by omega) (by omega) w)
    have HLS := Lib.hid (fun z => low_same z bits.toNat (by omega))
    obtain ⟨p1, o1, e1, _⟩ := hx.addr hn1
    subst e1
    obtain ⟨p2, o2, e2, _⟩ := hy.addr hn1
    subst e2
    have HX := Lib.hid hx
    have HY := Lib.hid hy
    have HLX := Lib.hid hlx
    clear h2 hx hy hlx hly
    go_enter Try.func29, Try.ntmps29
    go_wp2
    go_loopw [27] (fun iv wr => ∃ k : Nat, k ≤ ny ∧ iv = .int .i64 (k : Int) ∧ Hid (New w wr) ∧ Hid (∀ j, j < k → bad2 bits.toNat xl yl j = false)) (fun iv _ => ny - (intOf iv).toNat)
    case atStart => exact ⟨0, Nat.zero_le _, rfl, Lib.hid (by first | exact New.refl _ | exact (New.refl _).drew), Lib.hid (fun j hj => absurd hj (by omega))⟩
    case round =>
      obtain ⟨k, hk, rfl, HN, HG⟩ := hrel
      by_cases hlt : (k : Int) < (ny : Int)
      · have hk0 : (0 : Int) ≤ (k : Int) := by omega
        have hkn : k < ny := by omega
        have HBAD : Hid (bad2 bits.toNat xl yl k = (!(xl.getD k 0 >>> 32 == 0#64) || !(yl.getD k 0 >>> bits.toNat == 0#64))) := Lib.hid rfl
        have hc1 : ∀ w', New wr w' → w'.cell? ⟨p1, o1 + k, none⟩ = some (.int .u64 (W64 (xl.getD k 0))) := fun w' hn => (HX.out.stay (HN.out.trans hn)).cell p1 o1 rfl k hkn
        have hc2 : ∀ w', New wr w' → w'.cell? ⟨p2, o2 + k, none⟩ = some (.int .u64 (W64 (yl.getD k 0))) := fun w' hn => (HY.out.stay (HN.out.trans hn)).cell p2 o2 rfl k hkn
        obtain ⟨xv, hxv⟩ : ∃ xv, xl.getD k 0 = xv := ⟨_, rfl⟩
        obtain ⟨yv, hyv⟩ : ∃ yv, yl.getD k 0 = yv := ⟨_, rfl⟩
        rw [hxv] at hc1 HBAD
        rw [hyv] at hc2 HBAD
        have HTB := Lib.hid (fun hb => tg_bad (bits := bits.toNat) HLE.out (i := k) (by rw [HLX.out]; exact hkn) hb)
        have HL1 := Lib.hid (HLW.out yv)
        have hne := HLS.out yv
        obtain ⟨ly, hly⟩ : ∃ ly, lowN yv bits.toNat = ly := ⟨_, rfl⟩
        rw [hly] at HL1 hne
        rw [show (xv >>> 32 == 0#64) = decide (xv.toNat < 2 ^ 32) from shr_nat xv 32] at HBAD
        have hxb : decide (4294967296 ≤ W64 xv) = !(decide (xv.toNat < 2 ^ 32)) := by
          unfold W64
          by_cases e : xv.toNat < 2 ^ 32
          · rw [decide_eq_true e, decide_eq_false (by omega)]; rfl
          · rw [decide_eq_false e, decide_eq_true (by omega)]; rfl
        obtain ⟨bx, hbx⟩ : ∃ bx, decide (xv.toNat < 2 ^ 32) = bx := ⟨_, rfl⟩
        obtain ⟨by_, hby⟩ : ∃ by_, (yv >>> bits.toNat == 0#64) = by_ := ⟨_, rfl⟩
        rw [hbx] at HBAD hxb
        rw [hby] at HBAD hne
        clear hxv hyv hly hbx hby
        rcases bx with _ | _ <;> rcases by_ with _ | _
        all_goals (
          simp only [Bool.not_false, Bool.not_true] at hxb hne
          go_wp2_with fail
          refine wp_region_class (fun w' => New wr w') (by kernel_rfl) (by kernel_rfl) (New.refl wr).drew ?_
          intro I _ f hall hback
          have s0 := fun n => hc1 _ (hall n)
          have s1 := fun n => hc2 _ (hall n)
          have HALL := Lib.hid hall
          clear hall hback hc1 hc2
          repeat (go_big_quiet_step (first
            | (go_at_call 51; refine class_same (HL1.out _))))
          refine wpQuiet_nil ?_
          rintro w9 ⟨n1, hw1⟩
          have hS := HALL.out n1
          rw [← hw1] at hS
          have HN9 := Lib.hid (HN.out.trans hS)
          clear HALL hw1 hS s0 s1
          go_wp2)
        · have HE := Lib.hid (HTB.out (by rw [HBAD.out]; rfl))
          go_ret
          rw [HE.out]
          exact ⟨rfl, HN9.out⟩
        · have HE := Lib.hid (HTB.out (by rw [HBAD.out]; rfl))
          go_ret
          rw [HE.out]
          exact ⟨rfl, HN9.out⟩
        · have HE := Lib.hid (HTB.out (by rw [HBAD.out]; rfl))
          go_ret
          rw [HE.out]
          exact ⟨rfl, HN9.out⟩
        · have HG2 : Hid (∀ j, j < k + 1 → bad2 bits.toNat xl yl j = false) := Lib.hid (fun j hj => by
            by_cases e : j = k
            · subst e; rw [HBAD.out]; rfl
            · exact HG.out j (by omega))
          exact ⟨⟨k + 1, by omega, by go_num, HN9, HG2⟩, by simp [intOf]; omega⟩
      · obtain rfl : k = ny := by omega
        go_wp2
        go_loopw [51] (fun iv wr => ∃ i : Nat, i ≤ k ∧ iv = .int .i64 (i : Int) ∧ Hid (New w wr) ∧ Hid (∀ j, j < i → same2 xl j = false)) (fun iv _ => k - (intOf iv).toNat)
        case atStart => exact ⟨0, Nat.zero_le _, rfl, HN, Lib.hid (fun j hj => absurd hj (by omega))⟩
        case round =>
          clear HN
          obtain ⟨i, hi, rfl, HN, HS⟩ := hrel
          by_cases hlt2 : (i : Int) < (k : Int)
          · have hi0 : (0 : Int) ≤ (i : Int) := by omega
            have hin : i < k := by omega
            obtain ⟨xv, hxv⟩ : ∃ xv, xl.getD i 0 = xv := ⟨_, rfl⟩
            have HXV := Lib.hid hxv
            clear hxv
            go_wp2
            go_loopw [9] (fun iv wr => ∃ j : Nat, j ≤ i ∧ iv = .int .i64 (j : Int) ∧ Hid (New w wr) ∧ Hid (∀ q, q < j → xl.getD q 0 ≠ xl.getD i 0)) (fun iv _ => i - (intOf iv).toNat)
            case atStart => exact ⟨0, Nat.zero_le _, rfl, HN, Lib.hid (fun j hj => absurd hj (by omega))⟩
            case round =>
              clear HN
              obtain ⟨j, hj, rfl, HN, HD⟩ := hrel
              by_cases hlt3 : (j : Int) < (i : Int)
              · have hj0 : (0 : Int) ≤ (j : Int) := by omega
                have hjk : (j : Int) < (k : Int) := by omega
                have d1 := (HX.out.stay HN.out).cell p1 o1 rfl i hin
                have d2 := (HX.out.stay HN.out).cell p1 o1 rfl j (by omega)
                obtain ⟨yv, hyv⟩ : ∃ yv, xl.getD j 0 = yv := ⟨_, rfl⟩
                rw [hyv] at d2
                rw [HXV.out] at d1
                have HYV := Lib.hid hyv
                clear hyv
                rcases hb : (yv == xv) with _ | _
                · have HD2 : Hid (∀ q, q < j + 1 → xl.getD q 0 ≠ xl.getD i 0) := Lib.hid (fun q hq => by
                    by_cases e : q = j
                    · subst e; rw [HYV.out, HXV.out]; exact beq_eq_false_iff_ne.1 hb
                    · exact HD.out q (by omega))
                  have HND := Lib.hid HN.out.drew
                  go_wp2
                  go_region
                  go_wp2
                  first
                    | exact ⟨⟨j + 1, by omega, by go_num, HN, HD2⟩, by simp [intOf]; omega⟩
                    | exact ⟨⟨j + 1, by omega, by go_num, HND, HD2⟩, by simp [intOf]; omega⟩
                · have HE := Lib.hid (tg_same (bits := bits.toNat) HLE.out (by rw [HLX.out]; exact HG.out) (i := i) (k := j) (by rw [HLX.out]; exact hin) (by omega) (by rw [HYV.out, HXV.out]; exact beq_iff_eq.1 hb))
                  have HND := Lib.hid HN.out.drew
                  go_wp2
                  go_region
                  go_wp2
                  go_ret
                  rw [HE.out]
                  first | exact ⟨rfl, HN.out⟩ | exact ⟨rfl, HND.out⟩
              · obtain rfl : j = i := by omega
                have HS2 : Hid (∀ q, q < j + 1 → same2 xl q = false) := Lib.hid (fun q hq => by
                  by_cases e : q = j
                  · subst e; exact same2_no HD.out
                  · exact HS.out q (by omega))
                go_wp2
                exact ⟨⟨j + 1, by omega, by go_num, HN, HS2⟩, by simp [intOf]; omega⟩
          · obtain rfl : i = k := by omega
            have HE := Lib.hid (tg_ok (bits := bits.toNat) HLE.out (by rw [HLX.out]; exact HG.out) (by rw [HLX.out]; exact HS.out))
            go_wp2
            go_ret
            rw [HE.out]
            exact ⟨rfl, HN.out⟩
end Go.Proofs.Ytadkbpdbbgjkgaa
