/- The walks of the statements TabsAims and TabsAlone: for all words, all rows, all numbers. -/
import Derived.Test.YtadkbpdbbgjkgaaTabK
import Derived.Test.YtadkbpdbbgjkgaaTabI
namespace Go.Proofs.Ytadkbpdbbgjkgaa
open Go Go.RowKit Go.Bv Go.Tab
set_option linter.unusedVariables false
set_option maxRecDepth 100000
set_option maxHeartbeats 8000000 in
theorem TabsAims_walk (W : World) (a0 : Option Addr) (n0 m0 : Nat) (z0 : List Int) (w0 : IRow .u64 W a0 n0 m0 z0) (r0 : m0 * 8 ≤ 140737488351232) (a1 : Option Addr) (n1 m1 : Nat) (R1 : Nat → List Int) (w1 : RwX W a1 n1 m1 R1) (a2 : Option Addr) (n2 m2 : Nat) (z2 : List Int) (w2 : IRow .u64 W a2 n2 m2 z2) (r2 : m2 * 8 ≤ 140737488351232) :
    Calls Try.prog 4 #[.slice a0 n0 m0, .slice a1 n1 m1, .slice a2 n2 m2] W fun e w' => e = .returned (.bool true) ∧ Below W.heap.size W w' := by
  obtain ⟨l, hq⟩ := w0.words r0
  obtain ⟨bl, hb⟩ := w2.words r2
  have hm0 := hq.most
  have hm2 := hb.most
  have hll := hq.len_eq
  have hx := w1
  clear w0 w2 r0 r2 w1
  by_cases h400 : (400 : Int) < (n0 : Int)
  · clear hq hb hx hll
    go_enter Try.func4, Try.ntmps4
    go_wp2_with fail
    refine (awake22 _).mono ?_
    rintro e w ⟨rfl, hg⟩
    go_wp2
    go_ret
    exact ⟨rfl, hg⟩
  · have HRW := Lib.hid (fun w' (hw : New W w') => rows_ref a0 n0 m0 l a1 n1 m1 R1 n2 w' (hq.stay hw) (hx.stay hw) hm2)
    by_cases hE : rowE l.length n1 n2 R1 = 0
    · rw [hE] at HRW
      obtain ⟨e1, e2, e3, e4, e5, e6, e7⟩ := re_zero hE
      obtain ⟨i1, i2, i3⟩ := rows_in hE
      subst e3
      have HA1 := Lib.hid (fun w' (hw : New W w') => aim_yes a0 n0 m0 l a1 n2 m1 R1 a2 n2 m2 bl w' (hq.stay hw) (hx.stay hw) (hb.stay hw) hE)
      have hol := aimL_len l n2 (R1 0).length R1 bl
      have HA2 := Lib.hid (fun x5 c5 w' (hw : New W w') (h5 : QRow w' x5 n0 c5 (aimL l n2 (R1 0).length R1 bl)) => aim_yes x5 n0 c5 (aimL l n2 (R1 0).length R1 bl) a1 n2 m1 R1 a2 n2 m2 bl w' h5 (hx.stay hw) (hb.stay hw) (by rw [hol]; exact hE))
      rw [aimL_twice] at HA2
      have HS1 : Hid (∀ i, i < n2 → ∀ (x : Option Addr) (c : Nat) w', New W w' → ZRow w' x (R1 0).length c (R1 i) → Calls Try.prog 20 #[.slice a0 n0 m0, .slice x (R1 0).length c] w' fun e w'' => e = .returned (.int .u64 (W64 (xs l (R1 i) (R1 0).length))) ∧ New w' w'') := Lib.hid (fun i hi x c w' hw hz => by
        have := sum_ref a0 x n0 m0 _ c l (R1 i) w' (hq.stay hw) hz (e6 i hi)
        rwa [e5 i hi] at this)
      have HS2 : Hid (∀ i, i < n2 → ∀ (x5 : Option Addr) (c5 : Nat) (x : Option Addr) (c : Nat) w', New W w' → QRow w' x5 n0 c5 (aimL l n2 (R1 0).length R1 bl) → ZRow w' x (R1 0).length c (R1 i) → Calls Try.prog 20 #[.slice x5 n0 c5, .slice x (R1 0).length c] w' fun e w'' => e = .returned (.int .u64 (W64 (xs l (R1 i) (R1 0).length ^^^ bl.getD i 0))) ∧ New w' w'') := Lib.hid (fun i hi x5 c5 x c w' hw h5 hz => by
        have := sum_ref x5 x n0 c5 _ c _ (R1 i) w' h5 hz (by rw [hol]; exact e6 i hi)
        rw [e5 i hi, aimL_sum l n2 (R1 0).length R1 bl e2 e4 i2 i3 (by rw [i1]; exact Nat.le_refl _) i hi] at this
        exact this)
      obtain ⟨g, gf, rfl, hr⟩ := hx.row e1
      have HGET : Hid (∀ i, i < n2 → ∃ x c, (∀ w', New W w' → w'.cell? ⟨g, gf + i, none⟩ = some (.slice x (R1 0).length c)) ∧ ZRow W x (R1 0).length c (R1 i)) := Lib.hid (fun i hi => by
        obtain ⟨x, c, e, hz⟩ := hr i hi
        rw [e5 i hi] at e hz
        exact ⟨x, c, fun w' hn => zcell e hn, hz⟩)
      obtain ⟨p2, o2, he2, _⟩ := hb.addr e1
      subst he2
      have HB := Lib.hid hb
      have HQ := Lib.hid hq
      obtain ⟨m, hm⟩ : ∃ m, (R1 0).length = m := ⟨_, rfl⟩
      rw [hm] at HA1 HA2 HS1 HS2 HGET
      obtain ⟨out, hout⟩ : ∃ out, aimL l n2 m R1 bl = out := ⟨_, rfl⟩
      rw [hout] at HA1 HA2 HS2
      have hn20 : 0 < n2 := e1
      have hn23 : n2 ≤ 3 := e2
      clear hq hb hx hll hE e1 e2 e4 e5 e6 e7 i1 i2 i3 hr hm hol hout
      go_enter Try.func4, Try.ntmps4
      go_wp2_with fail
      refine (awake22 _).mono ?_
      rintro e w ⟨rfl, hg⟩
      have HG := Lib.hid hg
      clear hg
      go_wp2_with fail
      refine (HA1.out _ HG.out).mono ?_
      rintro e w3 ⟨v3, rfl, ho3, n3⟩
      obtain ⟨x3, c3, rfl, hq3⟩ := QRow.of_owns ho3 (by omega)
      have HQ3 := Lib.hid hq3
      have HG3 := Lib.hid (HG.out.trans n3)
      clear ho3 hq3 n3 HA1 HG
      go_wp2_with fail
      refine (HRW.out _ HG3.out).mono ?_
      rintro e w4 ⟨rfl, n4⟩
      have HG4 := Lib.hid (HG3.out.trans n4)
      have HQ4 := Lib.hid (HQ3.out.stay n4)
      clear n4 HRW HG3 HQ3
      go_wp2
      go_loopw [52] (fun iv wr => ∃ k : Nat, k ≤ n2 ∧ iv = .int .i64 (k : Int) ∧ Hid (New w4 wr)) (fun iv _ => n2 - (intOf iv).toNat)
      case atStart => exact ⟨0, Nat.zero_le _, rfl, Lib.hid (New.refl _)⟩
      case round =>
        obtain ⟨k, hk, rfl, HN⟩ := hrel
        by_cases hlt : (k : Int) < (n2 : Int)
        · have hk0 : (0 : Int) ≤ (k : Int) := by omega
          have hkn : k < n2 := by omega
          obtain ⟨x1, c1, f1, y1⟩ := HGET.out k hkn
          have hw := HG4.out.trans HN.out
          replace f1 := f1 _ hw
          have hcb : ∀ w', New wr w' → w'.cell? ⟨p2, o2 + k, none⟩ = some (.int .u64 (W64 (bl.getD k 0))) := fun w' hn => (HB.out.stay (hw.trans hn)).cell p2 o2 rfl k hkn
          have HC1 := Lib.hid (fun w' (hn : New wr w') => HS1.out k hkn x1 c1 w' (hw.trans hn) (y1.stay (hw.trans hn)))
          have HC2 := Lib.hid (fun w' (hn : New wr w') => HS2.out k hkn x3 c3 x1 c1 w' (hw.trans hn) (HQ4.out.stay (HN.out.trans hn)) (y1.stay (hw.trans hn)))
          obtain ⟨s, hs⟩ : ∃ s, xs l (R1 k) m = s := ⟨_, rfl⟩
          obtain ⟨bv, hbv⟩ : ∃ bv, bl.getD k 0 = bv := ⟨_, rfl⟩
          rw [hs] at HC1 HC2
          rw [hbv] at HC2 hcb
          clear y1 hw hs hbv
          go_wp2_with fail
          refine wp_region_class (fun w' => New wr w') (by kernel_rfl) (by kernel_rfl) (New.refl wr).drew ?_
          intro I _ f9 hall hback
          have HSTEP : Hid (∀ n w', New (f9 n) w' → ∃ m, w' = f9 m) := Lib.hid fun n w' hn => hback w' ((hall n).trans hn)
          have s0 := fun n => hcb _ (hall n)
          have HALL := Lib.hid hall
          clear hall hback hcb
          repeat (go_big_quiet_step (first
            | (go_at_call_of 20 (Value.slice x3 n0 c3); refine class_new HSTEP.out (HC2.out _ (HALL.out _)))
            | (go_at_call 20; refine class_new HSTEP.out (HC1.out _ (HALL.out _)))))
          refine wpQuiet_nil ?_
          rintro w9 ⟨n1, hw1⟩
          have hS := HALL.out n1
          rw [← hw1] at hS
          have HN9 := Lib.hid (HN.out.trans hS)
          clear HALL HSTEP hw1 hS s0
          go_wp2
          exact ⟨⟨k + 1, by omega, by go_num, HN9⟩, by simp [intOf]; omega⟩
        · obtain rfl : k = n2 := by omega
          have HW := Lib.hid (HG4.out.trans HN.out)
          have HAA := Lib.hid (HA2.out x3 c3 _ HW.out (HQ4.out.stay HN.out))
          clear HA2 HN
          go_wp2_with fail
          refine HAA.out.mono ?_
          rintro e w9 ⟨v9, rfl, ho9, n9⟩
          obtain ⟨x9, c9, rfl, hq9⟩ := QRow.of_owns ho9 (by omega)
          have HN9 := Lib.hid (HW.out.trans n9)
          have hWd := words_ref x9 a0 n0 c9 n0 m0 l l W w9 hq9 (HQ.out.stay HN9.out) HN9.out
          rw [beq_self_eq_true] at hWd
          have HWD := Lib.hid hWd
          clear hWd hq9 ho9 n9 HAA
          go_wp2_with fail
          refine HWD.out.mono ?_
          rintro e w10 ⟨rfl, _, n10⟩
          have HN10 := Lib.hid n10
          clear n10
          go_wp2
          go_ret
          exact ⟨rfl, HN10.out⟩
    · have HA := Lib.hid (fun w' (hw : New W w') => aim_no a0 n0 m0 l a1 n1 m1 R1 a2 n2 m2 w' (hq.stay hw) (hx.stay hw) hm2 hE)
      have hne : (rowE l.length n1 n2 R1 != 0) = true := by rw [bne_iff_ne]; exact hE
      clear hE hq hb hx hll
      generalize rowE l.length n1 n2 R1 = E at HA HRW hne
      go_enter Try.func4, Try.ntmps4
      go_wp2_with fail
      refine (awake22 _).mono ?_
      rintro e w ⟨rfl, hg⟩
      go_wp2_with fail
      refine (HA.out _ hg).mono ?_
      rintro e w3 ⟨rfl, n3⟩
      have HG3 := Lib.hid (hg.trans n3)
      clear hg n3 HA
      go_wp2_with fail
      refine (HRW.out _ HG3.out).mono ?_
      rintro e w5 ⟨rfl, n5⟩
      have HG5 := Lib.hid (HG3.out.trans n5)
      clear n5 HG3 HRW
      go_wp2
      go_ret
      exact ⟨rfl, HG5.out⟩
set_option maxHeartbeats 8000000 in
theorem TabsAlone_walk (W : World) (a0 : Option Addr) (n0 m0 : Nat) (z0 : List Int) (w0 : IRow .u64 W a0 n0 m0 z0) (r0 : m0 * 8 ≤ 140737488351232) (a1 : Option Addr) (n1 m1 : Nat) (z1 : List Int) (w1 : IRow .u64 W a1 n1 m1 z1) (r1 : m1 * 8 ≤ 140737488351232) (a2 : Option Addr) (n2 m2 : Nat) (R2 : Nat → List Int) (w2 : RwX W a2 n2 m2 R2) (a3 : Option Addr) (n3 m3 : Nat) (z3 : List Int) (w3 : IRow .u64 W a3 n3 m3 z3) (r3 : m3 * 8 ≤ 140737488351232) :
    Calls Try.prog 5 #[.slice a0 n0 m0, .slice a1 n1 m1, .slice a2 n2 m2, .slice a3 n3 m3] W fun e w' => e = .returned (.bool true) ∧ Below W.heap.size W w' := by
  obtain ⟨l, hq⟩ := w0.words r0
  obtain ⟨l2, hq2⟩ := w1.words r1
  obtain ⟨bl, hb⟩ := w3.words r3
  have hm0 := hq.most
  have hm1 := hq2.most
  have hm3 := hb.most
  have hll := hq.len_eq
  have hll2 := hq2.len_eq
  have hx := w2
  clear w0 w1 w3 r0 r1 r3 w2
  by_cases h400 : (400 : Int) < (n0 : Int)
  · clear hq hq2 hb hx hll hll2
    go_enter Try.func5, Try.ntmps5
    go_wp2_with fail
    refine (awake22 _).mono ?_
    rintro e w ⟨rfl, hg⟩
    go_wp2
    go_ret
    exact ⟨rfl, hg⟩
  · by_cases hnn : n1 = n0
    · subst hnn
      by_cases hE : rowE l.length n2 n3 R2 = 0
      · obtain ⟨e1, e2, e3, e4, e5, e6, e7⟩ := re_zero hE
        subst e3
        have HA1 := Lib.hid (fun w' (hw : New W w') => aim_yes a0 n1 m0 l a2 n3 m2 R2 a3 n3 m3 bl w' (hq.stay hw) (hx.stay hw) (hb.stay hw) hE)
        have HA2 := Lib.hid (fun w' (hw : New W w') => aim_yes a1 n1 m1 l2 a2 n3 m2 R2 a3 n3 m3 bl w' (hq2.stay hw) (hx.stay hw) (hb.stay hw) (by rw [hll2, ← hll]; exact hE))
        have HX1 : Hid (∀ j, j < n1 → (aimL l n3 (R2 0).length R2 bl).getD j 0 ^^^ l.getD j 0 = (aimL l2 n3 (R2 0).length R2 bl).getD j 0 ^^^ l2.getD j 0) := Lib.hid (fun j hj => by
          rw [aimL_at l n3 _ R2 bl j (by omega), aimL_at l2 n3 _ R2 bl j (by omega)]
          generalize chK _ R2 _ _ 0 j = c
          generalize l.getD j 0 = x
          generalize l2.getD j 0 = y
          grind)
        have hn10 : 0 < n1 := by have := (rows_in hE).1; omega
        obtain ⟨p0, o0, h0e, _⟩ := hq.addr hn10
        subst h0e
        obtain ⟨p1, o1, h1e, _⟩ := hq2.addr hn10
        subst h1e
        have HQ := Lib.hid hq
        have HQ2 := Lib.hid hq2
        obtain ⟨oa, hoa⟩ : ∃ oa, aimL l n3 (R2 0).length R2 bl = oa := ⟨_, rfl⟩
        obtain ⟨ob, hob⟩ : ∃ ob, aimL l2 n3 (R2 0).length R2 bl = ob := ⟨_, rfl⟩
        rw [hoa] at HA1 HX1
        rw [hob] at HA2 HX1
        clear hq hq2 hb hx hll hll2 hE e1 e2 e4 e5 e6 e7 hoa hob
        go_enter Try.func5, Try.ntmps5
        go_wp2_with fail
        refine (awake22 _).mono ?_
        rintro e w ⟨rfl, hg⟩
        have HG := Lib.hid hg
        clear hg
        go_wp2_with fail
        refine (HA1.out _ HG.out).mono ?_
        rintro e w3 ⟨v3, rfl, ho3, n3'⟩
        obtain ⟨x3, c3, rfl, hq3⟩ := QRow.of_owns ho3 (by omega)
        have HQ3 := Lib.hid hq3
        have HG3 := Lib.hid (HG.out.trans n3')
        clear ho3 hq3 n3' HA1 HG
        go_wp2_with fail
        refine (HA2.out _ HG3.out).mono ?_
        rintro e w4 ⟨v4, rfl, ho4, n4⟩
        obtain ⟨x4, c4, rfl, hq4⟩ := QRow.of_owns ho4 (by omega)
        obtain ⟨q3, u3, h3e, _⟩ := HQ3.out.addr hn10
        subst h3e
        obtain ⟨q4, u4, h4e, _⟩ := hq4.addr hn10
        subst h4e
        have HQ4 := Lib.hid hq4
        have HQ34 := Lib.hid (HQ3.out.stay n4)
        have HG4 := Lib.hid (HG3.out.trans n4)
        clear ho4 hq4 n4 HA2 HG3 HQ3
        go_wp2
        go_loopw [63] (fun iv wr => ∃ k : Nat, k ≤ n1 ∧ iv = .int .i64 (k : Int) ∧ Hid (New w4 wr)) (fun iv _ => n1 - (intOf iv).toNat)
        case atStart => exact ⟨0, Nat.zero_le _, rfl, Lib.hid (New.refl _)⟩
        case round =>
          obtain ⟨k, hk, rfl, HN⟩ := hrel
          by_cases hlt : (k : Int) < (n1 : Int)
          · have hk0 : (0 : Int) ≤ (k : Int) := by omega
            have hkn : k < n1 := by omega
            have d1 := (HQ34.out.stay HN.out).cell q3 u3 rfl k hkn
            have d2 := (HQ.out.stay (HG4.out.trans HN.out)).cell p0 o0 rfl k hkn
            have d3 := (HQ4.out.stay HN.out).cell q4 u4 rfl k hkn
            have d4 := (HQ2.out.stay (HG4.out.trans HN.out)).cell p1 o1 rfl k hkn
            have hx1 := HX1.out k hkn
            obtain ⟨v1, hv1⟩ : ∃ v, oa.getD k 0 = v := ⟨_, rfl⟩
            obtain ⟨v2, hv2⟩ : ∃ v, l.getD k 0 = v := ⟨_, rfl⟩
            obtain ⟨v3, hv3⟩ : ∃ v, ob.getD k 0 = v := ⟨_, rfl⟩
            obtain ⟨v4, hv4⟩ : ∃ v, l2.getD k 0 = v := ⟨_, rfl⟩
            rw [hv1] at d1 hx1
            rw [hv2] at d2 hx1
            rw [hv3] at d3 hx1
            rw [hv4] at d4 hx1
            have HND := Lib.hid HN.out.drew
            clear hv1 hv2 hv3 hv4
            go_wp2
            go_region
            go_wp2
            first
              | exact ⟨⟨k + 1, by omega, by go_num, HN⟩, by simp [intOf]; omega⟩
              | exact ⟨⟨k + 1, by omega, by go_num, HND⟩, by simp [intOf]; omega⟩
          · obtain rfl : k = n1 := by omega
            have HW := Lib.hid (HG4.out.trans HN.out)
            clear HN
            go_wp2
            go_ret
            exact ⟨rfl, HW.out⟩
      · have HA1 := Lib.hid (fun w' (hw : New W w') => aim_no a0 n1 m0 l a2 n2 m2 R2 a3 n3 m3 w' (hq.stay hw) (hx.stay hw) hm3 hE)
        have hl2 : l2.length = l.length := by omega
        have hA2 := fun w' (hw : New W w') => aim_no a1 n1 m1 l2 a2 n2 m2 R2 a3 n3 m3 w' (hq2.stay hw) (hx.stay hw) hm3 (by rw [hl2]; exact hE)
        rw [hl2] at hA2
        have HA2 := Lib.hid hA2
        have hne : (rowE l.length n2 n3 R2 == 0) = false := by rw [beq_eq_false_iff_ne]; exact hE
        clear hE hq hq2 hb hx hA2 hll hll2 hl2
        generalize rowE l.length n2 n3 R2 = E at HA1 HA2 hne
        have hee : (E != E) = false := by rw [bne_eq_false_iff_eq]
        go_enter Try.func5, Try.ntmps5
        go_wp2_with fail
        refine (awake22 _).mono ?_
        rintro e w ⟨rfl, hg⟩
        go_wp2_with fail
        refine (HA1.out _ hg).mono ?_
        rintro e w3 ⟨rfl, n3'⟩
        have HG3 := Lib.hid (hg.trans n3')
        clear hg n3' HA1
        go_wp2_with fail
        refine (HA2.out _ HG3.out).mono ?_
        rintro e w5 ⟨rfl, n5⟩
        have HG5 := Lib.hid (HG3.out.trans n5)
        clear n5 HG3 HA2
        go_wp2
        go_loop [63] (fun iv => iv = .int .i64 0) (fun _ => 0)
        case atStart => rfl
        case round =>
          subst hrel
          go_wp2
          go_ret
          exact ⟨rfl, HG5.out⟩
    · have hne : ((n1 : Int) != (n0 : Int)) = true := by rw [bne_iff_ne]; omega
      clear hq hq2 hb hx hll hll2
      go_enter Try.func5, Try.ntmps5
      go_wp2_with fail
      refine (awake22 _).mono ?_
      rintro e w ⟨rfl, hg⟩
      go_wp2
      go_ret
      exact ⟨rfl, hg⟩
end Go.Proofs.Ytadkbpdbbgjkgaa
