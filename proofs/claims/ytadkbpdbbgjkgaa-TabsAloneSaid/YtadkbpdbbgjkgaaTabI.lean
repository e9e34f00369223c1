/- The walk of the statement TabsShifts: for all seeds, all numbers of bits, all keys, all targets. -/
import Derived.Test.YtadkbpdbbgjkgaaTabH
namespace Go.Proofs.Ytadkbpdbbgjkgaa
open Go Go.RowKit Go.Bv Go.Tab
set_option linter.unusedVariables false
set_option maxRecDepth 100000
/-- the first k values of a function -/
def vlK (f : Nat → BitVec 64) (k : Nat) : List (BitVec 64) := (List.range k).map f
theorem vlK_snoc (f : Nat → BitVec 64) (k : Nat) : (vlK f (k + 1)).map (fun y => Value.int .u64 (W64 y)) = (vlK f k).map (fun y => Value.int .u64 (W64 y)) ++ [.int .u64 (W64 (f k))] := by
  unfold vlK
  rw [List.range_succ, List.map_append, List.map_append]; rfl
set_option maxHeartbeats 8000000 in
theorem TabsShifts_walk (W : World) (a0 : Option Addr) (n0 m0 : Nat) (z0 : List Int) (w0 : IRow .u64 W a0 n0 m0 z0) (r0 : m0 * 8 ≤ 140737488351232) (a1 : Int) (w1 : (Lit.int .i64 a1).wf = true) (a2 : Option Addr) (n2 m2 : Nat) (z2 : List Int) (w2 : IRow .u64 W a2 n2 m2 z2) (r2 : m2 * 8 ≤ 140737488351232) (a3 : Option Addr) (n3 m3 : Nat) (z3 : List Int) (w3 : IRow .u64 W a3 n3 m3 z3) (r3 : m3 * 8 ≤ 140737488351232) :
    Calls Try.prog 7 #[.slice a0 n0 m0, .int .i64 a1, .slice a2 n2 m2, .slice a3 n3 m3] W fun e w' => e = .returned (.bool true) ∧ Below W.heap.size W w' := by
  obtain ⟨l, hq⟩ := w0.words r0
  obtain ⟨xl, hx⟩ := w2.words r2
  obtain ⟨yl, hy⟩ := w3.words r3
  obtain ⟨i0, hi, hz0, hz1, hz2⟩ := info_parts info_u64t
  have hm := hq.most
  have hll := hq.len_eq
  have hCR : ∀ w, Calls Try.prog 27 #[.slice a0 n0 m0, .int .i64 a1, .int .i64 128] w fun e w' => e = .returned (.int .i64 (chk a1 l.length 128)) ∧ w' = w := by
    rw [hll]; exact fun w => check_ref a0 n0 m0 a1 128 w hm
  have HCR := Lib.hid hCR
  clear hCR w0 w1 w2 w3 r0 r2 r3
  by_cases hE : csE a1 l.length 128 xl yl = 0
  · have hG := good_of hE
    obtain ⟨hc0, _⟩ := cs_of hG
    obtain ⟨t1, t2, t3, t4, t5⟩ := tg_zero hG.tg
    have hlx := hx.len_eq
    have hly := hy.len_eq
    obtain rfl : n3 = n2 := by omega
    obtain rfl : n0 = 128 := by rw [← hll]; exact hG.len
    have HSH := Lib.hid (fun w' (hw : New W w') => shift_ok a0 128 m0 l a1 a2 n3 m2 xl a3 m3 yl w' (hq.stay hw) (hx.stay hw) (hy.stay hw) hE)
    have HTG := Lib.hid (fun w' (hw : New W w') => targets_ref a1 hG.b1 hG.b2 a2 n3 m2 xl a3 n3 m3 yl w' (hx.stay hw) (hy.stay hw))
    rw [hc0] at HCR
    have htg := hG.tg
    rw [htg] at HTG
    have HE1 := Lib.hid (fun k (hk : k < n3) w' (hw : New W w') => eval_ref a0 128 m0 l a1 (xl.getD k 0) w' (hq.stay hw))
    have HE1Z : Hid (∀ k, k < n3 → evE a1 l.length 128 (xl.getD k 0) = 0) := Lib.hid (fun k hk => (good_ev hG (by omega)).1)
    have hsl := shL_len l a1 xl yl
    have HGS := shL_good hG hG.tg
    have HE2Z : Hid (∀ k, k < n3 → evE a1 (shL l a1 xl yl).length 128 (xl.getD k 0) = 0 ∧ evV (shL l a1 xl yl) a1 128 (xl.getD k 0) = yl.getD k 0) := Lib.hid (fun k hk => ⟨(good_ev HGS (by omega)).1, shL_ev hG (by omega)⟩)
    have HBK : Hid (∀ (x c : Nat) (x5 : Option Addr) (c5 : Nat) w', New W w' → True) := Lib.hid (fun _ _ _ _ _ _ => trivial)
    have HSB := Lib.hid (fun (x5 : Option Addr) c5 (x6 : Option Addr) c6 w' (hw : New W w') (h5 : QRow w' x5 128 c5 (shL l a1 xl yl)) (h6 : QRow w' x6 n3 c6 (wasL l a1 xl)) => shift_ok x5 128 c5 (shL l a1 xl yl) a1 a2 n3 m2 xl x6 c6 (wasL l a1 xl) w' h5 (hx.stay hw) h6 (cs_of (shL_good hG (was_tg hG))).2)
    rw [shL_back hG] at HSB
    obtain ⟨f, hf⟩ : ∃ f : Nat → BitVec 64, (fun i => evV l a1 128 (xl.getD i 0)) = f := ⟨_, rfl⟩
    have HFV : Hid (∀ k, f k = evV l a1 128 (xl.getD k 0)) := Lib.hid (fun k => by rw [← hf])
    have HWL : Hid (wasL l a1 xl = vlK f n3) := Lib.hid (by unfold wasL vlK; rw [hlx, hf])
    clear hf
    have hn30 : 0 < n3 := by omega
    have hn33 : n3 ≤ 3 := by omega
    obtain ⟨p2, o2, e2, _⟩ := hx.addr hn30
    subst e2
    obtain ⟨p3, o3, e3, _⟩ := hy.addr hn30
    subst e3
    have HX := Lib.hid hx
    have HY := Lib.hid hy
    have HQ := Lib.hid hq
    obtain ⟨out, hout⟩ : ∃ out, shL l a1 xl yl = out := ⟨_, rfl⟩
    rw [hout] at HSH HSB HE2Z
    clear hE hG hc0 t1 t2 t3 t4 t5 htg hsl HGS HBK hx hy hq hlx hly hll hout
    go_enter Try.func7, Try.ntmps7
    go_wp2_with fail
    refine (awake22 _).mono ?_
    rintro e w ⟨rfl, hg⟩
    go_wp2_with fail
    refine (HSH.out _ hg).mono ?_
    rintro e w3 ⟨v3, rfl, ho3, n3'⟩
    obtain ⟨x3, c3, rfl, hq3⟩ := QRow.of_owns ho3 (by omega)
    have HG3 := Lib.hid (hg.trans n3')
    have HQ3 := Lib.hid hq3
    clear hg n3' HSH hq3 ho3
    go_wp2_with fail
    refine (HCR.out _).mono ?_
    rintro e w4 ⟨rfl, rfl⟩
    go_wp2_with fail
    refine (HTG.out _ HG3.out).mono ?_
    rintro e w5 ⟨rfl, n5⟩
    have HG5 := Lib.hid (HG3.out.trans n5)
    have HQ5 := Lib.hid (HQ3.out.stay n5)
    clear n5 HG3 HQ3 HTG HCR
    go_wp2
    go_loopw [12, 52] (fun v iv wr => ∃ k : Nat, k ≤ n3 ∧ iv = .int .i64 (k : Int) ∧ wr.ownsRow w5.heap.size 24 1 v k ((vlK f k).map fun y => .int .u64 (W64 y)) ∧ New w5 wr) (fun _ iv _ => n3 - (intOf iv).toNat)
    case atStart => exact ⟨0, Nat.zero_le _, rfl, World.ownsRow_nil w5 _ _ 1, New.refl w5⟩
    case round =>
      obtain ⟨k, hk, rfl, hown, hnew⟩ := hrel
      have HOWN := Lib.hid hown
      have HN := Lib.hid hnew
      clear hown hnew
      by_cases hlt : (k : Int) < (n3 : Int)
      · have hk0 : (0 : Int) ≤ (k : Int) := by omega
        have hkn : k < n3 := by omega
        have hw := HG5.out.trans HN.out
        have d1 := (HX.out.stay hw).cell p2 o2 rfl k hkn
        have hE1 := HE1.out k hkn _ hw
        rw [HE1Z.out k hkn] at hE1
        have hE2 := fun w' (hn : New w5 w') => eval_ref x3 128 c3 out a1 (xl.getD k 0) w' (HQ5.out.stay hn)
        rw [(HE2Z.out k hkn).1, (HE2Z.out k hkn).2] at hE2
        have HE1' := Lib.hid hE1
        have HE2' := Lib.hid hE2
        have HCY : Hid (∀ w', New w5 w' → w'.cell? ⟨p3, o3 + k, none⟩ = some (.int .u64 (W64 (yl.getD k 0)))) := Lib.hid (fun w' hn => (HY.out.stay (HG5.out.trans hn)).cell p3 o3 rfl k hkn)
        have hsn := vlK_snoc f k
        rw [HFV.out k] at hsn
        have HSN := Lib.hid hsn
        clear hsn
        obtain ⟨xv, hxv⟩ : ∃ xv, xl.getD k 0 = xv := ⟨_, rfl⟩
        obtain ⟨yv, hyv⟩ : ∃ yv, yl.getD k 0 = yv := ⟨_, rfl⟩
        rw [hxv] at d1 HE1' HE2' HSN
        rw [hyv] at HE2' HCY
        obtain ⟨ev, hev⟩ : ∃ ev, evV l a1 128 xv = ev := ⟨_, rfl⟩
        rw [hev] at HE1' HSN
        clear hE1 hE2 hxv hyv hev hw
        go_wp2_with fail
        refine HE1'.out.mono ?_
        rintro e w6 ⟨rfl, n6⟩
        have HN6 := Lib.hid (HN.out.trans n6)
        have hown6 := ow_blkP HOWN.out (fun g' e => n6.block g' (ow_ltP HOWN.out g' e).2)
        have hle6 := HN6.out.le
        clear n6 d1 HE1'
        go_wp2_with (at_builtin; refine wpList_append_own _ rfl _ _ 22 rfl w5.heap.size 24 i0 (.int .u64 0) 1 8 Try.underlying22 hi hz0 hz1 hz2 rfl (by decide) _ k _ rfl (hown6.alloc _) ⟨w6.heap.size, 0, none⟩ 1 1 [.int .u64 (W64 ev)] rfl rfl ?c1 ?c2 ?c3 ?c4 ?c5 ?_)
        case c1 => exact new_cells_i w6 _ _
        case c2 => intro u hu; simp at hu; subst hu; rfl
        case c3 => unfold maxLen; omega
        case c4 => omega
        case c5 => simp; omega
        intro v' w7 how hgr _
        have hn7 : New w5 w7 := (HN6.out.alloc _).grown' hgr (own_base hown6)
        have HO7 : Hid (w7.ownsRow w5.heap.size 24 1 v' (k + 1) ((vlK f (k + 1)).map fun y => .int .u64 (W64 y))) := Lib.hid (by rw [HSN.out]; exact how)
        have HN7 := Lib.hid hn7
        clear how hgr hn7 hown6
        go_wp2_with fail
        refine (HE2'.out _ HN7.out).mono ?_
        rintro e w8 ⟨rfl, n8⟩
        have HN8 := Lib.hid (HN7.out.trans n8)
        have HO8 := Lib.hid (ow_blkP HO7.out (fun g' e => n8.block g' (ow_ltP HO7.out g' e).2))
        have d3 := HCY.out _ HN8.out
        clear n8 HE2' HCY
        go_wp2
        exact ⟨⟨k + 1, by omega, by go_num, HO8.out, HN8.out⟩, by simp [intOf]; omega⟩
      · obtain rfl : k = n3 := by omega
        obtain ⟨x6, c6, rfl, hq6⟩ := QRow.of_owns HOWN.out (by omega)
        have hS := HSB.out x3 c3 x6 c6 _ (HG5.out.trans HN.out) (HQ5.out.stay HN.out) (by rw [HWL.out]; exact hq6)
        have HS := Lib.hid hS
        have HNW := Lib.hid (HG5.out.trans HN.out)
        clear hS hq6 HOWN
        go_wp2_with fail
        refine HS.out.mono ?_
        rintro e w9 ⟨v9, rfl, ho9, n9⟩
        obtain ⟨x9, c9, rfl, hq9⟩ := QRow.of_owns ho9 (by omega)
        have HN9 := Lib.hid (HNW.out.trans n9)
        have hW := words_ref x9 a0 128 c9 128 m0 l l W w9 hq9 (HQ.out.stay HN9.out) HN9.out
        rw [beq_self_eq_true] at hW
        have HWD := Lib.hid hW
        clear hW hq9 ho9 n9 HS
        go_wp2_with fail
        refine HWD.out.mono ?_
        rintro e w10 ⟨rfl, _, n10⟩
        have HN10 := Lib.hid n10
        clear n10
        go_wp2
        go_ret
        exact ⟨rfl, HN10.out⟩
  · have HSN := Lib.hid (fun w' (hw : New W w') => shift_no a0 n0 m0 l a1 a2 n2 m2 xl a3 n3 m3 yl w' (hq.stay hw) (hx.stay hw) (hy.stay hw) hE)
    by_cases hc : chk a1 l.length 128 = 0
    · obtain ⟨b1, b2, b3⟩ := chk_good hc
      have HTG := Lib.hid (fun w' (hw : New W w') => targets_ref a1 b1 b2 a2 n2 m2 xl a3 n3 m3 yl w' (hx.stay hw) (hy.stay hw))
      have he : csE a1 l.length 128 xl yl = tgE a1.toNat xl yl := by unfold csE; rw [if_neg (by rw [hc]; simp)]
      rw [he] at HSN hE
      have hne : (tgE a1.toNat xl yl != 0) = true := by rw [bne_iff_ne]; exact hE
      rw [hc] at HCR
      clear hE hc b1 b2 b3 he hq hx hy hll
      generalize tgE a1.toNat xl yl = E at HSN HTG hne
      go_enter Try.func7, Try.ntmps7
      go_wp2_with fail
      refine (awake22 _).mono ?_
      rintro e w ⟨rfl, hg⟩
      go_wp2_with fail
      refine (HSN.out _ hg).mono ?_
      rintro e w3 ⟨rfl, n3'⟩
      have HG3 := Lib.hid (hg.trans n3')
      clear hg n3' HSN
      go_wp2_with fail
      refine (HCR.out _).mono ?_
      rintro e w4 ⟨rfl, rfl⟩
      go_wp2_with fail
      refine (HTG.out _ HG3.out).mono ?_
      rintro e w5 ⟨rfl, n5⟩
      have HG5 := Lib.hid (HG3.out.trans n5)
      clear n5 HG3 HTG HCR
      go_wp2
      go_ret
      exact ⟨rfl, HG5.out⟩
    · have he : csE a1 l.length 128 xl yl = chk a1 l.length 128 := by unfold csE; rw [if_pos hc]
      rw [he] at HSN
      have hne : (chk a1 l.length 128 != 0) = true := by rw [bne_iff_ne]; exact hc
      have hne2 : (chk a1 l.length 128 == 0) = false := by rw [beq_eq_false_iff_ne]; exact hc
      clear hE hc he hq hx hy hll
      generalize chk a1 l.length 128 = E at HSN HCR hne hne2
      go_enter Try.func7, Try.ntmps7
      go_wp2_with fail
      refine (awake22 _).mono ?_
      rintro e w ⟨rfl, hg⟩
      go_wp2_with fail
      refine (HSN.out _ hg).mono ?_
      rintro e w3 ⟨rfl, n3'⟩
      have HG3 := Lib.hid (hg.trans n3')
      clear hg n3' HSN
      go_wp2_with fail
      refine (HCR.out _).mono ?_
      rintro e w4 ⟨rfl, rfl⟩
      go_wp2
      go_ret
      exact ⟨rfl, HG3.out⟩
end Go.Proofs.Ytadkbpdbbgjkgaa
