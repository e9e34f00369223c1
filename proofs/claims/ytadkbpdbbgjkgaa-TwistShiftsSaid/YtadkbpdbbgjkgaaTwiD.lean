/- The walk of the statement TwistShifts: for all seeds, all numbers of bits, all keys, all targets. -/
import Derived.Test.YtadkbpdbbgjkgaaTwiC
import Derived.Test.YtadkbpdbbgjkgaaClass
namespace Go.Proofs.Ytadkbpdbbgjkgaa
open Go Go.RowKit Go.Bv Go.Tab
set_option linter.unusedVariables false
set_option maxRecDepth 100000
/-- keys and targets that may be, of a seed that is right -/
structure GoodT (l : List (BitVec 64)) (bits : Int) (xl yl : List (BitVec 64)) : Prop where
  len : l.length = 240
  b1 : 1 ≤ bits
  b2 : bits ≤ 64
  tg : tgE bits.toNat xl yl = 0
theorem goodT_of {l : List (BitVec 64)} {bits : Int} {xl yl : List (BitVec 64)} (h : csN bits l.length 240 xl yl = 0) : GoodT l bits xl yl := by
  unfold csN at h
  by_cases e : chk bits l.length 240 = 0
  · rw [if_neg (by rw [e]; simp)] at h
    obtain ⟨b1, b2, b3⟩ := chk_good e
    exact ⟨by omega, b1, b2, h⟩
  · rw [if_pos e] at h; exact absurd h e
theorem csT_of {l : List (BitVec 64)} {bits : Int} {xl yl : List (BitVec 64)} (h : GoodT l bits xl yl) : chk bits l.length 240 = 0 ∧ csN bits l.length 240 xl yl = 0 := by
  have e : chk bits l.length 240 = 0 := by
    have h1 := h.len; have h2 := h.b1; have h3 := h.b2
    unfold chk
    rw [if_neg (by omega), if_neg (by omega)]
  refine ⟨e, ?_⟩
  unfold csN
  rw [if_neg (by rw [e]; simp), h.tg]
theorem GoodT.sub {l : List (BitVec 64)} {bits : Int} {xl yl : List (BitVec 64)} (h : GoodT l bits xl yl) : Good (l.take 128) bits (tuL l xl) yl := ⟨by rw [List.length_take, h.len]; rfl, h.b1, h.b2, tuL_tg h.tg⟩
theorem goodT_ev {l : List (BitVec 64)} {bits : Int} {xl yl : List (BitVec 64)} (h : GoodT l bits xl yl) {i : Nat} (hi : i < xl.length) : evE bits l.length 240 (xl.getD i 0) = 0 ∧ teV l bits (xl.getD i 0) = evV (l.take 128) bits 128 ((tuL l xl).getD i 0) := by
  have e : evE bits l.length 240 (xl.getD i 0) = 0 := by
    unfold evE
    rw [if_neg (by rw [(csT_of h).1]; simp), if_pos (small_of ((tg_zero h.tg).2.2.2.1 i hi).1)]
  exact ⟨e, by unfold teV; rw [if_pos e, tuL_at l xl i hi]⟩
theorem twL_parts {l : List (BitVec 64)} {bits : Int} {xl yl : List (BitVec 64)} (h : l.length = 240) : (twL l bits xl yl).length = l.length ∧ (twL l bits xl yl).take 128 = shL (l.take 128) bits (tuL l xl) yl ∧ ((twL l bits xl yl).drop 128).take 112 = (l.drop 128).take 112 := by
  have h1 : (shL (l.take 128) bits (tuL l xl) yl).length = 128 := by rw [shL_len, List.length_take, h]; rfl
  have h2 : ((l.drop 128).take 112).length = 112 := by rw [List.length_take, List.length_drop, h]; rfl
  unfold twL
  refine ⟨by rw [List.length_append, h1, h2, h], ?_, ?_⟩
  · rw [List.take_append_of_le_length (by omega), List.take_of_length_le (by omega)]
  · rw [List.drop_append_of_le_length (by omega), List.drop_of_length_le (by omega), List.nil_append, List.take_of_length_le (by omega)]
theorem twL_len (l : List (BitVec 64)) (bits : Int) (xl yl : List (BitVec 64)) (h : l.length = 240) : (twL l bits xl yl).length = l.length := (twL_parts h).1
theorem twx_part {l m : List (BitVec 64)} (h : (m.drop 128).take 112 = (l.drop 128).take 112) (x : BitVec 64) : ∀ k, k ≤ 7 → twx m x k = twx l x k
  | 0, _ => rfl
  | k + 1, hk => by
    show twx m x k ^^^ m.getD (128 + 16 * k + (lat x k).toNat) 0 = twx l x k ^^^ l.getD (128 + 16 * k + (lat x k).toNat) 0
    have := lat_lt x k
    rw [twx_part h x k (by omega), Nat.add_assoc, ← getD_part m 128 112 _ (by omega), ← getD_part l 128 112 _ (by omega), h]
theorem twL_turn {l : List (BitVec 64)} {bits : Int} {xl yl : List (BitVec 64)} (h : l.length = 240) (x : BitVec 64) : turnV (twL l bits xl yl) x = turnV l x := by
  unfold turnV
  rw [twx_part (twL_parts h).2.2 x 7 (by omega)]
theorem twL_tu {l : List (BitVec 64)} {bits : Int} {xl yl : List (BitVec 64)} (h : l.length = 240) : tuL (twL l bits xl yl) xl = tuL l xl := by
  unfold tuL
  exact List.map_congr_left fun i _ => twL_turn h _
theorem twL_good {l : List (BitVec 64)} {bits : Int} {xl yl zl : List (BitVec 64)} (h : GoodT l bits xl yl) (hz : tgE bits.toNat xl zl = 0) : GoodT (twL l bits xl yl) bits xl zl := ⟨by rw [twL_len _ _ _ _ h.len]; exact h.len, h.b1, h.b2, hz⟩
theorem twL_ev {l : List (BitVec 64)} {bits : Int} {xl yl : List (BitVec 64)} (h : GoodT l bits xl yl) {i : Nat} (hi : i < xl.length) : teV (twL l bits xl yl) bits (xl.getD i 0) = yl.getD i 0 := by
  rw [(goodT_ev (twL_good h h.tg) hi).2, (twL_parts h.len).2.1, twL_tu h.len]
  exact shL_ev h.sub (by rw [tuL_len]; exact hi)
/-- what the keys were brought to -/
def waT (l : List (BitVec 64)) (bits : Int) (xl : List (BitVec 64)) : List (BitVec 64) := (List.range xl.length).map fun i => teV l bits (xl.getD i 0)
theorem waT_was {l : List (BitVec 64)} {bits : Int} {xl yl : List (BitVec 64)} (h : GoodT l bits xl yl) : waT l bits xl = wasL (l.take 128) bits (tuL l xl) := by
  unfold waT wasL
  rw [tuL_len]
  exact List.map_congr_left fun i hi => (goodT_ev h (List.mem_range.1 hi)).2
theorem waT_tg {l : List (BitVec 64)} {bits : Int} {xl yl : List (BitVec 64)} (h : GoodT l bits xl yl) : tgE bits.toNat xl (waT l bits xl) = 0 := by
  obtain ⟨t1, t2, t3, t4, t5⟩ := tg_zero h.tg
  have hw := was_tg h.sub
  rw [← waT_was h] at hw
  obtain ⟨u1, u2, u3, u4, u5⟩ := tg_zero hw
  rw [tuL_len] at u3 u4
  refine tg_ok (by omega) (fun j hj => ?_) (fun j hj => same2_no fun k hk => t5 k j (by omega) hj (by omega))
  unfold bad2
  rw [(u4 j hj).2, (t4 j hj).1]
  rfl
theorem twL_back {l : List (BitVec 64)} {bits : Int} {xl yl : List (BitVec 64)} (h : GoodT l bits xl yl) : twL (twL l bits xl yl) bits xl (waT l bits xl) = l := by
  show shL ((twL l bits xl yl).take 128) bits (tuL (twL l bits xl yl) xl) (waT l bits xl) ++ ((twL l bits xl yl).drop 128).take 112 = l
  rw [(twL_parts h.len).2.1, (twL_parts h.len).2.2, twL_tu h.len, waT_was h, shL_back h.sub, List.take_of_length_le (l := l.drop 128) (by rw [List.length_drop, h.len]; omega), List.take_append_drop]
set_option maxHeartbeats 8000000 in
theorem TwistShifts_walk (W : World) (a0 : Option Addr) (n0 m0 : Nat) (z0 : List Int) (w0 : IRow .u64 W a0 n0 m0 z0) (r0 : m0 * 8 ≤ 140737488351232) (a1 : Int) (w1 : (Lit.int .i64 a1).wf = true) (a2 : Option Addr) (n2 m2 : Nat) (z2 : List Int) (w2 : IRow .u64 W a2 n2 m2 z2) (r2 : m2 * 8 ≤ 140737488351232) (a3 : Option Addr) (n3 m3 : Nat) (z3 : List Int) (w3 : IRow .u64 W a3 n3 m3 z3) (r3 : m3 * 8 ≤ 140737488351232) :
    Calls Try.prog 10 #[.slice a0 n0 m0, .int .i64 a1, .slice a2 n2 m2, .slice a3 n3 m3] W fun e w' => e = .returned (.bool true) ∧ Below W.heap.size W w' := by
  obtain ⟨l, hq⟩ := w0.words r0
  obtain ⟨xl, hx⟩ := w2.words r2
  obtain ⟨yl, hy⟩ := w3.words r3
  obtain ⟨i0, hi, hz0, hz1, hz2⟩ := info_parts info_u64t
  have hm := hq.most
  have hll := hq.len_eq
  have hCR : ∀ w, Calls Try.prog 27 #[.slice a0 n0 m0, .int .i64 a1, .int .i64 240] w fun e w' => e = .returned (.int .i64 (chk a1 l.length 240)) ∧ w' = w := by
    rw [hll]; exact fun w => check_ref a0 n0 m0 a1 240 w hm
  have HCR := Lib.hid hCR
  clear hCR w0 w1 w2 w3 r0 r2 r3
  by_cases hE : csN a1 l.length 240 xl yl = 0
  · have hG := goodT_of hE
    obtain ⟨hc0, _⟩ := csT_of hG
    obtain ⟨t1, t2, t3, t4, t5⟩ := tg_zero hG.tg
    have hlx := hx.len_eq
    have hly := hy.len_eq
    obtain rfl : n3 = n2 := by omega
    obtain rfl : n0 = 240 := by rw [← hll]; exact hG.len
    have HSH := Lib.hid (fun w' (hw : New W w') => tshift_ok a0 m0 l a1 a2 n3 m2 xl a3 m3 yl w' (hq.stay hw) (hx.stay hw) (hy.stay hw) hE)
    have HTG := Lib.hid (fun w' (hw : New W w') => targets_ref a1 hG.b1 hG.b2 a2 n3 m2 xl a3 n3 m3 yl w' (hx.stay hw) (hy.stay hw))
    rw [hc0] at HCR
    have htg := hG.tg
    rw [htg] at HTG
    have HE1 := Lib.hid (fun k (hk : k < n3) w' (hw : New W w') => evalt_ref a0 240 m0 l a1 (xl.getD k 0) w' (hq.stay hw))
    have HE1Z : Hid (∀ k, k < n3 → evE a1 l.length 240 (xl.getD k 0) = 0) := Lib.hid (fun k hk => (goodT_ev hG (by omega)).1)
    have hsl := twL_len l a1 xl yl hG.len
    have HGS := twL_good hG hG.tg
    have HE2Z : Hid (∀ k, k < n3 → evE a1 (twL l a1 xl yl).length 240 (xl.getD k 0) = 0 ∧ teV (twL l a1 xl yl) a1 (xl.getD k 0) = yl.getD k 0) := Lib.hid (fun k hk => ⟨(goodT_ev HGS (by omega)).1, twL_ev hG (by omega)⟩)
    have HBK : Hid (∀ (x c : Nat) (x5 : Option Addr) (c5 : Nat) w', New W w' → True) := Lib.hid (fun _ _ _ _ _ _ => trivial)
    have HSB := Lib.hid (fun (x5 : Option Addr) c5 (x6 : Option Addr) c6 w' (hw : New W w') (h5 : QRow w' x5 240 c5 (twL l a1 xl yl)) (h6 : QRow w' x6 n3 c6 (waT l a1 xl)) => tshift_ok x5 c5 (twL l a1 xl yl) a1 a2 n3 m2 xl x6 c6 (waT l a1 xl) w' h5 (hx.stay hw) h6 (csT_of (twL_good hG (waT_tg hG))).2)
    rw [twL_back hG] at HSB
    obtain ⟨f, hf⟩ : ∃ f : Nat → BitVec 64, (fun i => teV l a1 (xl.getD i 0)) = f := ⟨_, rfl⟩
    have HFV : Hid (∀ k, f k = teV l a1 (xl.getD k 0)) := Lib.hid (fun k => by rw [← hf])
    have HWL : Hid (waT l a1 xl = vlK f n3) := Lib.hid (by unfold waT vlK; rw [hlx, hf])
    clear hf
    have hn30 : 0 < n3 := by omega
    have hn33 : n3 ≤ 3 := by omega
    obtain ⟨p2, o2, e2, _⟩ := hx.addr hn30
    subst e2
    obtain ⟨p3, o3, e3, _⟩ := hy.addr hn30
    subst e3
    have HX := Lib.hid hx
    have HY := Lib.hid hy
    have HQ := Lib.hid hq
    have hpt := (twL_parts (bits := a1) (xl := xl) (yl := yl) hG.len).2.2
    obtain ⟨out, hout⟩ : ∃ out, twL l a1 xl yl = out := ⟨_, rfl⟩
    rw [hout] at HSH HSB HE2Z hpt
    have HPT := Lib.hid hpt
    clear hpt
    clear hE hG hc0 t1 t2 t3 t4 t5 htg hsl HGS HBK hx hy hq hlx hly hll hout
    go_enter Try.func10, Try.ntmps10
    go_wp2_with fail
    refine (awake23 _).mono ?_
    rintro e w ⟨rfl, hg⟩
    go_wp2_with fail
    refine (HSH.out _ hg).mono ?_
    rintro e w3 ⟨v3, rfl, ho3, n3'⟩
    obtain ⟨x3, c3, rfl, hq3⟩ := QRow.of_owns ho3 (by omega)
    have HG3 := Lib.hid (hg.trans n3')
    have HQ3 := Lib.hid hq3
    clear hg n3' HSH hq3 ho3
    go_wp2_with fail
    refine (HCR.out _).mono ?_
    rintro e w4 ⟨rfl, rfl⟩
    go_wp2_with fail
    refine (HTG.out _ HG3.out).mono ?_
    rintro e w5 ⟨rfl, n5⟩
    have HG5 := Lib.hid (HG3.out.trans n5)
    have HQ5 := Lib.hid (HQ3.out.stay n5)
    clear n5 HG3 HQ3 HTG HCR
    go_wp2
    go_loopw [12, 52] (fun v iv wr => ∃ k : Nat, k ≤ n3 ∧ iv = .int .i64 (k : Int) ∧ wr.ownsRow w5.heap.size 24 1 v k ((vlK f k).map fun y => .int .u64 (W64 y)) ∧ New w5 wr) (fun _ iv _ => n3 - (intOf iv).toNat)
    case atStart => exact ⟨0, Nat.zero_le _, rfl, World.ownsRow_nil w5 _ _ 1, New.refl w5⟩
    case round =>
      obtain ⟨k, hk, rfl, hown, hnew⟩ := hrel
      have HOWN := Lib.hid hown
      have HN := Lib.hid hnew
      clear hown hnew
      by_cases hlt : (k : Int) < (n3 : Int)
      · have hk0 : (0 : Int) ≤ (k : Int) := by omega
        have hkn : k < n3 := by omega
        have hw := HG5.out.trans HN.out
        have d1 := (HX.out.stay hw).cell p2 o2 rfl k hkn
        have hE1 := HE1.out k hkn _ hw
        rw [HE1Z.out k hkn] at hE1
        have hE2 := fun w' (hn : New w5 w') => evalt_ref x3 240 c3 out a1 (xl.getD k 0) w' (HQ5.out.stay hn)
        rw [(HE2Z.out k hkn).1, (HE2Z.out k hkn).2] at hE2
        have HE1' := Lib.hid hE1
        have HE2' := Lib.hid hE2
        have HCY : Hid (∀ w', New w5 w' → w'.cell? ⟨p3, o3 + k, none⟩ = some (.int .u64 (W64 (yl.getD k 0)))) := Lib.hid (fun w' hn => (HY.out.stay (HG5.out.trans hn)).cell p3 o3 rfl k hkn)
        have hsn := vlK_snoc f k
        rw [HFV.out k] at hsn
        have HSN := Lib.hid hsn
        clear hsn
        obtain ⟨xv, hxv⟩ : ∃ xv, xl.getD k 0 = xv := ⟨_, rfl⟩
        obtain ⟨yv, hyv⟩ : ∃ yv, yl.getD k 0 = yv := ⟨_, rfl⟩
        rw [hxv] at d1 HE1' HE2' HSN
        rw [hyv] at HE2' HCY
        obtain ⟨ev, hev⟩ : ∃ ev, teV l a1 xv = ev := ⟨_, rfl⟩
        rw [hev] at HE1' HSN
        clear hE1 hE2 hxv hyv hev hw
        go_wp2_with fail
        refine HE1'.out.mono ?_
        rintro e w6 ⟨rfl, n6⟩
        have HN6 := Lib.hid (HN.out.trans n6)
        have hown6 := ow_blkP HOWN.out (fun g' e => n6.block g' (ow_ltP HOWN.out g' e).2)
        have hle6 := HN6.out.le
        clear n6 d1 HE1'
        go_wp2_with (at_builtin; refine wpList_append_own _ rfl _ _ 22 rfl w5.heap.size 24 i0 (.int .u64 0) 1 8 Try.underlying22 hi hz0 hz1 hz2 rfl (by decide) _ k _ rfl (hown6.alloc _) ⟨w6.heap.size, 0, none⟩ 1 1 [.int .u64 (W64 ev)] rfl rfl ?c1 ?c2 ?c3 ?c4 ?c5 ?_)
        case c1 => exact new_cells_i w6 _ _
        case c2 => intro u hu; simp at hu; subst hu; rfl
        case c3 => unfold maxLen; omega
        case c4 => omega
        case c5 => simp; omega
        intro v' w7 how hgr _
        have hn7 : New w5 w7 := (HN6.out.alloc _).grown' hgr (own_base hown6)
        have HO7 : Hid (w7.ownsRow w5.heap.size 24 1 v' (k + 1) ((vlK f (k + 1)).map fun y => .int .u64 (W64 y))) := Lib.hid (by rw [HSN.out]; exact how)
        have HN7 := Lib.hid hn7
        clear how hgr hn7 hown6
        go_wp2_with fail
        refine (HE2'.out _ HN7.out).mono ?_
        rintro e w8 ⟨rfl, n8⟩
        have HN8 := Lib.hid (HN7.out.trans n8)
        have HO8 := Lib.hid (ow_blkP HO7.out (fun g' e => n8.block g' (ow_ltP HO7.out g' e).2))
        have d3 := HCY.out _ HN8.out
        clear n8 HE2' HCY
        go_wp2
        exact ⟨⟨k + 1, by omega, by go_num, HO8.out, HN8.out⟩, by simp [intOf]; omega⟩
      · obtain rfl : k = n3 := by omega
        obtain ⟨x6, c6, rfl, hq6⟩ := QRow.of_owns HOWN.out (by omega)
        have hS := HSB.out x3 c3 x6 c6 _ (HG5.out.trans HN.out) (HQ5.out.stay HN.out) (by rw [HWL.out]; exact hq6)
        have HS := Lib.hid hS
        have HNW := Lib.hid (HG5.out.trans HN.out)
        clear hS hq6 HOWN
        go_wp2_with fail
        refine HS.out.mono ?_
        rintro e w9 ⟨v9, rfl, ho9, n9⟩
        obtain ⟨x9, c9, rfl, hq9⟩ := QRow.of_owns ho9 (by omega)
        have HN9 := Lib.hid (HNW.out.trans n9)
        have hW := words_ref x9 a0 240 c9 240 m0 l l W w9 hq9 (HQ.out.stay HN9.out) HN9.out
        rw [beq_self_eq_true] at hW
        have HWD := Lib.hid hW
        have n9' := n9
        have hq9' := hq9
        clear hW hq9 ho9 n9 HS
        have HD := Lib.hid (HQ5.out.stay (HN.out.trans n9'))
        obtain ⟨q5, u5, e5, _⟩ := HD.out.addr (by omega)
        subst e5
        obtain ⟨q6, u6, e6, _⟩ := HQ.out.addr (by omega)
        subst e6
        have hc3 := HD.out.le
        have hm3 := HQ.out.le
        have hr3 := HD.out.room
        have hr0 := HQ.out.room
        have HQ9 := Lib.hid hq9'
        have hW2 : ∀ w', New w9 w' → Calls Try.prog 23 #[.slice (some ⟨q5, u5 + 128, none⟩) 112 (c3 - 128), .slice (some ⟨q6, u6 + 128, none⟩) 112 (m0 - 128)] w' fun e w'' => e = .returned (.bool true) ∧ New w' w'' := by
          intro w' hn
          have h1 := (HD.out.stay hn).slice 128 112 (c3 - 128) (by omega) (by omega) (by omega)
          have h2 := (HQ.out.stay (HN9.out.trans hn)).slice 128 112 (m0 - 128) (by omega) (by omega) (by omega)
          have h3 := words_ref _ _ _ _ _ _ _ _ W w' h1 h2 (HN9.out.trans hn)
          rw [HPT.out, beq_self_eq_true] at h3
          exact h3.mono fun e w'' h => ⟨h.1, h.2.1⟩
        have HW2 := Lib.hid hW2
        have hW1 : ∀ w', New w9 w' → Calls Try.prog 23 #[.slice x9 240 c9, .slice (some ⟨q6, u6, none⟩) 240 m0] w' fun e w'' => e = .returned (.bool true) ∧ New w' w'' := by
          intro w' hn
          have h3 := words_ref _ _ _ _ _ _ _ _ W w' (HQ9.out.stay hn) (HQ.out.stay (HN9.out.trans hn)) (HN9.out.trans hn)
          rw [beq_self_eq_true] at h3
          exact h3.mono fun e w'' h => ⟨h.1, h.2.1⟩
        have HW1 := Lib.hid hW1
        clear hW1 hW2 HWD hq9'
        go_wp2_with fail
        refine wp_region_class (fun w' => New w9 w') (by kernel_rfl) (by kernel_rfl) (New.refl w9).drew ?_
        intro I _ f9 hall hback
        have HSTEP : Hid (∀ n w', New (f9 n) w' → ∃ m, w' = f9 m) := Lib.hid fun n w' hn => hback w' ((hall n).trans hn)
        have HALL := Lib.hid hall
        clear hall hback
        repeat (go_big_quiet_step (first
          | (go_at_call_of 23 (Value.slice x9 240 c9); refine class_new HSTEP.out (HW1.out _ (HALL.out _)))
          | (go_at_call 23; refine class_new HSTEP.out (HW2.out _ (HALL.out _)))))
        refine wpQuiet_nil ?_
        rintro w10 ⟨n1, hw1⟩
        have hS := HALL.out n1
        rw [← hw1] at hS
        have HN10 := Lib.hid (HN9.out.trans hS)
        clear HALL HSTEP hw1 hS
        go_wp2
        go_ret
        exact ⟨rfl, HN10.out⟩
  · have HSN := Lib.hid (fun w' (hw : New W w') => tshift_no a0 n0 m0 l a1 a2 n2 m2 xl a3 n3 m3 yl w' (hq.stay hw) (hx.stay hw) (hy.stay hw) hE)
    by_cases hc : chk a1 l.length 240 = 0
    · obtain ⟨b1, b2, b3⟩ := chk_good hc
      have HTG := Lib.hid (fun w' (hw : New W w') => targets_ref a1 b1 b2 a2 n2 m2 xl a3 n3 m3 yl w' (hx.stay hw) (hy.stay hw))
      have he : csN a1 l.length 240 xl yl = tgE a1.toNat xl yl := by unfold csN; rw [if_neg (by rw [hc]; simp)]
      rw [he] at HSN hE
      have hne : (tgE a1.toNat xl yl != 0) = true := by rw [bne_iff_ne]; exact hE
      rw [hc] at HCR
      clear hE hc b1 b2 b3 he hq hx hy hll
      generalize tgE a1.toNat xl yl = E at HSN HTG hne
      go_enter Try.func10, Try.ntmps10
      go_wp2_with fail
      refine (awake23 _).mono ?_
      rintro e w ⟨rfl, hg⟩
      go_wp2_with fail
      refine (HSN.out _ hg).mono ?_
      rintro e w3 ⟨rfl, n3'⟩
      have HG3 := Lib.hid (hg.trans n3')
      clear hg n3' HSN
      go_wp2_with fail
      refine (HCR.out _).mono ?_
      rintro e w4 ⟨rfl, rfl⟩
      go_wp2_with fail
      refine (HTG.out _ HG3.out).mono ?_
      rintro e w5 ⟨rfl, n5⟩
      have HG5 := Lib.hid (HG3.out.trans n5)
      clear n5 HG3 HTG HCR
      go_wp2
      go_ret
      exact ⟨rfl, HG5.out⟩
    · have he : csN a1 l.length 240 xl yl = chk a1 l.length 240 := by unfold csN; rw [if_pos hc]
      rw [he] at HSN
      have hne : (chk a1 l.length 240 != 0) = true := by rw [bne_iff_ne]; exact hc
      have hne2 : (chk a1 l.length 240 == 0) = false := by rw [beq_eq_false_iff_ne]; exact hc
      clear hE hc he hq hx hy hll
      generalize chk a1 l.length 240 = E at HSN HCR hne hne2
      go_enter Try.func10, Try.ntmps10
      go_wp2_with fail
      refine (awake23 _).mono ?_
      rintro e w ⟨rfl, hg⟩
      go_wp2_with fail
      refine (HSN.out _ hg).mono ?_
      rintro e w3 ⟨rfl, n3'⟩
      have HG3 := Lib.hid (hg.trans n3')
      clear hg n3' HSN
      go_wp2_with fail
      refine (HCR.out _).mono ?_
      rintro e w4 ⟨rfl, rfl⟩
      go_wp2
      go_ret
      exact ⟨rfl, HG3.out⟩
end Go.Proofs.Ytadkbpdbbgjkgaa
