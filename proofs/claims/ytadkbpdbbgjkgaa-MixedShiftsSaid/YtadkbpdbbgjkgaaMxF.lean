/- The walk of the statement MixedShifts: for all seeds, all numbers of bits, all keys, all targets. -/
import Derived.Test.YtadkbpdbbgjkgaaMxE
import Derived.Test.YtadkbpdbbgjkgaaClass
namespace Go.Proofs.Ytadkbpdbbgjkgaa
open Go Go.RowKit Go.Bv Go.Tab
set_option linter.unusedVariables false
set_option maxRecDepth 100000
/-- keys and targets that may be, of a seed that is right -/
structure GoodM (l : List (BitVec 64)) (bits : Int) (xl yl : List (BitVec 64)) : Prop where
  len : l.length = 320
  b1 : 1 ≤ bits
  b2 : bits ≤ 64
  tg : tgE bits.toNat xl yl = 0
theorem goodM_of {l : List (BitVec 64)} {bits : Int} {xl yl : List (BitVec 64)} (h : csN bits l.length 320 xl yl = 0) : GoodM l bits xl yl := by
  unfold csN at h
  by_cases e : chk bits l.length 320 = 0
  · rw [if_neg (by rw [e]; simp)] at h
    obtain ⟨b1, b2, b3⟩ := chk_good e
    exact ⟨by omega, b1, b2, h⟩
  · rw [if_pos e] at h; exact absurd h e
theorem csM_of {l : List (BitVec 64)} {bits : Int} {xl yl : List (BitVec 64)} (h : GoodM l bits xl yl) : chk bits l.length 320 = 0 ∧ csN bits l.length 320 xl yl = 0 := by
  have e : chk bits l.length 320 = 0 := by
    have h1 := h.len; have h2 := h.b1; have h3 := h.b2
    unfold chk
    rw [if_neg (by omega), if_neg (by omega)]
  refine ⟨e, ?_⟩
  unfold csN
  rw [if_neg (by rw [e]; simp), h.tg]
theorem goodM_ev {l : List (BitVec 64)} {bits : Int} {xl yl : List (BitVec 64)} (h : GoodM l bits xl yl) {i : Nat} (hi : i < xl.length) : evE bits l.length 320 (xl.getD i 0) = 0 ∧ meV l bits (xl.getD i 0) = lowN (xs (l.take 192) (rowM l (xl.getD i 0)) 12) bits.toNat := by
  have e : evE bits l.length 320 (xl.getD i 0) = 0 := by
    unfold evE
    rw [if_neg (by rw [(csM_of h).1]; simp), if_pos (small_of ((tg_zero h.tg).2.2.2.1 i hi).1)]
  exact ⟨e, by unfold meV; rw [if_pos e]⟩
theorem miL_parts {l : List (BitVec 64)} {bits : Int} {xl yl : List (BitVec 64)} (h : l.length = 320) : (miL l bits xl yl).length = l.length ∧ (miL l bits xl yl).take 192 = aimL (l.take 192) xl.length 12 (miR l xl) ((List.range xl.length).map (byM l bits xl yl)) ∧ ((miL l bits xl yl).drop 192).take 128 = (l.drop 192).take 128 := by
  have h1 : (aimL (l.take 192) xl.length 12 (miR l xl) ((List.range xl.length).map (byM l bits xl yl))).length = 192 := by rw [aimL_len, List.length_take, h]; rfl
  have h2 : ((l.drop 192).take 128).length = 128 := by rw [List.length_take, List.length_drop, h]; rfl
  unfold miL
  refine ⟨by rw [List.length_append, h1, h2, h], ?_, ?_⟩
  · rw [List.take_append_of_le_length (by omega), List.take_of_length_le (by omega)]
  · rw [List.drop_append_of_le_length (by omega), List.drop_of_length_le (by omega), List.nil_append, List.take_of_length_le (by omega)]
theorem miL_len (l : List (BitVec 64)) (bits : Int) (xl yl : List (BitVec 64)) (h : l.length = 320) : (miL l bits xl yl).length = l.length := (miL_parts h).1
theorem dwx_part {l m : List (BitVec 64)} (h : (m.drop 192).take 128 = (l.drop 192).take 128) (x : BitVec 64) : ∀ k, k ≤ 8 → dwx m x k = dwx l x k
  | 0, _ => rfl
  | k + 1, hk => by
    show dwx m x k ^^^ m.getD (192 + 16 * k + (lat x k).toNat) 0 = dwx l x k ^^^ l.getD (192 + 16 * k + (lat x k).toNat) 0
    have := lat_lt x k
    rw [dwx_part h x k (by omega), Nat.add_assoc, ← getD_part m 192 128 _ (by omega), ← getD_part l 192 128 _ (by omega), h]
theorem miL_row {l : List (BitVec 64)} {bits : Int} {xl yl : List (BitVec 64)} (h : l.length = 320) (x : BitVec 64) : rowM (miL l bits xl yl) x = rowM l x := by
  unfold rowM
  rw [dwx_part (miL_parts h).2.2 x 8 (by omega)]
theorem miL_rows {l : List (BitVec 64)} {bits : Int} {xl yl : List (BitVec 64)} (h : l.length = 320) : miR (miL l bits xl yl) xl = miR l xl := by
  funext i
  exact miL_row h _
theorem miL_good {l : List (BitVec 64)} {bits : Int} {xl yl zl : List (BitVec 64)} (h : GoodM l bits xl yl) (hz : tgE bits.toNat xl zl = 0) : GoodM (miL l bits xl yl) bits xl zl := ⟨by rw [miL_len _ _ _ _ h.len]; exact h.len, h.b1, h.b2, hz⟩
theorem rowM_in (l : List (BitVec 64)) (x : BitVec 64) (p : Nat) (hp : p < 12) : 0 ≤ (rowM l x).getD p 0 ∧ (rowM l x).getD p 0 < 16 := by
  have h : p < (rowM l x).length := by rw [rowM_len]; exact hp
  rw [List.getD_eq_getElem?_getD, List.getElem?_eq_getElem h]
  exact rowM_mem l x _ (List.getElem_mem h)
theorem goodM_rows {l : List (BitVec 64)} {bits : Int} {xl yl : List (BitVec 64)} (h : GoodM l bits xl yl) : ∀ i j, i < xl.length → j < xl.length → i ≠ j → ∃ p, p < 12 ∧ rn (miR l xl) i p ≠ rn (miR l xl) j p := by
  obtain ⟨t1, t2, t3, t4, t5⟩ := tg_zero h.tg
  intro i j hi hj hij
  refine rn_differ (n := xl.length) (fun i _ => rowM_len _ _) (fun i p _ hp => (rowM_in l _ p hp).1) hi hj (fun he => t5 i j hi hj hij ?_)
  have := rowM_inj l (xl.getD i 0) (xl.getD j 0) (small_of (t4 i hi).1) (small_of (t4 j hj).1)
  rw [show rowM l (xl.getD i 0) = rowM l (xl.getD j 0) from he, beq_self_eq_true] at this
  exact beq_iff_eq.1 this.symm
theorem miL_ev {l : List (BitVec 64)} {bits : Int} {xl yl : List (BitVec 64)} (h : GoodM l bits xl yl) {i : Nat} (hi : i < xl.length) : meV (miL l bits xl yl) bits (xl.getD i 0) = yl.getD i 0 := by
  have hb : bits.toNat ≤ 64 := by have := h.b2; omega
  obtain ⟨t1, t2, t3, t4, t5⟩ := tg_zero h.tg
  rw [(goodM_ev (miL_good h h.tg) hi).2, (miL_parts h.len).2.1, miL_row h.len]
  have := aimL_sum (l.take 192) xl.length 12 (miR l xl) ((List.range xl.length).map (byM l bits xl yl)) t2 (by omega) (fun i p _ hp => rowM_in l _ p hp) (goodM_rows h) (by rw [List.length_take, h.len]; omega) i hi
  rw [show rowM l (xl.getD i 0) = miR l xl i from rfl, this, map_at _ hi]
  unfold byM
  rw [(goodM_ev h hi).2]
  exact aimed_low hb (t4 i hi).2
/-- what the keys were brought to -/
def waM (l : List (BitVec 64)) (bits : Int) (xl : List (BitVec 64)) : List (BitVec 64) := (List.range xl.length).map fun i => meV l bits (xl.getD i 0)
theorem waM_tg {l : List (BitVec 64)} {bits : Int} {xl yl : List (BitVec 64)} (h : GoodM l bits xl yl) : tgE bits.toNat xl (waM l bits xl) = 0 := by
  have hb : bits.toNat ≤ 64 := by have := h.b2; omega
  obtain ⟨t1, t2, t3, t4, t5⟩ := tg_zero h.tg
  have hwl : (waM l bits xl).length = xl.length := by simp [waM]
  refine tg_ok (by omega) (fun j hj => ?_) (fun j hj => same2_no fun k hk => t5 k j (by omega) hj (by omega))
  unfold bad2 waM
  rw [map_at _ hj, (goodM_ev h hj).2, lowN_fits _ _ hb, (t4 j hj).1]
  rfl
theorem miL_back {l : List (BitVec 64)} {bits : Int} {xl yl : List (BitVec 64)} (h : GoodM l bits xl yl) : miL (miL l bits xl yl) bits xl (waM l bits xl) = l := by
  have e : (List.range xl.length).map (byM (miL l bits xl yl) bits xl (waM l bits xl)) = (List.range xl.length).map (byM l bits xl yl) := by
    refine List.map_congr_left fun i hi => ?_
    have hi := List.mem_range.1 hi
    unfold byM
    rw [miL_ev h hi]
    unfold waM
    rw [map_at _ hi, BitVec.xor_comm]
  show aimL ((miL l bits xl yl).take 192) xl.length 12 (miR (miL l bits xl yl) xl) ((List.range xl.length).map (byM (miL l bits xl yl) bits xl (waM l bits xl))) ++ ((miL l bits xl yl).drop 192).take 128 = l
  rw [e, (miL_parts h.len).2.1, (miL_parts h.len).2.2, miL_rows h.len, aimL_twice, List.take_of_length_le (l := l.drop 192) (by rw [List.length_drop, h.len]; omega), List.take_append_drop]
set_option maxHeartbeats 8000000 in
theorem MixedShifts_walk (W : World) (a0 : Option Addr) (n0 m0 : Nat) (z0 : List Int) (w0 : IRow .u64 W a0 n0 m0 z0) (r0 : m0 * 8 ≤ 140737488351232) (a1 : Int) (w1 : (Lit.int .i64 a1).wf = true) (a2 : Option Addr) (n2 m2 : Nat) (z2 : List Int) (w2 : IRow .u64 W a2 n2 m2 z2) (r2 : m2 * 8 ≤ 140737488351232) (a3 : Option Addr) (n3 m3 : Nat) (z3 : List Int) (w3 : IRow .u64 W a3 n3 m3 z3) (r3 : m3 * 8 ≤ 140737488351232) :
    Calls Try.prog 13 #[.slice a0 n0 m0, .int .i64 a1, .slice a2 n2 m2, .slice a3 n3 m3] W fun e w' => e = .returned (.bool true) ∧ Below W.heap.size W w' := by
  obtain ⟨l, hq⟩ := w0.words r0
  obtain ⟨xl, hx⟩ := w2.words r2
  obtain ⟨yl, hy⟩ := w3.words r3
  obtain ⟨i0, hi, hz0, hz1, hz2⟩ := info_parts info_u64t
  have hm := hq.most
  have hll := hq.len_eq
  have hCR : ∀ w, Calls Try.prog 27 #[.slice a0 n0 m0, .int .i64 a1, .int .i64 320] w fun e w' => e = .returned (.int .i64 (chk a1 l.length 320)) ∧ w' = w := by
    rw [hll]; exact fun w => check_ref a0 n0 m0 a1 320 w hm
  have HCR := Lib.hid hCR
  clear hCR w0 w1 w2 w3 r0 r2 r3
  by_cases hE : csN a1 l.length 320 xl yl = 0
  · have hG := goodM_of hE
    obtain ⟨hc0, _⟩ := csM_of hG
    obtain ⟨t1, t2, t3, t4, t5⟩ := tg_zero hG.tg
    have hlx := hx.len_eq
    have hly := hy.len_eq
    obtain rfl : n3 = n2 := by omega
    obtain rfl : n0 = 320 := by rw [← hll]; exact hG.len
    have HSH := Lib.hid (fun w' (hw : New W w') => mshift_ok a0 m0 l a1 a2 n3 m2 xl a3 m3 yl w' (hq.stay hw) (hx.stay hw) (hy.stay hw) hE)
    have HTG := Lib.hid (fun w' (hw : New W w') => targets_ref a1 hG.b1 hG.b2 a2 n3 m2 xl a3 n3 m3 yl w' (hx.stay hw) (hy.stay hw))
    rw [hc0] at HCR
    have htg := hG.tg
    rw [htg] at HTG
    have HE1 := Lib.hid (fun k (hk : k < n3) w' (hw : New W w') => evalm_ref a0 320 m0 l a1 (xl.getD k 0) w' (hq.stay hw))
    have HE1Z : Hid (∀ k, k < n3 → evE a1 l.length 320 (xl.getD k 0) = 0) := Lib.hid (fun k hk => (goodM_ev hG (by omega)).1)
    have hsl := miL_len l a1 xl yl hG.len
    have HGS := miL_good hG hG.tg
    have HE2Z : Hid (∀ k, k < n3 → evE a1 (miL l a1 xl yl).length 320 (xl.getD k 0) = 0 ∧ meV (miL l a1 xl yl) a1 (xl.getD k 0) = yl.getD k 0) := Lib.hid (fun k hk => ⟨(goodM_ev HGS (by omega)).1, miL_ev hG (by omega)⟩)
    have HBK : Hid (∀ (x c : Nat) (x5 : Option Addr) (c5 : Nat) w', New W w' → True) := Lib.hid (fun _ _ _ _ _ _ => trivial)
    have HSB := Lib.hid (fun (x5 : Option Addr) c5 (x6 : Option Addr) c6 w' (hw : New W w') (h5 : QRow w' x5 320 c5 (miL l a1 xl yl)) (h6 : QRow w' x6 n3 c6 (waM l a1 xl)) => mshift_ok x5 c5 (miL l a1 xl yl) a1 a2 n3 m2 xl x6 c6 (waM l a1 xl) w' h5 (hx.stay hw) h6 (csM_of (miL_good hG (waM_tg hG))).2)
    rw [miL_back hG] at HSB
    obtain ⟨f, hf⟩ : ∃ f : Nat → BitVec 64, (fun i => meV l a1 (xl.getD i 0)) = f := ⟨_, rfl⟩
    have HFV : Hid (∀ k, f k = meV l a1 (xl.getD k 0)) := Lib.hid (fun k => by rw [← hf])
    have HWL : Hid (waM l a1 xl = vlK f n3) := Lib.hid (by unfold waM vlK; rw [hlx, hf])
    clear hf
    have hn30 : 0 < n3 := by omega
    have hn33 : n3 ≤ 3 := by omega
    obtain ⟨p2, o2, e2, _⟩ := hx.addr hn30
    subst e2
    obtain ⟨p3, o3, e3, _⟩ := hy.addr hn30
    subst e3
    have HX := Lib.hid hx
    have HY := Lib.hid hy
    have HQ := Lib.hid hq
    have hpt := (miL_parts (bits := a1) (xl := xl) (yl := yl) hG.len).2.2
    obtain ⟨out, hout⟩ : ∃ out, miL l a1 xl yl = out := ⟨_, rfl⟩
    rw [hout] at HSH HSB HE2Z hpt
    have HPT := Lib.hid hpt
    clear hpt
    clear hE hG hc0 t1 t2 t3 t4 t5 htg hsl HGS HBK hx hy hq hlx hly hll hout
    go_enter Try.func13, Try.ntmps13
    go_wp2_with fail
    refine (awake24 _).mono ?_
    rintro e w ⟨rfl, hg⟩
    go_wp2_with fail
    refine (HSH.out _ hg).mono ?_
    rintro e w3 ⟨v3, rfl, ho3, n3'⟩
    obtain ⟨x3, c3, rfl, hq3⟩ := QRow.of_owns ho3 (by omega)
    have HG3 := Lib.hid (hg.trans n3')
    have HQ3 := Lib.hid hq3
    clear hg n3' HSH hq3 ho3
    go_wp2_with fail
    refine (HCR.out _).mono ?_
    rintro e w4 ⟨rfl, rfl⟩
    go_wp2_with fail
    refine (HTG.out _ HG3.out).mono ?_
    rintro e w5 ⟨rfl, n5⟩
    have HG5 := Lib.hid (HG3.out.trans n5)
    have HQ5 := Lib.hid (HQ3.out.stay n5)
    clear n5 HG3 HQ3 HTG HCR
    go_wp2
    go_loopw [12, 52] (fun v iv wr => ∃ k : Nat, k ≤ n3 ∧ iv = .int .i64 (k : Int) ∧ wr.ownsRow w5.heap.size 24 1 v k ((vlK f k).map fun y => .int .u64 (W64 y)) ∧ New w5 wr) (fun _ iv _ => n3 - (intOf iv).toNat)
    case atStart => exact ⟨0, Nat.zero_le _, rfl, World.ownsRow_nil w5 _ _ 1, New.refl w5⟩
    case round =>
      obtain ⟨k, hk, rfl, hown, hnew⟩ := hrel
      have HOWN := Lib.hid hown
      have HN := Lib.hid hnew
      clear hown hnew
      by_cases hlt : (k : Int) < (n3 : Int)
      · have hk0 : (0 : Int) ≤ (k : Int) := by omega
        have hkn : k < n3 := by omega
        have hw := HG5.out.trans HN.out
        have d1 := (HX.out.stay hw).cell p2 o2 rfl k hkn
        have hE1 := HE1.out k hkn _ hw
        rw [HE1Z.out k hkn] at hE1
        have hE2 := fun w' (hn : New w5 w') => evalm_ref x3 320 c3 out a1 (xl.getD k 0) w' (HQ5.out.stay hn)
        rw [(HE2Z.out k hkn).1, (HE2Z.out k hkn).2] at hE2
        have HE1' := Lib.hid hE1
        have HE2' := Lib.hid hE2
        have HCY : Hid (∀ w', New w5 w' → w'.cell? ⟨p3, o3 + k, none⟩ = some (.int .u64 (W64 (yl.getD k 0)))) := Lib.hid (fun w' hn => (HY.out.stay (HG5.out.trans hn)).cell p3 o3 rfl k hkn)
        have hsn := vlK_snoc f k
        rw [HFV.out k] at hsn
        have HSN := Lib.hid hsn
        clear hsn
        obtain ⟨xv, hxv⟩ : ∃ xv, xl.getD k 0 = xv := ⟨_, rfl⟩
        obtain ⟨yv, hyv⟩ : ∃ yv, yl.getD k 0 = yv := ⟨_, rfl⟩
        rw [hxv] at d1 HE1' HE2' HSN
        rw [hyv] at HE2' HCY
        obtain ⟨ev, hev⟩ : ∃ ev, meV l a1 xv = ev := ⟨_, rfl⟩
        rw [hev] at HE1' HSN
        clear hE1 hE2 hxv hyv hev hw
        go_wp2_with fail
        refine HE1'.out.mono ?_
        rintro e w6 ⟨rfl, n6⟩
        have HN6 := Lib.hid (HN.out.trans n6)
        have hown6 := ow_blkP HOWN.out (fun g' e => n6.block g' (ow_ltP HOWN.out g' e).2)
        have hle6 := HN6.out.le
        clear n6 d1 HE1'
        go_wp2_with (at_builtin; refine wpList_append_own _ rfl _ _ 22 rfl w5.heap.size 24 i0 (.int .u64 0) 1 8 Try.underlying22 hi hz0 hz1 hz2 rfl (by decide) _ k _ rfl (hown6.alloc _) ⟨w6.heap.size, 0, none⟩ 1 1 [.int .u64 (W64 ev)] rfl rfl ?c1 ?c2 ?c3 ?c4 ?c5 ?_)
        case c1 => exact new_cells_i w6 _ _
        case c2 => intro u hu; simp at hu; subst hu; rfl
        case c3 => unfold maxLen; omega
        case c4 => omega
        case c5 => simp; omega
        intro v' w7 how hgr _
        have hn7 : New w5 w7 := (HN6.out.alloc _).grown' hgr (own_base hown6)
        have HO7 : Hid (w7.ownsRow w5.heap.size 24 1 v' (k + 1) ((vlK f (k + 1)).map fun y => .int .u64 (W64 y))) := Lib.hid (by rw [HSN.out]; exact how)
        have HN7 := Lib.hid hn7
        clear how hgr hn7 hown6
        go_wp2_with fail
        refine (HE2'.out _ HN7.out).mono ?_
        rintro e w8 ⟨rfl, n8⟩
        have HN8 := Lib.hid (HN7.out.trans n8)
        have HO8 := Lib.hid (ow_blkP HO7.out (fun g' e => n8.block g' (ow_ltP HO7.out g' e).2))
        have d3 := HCY.out _ HN8.out
        clear n8 HE2' HCY
        go_wp2
        exact ⟨⟨k + 1, by omega, by go_num, HO8.out, HN8.out⟩, by simp [intOf]; omega⟩
      · obtain rfl : k = n3 := by omega
        obtain ⟨x6, c6, rfl, hq6⟩ := QRow.of_owns HOWN.out (by omega)
        have hS := HSB.out x3 c3 x6 c6 _ (HG5.out.trans HN.out) (HQ5.out.stay HN.out) (by rw [HWL.out]; exact hq6)
        have HS := Lib.hid hS
        have HNW := Lib.hid (HG5.out.trans HN.out)
        clear hS hq6 HOWN
        go_wp2_with fail
        refine HS.out.mono ?_
        rintro e w9 ⟨v9, rfl, ho9, n9⟩
        obtain ⟨x9, c9, rfl, hq9⟩ := QRow.of_owns ho9 (by omega)
        have HN9 := Lib.hid (HNW.out.trans n9)
        have hW := words_ref x9 a0 320 c9 320 m0 l l W w9 hq9 (HQ.out.stay HN9.out) HN9.out
        rw [beq_self_eq_true] at hW
        have HWD := Lib.hid hW
        have n9' := n9
        have hq9' := hq9
        clear hW hq9 ho9 n9 HS
        have HD := Lib.hid (HQ5.out.stay (HN.out.trans n9'))
        obtain ⟨q5, u5, e5, _⟩ := HD.out.addr (by omega)
        subst e5
        obtain ⟨q6, u6, e6, _⟩ := HQ.out.addr (by omega)
        subst e6
        have hc3 := HD.out.le
        have hm3 := HQ.out.le
        have hr3 := HD.out.room
        have hr0 := HQ.out.room
        have HQ9 := Lib.hid hq9'
        have hW2 : ∀ w', New w9 w' → Calls Try.prog 23 #[.slice (some ⟨q5, u5 + 192, none⟩) 128 (c3 - 192), .slice (some ⟨q6, u6 + 192, none⟩) 128 (m0 - 192)] w' fun e w'' => e = .returned (.bool true) ∧ New w' w'' := by
          intro w' hn
          have h1 := (HD.out.stay hn).slice 192 128 (c3 - 192) (by omega) (by omega) (by omega)
          have h2 := (HQ.out.stay (HN9.out.trans hn)).slice 192 128 (m0 - 192) (by omega) (by omega) (by omega)
          have h3 := words_ref _ _ _ _ _ _ _ _ W w' h1 h2 (HN9.out.trans hn)
          rw [HPT.out, beq_self_eq_true] at h3
          exact h3.mono fun e w'' h => ⟨h.1, h.2.1⟩
        have HW2 := Lib.hid hW2
        have hW1 : ∀ w', New w9 w' → Calls Try.prog 23 #[.slice x9 320 c9, .slice (some ⟨q6, u6, none⟩) 320 m0] w' fun e w'' => e = .returned (.bool true) ∧ New w' w'' := by
          intro w' hn
          have h3 := words_ref _ _ _ _ _ _ _ _ W w' (HQ9.out.stay hn) (HQ.out.stay (HN9.out.trans hn)) (HN9.out.trans hn)
          rw [beq_self_eq_true] at h3
          exact h3.mono fun e w'' h => ⟨h.1, h.2.1⟩
        have HW1 := Lib.hid hW1
        clear hW1 hW2 HWD hq9'
        go_wp2_with fail
        refine wp_region_class (fun w' => New w9 w') (by kernel_rfl) (by kernel_rfl) (New.refl w9).drew ?_
        intro I _ f9 hall hback
        have HSTEP : Hid (∀ n w', New (f9 n) w' → ∃ m, w' = f9 m) := Lib.hid fun n w' hn => hback w' ((hall n).trans hn)
        have HALL := Lib.hid hall
        clear hall hback
        repeat (go_big_quiet_step (first
          | (go_at_call_of 23 (Value.slice x9 320 c9); refine class_new HSTEP.out (HW1.out _ (HALL.out _)))
          | (go_at_call 23; refine class_new HSTEP.out (HW2.out _ (HALL.out _)))))
        refine wpQuiet_nil ?_
        rintro w10 ⟨n1, hw1⟩
        have hS := HALL.out n1
        rw [← hw1] at hS
        have HN10 := Lib.hid (HN9.out.trans hS)
        clear HALL HSTEP hw1 hS
        go_wp2
        go_ret
        exact ⟨rfl, HN10.out⟩
  · have HSN := Lib.hid (fun w' (hw : New W w') => mshift_no a0 n0 m0 l a1 a2 n2 m2 xl a3 n3 m3 yl w' (hq.stay hw) (hx.stay hw) (hy.stay hw) hE)
    by_cases hc : chk a1 l.length 320 = 0
    · obtain ⟨b1, b2, b3⟩ := chk_good hc
      have HTG := Lib.hid (fun w' (hw : New W w') => targets_ref a1 b1 b2 a2 n2 m2 xl a3 n3 m3 yl w' (hx.stay hw) (hy.stay hw))
      have he : csN a1 l.length 320 xl yl = tgE a1.toNat xl yl := by unfold csN; rw [if_neg (by rw [hc]; simp)]
      rw [he] at HSN hE
      have hne : (tgE a1.toNat xl yl != 0) = true := by rw [bne_iff_ne]; exact hE
      rw [hc] at HCR
      clear hE hc b1 b2 b3 he hq hx hy hll
      generalize tgE a1.toNat xl yl = E at HSN HTG hne
      go_enter Try.func13, Try.ntmps13
      go_wp2_with fail
      refine (awake24 _).mono ?_
      rintro e w ⟨rfl, hg⟩
      go_wp2_with fail
      refine (HSN.out _ hg).mono ?_
      rintro e w3 ⟨rfl, n3'⟩
      have HG3 := Lib.hid (hg.trans n3')
      clear hg n3' HSN
      go_wp2_with fail
      refine (HCR.out _).mono ?_
      rintro e w4 ⟨rfl, rfl⟩
      go_wp2_with fail
      refine (HTG.out _ HG3.out).mono ?_
      rintro e w5 ⟨rfl, n5⟩
      have HG5 := Lib.hid (HG3.out.trans n5)
      clear n5 HG3 HTG HCR
      go_wp2
      go_ret
      exact ⟨rfl, HG5.out⟩
    · have he : csN a1 l.length 320 xl yl = chk a1 l.length 320 := by unfold csN; rw [if_pos hc]
      rw [he] at HSN
      have hne : (chk a1 l.length 320 != 0) = true := by rw [bne_iff_ne]; exact hc
      have hne2 : (chk a1 l.length 320 == 0) = false := by rw [beq_eq_false_iff_ne]; exact hc
      clear hE hc he hq hx hy hll
      generalize chk a1 l.length 320 = E at HSN HCR hne hne2
      go_enter Try.func13, Try.ntmps13
      go_wp2_with fail
      refine (awake24 _).mono ?_
      rintro e w ⟨rfl, hg⟩
      go_wp2_with fail
      refine (HSN.out _ hg).mono ?_
      rintro e w3 ⟨rfl, n3'⟩
      have HG3 := Lib.hid (hg.trans n3')
      clear hg n3' HSN
      go_wp2_with fail
      refine (HCR.out _).mono ?_
      rintro e w4 ⟨rfl, rfl⟩
      go_wp2
      go_ret
      exact ⟨rfl, HG3.out⟩
end Go.Proofs.Ytadkbpdbbgjkgaa
