/- shuffle.Choices. -/
import Derived.Test.YtopepchfaomdoaaShfC
import Derived.Deep.RegionHeld3
import Derived.Deep.DeepCutAuto
namespace Go.Proofs.Ytopepchfaomdoaa
open Go Go.RowKit Go.Bv
set_option linter.unusedVariables false
theorem ch_next (p : Nat → Nat) {n k i : Nat} (hk : k < n) (hi : n - 1 - k = i) :
    chC p n (k + 1) = (fun x => if x = i then inF (chC p n k) n k (p i) else chC p n k x) ∧ stF (chC p n (k + 1)) n (k + 1) = sw (stF (chC p n k) n k) i (inF (chC p n k) n k (p i)) ∧ inF (chC p n (k + 1)) n (k + 1) = swI (stF (chC p n k) n k) (inF (chC p n k) n k) i (inF (chC p n k) n k (p i)) := by
  subst hi
  refine ⟨rfl, ?_, ?_⟩
  · show sw _ _ _ = _
    rw [ch_st p n k hk, ch_at]
  · show swI _ _ _ _ = _
    rw [ch_st p n k hk, ch_in p n k hk, ch_at]
theorem sw_at (f : Nat → Nat) (i j : Nat) : sw f i j i = f j := by
  unfold sw
  by_cases e : i = j
  · rw [if_pos e, e]
  · rw [if_neg e, if_pos rfl]
theorem sw_at2 (f : Nat → Nat) (i j : Nat) : sw f i j j = f i := by unfold sw; rw [if_pos rfl]
theorem liI_swI (f g : Nat → Nat) {n i j : Nat} (h1 : f j < n) (h2 : f i < n) : ((liI g n).set (f j) (i : Int)).set (f i) (j : Int) = liI (swI f g i j) n := by
  rw [liI_set g i h1, liI_set _ j h2]; rfl
theorem zeros_li (n : Nat) : (List.replicate n (Value.int .i64 0)) = (liI (fun _ => 0) n).map fun x => .int .i64 x := by
  unfold liI
  apply List.ext_getElem?
  intro i
  rw [List.getElem?_replicate, List.getElem?_map, List.getElem?_map]
  by_cases h : i < n
  · rw [if_pos h, List.getElem?_range h]; rfl
  · rw [if_neg h, List.getElem?_eq_none (by simp; omega)]; rfl
theorem ow_in {w : World} {base g n cap : Nat} {e : TypeId} {xs : List Value} (h : w.ownsRow base e 1 (.slice (some ⟨g, 0, none⟩) n cap) n xs) : base ≤ g ∧ g < w.heap.size ∧ n ≤ cap := by
  obtain ⟨hl, h | ⟨g', cap', cur, hv, hb, hc, h2, h3, _⟩⟩ := h
  · cases h.1
  · injection hv with e1 e2 e3
    cases e1; subst e3
    exact ⟨hb, lt_of_block hc, h2⟩
set_option maxRecDepth 100000 in
set_option maxHeartbeats 1000000 in
theorem chc_bad (a : Option Addr) (n c : Nat) (p : List Int) (w : World) (h : ZRow w a n c p) (hn : n ≤ 1000000) (hb : ¬ isO p) :
    Calls Try.prog 13 #[.slice a n c] w fun e w' => e = .returned (.tuple #[.slice none 0 0, .int .i64 2]) ∧ New w w' := by
  have hi := is_40 a n c p w h hn
  rw [isB_no hb] at hi
  have HI := Lib.hid hi
  clear hi hb h
  go_enter Try.func13, Try.ntmps13
  go_wp2_with fail
  refine (HI.out).mono ?_
  rintro e w9 ⟨rfl, hn9⟩
  have HN := Lib.hid hn9
  clear hn9
  go_wp2
  go_ret2
  exact ⟨rfl, HN.out⟩
set_option maxRecDepth 100000 in
set_option maxHeartbeats 8000000 in
theorem chc_ok (a : Option Addr) (n c : Nat) (p : List Int) (w : World) (h : ZRow w a n c p) (hn : n ≤ 1000000) (hp : isO p) :
    Calls Try.prog 13 #[.slice a n c] w fun e w' => ∃ a' c', e = .returned (.tuple #[.slice a' (n : Nat) c', .int .i64 0]) ∧ ZRow w' a' n c' (chI p) ∧ New w w' := by
  have hi := is_40 a n c p w h hn
  rw [isB_iff.2 hp] at hi
  have HI := Lib.hid hi
  have HH := Lib.hid h
  have HL := Lib.hid h.len_eq
  have HP := Lib.hid hp
  have HF := Lib.hid (fnI_or hp)
  rw [HL.out] at HF
  have HS := Lib.hid (fun w => sorted_40 n w hn)
  have hmk : ∀ W : World, (Instr.makeSlice 22 (.int .i64 (n : Int)) (.int .i64 (n : Int))).run Try.prog W = .ok (.slice (some ⟨W.heap.size, 0, none⟩) n n) (W.alloc (.cells (madeCells #[.int .i64 0] n) 3)) := fun W => make_int n hn _ W rfl
  clear hi h hp
  go_enter Try.func13, Try.ntmps13
  go_wp2_with fail
  refine (HI.out).mono ?_
  rintro e w9 ⟨rfl, hn9⟩
  have HN := Lib.hid hn9
  have HN9 := Lib.hid hn9
  clear hn9 HI
  go_wp2_with fail
  go_cut [4, 5] (fun c r wx => ∃ g1 g2, c = .slice (some ⟨g1, 0, none⟩) n n ∧ r = .slice (some ⟨g2, 0, none⟩) n n ∧ wx.ownsRow w9.heap.size 3 1 (.slice (some ⟨g1, 0, none⟩) n n) n ((liI (fun _ => 0) n).map fun x => .int .i64 x) ∧ wx.ownsRow w9.heap.size 3 1 (.slice (some ⟨g2, 0, none⟩) n n) n ((liI (fun x => x) n).map fun x => .int .i64 x) ∧ g1 ≠ g2 ∧ New w9 wx)
  case first =>
    go_region_held3 (fun w' => New w9 w')
      ((first | with_reducible assumption | with_reducible exact (New.refl _).drew | with_reducible exact New.drew (by assumption) | with_reducible exact ((New.refl _).alloc _).drew | with_reducible exact (((New.refl _).drew).alloc _).drew | with_reducible exact ((New.refl _).drew).alloc _ | with_reducible exact New.alloc (by assumption) _))
      (first
      | (go_at_call 28
         refine (HS.out _).mono ?_
         rintro e w4 ⟨g, rfl, how, hn4⟩
         have hn5 : New w9 w4 := by first
           | with_reducible exact (New.refl w9).drew.trans hn4
           | with_reducible exact ((New.refl w9).drew.alloc _).trans hn4
           | with_reducible exact ((New.refl w9).alloc _).drew.trans hn4
           | with_reducible exact (((New.refl w9).drew.alloc _).drew).trans hn4
           | with_reducible exact (New.refl w9).trans hn4))
    all_goals (
      go_wp2_with fail
      go_meet
      case rel => first
        | exact ⟨_, _, rfl, rfl, ow_new (ow_made w9 _ _ _ n _ (Nat.le_refl _) (by omega) (by rw [made_toList, zeros_li]) (by rw [List.length_map, liI_len])) ((New.refl _).drew.trans hn4), ow_base how (by simp), (fun e => by have := (ow_in how).1; simp at this; omega), hn5⟩
        | exact ⟨_, _, rfl, rfl, ow_made w4 _ _ _ n _ hn5.le (by omega) (by rw [made_toList, zeros_li]) (by rw [List.length_map, liI_len]), ow_new (ow_base how (by simp)) ((New.refl _).alloc _), (fun e => by have := (ow_in how).2.1; omega), hn5.alloc _⟩)
  case rest =>
    obtain ⟨g1, g2, rfl, rfl, ho1, ho2, hg12, hn⟩ := hcut
    clear hmk
    have HO1 := Lib.hid ho1
    have HO2 := Lib.hid ho2
    replace HN := Lib.hid (HN.out.trans hn)
    obtain ⟨_, _, he, hz2⟩ := ZRow.of_owns HO2.out (by omega) (in64_li _ (fun x hx => by omega))
    cases he
    have HC := Lib.hid (clone_z _ _ _ _ wc hz2)
    clear ho1 ho2 hn hz2
    go_wp2_with fail
    refine (HC.out).mono ?_
    rintro e w8 ⟨v, rfl, ho3, hn⟩
    have HO3 := Lib.hid ho3
    replace HN := Lib.hid (HN.out.trans hn)
    have HG : Hid (w.heap.size ≤ w9.heap.size ∧ w9.heap.size ≤ g1 ∧ w9.heap.size ≤ g2 ∧ g1 < wc.heap.size ∧ g2 < wc.heap.size) := Lib.hid (by
      have h1 := ow_in HO1.out
      have h2 := ow_in HO2.out
      exact ⟨HN9.out.le, h1.1, h2.1, h1.2.1, h2.2.1⟩)
    replace HO1 := Lib.hid (ow_new HO1.out hn)
    replace HO2 := Lib.hid (ow_new HO2.out hn)
    clear ho3 hn HC
    rcases n with _ | m
    · have HNIL : Hid (chI p = []) := Lib.hid (List.eq_nil_of_length_eq_zero (by rw [chI_len, HL.out]))
      go_wp2_with fail
      go_loop [7] (fun i => i = .int .i64 (-1)) (fun _ => 0)
      case atStart => rfl
      case round =>
        subst hrel
        obtain ⟨ar, cr, he, hzr⟩ := ZRow.of_owns HO1.out (by omega) (by intro z hz; cases hz)
        cases he
        have HZR := Lib.hid hzr
        clear hzr
        go_wp2
        go_ret2
        rw [HNIL.out]
        exact ⟨_, _, rfl, HZR.out, HN.out⟩
    · obtain ⟨g3, cap3, rfl, hg3, _, _, _⟩ := ow_shape HO3.out (by omega)
      have hne12 : ¬ g1 = g2 := hg12
      have hne21 : ¬ g2 = g1 := fun e => hg12 e.symm
      have hne13 : ¬ g1 = g3 := by have := HG.out; omega
      have hne31 : ¬ g3 = g1 := by have := HG.out; omega
      have hne23 : ¬ g2 = g3 := by have := HG.out; omega
      have hne32 : ¬ g3 = g2 := by have := HG.out; omega
      have HCE : Hid (liI (chC (fnI p) (m + 1) m) (m + 1) = chI p) := Lib.hid (by
        unfold chI
        rw [HL.out]
        exact liI_ext (fun x hx => (ch_one HF.out (by omega) x hx).symm))
      have HIN : Hid (∀ z ∈ chI p, In64 z) := Lib.hid (by
        unfold chI
        rw [HL.out]
        exact in64_li _ (fun x hx => by have := (ch_leads HF.out).1 x hx; omega))
      go_wp2_with fail
      go_loopw [7] (fun iv wr => ∃ j : Nat, j ≤ m ∧ iv = .int .i64 (j : Int) ∧ wr.ownsRow w9.heap.size 3 1 (.slice (some ⟨g1, 0, none⟩) (m + 1 : Nat) (m + 1)) (m + 1) ((liI (chC (fnI p) (m + 1) (m - j)) (m + 1)).map fun x => .int .i64 x) ∧ wr.ownsRow w9.heap.size 3 1 (.slice (some ⟨g2, 0, none⟩) (m + 1 : Nat) (m + 1)) (m + 1) ((liI (stF (chC (fnI p) (m + 1) (m - j)) (m + 1) (m - j)) (m + 1)).map fun x => .int .i64 x) ∧ wr.ownsRow wc.heap.size 3 1 (.slice (some ⟨g3, 0, none⟩) (m + 1 : Nat) cap3) (m + 1) ((liI (inF (chC (fnI p) (m + 1) (m - j)) (m + 1) (m - j)) (m + 1)).map fun x => .int .i64 x) ∧ New w wr) (fun iv _ => (intOf iv).toNat)
      case atStart => exact ⟨m, Nat.le_refl _, rfl, by rw [Nat.sub_self]; exact HO1.out, by rw [Nat.sub_self]; exact HO2.out, by rw [Nat.sub_self]; exact HO3.out, HN.out⟩
      case round =>
        clear HO1 HO2 HO3 HN
        obtain ⟨j, hj, rfl, h1, h2, h3, hnew⟩ := hrel
        have HO1 := Lib.hid h1
        have HO2 := Lib.hid h2
        have HO3 := Lib.hid h3
        have HN := Lib.hid hnew
        obtain ⟨wq, hwq⟩ : ∃ z, z = wr := ⟨_, rfl⟩
        rw [← hwq] at HO1 HO2 HO3 HN ⊢
        clear h1 h2 h3 hnew hwq
        rcases j with _ | j
        · rw [Nat.sub_zero, HCE.out] at HO1
          obtain ⟨ar, cr, he, hzr⟩ := ZRow.of_owns HO1.out (by omega) HIN.out
          cases he
          have HZR := Lib.hid hzr
          clear hzr
          go_wp2_with fail
          go_ret2
          exact ⟨_, _, rfl, HZR.out, HN.out⟩
        · have hj0 : (0 : Int) ≤ ((j + 1 : Nat) : Int) := by omega
          have hjp : (0 : Int) < ((j + 1 : Nat) : Int) := by omega
          have hjm : ((j + 1 : Nat) : Int) < ((m + 1 : Nat) : Int) := by omega
          obtain ⟨b, off, rfl, hc⟩ := (HH.out.stay HN.out).addr (by omega)
          have c1 := hc (j + 1) (by omega)
          clear hc
          have hP0 : p.getD (j + 1) 0 = ((fnI p (j + 1) : Nat) : Int) := by
            have := HP.out.1 (j + 1) (by rw [HL.out]; omega)
            unfold fnI; omega
          have hPn := HF.out.1 (j + 1) (by omega)
          rw [hP0] at c1
          obtain ⟨hrt, _⟩ := ch_all HF.out (m - (j + 1)) (by omega)
          have hqn := in_lt hrt (m - (j + 1)) (by omega) _ hPn
          obtain ⟨hN1, hN2, hN3⟩ := ch_next (fnI p) (n := m + 1) (k := m - (j + 1)) (i := j + 1) (by omega) (by omega)
          rw [show m - (j + 1) + 1 = m - j by omega] at hN1 hN2 hN3
          have hstl := st_lt hrt (m - (j + 1)) (by omega)
          obtain ⟨P, hP⟩ : ∃ z, fnI p (j + 1) = z := ⟨_, rfl⟩
          rw [hP] at c1 hPn hqn hN1 hN2 hN3
          obtain ⟨cf, hcf⟩ : ∃ z, chC (fnI p) (m + 1) (m - (j + 1)) = z := ⟨_, rfl⟩
          rw [hcf] at HO1 HO2 HO3 hqn hN1 hN2 hN3 hstl
          obtain ⟨f, hf⟩ : ∃ z, stF cf (m + 1) (m - (j + 1)) = z := ⟨_, rfl⟩
          rw [hf] at HO2 hN2 hN3 hstl
          obtain ⟨gf, hgf⟩ : ∃ z, inF cf (m + 1) (m - (j + 1)) = z := ⟨_, rfl⟩
          rw [hgf] at HO3 hqn hN1 hN2 hN3
          obtain ⟨q, hq⟩ : ∃ z, gf P = z := ⟨_, rfl⟩
          rw [hq] at hqn hN1 hN2 hN3
          have HE1 : Hid (liI (chC (fnI p) (m + 1) (m - j)) (m + 1) = (liI cf (m + 1)).set (j + 1) (q : Int)) := Lib.hid (by rw [hN1, liI_set cf q (by omega)])
          have hfi := hstl (j + 1) (by omega)
          have hfq := hstl q hqn
          have HE2 : Hid (liI (stF (chC (fnI p) (m + 1) (m - j)) (m + 1) (m - j)) (m + 1) = ((liI f (m + 1)).set (j + 1) (f q : Int)).set q (f (j + 1) : Int)) := Lib.hid (by rw [hN2, liI_sw f (by omega) hqn])
          have HE3 : Hid (liI (inF (chC (fnI p) (m + 1) (m - j)) (m + 1) (m - j)) (m + 1) = ((liI gf (m + 1)).set (f q) ((j + 1 : Nat) : Int)).set (f (j + 1)) (q : Int)) := Lib.hid (by rw [hN3, liI_swI f gf hfq hfi])
          clear hP0 hP hcf hf hgf hrt hN1 hN2 hN3 hstl
          obtain ⟨d1, e1⟩ := ow_int HO3.out (k := P) hPn
          rw [liI_get gf hPn, hq] at d1
          obtain ⟨d2, e2⟩ := ow_int HO1.out (k := j + 1) (by omega)
          have hP0 : (0 : Int) ≤ (P : Int) := by omega
          have hPm : (P : Int) < ((m + 1 : Nat) : Int) := by omega
          go_wp2_with fail
          have HA1 : Hid ((wq.setCell ⟨g1, j + 1, none⟩ (.int .i64 (q : Nat))).ownsRow w9.heap.size 3 1 (.slice (some ⟨g1, 0, none⟩) (m + 1 : Nat) (m + 1)) (m + 1) (((liI cf (m + 1)).set (j + 1) (q : Int)).map fun x => .int .i64 x)) := Lib.hid (by
            rw [List.map_set]; exact ow_set HO1.out _ _)
          have HA2 := Lib.hid (ow_far HO2.out (a := ⟨g1, j + 1, none⟩) (by simp [Value.ownBlock]; exact hne21) (.int .i64 (q : Nat)))
          have HA3 := Lib.hid (ow_far HO3.out (a := ⟨g1, j + 1, none⟩) (by simp [Value.ownBlock]; exact hne31) (.int .i64 (q : Nat)))
          have HA4 : Hid (New w (wq.setCell ⟨g1, j + 1, none⟩ (.int .i64 (q : Nat)))) := Lib.hid (HN.out.setCell (by have := HG.out; show _ ≤ g1; omega) _)
          clear HO1 HO2 HO3 HN c1 d1 d2 e1 e2
          obtain ⟨W1, hW1⟩ : ∃ z, wq.setCell ⟨g1, j + 1, none⟩ (.int .i64 (q : Nat)) = z := ⟨_, rfl⟩
          rw [hW1] at HA1 HA2 HA3 HA4 ⊢
          clear hW1 hq
          have hci : W1.cell? ⟨g1, j + 1, none⟩ = some (.int .i64 (q : Nat)) := by
            have h1 := (ow_int HA1.out (k := j + 1) (by omega)).1
            rw [liI_set cf q (by omega), liI_get _ (by omega), if_pos rfl] at h1
            exact h1
          obtain ⟨d1, e1⟩ := ow_int HA2.out (k := j + 1) (by omega)
          obtain ⟨d2, e2⟩ := ow_int HA2.out (k := q) hqn
          rw [liI_get f (by omega)] at d1
          rw [liI_get f hqn] at d2
          have hq0 : (0 : Int) ≤ (q : Int) := by omega
          have hqm : (q : Int) < ((m + 1 : Nat) : Int) := by omega
          obtain ⟨hs1, hs2⟩ := ow_int (l := (liI f (m + 1)).set (j + 1) (f q : Int)) (by rw [List.map_set]; exact ow_set HA2.out (j + 1) (.int .i64 (f q : Nat))) (k := q) hqn
          have HB2 : Hid (((W1.setCell ⟨g2, j + 1, none⟩ (.int .i64 (f q : Nat))).setCell ⟨g2, q, none⟩ (.int .i64 (f (j + 1) : Nat))).ownsRow w9.heap.size 3 1 (.slice (some ⟨g2, 0, none⟩) (m + 1 : Nat) (m + 1)) (m + 1) ((((liI f (m + 1)).set (j + 1) (f q : Int)).set q (f (j + 1) : Int)).map fun x => .int .i64 x)) := Lib.hid (by
            rw [List.map_set, List.map_set]; exact ow_set (ow_set HA2.out _ _) _ _)
          have HB1 := Lib.hid (ow_far (ow_far HA1.out (a := ⟨g2, j + 1, none⟩) (by simp [Value.ownBlock]; exact hne12) (.int .i64 (f q : Nat))) (a := ⟨g2, q, none⟩) (by simp [Value.ownBlock]; exact hne12) (.int .i64 (f (j + 1) : Nat)))
          have HB3 := Lib.hid (ow_far (ow_far HA3.out (a := ⟨g2, j + 1, none⟩) (by simp [Value.ownBlock]; exact hne32) (.int .i64 (f q : Nat))) (a := ⟨g2, q, none⟩) (by simp [Value.ownBlock]; exact hne32) (.int .i64 (f (j + 1) : Nat)))
          have HB4 : Hid (New w ((W1.setCell ⟨g2, j + 1, none⟩ (.int .i64 (f q : Nat))).setCell ⟨g2, q, none⟩ (.int .i64 (f (j + 1) : Nat)))) := Lib.hid ((HA4.out.setCell (by have := HG.out; show _ ≤ g2; omega) _).setCell (by have := HG.out; show _ ≤ g2; omega) _)
          go_region
          replace HB1 := Lib.hid (ow_new HB1.out (New.refl _).drew)
          replace HB2 := Lib.hid (ow_new HB2.out (New.refl _).drew)
          replace HB3 := Lib.hid (ow_new HB3.out (New.refl _).drew)
          replace HB4 := Lib.hid (New.drew HB4.out)
          clear HA1 HA2 HA3 HA4 hci d1 e1 d2 e2 hs1 hs2
          obtain ⟨W2, hW2⟩ : ∃ z, ((W1.setCell ⟨g2, j + 1, none⟩ (.int .i64 (f q : Nat))).setCell ⟨g2, q, none⟩ (.int .i64 (f (j + 1) : Nat))).drew = z := ⟨_, rfl⟩
          rw [hW2] at HB1 HB2 HB3 HB4 ⊢
          clear hW2
          have hci : W2.cell? ⟨g1, j + 1, none⟩ = some (.int .i64 (q : Nat)) := by
            have h1 := (ow_int HB1.out (k := j + 1) (by omega)).1
            rw [liI_set cf q (by omega), liI_get _ (by omega), if_pos rfl] at h1
            exact h1
          have hr1 : W2.cell? ⟨g2, j + 1, none⟩ = some (.int .i64 (f q : Nat)) := by
            have h1 := (ow_int HB2.out (k := j + 1) (by omega)).1
            rw [liI_sw f (by omega) hqn, liI_get _ (by omega), sw_at] at h1
            exact h1
          have hr2 : W2.cell? ⟨g2, q, none⟩ = some (.int .i64 (f (j + 1) : Nat)) := by
            have h1 := (ow_int HB2.out (k := q) hqn).1
            rw [liI_sw f (by omega) hqn, liI_get _ hqn, sw_at2] at h1
            exact h1
          obtain ⟨d1, e1⟩ := ow_int HB3.out (k := f q) hfq
          obtain ⟨d2, e2⟩ := ow_int HB3.out (k := f (j + 1)) hfi
          obtain ⟨hs1, hs2⟩ := ow_int (l := (liI gf (m + 1)).set (f q) ((j : Int) + 1)) (by rw [List.map_set]; exact ow_set HB3.out (f q) (.int .i64 ((j : Int) + 1))) (k := f (j + 1)) hfi
          have HC3 : Hid (((W2.setCell ⟨g3, f q, none⟩ (.int .i64 ((j : Int) + 1))).setCell ⟨g3, f (j + 1), none⟩ (.int .i64 (q : Nat))).ownsRow wc.heap.size 3 1 (.slice (some ⟨g3, 0, none⟩) (m + 1 : Nat) cap3) (m + 1) ((((liI gf (m + 1)).set (f q) ((j : Int) + 1)).set (f (j + 1)) (q : Int)).map fun x => .int .i64 x)) := Lib.hid (by
            rw [List.map_set, List.map_set]; exact ow_set (ow_set HB3.out _ _) _ _)
          have HC1 := Lib.hid (ow_far (ow_far HB1.out (a := ⟨g3, f q, none⟩) (by simp [Value.ownBlock]; exact hne13) (.int .i64 ((j : Int) + 1))) (a := ⟨g3, f (j + 1), none⟩) (by simp [Value.ownBlock]; exact hne13) (.int .i64 (q : Nat)))
          have HC2 := Lib.hid (ow_far (ow_far HB2.out (a := ⟨g3, f q, none⟩) (by simp [Value.ownBlock]; exact hne23) (.int .i64 ((j : Int) + 1))) (a := ⟨g3, f (j + 1), none⟩) (by simp [Value.ownBlock]; exact hne23) (.int .i64 (q : Nat)))
          have HC4 : Hid (New w ((W2.setCell ⟨g3, f q, none⟩ (.int .i64 ((j : Int) + 1))).setCell ⟨g3, f (j + 1), none⟩ (.int .i64 (q : Nat)))) := Lib.hid ((HB4.out.setCell (by have := HG.out; show _ ≤ g3; omega) _).setCell (by have := HG.out; show _ ≤ g3; omega) _)
          have hx10 : (0 : Int) ≤ (f q : Nat) := by omega
          have hx1m : ((f q : Nat) : Int) < ((m + 1 : Nat) : Int) := by omega
          have hx20 : (0 : Int) ≤ (f (j + 1) : Nat) := by omega
          have hx2m : ((f (j + 1) : Nat) : Int) < ((m + 1 : Nat) : Int) := by omega
          go_wp2_with fail
          go_region
          have hE3 : liI (inF (chC (fnI p) (m + 1) (m - j)) (m + 1) (m - j)) (m + 1) = ((liI gf (m + 1)).set (f q) ((j : Int) + 1)).set (f (j + 1)) (q : Int) := by rw [HE3.out, Int.natCast_add]; rfl
          rw [← hE3] at HC3
          clear hE3
          rw [← HE2.out] at HC2
          rw [← HE1.out] at HC1
          replace HC1 := Lib.hid (ow_new HC1.out (New.refl _).drew)
          replace HC2 := Lib.hid (ow_new HC2.out (New.refl _).drew)
          replace HC3 := Lib.hid (ow_new HC3.out (New.refl _).drew)
          replace HC4 := Lib.hid (New.drew HC4.out)
          clear HB1 HB2 HB3 HB4 hci d1 e1 d2 e2 hs1 hs2 hr1 hr2
          obtain ⟨W3, hW3⟩ : ∃ z, ((W2.setCell ⟨g3, f q, none⟩ (.int .i64 ((j : Int) + 1))).setCell ⟨g3, f (j + 1), none⟩ (.int .i64 (q : Nat))).drew = z := ⟨_, rfl⟩
          rw [hW3] at HC1 HC2 HC3 HC4 ⊢
          clear hW3
          go_wp2
          exact ⟨⟨j, by omega, by go_num, HC1.out, HC2.out, HC3.out, HC4.out⟩, by simp [intOf]⟩
end Go.Proofs.Ytopepchfaomdoaa
