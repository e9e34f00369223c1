/- Layer 22: Shift as a whole. -/
import Derived.Test.YtadkbpdbbgjkgaaTabZ
namespace Go.Proofs.Ytadkbpdbbgjkgaa
open Go Go.RowKit Go.Bv Go.Tab
set_option linter.unusedVariables false
set_option maxRecDepth 100000
theorem ow_lower {w : World} {base base' size : Nat} {e : TypeId} {v : Value} {n : Nat} {xs : List Value} (h : w.ownsRow base e size v n xs) (hb : base' ≤ base) : w.ownsRow base' e size v n xs := by
  refine ⟨h.1, ?_⟩
  rcases h.2 with h2 | ⟨g, cap, cur, hv, hg, rest⟩
  · exact .inl h2
  · exact .inr ⟨g, cap, cur, hv, Nat.le_trans hb hg, rest⟩
set_option maxHeartbeats 8000000 in
theorem shift_no (a : Option Addr) (na ca : Nat) (l : List (BitVec 64)) (bits : Int) (x : Option Addr) (nx cx : Nat) (xl : List (BitVec 64)) (y : Option Addr) (ny cy : Nat) (yl : List (BitVec 64)) (w : World) (ha : QRow w a na ca l) (hx : QRow w x nx cx xl) (hy : QRow w y ny cy yl) (hne : csE bits l.length 128 xl yl ≠ 0) :
    Calls Try.prog 28 #[.slice a na ca, .int .i64 bits, .slice x nx cx, .slice y ny cy] w fun e w' => e = .returned (.tuple #[.slice none 0 0, .int .i64 (csE bits l.length 128 xl yl)]) ∧ New w w' := by
  have HC := Lib.hid (check_shift a na ca l bits x nx cx xl y ny cy yl w ha hx hy)
  have hb : (csE bits l.length 128 xl yl != 0) = true := by rw [bne_iff_ne]; exact hne
  clear ha hx hy hne
  generalize csE bits l.length 128 xl yl = E at HC hb ⊢
  go_enter Try.func28, Try.ntmps28
  go_wp2_with fail
  refine HC.out.mono ?_
  rintro e w1 ⟨rfl, n1⟩
  go_wp2
  go_ret2
  exact ⟨rfl, n1⟩
set_option maxHeartbeats 8000000 in
theorem shift_ok (a : Option Addr) (na ca : Nat) (l : List (BitVec 64)) (bits : Int) (x : Option Addr) (nx cx : Nat) (xl : List (BitVec 64)) (y : Option Addr) (cy : Nat) (yl : List (BitVec 64)) (w : World) (ha : QRow w a na ca l) (hx : QRow w x nx cx xl) (hy : QRow w y nx cy yl) (h0 : csE bits l.length 128 xl yl = 0) :
    Calls Try.prog 28 #[.slice a na ca, .int .i64 bits, .slice x nx cx, .slice y nx cy] w fun e w' => ∃ v, e = .returned (.tuple #[v, .int .i64 0]) ∧ w'.ownsRow w.heap.size 24 1 v na ((shL l bits xl yl).map fun x => .int .u64 (W64 x)) ∧ New w w' := by
  have hck : chk bits l.length 128 = 0 := by
    unfold csE at h0
    by_cases e : chk bits l.length 128 = 0
    · exact e
    · rw [if_pos e] at h0; exact h0
  obtain ⟨b1, b2, b3⟩ := chk_good hck
  have htg : tgE bits.toNat xl yl = 0 := by unfold csE at h0; rwa [if_neg (by rw [hck]; simp)] at h0
  obtain ⟨t1, t2, t3, t4, t5⟩ := tg_zero htg
  have hlx := hx.len_eq
  have hC := check_shift a na ca l bits x nx cx xl y nx cy yl w ha hx hy
  rw [h0] at hC
  have HC := Lib.hid hC
  have hmk1 : ∀ W : World, (Instr.makeSlice 34 (.int .i64 (nx : Int)) (.int .i64 (nx : Int))).run Try.prog W = .ok (.slice (some ⟨W.heap.size, 0, none⟩) nx nx) (W.alloc (.cells (madeCells #[.slice none 0 0] nx) 23)) := fun W => make_rows nx (by omega) _ W rfl
  have hmk2 : ∀ W : World, (Instr.makeSlice 22 (.int .i64 (nx : Int)) (.int .i64 (nx : Int))).run Try.prog W = .ok (.slice (some ⟨W.heap.size, 0, none⟩) nx nx) (W.alloc (.cells (madeCells #[.int .u64 0] nx) 24)) := fun W => make_w22 nx (by omega) _ W rfl
  have HEV := Lib.hid (fun k w' (hw : New w w') => eval_any a na ca l bits (xl.getD k 0) w' (ha.stay hw))
  have HCH := Lib.hid (fun k w' => chars_own (xl.getD k 0) 8 8 (by omega) (by decide) w')
  have HAIM := Lib.hid (fun (g b : Nat) w' (hw : New w w') (h : Rws w' g 0 nx 8 (fun i => lets (xl.getD i 0) 8)) (hb : QRow w' (some ⟨b, 0, none⟩) nx nx ((List.range nx).map (byB l bits 128 xl yl))) =>
    aim_ok a na ca l g 0 nx nx 8 (Nat.le_refl _) (by omega) (by omega) (by omega) (by omega) (fun i => lets (xl.getD i 0) 8) (fun i hi => fit_lets _ _ 8 (by omega)) (fun i hi => lets_len _ _) (fun i j hi hj hij he => t5 i j (by omega) (by omega) hij (lets_inj _ _ (t4 i (by omega)).1 (t4 j (by omega)).1 he)) (some ⟨b, 0, none⟩) nx _ w' (ha.stay hw) h hb)
  have hsh : shL l bits xl yl = aimL l nx 8 (fun i => lets (xl.getD i 0) 8) ((List.range nx).map (byB l bits 128 xl yl)) := by unfold shL; rw [hlx]
  have HSH := Lib.hid hsh
  have hnx0 : 0 < nx := by omega
  have hnx3 : nx ≤ 3 := by omega
  have HEE : Hid (∀ k, k < nx → evE bits l.length 128 (xl.getD k 0) = 0) := Lib.hid (fun k hk => by
    have h4 := (t4 k (by omega)).1
    have h5 := shr_nat (xl.getD k 0) 32
    rw [h4] at h5
    unfold evE
    rw [if_neg (by rw [hck]; simp), if_pos (by simpa using h5.symm)])
  obtain ⟨p1, o1, e1, _⟩ := hx.addr hnx0
  subst e1
  obtain ⟨p2, o2, e2, _⟩ := hy.addr hnx0
  subst e2
  have HX := Lib.hid hx
  have HY := Lib.hid hy
  clear ha hx hy h0 hck b1 b2 b3 htg t1 t2 t3 t4 t5 hC hsh hlx
  go_enter Try.func28, Try.ntmps28
  go_wp2_with fail
  refine HC.out.mono ?_
  rintro e w1 ⟨rfl, n1⟩
  have HN1 := Lib.hid n1
  clear n1 HC
  go_wp2_with fail
  go_cut [11, 12] (fun c d wx => ∃ gr gb, c = .slice (some ⟨gr, 0, none⟩) nx nx ∧ d = .slice (some ⟨gb, 0, none⟩) nx nx ∧ w1.heap.size ≤ gr ∧ w1.heap.size ≤ gb ∧ gr ≠ gb ∧ ShI2 w1 wx gr gb nx 8 (fun i => lets (xl.getD i 0) 8) (byB l bits 128 xl yl) 0)
  case first =>
    go_region_held3 (fun w' => New w1 w')
      (repeat (first | with_reducible assumption | with_reducible exact New.refl _ | with_reducible apply New.drew | with_reducible refine New.alloc ?_ _))
      (fail)
    all_goals (
      go_wp2_with fail
      go_meet
      case rel =>
        first
          | exact ⟨_, _, rfl, rfl, Nat.le_refl _, by simp, by simp, (two_made w1 nx 8 _ _).1⟩
          | exact ⟨_, _, rfl, rfl, by simp, Nat.le_refl _, by simp, (two_made w1 nx 8 _ _).2⟩
          | exact ⟨_, _, rfl, rfl, Nat.le_refl _, by simp, by simp, (two_made w1 nx 8 _ _).1.stay (New.refl _).drew⟩
          | exact ⟨_, _, rfl, rfl, by simp, Nat.le_refl _, by simp, (two_made w1 nx 8 _ _).2.stay (New.refl _).drew⟩)
  case rest =>
    obtain ⟨gr, gb, rfl, rfl, hgr, hgb, hne, hst⟩ := hcut
    have HST := Lib.hid hst
    have HGR : Hid (w.heap.size ≤ gr) := Lib.hid (Nat.le_trans HN1.out.le hgr)
    have HGB : Hid (w.heap.size ≤ gb) := Lib.hid (Nat.le_trans HN1.out.le hgb)
    have HNE := Lib.hid hne
    have HG1 := Lib.hid hgr
    have HG2 := Lib.hid hgb
    clear hmk1 hmk2 hgr hgb hne hst
    go_wp2
    go_loopw [33] (fun iv wr => ∃ k : Nat, k ≤ nx ∧ iv = .int .i64 (k : Int) ∧ Hid (ShI2 w1 wr gr gb nx 8 (fun i => lets (xl.getD i 0) 8) (byB l bits 128 xl yl) k)) (fun iv _ => nx - (intOf iv).toNat)
    case atStart => exact ⟨0, Nat.zero_le _, rfl, HST⟩
    case round =>
      clear HST
      obtain ⟨k, hk, rfl, HI⟩ := hrel
      by_cases hlt : (k : Int) < (nx : Int)
      · have hk0 : (0 : Int) ≤ (k : Int) := by omega
        have hkn : k < nx := by omega
        have HW := Lib.hid (HN1.out.trans HI.out.new)
        have d1 := (HX.out.stay HW.out).cell p1 o1 rfl k hkn
        have HE := Lib.hid (HEV.out k _ HW.out)
        have hee := HEE.out k hkn
        rw [hee] at HE
        have HB : Hid (byB l bits 128 xl yl k = evV l bits 128 (xl.getD k 0) ^^^ yl.getD k 0) := Lib.hid rfl
        have HC1 := Lib.hid (HCH.out k)
        have HYC : Hid (∀ w', New w w' → w'.cell? ⟨p2, o2 + k, none⟩ = some (.int .u64 (W64 (yl.getD k 0)))) := Lib.hid (fun w' hn => (HY.out.stay hn).cell p2 o2 rfl k hkn)
        have HR : Hid ((fun i => lets (xl.getD i 0) 8) k = lets (xl.getD k 0) 8) := Lib.hid rfl
        obtain ⟨xv, hxv⟩ : ∃ xv, xl.getD k 0 = xv := ⟨_, rfl⟩
        obtain ⟨yv, hyv⟩ : ∃ yv, yl.getD k 0 = yv := ⟨_, rfl⟩
        rw [hxv] at d1 HE HB HC1 HR
        rw [hyv] at HB HYC
        obtain ⟨ev, hev⟩ : ∃ ev, evV l bits 128 xv = ev := ⟨_, rfl⟩
        rw [hev] at HE HB
        clear hxv hyv hev hee
        go_wp2_with fail
        refine HE.out.mono ?_
        rintro e w5 ⟨rfl, n5⟩
        have HI5 := Lib.hid (HI.out.stay n5)
        have HW5 := Lib.hid (HN1.out.trans HI5.out.new)
        have HFAR : Hid (∀ b, w5.heap.size ≤ b → b ≠ gr ∧ b ≠ gb) := Lib.hid (fun b hb => by
          obtain ⟨cs, h1, _⟩ := HI5.out.rows
          have h2 := lt_of_block h1
          have h3 := HI5.out.by_.lt
          omega)
        clear HI HW HE d1 n5
        go_wp2_with fail
        have SK : Hid (∀ w', New w w' → New w w' ∧ w'.cell? ⟨p2, o2 + k, none⟩ = some (.int .u64 (W64 yv))) := Lib.hid (fun w' hn => ⟨hn, HYC.out w' hn⟩)
        have hw0 := HW5.out
        obtain ⟨_, ce⟩ := SK.out w5 hw0
        have HLE1 : Hid (w.heap.size ≤ (⟨gr, k, none⟩ : Addr).block) := HGR
        have HLE2 : Hid (w.heap.size ≤ (⟨gb, k, none⟩ : Addr).block) := HGB
        go_region_held3 (fun w' => New w w' ∧ w'.cell? ⟨p2, o2 + k, none⟩ = some (.int .u64 (W64 yv)))
          ((refine SK.out _ ?_; repeat (first | with_reducible assumption | with_reducible exact New.refl _ | with_reducible refine New.drew ?_ | (with_reducible refine New.setCell ?_ HLE1.out _) | (with_reducible refine New.setCell ?_ HLE2.out _))))
          (first
            | (go_at_call 18
               refine (HC1.out _).mono ?_
               rintro e q0 ⟨v, rfl, hv, hc0⟩
               have hg0 : New w5 q0 := by first | with_reducible exact (New.refl w5).drew.trans hc0 | with_reducible exact hc0
               have hgw : New w q0 := HW5.out.trans hg0
               obtain ⟨a4, c4, rfl, hz4, hf4⟩ := ZRow.of_owns2 hv (by omega) (lets_wf _ _)
               obtain ⟨⟨v0, dv0⟩, dvf, de0, def0⟩ := (HI5.out.stay hg0).spots hkn HNE.out
               have HQ := Lib.hid hg0
               have HZ := Lib.hid hz4
               have HF4 := Lib.hid hf4
               have HLT4 : Hid (w5.heap.size ≤ q0.heap.size) := Lib.hid hg0.le
               clear hv hc0 hz4 hf4))
        all_goals (
          go_wp2
          exact ⟨⟨k + 1, by omega, by go_num, Lib.hid ((HI5.out.stay HQ.out).next hkn HG1.out HG2.out HNE.out (by rw [HR.out]; exact HZ.out) (fun x e => HFAR.out _ (HF4.out x e)) _ HB.out.symm)⟩, by simp [intOf]; omega⟩)
      · obtain rfl : k = nx := by omega
        obtain ⟨hrw, hby⟩ := HI.out.done (by omega)
        have HA := Lib.hid (HAIM.out gr gb _ (HN1.out.trans HI.out.new) hrw hby)
        have HW := Lib.hid (HN1.out.trans HI.out.new)
        clear hrw hby HI
        go_wp2_with fail
        refine HA.out.mono ?_
        rintro e w9 ⟨v9, rfl, hq9, n9⟩
        have HQ9 := Lib.hid (ow_lower hq9 HW.out.le)
        have HN9 := Lib.hid (HW.out.trans n9)
        clear hq9 n9
        go_wp2
        go_ret2
        rw [HSH.out]
        exact ⟨_, rfl, HQ9.out, HN9.out⟩
end Go.Proofs.Ytadkbpdbbgjkgaa
