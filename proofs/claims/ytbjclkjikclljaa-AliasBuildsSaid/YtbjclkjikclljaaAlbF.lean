/- Layer 43: the document's Build: the walk. -/
import Derived.Test.YtbjclkjikclljaaAlbE
namespace Go.Proofs.Ytbjclkjikclljaa
open Go Go.RowKit Go.Bv Go.Ali
set_option linter.unusedVariables false
set_option maxRecDepth 100000
set_option maxHeartbeats 16000000 in
theorem buildr_43 (a : Option Addr) (n c : Nat) (l : List (BitVec 64)) (hE : wE l = 0) (w : World) (h : QRow w a n c l) :
    Calls Try.prog 12 #[.slice a n c] w fun e w' => ∃ ab cb aa ca, e = .returned (tv (tot l n) ab n cb aa n ca) ∧ TL w' ab n cb aa n ca (beL n (cols l)) (alL n (cols l)) ∧ New w w' := by
  have hl := h.len_eq
  obtain ⟨h1, h2, h3, h4⟩ := we_good hE
  obtain ⟨h5, hinv, hst⟩ := cols_good hE
  obtain ⟨i0, hi, hz0, hz1, hz2⟩ := info_parts info_cr
  obtain ⟨i1, ii, iz0, iz1, iz2⟩ := info_parts info_i43
  obtain ⟨i2, bi, bz0, bz1, bz2⟩ := info_parts info_b43
  have hn0 : 0 < n := by omega
  have hn256 : n ≤ 256 := by omega
  obtain ⟨p1, o1, e1, _⟩ := h.addr hn0
  subst e1
  have HQ := Lib.hid h
  have hW := w_of (n := n) hn256
  have hcv : IntKind.u64.wrap (n : Int) = W64 (BitVec.ofNat 64 n) := by rw [wrap_u64]; rfl
  have HIN : Hid (Inv n (tot l n) (fun i => l.getD i 0) (cols l) ∧ cols l = run n (tot l n) n (st0 n (tot l n) (fun i => l.getD i 0)) ∧ Inv n (tot l n) (fun i => l.getD i 0) (st0 n (tot l n) (fun i => l.getD i 0))) := Lib.hid (by
    rw [← hl]
    exact ⟨hinv, rfl, inv_start h2 h3 (tot_nat h2 h3)⟩)
  have hbx := heap_alloc_new w (TB (.int .u64 0) (.slice none 0 0) (.slice none 0 0))
  have hnx := (New.refl w).alloc (TB (.int .u64 0) (.slice none 0 0) (.slice none 0 0))
  have HTO := Lib.hid (totalr_43 (some ⟨p1, o1, none⟩) n c l _ (h.stay hnx))
  obtain ⟨T, hT⟩ : ∃ T, tot l n = T := ⟨_, rfl⟩
  rw [hT] at HIN HTO ⊢
  have hsz : (w.alloc (TB (.int .u64 0) (.slice none 0 0) (.slice none 0 0))).heap.size = w.heap.size + 1 := by simp
  have HSB : Hid (SB w ((w.alloc (TB (.int .u64 0) (.slice none 0 0) (.slice none 0 0))).alloc (TB (.int .u64 (W64 T)) (.slice none 0 0) (.slice none 0 0))) T (.slice none 0 0) (.slice none 0 0)) := Lib.hid ⟨hnx.alloc _, blk_stay hbx ((New.refl _).alloc _), by rw [← hsz]; exact heap_alloc_new _ _⟩
  have HOK : Hid (∀ w', OK4 w' (w.heap.size + 2) n T l (sel (.slice none 0 0) (.slice none 0 0) (.slice none 0 0) (.slice none 0 0)) 0 0) := Lib.hid (fun w' => ⟨fun i hi => by
    have hv : sel (Value.slice none 0 0) (.slice none 0 0) (.slice none 0 0) (.slice none 0 0) i = .slice none 0 0 := by unfold sel; split <;> rfl
    rw [hv, if_neg (by omega)]
    exact World.ownsRow_nil w' _ _ 1, fun i j hi hj hne g hg => by
    have hv : sel (Value.slice none 0 0) (.slice none 0 0) (.slice none 0 0) (.slice none 0 0) i = .slice none 0 0 := by unfold sel; split <;> rfl
    rw [hv] at hg; cases hg⟩)
  clear h1 h2 h3 h4 h5 hinv hst hE hl h hT hbx hnx
  go_enter Try.func12, Try.ntmps12
  go_wp2_with fail
  refine HTO.out.mono ?_
  rintro e w1 ⟨rfl, rfl⟩
  go_wp2_with fail
  go_loopw [4, 5, 15] (fun hv dv iv wr => ∃ (k : Nat) (vb va : Value), k ≤ n ∧ iv = .int .i64 (k : Int) ∧ Hid (SB w wr T vb va) ∧ Hid (OK4 wr (w.heap.size + 2) n T l (sel hv dv vb va) k 0)) (fun _ _ iv _ => n - (intOf iv).toNat)
  case atStart => exact ⟨0, _, _, Nat.zero_le _, rfl, HSB, Lib.hid (HOK.out _)⟩
  case round =>
    clear HSB HOK HTO hsz
    obtain ⟨hv, hhv⟩ : ∃ z, u4 = z := ⟨_, rfl⟩
    obtain ⟨dv, hdv⟩ : ∃ z, u5 = z := ⟨_, rfl⟩
    rw [hhv, hdv] at hrel ⊢
    clear hhv hdv
    obtain ⟨k, vb, va, hk, rfl, HB, HO⟩ := hrel
    by_cases hlt : (k : Int) < (n : Int)
    · have hk0 : (0 : Int) ≤ (k : Int) := by omega
      have hkn : k < n := by omega
      have d1 := (HQ.out.stay HB.out.new).cell p1 o1 rfl k hkn
      have HF : Hid (fR n T l 0 k = .int .u64 (W64 (BitVec.ofNat 64 n * l.getD k 0))) := Lib.hid rfl
      obtain ⟨x, hx⟩ : ∃ x, l.getD k 0 = x := ⟨_, rfl⟩
      rw [hx] at d1 HF
      clear hx
      have hown0 : wr.ownsRow (w.heap.size + 2) 24 1 hv k ((List.range k).map (fR n T l 0)) := HO.out.own 0 (by omega)
      have hbl0 : w.heap.size + 1 < wr.heap.size := lt_of_block HB.out.tb
      go_wp2_with (at_builtin; refine wpList_append_lies _ rfl _ _ 22 rfl (w.heap.size + 2) 24 i0 (.int .u64 0) 1 8 Try.underlying22 hi hz0 hz1 hz2 rfl (by decide) _ k _ rfl (hown0.alloc _) ⟨wr.heap.size, 0, none⟩ 1 1 [.int .u64 (W64 (BitVec.ofNat 64 n * x))] rfl rfl ?a0 ?b0 (by decide) ?d0 ?e0 ?f0 (wr.heap.size + 1) (by simp) ?_)
      case a0 => exact news1 _ _ _
      case b0 => intro u hu; simp at hu; subst hu; rfl
      case d0 => unfold maxLen; omega
      case e0 => omega
      case f0 => simp; omega
      intro g0 c0 w0 how hgr hat hlt0
      have HO1 : Hid (OK4 w0 (w.heap.size + 2) n T l (sel (.slice (some ⟨g0, 0, none⟩) (k + 1) c0) (dv) (vb) (va)) k 1) := Lib.hid (HO.out.app (m := 0) (by omega) ((New.refl wr).alloc _) hgr (g := g0) (cap := c0) (by first | exact how | (rw [HF.out]; exact how)) (hat.imp (fun e => e) (fun e => e.trans (by simp))) rfl (fun j hj hne => by rcases j with _ | _ | _ | _ | j <;> first | rfl | exact absurd rfl hne | omega))
      have hbx0 := HB.out.grown ((New.refl wr).alloc _) hgr (fun g e => (ow_lt43 hown0 g e).1)
      have HB1 := Lib.hid hbx0
      clear how hgr hat hbx0 hown0 d1
      have hown1 : w0.ownsRow (w.heap.size + 2) 4 1 dv k ((List.range k).map (fR n T l 1)) := HO1.out.own 1 (by omega)
      have hbl1 : w.heap.size + 1 < w0.heap.size := lt_of_block HB1.out.tb
      go_wp2_with (at_builtin; refine wpList_append_lies _ rfl _ _ 64 rfl (w.heap.size + 2) 4 i2 (.bool false) 1 1 Try.underlying64 bi bz0 bz1 bz2 rfl (by decide) _ k _ rfl (hown1.alloc _) ⟨w0.heap.size, 0, none⟩ 1 1 [.bool false] rfl rfl ?a1 ?b1 (by decide) ?d1 ?e1 ?f1 (w0.heap.size + 1) (by simp) ?_)
      case a1 => exact news1 _ _ _
      case b1 => intro u hu; simp at hu; subst hu; rfl
      case d1 => unfold maxLen; omega
      case e1 => omega
      case f1 => simp; omega
      intro g1 c1 w1 how hgr hat hlt1
      have HO2 : Hid (OK4 w1 (w.heap.size + 2) n T l (sel (.slice (some ⟨g0, 0, none⟩) (k + 1) c0) (.slice (some ⟨g1, 0, none⟩) (k + 1) c1) (vb) (va)) k 2) := Lib.hid (HO1.out.app (m := 1) (by omega) ((New.refl w0).alloc _) hgr (g := g1) (cap := c1) (by first | exact how | (rw [HF.out]; exact how)) (hat.imp (fun e => e) (fun e => e.trans (by simp))) rfl (fun j hj hne => by rcases j with _ | _ | _ | _ | j <;> first | rfl | exact absurd rfl hne | omega))
      have hbx1 := HB1.out.grown ((New.refl w0).alloc _) hgr (fun g e => (ow_lt43 hown1 g e).1)
      have HB2 := Lib.hid hbx1
      have k0 := cell_of_row _ _ 0 _ _ _ HB2.out.tb
      have k1 := cell_of_row _ _ 1 _ _ _ HB2.out.tb
      clear how hgr hat hbx1 hown1
      have hown2 : w1.ownsRow (w.heap.size + 2) 24 1 vb k ((List.range k).map (fR n T l 2)) := HO2.out.own 2 (by omega)
      have hbl2 : w.heap.size + 1 < w1.heap.size := lt_of_block HB2.out.tb
      go_wp2_with (at_builtin; refine wpList_append_lies _ rfl _ _ 22 rfl (w.heap.size + 2) 24 i0 (.int .u64 0) 1 8 Try.underlying22 hi hz0 hz1 hz2 rfl (by decide) _ k _ rfl (hown2.alloc _) ⟨w1.heap.size, 0, none⟩ 1 1 [.int .u64 (W64 T)] rfl rfl ?a2 ?b2 (by decide) ?d2 ?e2 ?f2 (w1.heap.size + 1) (by simp) ?_)
      case a2 => exact news1 _ _ _
      case b2 => intro u hu; simp at hu; subst hu; rfl
      case d2 => unfold maxLen; omega
      case e2 => omega
      case f2 => simp; omega
      intro g2 c2 w2 how hgr hat hlt2
      have HO3 : Hid (OK4 w2 (w.heap.size + 2) n T l (sel (.slice (some ⟨g0, 0, none⟩) (k + 1) c0) (.slice (some ⟨g1, 0, none⟩) (k + 1) c1) (.slice (some ⟨g2, 0, none⟩) (k + 1) c2) (va)) k 3) := Lib.hid (HO2.out.app (m := 2) (by omega) ((New.refl w1).alloc _) hgr (g := g2) (cap := c2) (by first | exact how | (rw [HF.out]; exact how)) (hat.imp (fun e => e) (fun e => e.trans (by simp))) rfl (fun j hj hne => by rcases j with _ | _ | _ | _ | j <;> first | rfl | exact absurd rfl hne | omega))
      have hbx2 := HB2.out.grown ((New.refl w1).alloc _) hgr (fun g e => (ow_lt43 hown2 g e).1)
      have q1 := cell_of_row _ _ 1 _ _ _ hbx2.tb
      have qf := frozen_of_row _ _ 1 _ _ hbx2.tb
      have HB3 : Hid (SB w (w2.setCell ⟨w.heap.size + 1, 1, none⟩ (.slice (some ⟨g2, 0, none⟩) (k + 1) c2)) T (.slice (some ⟨g2, 0, none⟩) (k + 1) c2) va) := Lib.hid (hbx2.putB _)
      have HO3x := HO3
      replace HO3 : Hid (OK4 (w2.setCell ⟨w.heap.size + 1, 1, none⟩ (.slice (some ⟨g2, 0, none⟩) (k + 1) c2)) (w.heap.size + 2) n T l (sel (.slice (some ⟨g0, 0, none⟩) (k + 1) c0) (.slice (some ⟨g1, 0, none⟩) (k + 1) c1) (.slice (some ⟨g2, 0, none⟩) (k + 1) c2) va) k 3) := Lib.hid (HO3x.out.far (by omega) _)
      clear how hgr hat hbx2 hown2 k0 k1 HO3x
      obtain ⟨W3, hW3⟩ : ∃ z, w2.setCell ⟨w.heap.size + 1, 1, none⟩ (.slice (some ⟨g2, 0, none⟩) (k + 1) c2) = z := ⟨_, rfl⟩
      rw [hW3] at HB3 HO3
      have HW3 := Lib.hid hW3
      clear hW3
      have k0 := cell_of_row _ _ 2 _ _ _ HB3.out.tb
      have hown3 : W3.ownsRow (w.heap.size + 2) 3 1 va k ((List.range k).map (fR n T l 3)) := HO3.out.own 3 (by omega)
      have hbl3 : w.heap.size + 1 < W3.heap.size := lt_of_block HB3.out.tb
      go_wp2_with (first | rw [HW3.out] | (at_builtin; refine wpList_append_lies _ rfl _ _ 25 rfl (w.heap.size + 2) 3 i1 (.int .i64 0) 1 8 Try.underlying25 ii iz0 iz1 iz2 rfl (by decide) _ k _ rfl (hown3.alloc _) ⟨W3.heap.size, 0, none⟩ 1 1 [.int .i64 (k : Int)] rfl rfl ?a3 ?b3 (by decide) ?d3 ?e3 ?f3 (W3.heap.size + 1) (by simp) ?_))
      case a3 => exact news1 _ _ _
      case b3 => intro u hu; simp at hu; subst hu; rfl
      case d3 => unfold maxLen; omega
      case e3 => omega
      case f3 => simp; omega
      intro g3 c3 w3 how hgr hat hlt3
      have HO4 : Hid (OK4 w3 (w.heap.size + 2) n T l (sel (.slice (some ⟨g0, 0, none⟩) (k + 1) c0) (.slice (some ⟨g1, 0, none⟩) (k + 1) c1) (.slice (some ⟨g2, 0, none⟩) (k + 1) c2) (.slice (some ⟨g3, 0, none⟩) (k + 1) c3)) k 4) := Lib.hid (HO3.out.app (m := 3) (by omega) ((New.refl W3).alloc _) hgr (g := g3) (cap := c3) how (hat.imp (fun e => e) (fun e => e.trans (by simp))) rfl (fun j hj hne => by rcases j with _ | _ | _ | _ | j <;> first | rfl | exact absurd rfl hne | omega))
      have hbx3 := HB3.out.grown ((New.refl W3).alloc _) hgr (fun g e => (ow_lt43 hown3 g e).1)
      have q1 := cell_of_row _ _ 2 _ _ _ hbx3.tb
      have qf := frozen_of_row _ _ 2 _ _ hbx3.tb
      have HB4 : Hid (SB w (w3.setCell ⟨w.heap.size + 1, 2, none⟩ (.slice (some ⟨g3, 0, none⟩) (k + 1) c3)) T (.slice (some ⟨g2, 0, none⟩) (k + 1) c2) (.slice (some ⟨g3, 0, none⟩) (k + 1) c3)) := Lib.hid (hbx3.putA _)
      have HO5 : Hid (OK4 (w3.setCell ⟨w.heap.size + 1, 2, none⟩ (.slice (some ⟨g3, 0, none⟩) (k + 1) c3)) (w.heap.size + 2) n T l (sel (.slice (some ⟨g0, 0, none⟩) (k + 1) c0) (.slice (some ⟨g1, 0, none⟩) (k + 1) c1) (.slice (some ⟨g2, 0, none⟩) (k + 1) c2) (.slice (some ⟨g3, 0, none⟩) (k + 1) c3)) (k + 1) 0) := Lib.hid (HO4.out.far (by omega) _).turn
      clear how hgr hat hbx3 hown3 k0 HW3 HO4 HO3 HO2 HO1 HB1 HB2 HB3 hlt0 hlt1 hlt2 hlt3 hbl0 hbl1 hbl2 hbl3
      go_wp2
      exact ⟨⟨k + 1, _, _, by omega, by go_num, HB4, HO5⟩, by simp [intOf]; omega⟩
    · obtain rfl : k = n := by omega
      obtain ⟨gh, gd, gb, ga, ch, cd, cb, ca, rfl, rfl, rfl, rfl, hra, hb1, hb2, ha1, ha2, hrx⟩ := RX.start hn0 HO.out HB.out
      have HRA := Lib.hid hra
      have HCAP := Lib.hid (And.intro hb1 (And.intro hb2 (And.intro ha1 ha2)))
      have HX := Lib.hid hrx
      clear hra hrx hb1 hb2 ha1 ha2 HO HB
      obtain ⟨F, hF⟩ : ∃ F, cols l = F := ⟨_, rfl⟩
      have HFF := Lib.hid hF
      rw [hF] at HIN
      have HALF : Hid (∀ i, i < k → F.al i < k) := Lib.hid HIN.out.1.al
      have HRUN : Hid (unf (st0 k T (fun i => l.getD i 0)).fl k ≤ k ∧ run k T k (st0 k T (fun i => l.getD i 0)) = F ∧ Inv k T (fun i => l.getD i 0) (st0 k T (fun i => l.getD i 0))) := Lib.hid ⟨Nat.le_of_eq (unf_all k), HIN.out.2.1.symm, HIN.out.2.2⟩
      obtain ⟨s0, hs0⟩ : ∃ s0, st0 k T (fun i => l.getD i 0) = s0 := ⟨_, rfl⟩
      rw [hs0] at HX HRUN
      clear hF hs0 HQ HIN
      go_wp2_with fail
      go_loopw [8, 9] (fun _ _ wr => ∃ (s : St) (m : Nat), Hid (RX w wr gh gd gb ga k cb ca T s) ∧ Hid (unf s.fl k ≤ m ∧ run k T m s = F ∧ Inv k T (fun i => l.getD i 0) s)) (fun _ _ wr => msF gd k wr)
      case atStart => exact ⟨s0, k, HX, HRUN⟩
      case round =>
        clear HX HRUN
        obtain ⟨s, m, HX, HM⟩ := hrel
        have k0 := cell_of_row _ _ 0 _ _ _ HX.out.box.tb
        have HLS := findr_43 gh gd k ch cd hn256 T s false wr HX.out.h HX.out.d
        rw [if_neg (by decide)] at HLS
        have HMO := findr_43 gh gd k ch cd hn256 T s true wr HX.out.h HX.out.d
        rw [if_pos rfl] at HMO
        rcases hl : fnd (ls T s) k with _ | j
        · rw [fdv_no hl] at HLS
          have HFS : Hid (F = s) := Lib.hid (by rw [← HM.out.2.1, run_none (stp_no hl)])
          have HL := Lib.hid HLS
          clear hl HMO HLS
          go_wp2_with fail
          refine HL.out.mono ?_
          rintro e w5 ⟨rfl, rfl⟩
          have k1 := cell_of_row _ _ 1 _ _ _ HX.out.box.tb
          have k2 := cell_of_row _ _ 2 _ _ _ HX.out.box.tb
          have r0 := cell_of_row _ _ 0 _ _ _ HX.out.box.rs
          have r1 := cell_of_row _ _ 1 _ _ _ HX.out.box.rs
          have r2 := cell_of_row _ _ 2 _ _ _ HX.out.box.rs
          have rf := fun i => frozen_of_row _ _ i _ _ HX.out.box.rs
          have HRES : Hid (∀ v0 v1 v2 : Value, New w (((w5.setCell ⟨w.heap.size, 0, none⟩ v0).setCell ⟨w.heap.size, 1, none⟩ v1).setCell ⟨w.heap.size, 2, none⟩ v2) ∧ TL (((w5.setCell ⟨w.heap.size, 0, none⟩ v0).setCell ⟨w.heap.size, 1, none⟩ v1).setCell ⟨w.heap.size, 2, none⟩ v2) (some ⟨gb, 0, none⟩) k cb (some ⟨ga, 0, none⟩) k ca (beL k F) (alL k F)) := Lib.hid (fun v0 v1 v2 => by
            have a6 := HRA.out.l3
            have a7 := HRA.out.l4
            have hle : ∀ i : Nat, w.heap.size ≤ (⟨w.heap.size, i, none⟩ : Addr).block := fun i => Nat.le_refl _
            have h1 : gb ≠ w.heap.size := by omega
            have h2 : ga ≠ w.heap.size := by omega
            obtain ⟨q1, q2, q3, q4⟩ := HCAP.out
            refine ⟨((HX.out.box.new.setCell (hle 0) _).setCell (hle 1) _).setCell (hle 2) _, ?_⟩
            rw [HFS.out]
            exact tl_px (((HX.out.b.keep h1 _).keep h1 _).keep h1 _) (((HX.out.a.keep h2 _).keep h2 _).keep h2 _) hn256 q1 q2 q3 q4 (by rw [← HFS.out]; exact HALF.out))
          clear HL
          go_wp2
          refine bodyPost_ret (by simp [results, Try.results12, go_sem, r0, r1, r2]; try rfl) rfl ?_
          rw [HFF.out]
          obtain ⟨q1, q2⟩ := HRES.out _ _ _
          exact ⟨_, _, _, _, rfl, q2, q1⟩
        · obtain ⟨g, hg⟩ := bal_more HM.out.2.2.bal hl
          rw [fdv_at hl] at HLS
          rw [fdv_at hg] at HMO
          obtain ⟨f1, f2, l1, l2, hne, c1, c2, c3⟩ := put_has hl hg
          have hst := stp_yes hl hg
          have HNX : Hid (unf (put T s j g).fl k + 1 = unf s.fl k ∧ ∃ m', unf (put T s j g).fl k ≤ m' ∧ run k T m' (put T s j g) = F ∧ Inv k T (fun i => l.getD i 0) (put T s j g)) := Lib.hid (by
            have hu : unf (put T s j g).fl k + 1 = unf s.fl k := unf_put s.fl j f1 k l1
            refine ⟨hu, ?_⟩
            obtain ⟨h1, h2, h3⟩ := HM.out
            rcases m with _ | m'
            · omega
            · rw [run_some hst] at h2
              exact ⟨m', by omega, h2, inv_put h3 hl hg⟩)
          have HMS : Hid (∀ w', RX w w' gh gd gb ga k cb ca T (put T s j g) → msF gd k w' < msF gd k wr) := Lib.hid (fun w' h => by
            rw [msP_is h.d, msP_is HX.out.d]
            have := HNX.out.1
            omega)
          have HPUT := Lib.hid (HX.out.put HRA.out l1 l2 (j := j) (g := g))
          have HP1 := Lib.hid (HX.out.putB HRA.out l1 (s.has j))
          have HP2 := Lib.hid ((HX.out.putB HRA.out l1 (s.has j)).putA HRA.out l1 g)
          have HP3 := Lib.hid (((HX.out.putB HRA.out l1 (s.has j)).putA HRA.out l1 g).putD HRA.out l1 true)
          have hj0 : (0 : Int) ≤ (j : Int) := by omega
          have hjk : (j : Int) < (k : Int) := by omega
          have hg0 : (0 : Int) ≤ (g : Int) := by omega
          have hgk : (g : Int) < (k : Int) := by omega
          have HL := Lib.hid HLS
          have HG := Lib.hid HMO
          clear hl hg f1 f2 c1 c2 c3 hst HM HLS HMO hne
          go_wp2_with fail
          refine HL.out.mono ?_
          rintro e w5 ⟨rfl, rfl⟩
          clear HL
          go_wp2_with fail
          refine HG.out.mono ?_
          rintro e w6 ⟨rfl, rfl⟩
          clear HG
          have k1 := cell_of_row _ _ 1 _ _ _ HX.out.box.tb
          have a5 := HX.out.h.get l1
          have a6 := HX.out.b.get l1
          have a7 := HX.out.b.free j
          obtain ⟨x, hx⟩ : ∃ x, s.has j = x := ⟨_, rfl⟩
          rw [hx] at a5 HPUT HP1 HP2 HP3
          go_wp2_with fail
          go_region
          have hp7 := HP1.out.stay (New.refl _).drew
          obtain ⟨w7, hw7⟩ : ∃ w7, (w6.setCell ⟨gb, j, none⟩ (.int .u64 (W64 x))).drew = w7 := ⟨_, rfl⟩
          rw [hw7] at hp7 ⊢
          have HP7 := Lib.hid hp7
          have HP8 := Lib.hid (hp7.putA HRA.out l1 g)
          have HP9 := Lib.hid ((hp7.putA HRA.out l1 g).putD HRA.out l1 true)
          have HXV := Lib.hid hx
          have k2 := cell_of_row _ _ 2 _ _ _ hp7.box.tb
          have b4 := hp7.a.get l1
          have b5 := hp7.a.free j
          have c4 := HP8.out.d.get l1
          have c5 := HP8.out.d.free j
          clear hw7 k0 k1 a5 a6 a7 HP1 HP2 HP3 HPUT hp7 hx
          go_wp2_with fail
          obtain ⟨w9, hw9⟩ : ∃ w9, ((w7.setCell ⟨ga, j, none⟩ (.int .i64 (g : Int))).setCell ⟨gd, j, none⟩ (.bool true)) = w9 := ⟨_, rfl⟩
          rw [hw9] at HP9 ⊢
          clear hw9 k2 b4 b5 c4 c5 HP8 HP7
          have k0 := cell_of_row _ _ 0 _ _ _ HP9.out.box.tb
          have d1 := HP9.out.h.get l1
          have d2 := HP9.out.h.get l2
          have d3 := HP9.out.h.free g
          have HEND : Hid (∀ v, v = s.has g - (T - x) → RX w (w9.setCell ⟨gh, g, none⟩ (.int .u64 (W64 v))) gh gd gb ga k cb ca T (put T s j g)) := Lib.hid (fun v e => by
            have h := HP9.out.putH HRA.out l2 (s.has g - (T - x))
            rw [e]
            unfold put
            rw [HXV.out]
            exact h)
          have HEND2 : Hid (∀ v, v = s.has g - (T - x) → RX w (w9.setCell ⟨gh, g, none⟩ (.int .u64 (W64 v))).drew gh gd gb ga k cb ca T (put T s j g)) := Lib.hid (fun v e => (HEND.out v e).stay (New.refl _).drew)
          simp only [HXV.out] at d1
          obtain ⟨y, hy⟩ : ∃ y, s.has g = y := ⟨_, rfl⟩
          simp only [hy] at d2
          rw [hy] at HEND HEND2
          clear hy HX HP9
          go_region
          obtain ⟨m', hm1, hm2, hm3⟩ := HNX.out.2
          have HE3 := HEND2.out _ rfl
          obtain ⟨w10, hw10⟩ : ∃ z, (w9.setCell ⟨gh, g, none⟩ (.int .u64 (W64 (y - (T - x))))).drew = z := ⟨_, rfl⟩
          rw [hw10] at HE3 ⊢
          have HE4 := Lib.hid HE3
          have HM4 := Lib.hid (HMS.out _ HE3)
          have HRU := Lib.hid (And.intro hm1 (And.intro hm2 hm3))
          clear hw10 HE3 hm1 hm2 hm3 HEND HEND2 k0 d1 d2 d3
          go_wp2
          exact ⟨⟨_, m', HE4, HRU⟩, HM4.out⟩
end Go.Proofs.Ytbjclkjikclljaa
