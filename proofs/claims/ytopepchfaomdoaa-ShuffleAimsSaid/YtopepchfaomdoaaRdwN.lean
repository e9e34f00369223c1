/- Words put in place of those that draws took: the contract of redraw.Words. -/
import Derived.Test.YtopepchfaomdoaaRdwM
import Derived.Maps.AppendAt
namespace Go.Proofs.Ytopepchfaomdoaa
open Go Go.RowKit Go.Bv
set_option linter.unusedVariables false
theorem drS_rank {l ls : List (BitVec 64)} : ∀ {m ds k}, drS l ls m = some (ds, k) → ∀ i, i < m → ¬ ls.getD i 0 = 0#64 ∧ ((ds.getD i dz).2.1).toNat < eachN (ls.getD i 0) ∧ 1 ≤ (ds.getD i dz).2.2 ∧ usS ds (i + 1) ≤ k
  | 0, ds, k, _, i, hi => by omega
  | m + 1, ds, k, h, i, hi => by
    have hu := drS_us h
    obtain ⟨ds0, k0, j, h0, hl, h1, h2, h3, h4, rfl, rfl⟩ := drS_prev h
    by_cases e : i = m
    · subst e
      have hn0 := takO_ne h4
      have ht := takO_tak h4
      rw [← hl, getD_last, hl]
      refine ⟨hn0, rnk_ltN _ _ hn0 ht, ?_, ?_⟩
      · show 1 ≤ j + 1 - k0
        omega
      · rw [← hl] at hu ⊢; omega
    · obtain ⟨a1, a2, a3, a4⟩ := drS_rank h0 i (by omega)
      rw [getD_app _ _ (by omega), usS_app _ _ _ (by omega)]
      exact ⟨a1, a2, a3, by omega⟩
theorem ow_q {w : World} {base g n cap : Nat} {e : TypeId} {l : List (BitVec 64)} (h : w.ownsRow base e 1 (.slice (some ⟨g, 0, none⟩) n cap) n (l.map fun x => .int .u64 (W64 x))) {k : Nat} (hk : k < n) : w.cell? ⟨g, k, none⟩ = some (.int .u64 (W64 (l.getD k 0))) ∧ w.frozen? ⟨g, k, none⟩ = false := by
  have hl : l.length = n := by have := h.1; rw [List.length_map] at this; omega
  refine ow_cell h ?_
  rw [List.getElem?_map, List.getD_eq_getElem?_getD, List.getElem?_eq_getElem (by omega)]
  rfl
set_option maxRecDepth 100000 in
set_option maxHeartbeats 4000000 in
theorem redraw_q (a b c d : Option Addr) (nl ca m cb cc cd : Nat) (l ls : List (BitVec 64)) (ds : List Drw) (k : Nat) (lv nv : Nat → Nat) (w : World) (hl : QRow w a nl ca l) (hk : KRow w b m cb ds) (h1 : ZRow w c m cc (liI lv m)) (h2 : ZRow w d m cd (liI nv m)) (hd : drS l ls m = some (ds, k)) (hls : ∀ i, i < m → ls.getD i 0 = BitVec.ofNat 64 (lv i)) (hlb : ∀ i, i < m → lv i ≤ 1000000) (hv : ∀ i, i < m → nv i < lv i) :
    Calls Try.prog 37 #[.slice a nl ca, .slice b m cb, .slice c m cc, .slice d m cd] w fun e w' => ∃ v' c', e = .returned (.tuple #[.slice v' nl c', .int .i64 0]) ∧ QRow w' v' nl c' (amS l ls (fun i => BitVec.ofNat 64 (nv i)) ds m) ∧ New w w' := by
  have HLL := Lib.hid hl.len_eq
  have HML := Lib.hid hl.most
  have hmm := hk.most
  have hnl := hl.most
  have HK := Lib.hid hk
  have H1 := Lib.hid h1
  have H2 := Lib.hid h2
  have HU := Lib.hid (drS_rank hd)
  have HKL := Lib.hid (drS_len hd).2
  have HLS := Lib.hid hls
  have HLB := Lib.hid hlb
  have HV := Lib.hid hv
  have HC := Lib.hid (clone_q a nl ca l w hl)
  clear hl hk h1 h2 hls hlb hv hd
  go_enter Try.func37, Try.ntmps37
  go_wp2_with fail
  refine HC.out.mono ?_
  rintro e w1 ⟨v, rfl, how, hn⟩
  have HO := Lib.hid how
  have HN := Lib.hid hn
  have HSZ : Hid (w.heap.size ≤ w1.heap.size) := Lib.hid hn.le
  clear how hn HC
  go_wp2_with fail
  go_loopw [11, 20] (fun av iv wr => ∃ (q : Nat) (z : Int), q ≤ m ∧ iv = .int .i64 (q : Int) ∧ av = .int .i64 z ∧ Hid (z = (usS ds q : Int) - 1) ∧ wr.ownsRow w.heap.size 51 1 v nl ((amS l ls (fun i => BitVec.ofNat 64 (nv i)) ds q).map fun x => .int .u64 (W64 x)) ∧ New w wr) (fun _ iv _ => m - (intOf iv).toNat)
  case atStart => exact ⟨0, _, Nat.zero_le _, rfl, rfl, Lib.hid rfl, HO.out, HN.out⟩
  case round =>
    obtain ⟨q, z, hq, rfl, rfl, HZ, hown, hnew⟩ := hrel
    obtain ⟨wq, hwq⟩ : ∃ z, z = wr := ⟨_, rfl⟩
    rw [← hwq] at hown hnew ⊢
    clear hwq
    by_cases hlt : (q : Int) < (m : Int)
    · have hq0 : (0 : Int) ≤ (q : Int) := by omega
      obtain ⟨b1, o1, rfl, h1⟩ := (HK.out.stay hnew).addr (by omega)
      obtain ⟨p0, p1, p2⟩ := h1 q (by omega)
      clear h1
      obtain ⟨b2, o2, rfl, h2⟩ := (H1.out.stay hnew).addr (by omega)
      obtain ⟨b3, o3, rfl, h3⟩ := (H2.out.stay hnew).addr (by omega)
      have c2 := h2 q (by omega)
      have c3 := h3 q (by omega)
      rw [liI_get _ (by omega)] at c2 c3
      clear h2 h3
      obtain ⟨hr0, hr1, hr2, hr3⟩ := HU.out q (by omega)
      have hls := HLS.out q (by omega)
      have hvv := HV.out q (by omega)
      have hlb := HLB.out q (by omega)
      have hkl := HKL.out
      have hll := HLL.out
      rw [hls] at hr0 hr1
      have HCW := Lib.hid (fun w => word_l (BitVec.ofNat 64 (nv q)) (ds.getD q dz).2.1 (BitVec.ofNat 64 (lv q)) hr0 (by rw [BitVec.toNat_ofNat, BitVec.toNat_ofNat]; omega) hr1 w)
      have hus : usS ds (q + 1) = usS ds q + (ds.getD q dz).2.2 := rfl
      have hz := HZ.out
      obtain ⟨A, hA⟩ : ∃ A, usS ds (q + 1) - 1 = A := ⟨_, rfl⟩
      have hSS : amS l ls (fun i => BitVec.ofNat 64 (nv i)) ds (q + 1) = (amS l ls (fun i => BitVec.ofNat 64 (nv i)) ds q).set A (wrdN (BitVec.ofNat 64 (nv q)) (ds.getD q dz).2.1 (BitVec.ofNat 64 (lv q))) := by
        rw [← hA, ← hls]; rfl
      have HSS := Lib.hid hSS
      have hzA : z + ((ds.getD q dz).2.2 : Int) = (A : Int) := by omega
      have HZA : Hid ((A : Int) = (usS ds (q + 1) : Int) - 1) := Lib.hid (by omega)
      have hAn : (A : Int) < (nl : Int) := by omega
      have hA0 : (0 : Int) ≤ (A : Int) := by omega
      have hAn2 : A < nl := by omega
      obtain ⟨g, cap, rfl, hg, hgs, hgc, hgc2⟩ := ow_shape hown (by omega)
      have HG := Lib.hid hg
      clear hr0 hr1 hr2 hr3 hls hlb hkl hll hus hz hA hSS
      obtain ⟨wd, hwd⟩ : ∃ z, wrdN (BitVec.ofNat 64 (nv q)) (ds.getD q dz).2.1 (BitVec.ofNat 64 (lv q)) = z := ⟨_, rfl⟩
      rw [hwd] at HCW HSS
      clear hwd
      obtain ⟨⟨x, y, u⟩, hd⟩ : ∃ d, ds.getD q dz = d := ⟨_, rfl⟩
      rw [hd] at p0 p1 p2 hzA HCW
      clear hd
      simp only at p0 p1 p2 hzA HCW
      obtain ⟨s, hs⟩ : ∃ s, nv q = s := ⟨_, rfl⟩
      obtain ⟨t, ht⟩ : ∃ t, lv q = t := ⟨_, rfl⟩
      rw [hs] at c3 HCW
      rw [ht] at c2 HCW
      clear hs ht hvv
      have hown2 := ow_new hown ((New.refl wq).alloc (.cells #[.int .u64 (W64 x), .int .u64 (W64 y), .int .i64 (u : Int)] 59))
      have hnew2 := hnew.alloc (.cells #[.int .u64 (W64 x), .int .u64 (W64 y), .int .i64 (u : Int)] 59)
      obtain ⟨WB, hWB⟩ : ∃ z, wq.alloc (.cells #[.int .u64 (W64 x), .int .u64 (W64 y), .int .i64 (u : Int)] 59) = z := ⟨_, rfl⟩
      have HWB := Lib.hid hWB
      have hb1 := heap_alloc_new wq (.cells #[.int .u64 (W64 x), .int .u64 (W64 y), .int .i64 (u : Int)] 59)
      rw [hWB] at hown2 hnew2 hb1
      have d1 : WB.cell? ⟨wq.heap.size, 1, none⟩ = some (.int .u64 (W64 y)) := cell_of_row _ _ 1 _ _ _ hb1
      have d2 : WB.cell? ⟨wq.heap.size, 2, none⟩ = some (.int .i64 (u : Int)) := cell_of_row _ _ 2 _ _ _ hb1
      have e2 : WB.cell? ⟨b2, o2 + q, none⟩ = some (.int .i64 (t : Int)) := by rw [← hWB]; exact Lib.cell?_alloc_some _ c2
      have e3 : WB.cell? ⟨b3, o3 + q, none⟩ = some (.int .i64 (s : Int)) := by rw [← hWB]; exact Lib.cell?_alloc_some _ c3
      clear hb1 hown hnew c2 c3 hWB
      go_wp2_with fail
      rw [HWB.out]
      obtain ⟨p, hp⟩ : ∃ p, wq.heap.size = p := ⟨_, rfl⟩
      rw [hp] at d1 d2 hgs ⊢
      have hltm : q < m := by omega
      have SK : Hid (∀ w', New WB w' → New WB w' ∧ w'.cell? ⟨p, 1, none⟩ = some (.int .u64 (W64 y)) ∧ w'.cell? ⟨b2, o2 + q, none⟩ = some (.int .i64 (t : Int)) ∧ w'.cell? ⟨b3, o3 + q, none⟩ = some (.int .i64 (s : Int))) := Lib.hid (fun w' hn => ⟨hn, (hn.cell (World.block_lt_of_cell? _ _ d1)).trans d1, (hn.cell (World.block_lt_of_cell? _ _ e2)).trans e2, (hn.cell (World.block_lt_of_cell? _ _ e3)).trans e3⟩)
      have HO2 := Lib.hid hown2
      have HN2 := Lib.hid hnew2
      clear hown2 hnew2 d2 p0 p1 p2 HWB hp
      go_cut [14, 15] (fun u e wx => u = .int .u64 (W64 wd) ∧ e = .int .i64 0 ∧ New WB wx)
      case first =>
        go_region_held3 (fun w' => New WB w' ∧ w'.cell? ⟨p, 1, none⟩ = some (.int .u64 (W64 y)) ∧ w'.cell? ⟨b2, o2 + q, none⟩ = some (.int .i64 (t : Int)) ∧ w'.cell? ⟨b3, o3 + q, none⟩ = some (.int .i64 (s : Int)))
          ((refine SK.out _ ?_; first | with_reducible assumption | with_reducible exact (New.refl _).drew | with_reducible exact New.drew (by assumption)))
          (first
          | (go_at_call 43
             refine (HCW.out _).mono ?_
             rintro e w4 ⟨rfl, hn4⟩
             have hn5 : New WB w4 := (New.refl WB).drew.trans hn4
             clear hn4))
        all_goals (
          go_wp2_with fail
          go_meet
          case rel => exact ⟨rfl, rfl, hn5⟩)
      case rest =>
        obtain ⟨rfl, rfl, hn⟩ := hcut
        have hown := ow_new HO2.out hn
        have hnew := HN2.out.trans hn
        obtain ⟨f1, f2⟩ := ow_q hown hAn2
        have HO3 := ow_set hown A (.int .u64 (W64 wd))
        rw [← List.map_set, ← HSS.out] at HO3
        have HO4 := Lib.hid HO3
        have HN4 := Lib.hid (hnew.setCell (show w.heap.size ≤ (⟨g, A, none⟩ : Addr).block from hg) (.int .u64 (W64 wd)))
        clear hown hnew hn HO3 SK d1 e2 e3
        go_wp2
        exact ⟨⟨q + 1, _, by omega, by go_num, rfl, HZA.out, HO4.out, HN4.out⟩, by simp [intOf]; omega⟩
    · obtain rfl : q = m := by omega
      obtain ⟨a2, c2, rfl, hq2⟩ := QRow.of_owns hown (by omega)
      have HQ := Lib.hid hq2
      have HNN := Lib.hid hnew
      clear hown hnew hq2
      go_wp2
      go_ret2
      exact ⟨_, _, rfl, HQ.out, HNN.out⟩
end Go.Proofs.Ytopepchfaomdoaa
