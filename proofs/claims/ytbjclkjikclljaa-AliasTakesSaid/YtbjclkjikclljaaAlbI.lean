/- Layer 43: Take: what a tape tells of a table. -/
import Derived.Test.YtbjclkjikclljaaAliF
import Derived.Test.YtbjclkjikclljaaDrwB
import Derived.Test.YtbjclkjikclljaaLemQ
import Derived.Test.YtbjclkjikclljaaAliI
namespace Go.Proofs.Ytbjclkjikclljaa
open Go Go.RowKit Go.Bv Go.Ali
set_option linter.unusedVariables false
set_option maxRecDepth 100000
/-- both limits -/
def lm2 (n : Nat) (T : BitVec 64) : List (BitVec 64) := [BitVec.ofNat 64 n, T]
abbrev DB (x y : BitVec 64) (u : Int) : Obj := .cells #[.int .u64 (W64 x), .int .u64 (W64 y), .int .i64 u] 80
theorem krow_two (w : World) (d0 d1 : Drw) : KRow (w.alloc (.cells #[.int .u64 (W64 d0.1), .int .u64 (W64 d0.2.1), .int .i64 (d0.2.2 : Int), .int .u64 (W64 d1.1), .int .u64 (W64 d1.2.1), .int .i64 (d1.2.2 : Int)] 80)) (some ⟨w.heap.size, 0, none⟩) 2 2 [d0, d1] := by
  have hb := heap_alloc_new w (.cells #[.int .u64 (W64 d0.1), .int .u64 (W64 d0.2.1), .int .i64 (d0.2.2 : Int), .int .u64 (W64 d1.1), .int .u64 (W64 d1.2.1), .int .i64 (d1.2.2 : Int)] 80)
  refine ⟨rfl, Nat.le_refl _, by omega, by omega, (fun e => by cases e), (fun b off e i hi => ?_), (fun x e _ => by cases e; rfl), (fun x e _ => by cases e; exact lt_of_block hb)⟩
  cases e
  have : i = 0 ∨ i = 1 := by omega
  rcases this with rfl | rfl
  · exact ⟨cell_of_row _ _ 0 _ _ _ hb, cell_of_row _ _ 1 _ _ _ hb, cell_of_row _ _ 2 _ _ _ hb⟩
  · exact ⟨cell_of_row _ _ 3 _ _ _ hb, cell_of_row _ _ 4 _ _ _ hb, cell_of_row _ _ 5 _ _ _ hb⟩
theorem drw_one0 (l : List (BitVec 64)) (n : Nat) (T : BitVec 64) (hn : ¬ BitVec.ofNat 64 n = 0#64) {j : Nat} (h2 : j < l.length) (h3 : ∀ i, 0 ≤ i → i < j → takN (l.getD i 0) (BitVec.ofNat 64 n) = false) (h4 : takN (l.getD j 0) (BitVec.ofNat 64 n) = true) : drS l (lm2 n T) 1 = some ([drw l (BitVec.ofNat 64 n) 0 j], j + 1) := by
  have hk : ∀ x, takO x (BitVec.ofNat 64 n) = takN x (BitVec.ofNat 64 n) := fun x => if_neg hn
  exact drS_next (m := 0) (ls := lm2 n T) rfl (Nat.zero_le _) h2 (fun i a b => by show takO _ (BitVec.ofNat 64 n) = false; rw [hk]; exact h3 i a b) (by show takO _ (BitVec.ofNat 64 n) = true; rw [hk]; exact h4)
theorem drw_no0 (l : List (BitVec 64)) (n : Nat) (T : BitVec 64) (hn : ¬ BitVec.ofNat 64 n = 0#64) (h3 : ∀ i, 0 ≤ i → i < l.length → takN (l.getD i 0) (BitVec.ofNat 64 n) = false) : drS l (lm2 n T) 2 = none := by
  have hk : ∀ x, takO x (BitVec.ofNat 64 n) = takN x (BitVec.ofNat 64 n) := fun x => if_neg hn
  exact drS_none (drS_few (m := 0) (ls := lm2 n T) (ds := []) (k := 0) rfl (Nat.zero_le _) (fun i a b => by show takO _ (BitVec.ofNat 64 n) = false; rw [hk]; exact h3 i a b)) 1
theorem drw_two (l : List (BitVec 64)) (n : Nat) (T : BitVec 64) (hT : ¬ T = 0#64) {ds : List Drw} {k j : Nat} (h : drS l (lm2 n T) 1 = some (ds, k)) (h1 : k ≤ j) (h2 : j < l.length) (h3 : ∀ i, k ≤ i → i < j → takN (l.getD i 0) T = false) (h4 : takN (l.getD j 0) T = true) : drS l (lm2 n T) 2 = some (ds ++ [drw l T k j], j + 1) := by
  have hk : ∀ x, takO x T = takN x T := fun x => if_neg hT
  exact drS_next (m := 1) (ls := lm2 n T) h h1 h2 (fun i a b => by show takO _ T = false; rw [hk]; exact h3 i a b) (by show takO _ T = true; rw [hk]; exact h4)
theorem drw_no1 (l : List (BitVec 64)) (n : Nat) (T : BitVec 64) (hT : ¬ T = 0#64) {ds : List Drw} {k : Nat} (h : drS l (lm2 n T) 1 = some (ds, k)) (h3 : ∀ i, k ≤ i → i < l.length → takN (l.getD i 0) T = false) : drS l (lm2 n T) 2 = none := by
  have hk : ∀ x, takO x T = takN x T := fun x => if_neg hT
  exact drS_few (m := 1) (ls := lm2 n T) h (drS_len h).2 (fun i a b => by show takO _ T = false; rw [hk]; exact h3 i a b)
/-- a table, wherever the tape has gone -/
theorem TL.but {w w' : World} {b g : Nat} (h : But2 b g w w') {ab : Option Addr} {nb cb : Nat} {aa : Option Addr} {na ca : Nat} {be : List (BitVec 64)} {al : List Int} (ht : TL w ab nb cb aa na ca be al) {W : World} (hw : New W w) (h0 : TL W ab nb cb aa na ca be al) (hb : W.heap.size ≤ b) (hg : W.heap.size ≤ g) : TL w' ab nb cb aa na ca be al := h0.stay (h.new W hw hb hg)
set_option maxHeartbeats 8000000 in
theorem weights_no (T : BitVec 64) (ab : Option Addr) (nb cb : Nat) (aa : Option Addr) (na ca : Nat) (be : List (BitVec 64)) (al : List Int) (hE : tE T be al ≠ 0) (w : World) (h : TL w ab nb cb aa na ca be al) :
    Calls Try.prog 17 #[tv T ab nb cb aa na ca] w fun e w' => e = .returned (.tuple #[.slice none 0 0, .bool false]) ∧ New w w' := by
  have hbx := heap_alloc_new w (TB (.int .u64 (W64 T)) (.slice ab nb cb) (.slice aa na ca))
  have hn0 := (New.refl w).alloc (TB (.int .u64 (W64 T)) (.slice ab nb cb) (.slice aa na ca))
  have k0 := cell_of_row _ _ 0 _ _ _ hbx
  have k1 := cell_of_row _ _ 1 _ _ _ hbx
  have k2 := cell_of_row _ _ 2 _ _ _ hbx
  have HCH := Lib.hid (check_43 T ab nb cb aa na ca be al _ (h.stay hn0))
  have HN0 := Lib.hid hn0
  obtain ⟨z, hz⟩ : ∃ z, tE T be al = z := ⟨_, rfl⟩
  rw [hz] at HCH hE
  have hb : (z != 0) = true := by rw [bne_iff_ne]; exact hE
  clear hE hz h hbx hn0
  go_enter Try.func17, Try.ntmps17
  go_wp2_with fail
  refine HCH.out.mono ?_
  rintro e w1 ⟨rfl, n1⟩
  have HN1 := Lib.hid (HN0.out.trans n1)
  clear n1 HCH k0 k1 k2
  go_wp2
  refine bodyPost_ret (by simp [results, Try.results17, go_sem]; try rfl) rfl ?_
  exact ⟨rfl, HN1.out⟩
set_option maxHeartbeats 8000000 in
theorem take43_no (T : BitVec 64) (b : Nat) (ab : Option Addr) (nb cb : Nat) (aa : Option Addr) (na ca : Nat) (be : List (BitVec 64)) (al : List Int) (hE : tE T be al ≠ 0) (w : World) (h : TL w ab nb cb aa na ca be al) :
    Calls Try.prog 24 #[.pointer (some ⟨b, 0, none⟩), tv T ab nb cb aa na ca] w fun e w' => e = .returned (.tuple #[.int .i64 0, .slice none 0 0, .int .i64 (tE T be al)]) ∧ New w w' := by
  have hbx := heap_alloc_new w (TB (.int .u64 (W64 T)) (.slice ab nb cb) (.slice aa na ca))
  have hn0 := (New.refl w).alloc (TB (.int .u64 (W64 T)) (.slice ab nb cb) (.slice aa na ca))
  have k0 := cell_of_row _ _ 0 _ _ _ hbx
  have k1 := cell_of_row _ _ 1 _ _ _ hbx
  have k2 := cell_of_row _ _ 2 _ _ _ hbx
  have HCH := Lib.hid (check_43 T ab nb cb aa na ca be al _ (h.stay hn0))
  have HN0 := Lib.hid hn0
  obtain ⟨z, hz⟩ : ∃ z, tE T be al = z := ⟨_, rfl⟩
  rw [hz] at HCH hE ⊢
  have hb : (z != 0) = true := by rw [bne_iff_ne]; exact hE
  clear hE hz h hbx hn0
  go_enter Try.func24, Try.ntmps24
  go_wp2_with fail
  refine HCH.out.mono ?_
  rintro e w1 ⟨rfl, n1⟩
  have HN1 := Lib.hid (HN0.out.trans n1)
  clear n1 HCH k0 k1 k2
  go_wp2
  go_ret3
  exact ⟨rfl, HN1.out⟩
/-- what is told of a tape -/
def TkP (T : BitVec 64) (b : Nat) (l : List (BitVec 64)) (n : Nat) (be : List (BitVec 64)) (al : List Int) (W : World) (e : Ending) (w' : World) : Prop := (∃ (ds : List Drw) (k : Nat) (a : Option Addr) (c g : Nat), drS l (lm2 n T) 2 = some (ds, k) ∧ e = .returned (.tuple #[.int .i64 (tlV be al (ds.getD 0 dz).1.toNat (ds.getD 1 dz).1), .slice a 2 c, .int .i64 0]) ∧ KRow w' a 2 c ds ∧ Tape w' b g l k ∧ New W w') ∨ (∃ g, drS l (lm2 n T) 2 = none ∧ e = .returned (.tuple #[.int .i64 0, .slice none 0 0, .int .i64 7]) ∧ Tape w' b g l l.length ∧ New W w')
set_option maxHeartbeats 16000000 in
theorem take43_ok (T : BitVec 64) (b g0 : Nat) (l : List (BitVec 64)) (ab : Option Addr) (n cb : Nat) (aa : Option Addr) (ca : Nat) (be : List (BitVec 64)) (al : List Int) (hE : tE T be al = 0) (W w : World) (hW0 : TL W ab n cb aa n ca be al) (hw : New W w) (hWb : W.heap.size ≤ b) (hWg : W.heap.size ≤ g0) (ht : Tape w b g0 l 0) :
    Calls Try.prog 24 #[.pointer (some ⟨b, 0, none⟩), tv T ab n cb aa n ca] w fun e w' => TkP T b l n be al W e w' := by
  obtain ⟨hn1, hn2, hna, hT0, hT1, hbb, hab⟩ := te_good hE
  have hlb := hW0.b.len_eq
  have hbx := heap_alloc_new w (TB (.int .u64 (W64 T)) (.slice ab n cb) (.slice aa n ca))
  have hn0 := (New.refl w).alloc (TB (.int .u64 (W64 T)) (.slice ab n cb) (.slice aa n ca))
  have k0 := cell_of_row _ _ 0 _ _ _ hbx
  have k1 := cell_of_row _ _ 1 _ _ _ hbx
  have k2 := cell_of_row _ _ 2 _ _ _ hbx
  have hch := check_43 T ab n cb aa n ca be al _ (hW0.stay (hw.trans hn0))
  rw [hE] at hch
  have HCH := Lib.hid hch
  have hW := w_of (n := n) (by omega)
  have hcv : IntKind.u64.wrap (n : Int) = W64 (BitVec.ofNat 64 n) := by rw [wrap_u64]; rfl
  have hN0 : ¬ BitVec.ofNat 64 n = 0#64 := by
    intro e
    have := congrArg BitVec.toNat e
    rw [BitVec.toNat_ofNat, Nat.mod_eq_of_lt (by omega)] at this
    simp at this; omega
  have hTZ : ¬ T = 0#64 := by intro e; rw [e] at hT0; exact absurd hT0 (by decide)
  have hnn : (BitVec.ofNat 64 n).toNat = n := by rw [BitVec.toNat_ofNat, Nat.mod_eq_of_lt (by omega)]
  have HTE : Hid (∀ (c : Nat) (u : BitVec 64), c < n → u.toNat < T.toNat → tV T be al c u = tlV be al c u ∧ pE T be al c u = 0) := Lib.hid (fun c u hc hu => by
    have h0 := pe_ok (c := c) (u := u) hE (by omega)
    exact ⟨by unfold tV; rw [if_pos h0], h0⟩)
  have HLT : Hid (∀ x : BitVec 64, (telN x (BitVec.ofNat 64 n)).toNat < n) := Lib.hid (fun x => by have := tel_lt x _ hN0; rwa [hnn] at this)
  have HLU : Hid (∀ x : BitVec 64, (telN x T).toNat < T.toNat) := Lib.hid (fun x => tel_lt x _ hTZ)
  have HN0 := Lib.hid hN0
  have HTZ := Lib.hid hTZ
  have HT := Lib.hid ht
  have HW0 := Lib.hid hW0
  have HW := Lib.hid hw
  have HWB := Lib.hid (And.intro hWb hWg)
  have HNX := Lib.hid hn0
  have HBX := Lib.hid hbx
  have HLO := Lib.hid ht.lt
  clear hn1 hn2 hna hT0 hT1 hbb hab hlb hbx hn0 hch hN0 hTZ hnn ht hW0 hw hWb hWg hE
  go_enter Try.func24, Try.ntmps24
  go_wp2_with fail
  refine HCH.out.mono ?_
  rintro e w2 ⟨rfl, n2⟩
  have HN2 := Lib.hid (HNX.out.trans n2)
  have HB2 := Lib.hid (blk_stay HBX.out n2)
  have hsz2 := lt_of_block HB2.out
  have htk := take_l b g0 l 0 (BitVec.ofNat 64 n) HN0.out w2 (HT.out.stay HN2.out)
  rw [hW] at htk
  have HT1 := Lib.hid htk
  have k1 := cell_of_row _ _ 1 _ _ _ HB2.out
  clear n2 HCH k0 k2 htk HBX HNX
  go_wp2_with fail
  refine HT1.out.mono ?_
  rintro e w3 (⟨j, h1, h2, h3, h4, rfl, g1, ht3, hb3, hg3⟩ | ⟨h3, rfl, g1, ht3, hb3, hg3⟩)
  · have HD1 := Lib.hid (drw_one0 l n T HN0.out h2 h3 h4)
    have hlt := HLT.out (l.getD j 0)
    have HDW : Hid (drw l (BitVec.ofNat 64 n) 0 j = (telN (l.getD j 0) (BitVec.ofNat 64 n), rnkN (l.getD j 0) (BitVec.ofNat 64 n), j + 1 - 0)) := Lib.hid rfl
    obtain ⟨x, hx⟩ : ∃ z, telN (l.getD j 0) (BitVec.ofNat 64 n) = z := ⟨_, rfl⟩
    obtain ⟨y, hy⟩ : ∃ z, rnkN (l.getD j 0) (BitVec.ofNat 64 n) = z := ⟨_, rfl⟩
    obtain ⟨u, hu⟩ : ∃ z, j + 1 - 0 = z := ⟨_, rfl⟩
    rw [hx] at hlt HDW ⊢
    rw [hy] at HDW ⊢
    rw [hu] at HDW ⊢
    rw [HDW.out] at HD1
    have hlo := HLO.out
    have hsz : w.heap.size < w2.heap.size := hsz2
    have HB3 := Lib.hid ((hb3.block _ hsz (by omega) (by omega)).trans HB2.out)
    have hb03 := (But2.of_new (b := b) (g := g0) HN2.out).trans hb3
    have hg03 : g1 = g0 ∨ w.heap.size ≤ g1 := by rcases hg3 with e | e <;> omega
    have hd3 := heap_alloc_new w3 (DB x y (u : Int))
    have hn4 := (New.refl w3).alloc (DB x y (u : Int))
    have HD3 := Lib.hid hd3
    have HB4 := Lib.hid (blk_stay HB3.out hn4)
    have HT4 := Lib.hid (ht3.stay hn4)
    have HBU := Lib.hid (hb03.then hn4)
    have HG := Lib.hid hg03
    have HG1 := Lib.hid ht3.lt
    have HSZ3 : Hid (w.heap.size < w3.heap.size ∧ w.heap.size ≠ g1) := Lib.hid ⟨lt_of_block HB3.out, by rcases hg3 with e | e <;> omega⟩
    have HXN := Lib.hid hlt
    clear hb3 hg3 ht3 hb03 hg03 hd3 hn4 h1 h2 h3 h4 hx hy hu HDW hsz hlo hlt HT1 k1 hsz2
    obtain ⟨w4, hw4⟩ : ∃ w4, w3.alloc (DB x y (u : Int)) = w4 := ⟨_, rfl⟩
    rw [hw4] at HD3 HB4 HT4 HBU
    have HW4 := Lib.hid hw4
    have HT5 := Lib.hid (take_l b g1 l (j + 1) T HTZ.out w4 HT4.out)
    have k0 := cell_of_row _ _ 0 _ _ _ HB4.out
    clear hw4
    go_wp2_with (rw [HW4.out])
    refine HT5.out.mono ?_
    rintro e w5 (⟨j2, h1, h2, h3, h4, rfl, g2, ht5, hb5, hg5⟩ | ⟨h3, rfl, g2, ht5, hb5, hg5⟩)
    · have HD2 := Lib.hid (drw_two l n T HTZ.out HD1.out h1 h2 h3 h4)
      have hlt2 := HLU.out (l.getD j2 0)
      have HDW : Hid (drw l T (j + 1) j2 = (telN (l.getD j2 0) T, rnkN (l.getD j2 0) T, j2 + 1 - (j + 1))) := Lib.hid rfl
      obtain ⟨x2, hx2⟩ : ∃ z, telN (l.getD j2 0) T = z := ⟨_, rfl⟩
      obtain ⟨y2, hy2⟩ : ∃ z, rnkN (l.getD j2 0) T = z := ⟨_, rfl⟩
      obtain ⟨u2, hu2⟩ : ∃ z, j2 + 1 - (j + 1) = z := ⟨_, rfl⟩
      rw [hx2] at hlt2 HDW ⊢
      rw [hy2] at HDW ⊢
      rw [hu2] at HDW ⊢
      rw [HDW.out] at HD2
      have hlo := HLO.out
      have hlo1 := HG1.out
      have hs3 := HSZ3.out
      have hgg := HG.out
      have hl4 := lt_of_block HB4.out
      have hl4b := lt_of_block HD3.out
      have HB5 := Lib.hid ((hb5.block _ hl4 (by omega) (by omega)).trans HB4.out)
      have HD5 := Lib.hid ((hb5.block _ hl4b (by omega) (by omega)).trans HD3.out)
      have hbw := HBU.out.step HG.out hb5
      have HNW := Lib.hid (hbw.new W HW.out HWB.out.1 HWB.out.2)
      have hd6 := heap_alloc_new w5 (DB x2 y2 (u2 : Int))
      have hn6 := (New.refl w5).alloc (DB x2 y2 (u2 : Int))
      have HD6 := Lib.hid hd6
      have HB6 := Lib.hid (blk_stay HB5.out hn6)
      have HE6 := Lib.hid (blk_stay HD5.out hn6)
      have HT6 := Lib.hid (ht5.stay hn6)
      have HW6 := Lib.hid (HNW.out.trans hn6)
      have hte := HTE.out x.toNat x2 HXN.out hlt2
      clear hb5 hg5 ht5 hbw hd6 hn6 h1 h2 h3 h4 hx2 hy2 hu2 HDW hlo hlo1 hs3 hgg hl4 hl4b hlt2 k0
      obtain ⟨w6, hw6⟩ : ∃ w6, w5.alloc (DB x2 y2 (u2 : Int)) = w6 := ⟨_, rfl⟩
      rw [hw6] at HD6 HB6 HE6 HT6 HW6
      have HWZ := Lib.hid hw6
      have htl := tell_43 T ab n cb aa n ca be al x x2 w6 (HW0.out.stay HW6.out)
      rw [hte.1, hte.2] at htl
      have HTEL := Lib.hid htl
      clear hw6 htl hte
      have k0 := cell_of_row _ _ 0 _ _ _ HB6.out
      have k1 := cell_of_row _ _ 1 _ _ _ HB6.out
      have k2 := cell_of_row _ _ 2 _ _ _ HB6.out
      have q0 := cell_of_row _ _ 0 _ _ _ HE6.out
      have r0 := cell_of_row _ _ 0 _ _ _ HD6.out
      obtain ⟨item, hit⟩ : ∃ z, tlV be al x.toNat x2 = z := ⟨_, rfl⟩
      rw [hit] at HTEL
      have HIT := Lib.hid hit
      clear hit
      go_wp2_with (rw [HWZ.out])
      refine HTEL.out.mono ?_
      rintro e w7 ⟨rfl, n7⟩
      have he7 := blk_stay HE6.out n7
      have hd7 := blk_stay HD6.out n7
      have HT7 := Lib.hid (HT6.out.stay n7)
      have HW7 := Lib.hid (HW6.out.trans n7)
      clear k0 k1 k2 q0 r0 n7 HTEL
      have q0 := cell_of_row _ _ 0 _ _ _ he7
      have q1 := cell_of_row _ _ 1 _ _ _ he7
      have q2 := cell_of_row _ _ 2 _ _ _ he7
      have r0 := cell_of_row _ _ 0 _ _ _ hd7
      have r1 := cell_of_row _ _ 1 _ _ _ hd7
      have r2 := cell_of_row _ _ 2 _ _ _ hd7
      clear he7 hd7
      go_wp2_with fail
      have HKR := Lib.hid (krow_two w7 (x, y, u) (x2, y2, u2))
      have HKD := Lib.hid (krow_two w7.drew (x, y, u) (x2, y2, u2))
      go_region
      go_wp2
      go_ret3
      have HI2 := HIT.out.symm
      subst HI2
      first
        | exact .inl ⟨[(x, y, u), (x2, y2, u2)], _, _, _, g2, HD2.out, rfl, HKR.out, HT7.out.stay ((New.refl _).alloc _), HW7.out.alloc _⟩
        | exact .inl ⟨[(x, y, u), (x2, y2, u2)], _, _, _, g2, HD2.out, rfl, HKR.out.stay (New.refl _).drew, (HT7.out.stay ((New.refl _).alloc _)).stay (New.refl _).drew, (HW7.out.alloc _).drew⟩
        | exact .inl ⟨[(x, y, u), (x2, y2, u2)], _, _, _, g2, HD2.out, rfl, HKD.out, (HT7.out.stay (New.refl _).drew).stay ((New.refl _).alloc _), HW7.out.drew.alloc _⟩
    · have HNO := Lib.hid (drw_no1 l n T HTZ.out HD1.out h3)
      have hbw := HBU.out.step HG.out hb5
      have HNW := Lib.hid (hbw.new W HW.out HWB.out.1 HWB.out.2)
      have HT6 := Lib.hid ht5
      clear h3 hb5 hg5 ht5 k0 hbw
      go_wp2
      go_ret3
      exact .inr ⟨g2, HNO.out, rfl, HT6.out.stay ((New.refl _).alloc _), HNW.out.alloc _⟩
  · have HNO := Lib.hid (drw_no0 l n T HN0.out h3)
    have HNW := Lib.hid (((But2.of_new (b := b) (g := g0) HN2.out).trans hb3).new W HW.out HWB.out.1 HWB.out.2)
    have HT3 := Lib.hid ht3
    clear h3 hb3 hg3 ht3 HT1 k1 hsz2
    go_wp2
    go_ret3
    exact .inr ⟨g1, HNO.out, rfl, HT3.out.stay ((New.refl _).alloc _), HNW.out.alloc _⟩
end Go.Proofs.Ytbjclkjikclljaa
