import Derived.Test.YtebcfbcfipmahaaGreatZ3MadC
import Derived.Deep.DeepCutAuto
import Derived.Test.YtebcfbcfipmahaaGreatZ3PolC
/- Layer 22: Aim, where nothing is wrong. -/
namespace Go.Tab
theorem sm_congr (c d : Nat → BitVec 64) (r : Nat → Nat) : ∀ m : Nat, (∀ i, i < m → c (16 * i + r i) = d (16 * i + r i)) → sm c r m = sm d r m
  | 0, _ => rfl
  | m + 1, h => by
    show sm c r m ^^^ c (16 * m + r m) = sm d r m ^^^ d (16 * m + r m)
    rw [sm_congr c d r m (fun i hi => h i (by omega)), h m (by omega)]
end Go.Tab
namespace Go.Proofs.YtebcfbcfipmahaaGreat
open Go Go.RowKit Go.Bv Go.Tab
set_option linter.unusedVariables false
set_option maxRecDepth 100000
/-- the words that Aim makes -/
def aimL (l : List (BitVec 64)) (n m : Nat) (R : Nat → List Int) (bl : List (BitVec 64)) : List (BitVec 64) := (List.range l.length).map fun j => l.getD j 0 ^^^ chK m R (fun i => bl.getD i 0) (plF m n (rn R) n (fun j => decide (j < n))) 0 j
theorem make_w22 (n : Nat) (hn : n ≤ 17592186044416) (t : Int) (w : World) (ht : t = ((n : Nat) : Int)) : (Instr.makeSlice 28 (.int .i64 t) (.int .i64 t)).run Tryz.prog w = .ok (.slice (some ⟨w.heap.size, 0, none⟩) n n) (w.alloc (.cells (madeCells #[.int .u64 0] n) 31)) := by
  obtain ⟨i0, hi, hz0, hz1, hz2⟩ := info_parts info_cr
  subst ht
  exact run_make_row (P := Tryz.prog) 28 31 i0 (.int .u64 0) Tryz.underlying28 hi hz0 hz1 rfl .i64 .i64 n (by rw [hz2]; omega) (by omega) w
theorem cr_made (w : World) (n : Nat) : CR (w.alloc (.cells (madeCells #[.int .u64 0] n) 31)) w.heap.size n (fun _ => 0#64) :=
  ⟨_, heap_alloc_new w _, Nat.le_of_eq (zeros_cr n).1.symm, (zeros_cr n).2⟩
/-- a block of just n cells -/
def SZ (w : World) (g n : Nat) : Prop := ∃ cs : Array Value, w.heap[g]? = some (.cells cs 31 (0, 0)) ∧ cs.size = n
theorem SZ.put {w : World} {g n : Nat} (h : SZ w g n) (i : Nat) (v : Value) : SZ (w.setCell ⟨g, i, none⟩ v) g n := by
  obtain ⟨cs, h1, h2⟩ := h
  exact ⟨_, heap_setCell_same w g i cs _ v h1, by rw [Array.size_setIfInBounds]; exact h2⟩
theorem SZ.own {w : World} {g n base : Nat} {f : Nat → BitVec 64} (h : CR w g n f) (hs : SZ w g n) (hn : n ≤ 17592186044416) (hb : base ≤ g) : w.ownsRow base 31 1 (.slice (some ⟨g, 0, none⟩) n n) n (((List.range n).map f).map fun x => .int .u64 (W64 x)) := by
  obtain ⟨cs, h1, h2, h3⟩ := h
  obtain ⟨cs2, g1, g2⟩ := hs
  rw [h1] at g1
  cases g1
  refine ⟨by simp, Or.inr ⟨g, n, cs, rfl, hb, h1, Nat.le_refl _, by unfold maxLen; omega, by omega, ?_⟩⟩
  refine List.ext_getElem? fun i => ?_
  rw [List.getElem?_take]
  by_cases e : i < n
  · rw [if_pos (by omega), Array.getElem?_toList, h3 i e, List.getElem?_map, List.getElem?_map, List.getElem?_range e]; rfl
  · rw [if_neg (by omega), List.getElem?_eq_none (by simp; omega)]
/-- what Aim's first loop keeps -/
structure AmI (w wr : World) (gc nw : Nat) (ch : Nat → BitVec 64) (pb : Nat) (cur : Array Value) : Prop where
  new : New w wr
  ch : CR wr gc nw ch
  pl : wr.heap[pb]? = some (.cells cur 147 (0, 0))
theorem AmI.stay {w wr w2 : World} {gc nw pb : Nat} {ch : Nat → BitVec 64} {cur : Array Value} (h : AmI w wr gc nw ch pb cur) (hn : New wr w2) : AmI w w2 gc nw ch pb cur :=
  ⟨h.new.trans hn, h.ch.stay hn, (hn.block _ (lt_of_block h.pl)).trans h.pl⟩
theorem AmI.put {w wr : World} {gc nw pb : Nat} {ch ch' : Nat → BitVec 64} {cur : Array Value} (h : AmI w wr gc nw ch pb cur) (hg : w.heap.size ≤ gc) (hne : pb ≠ gc) {v : Nat} (hv : v < nw) (x : BitVec 64) (he : ch' = up ch v x) : AmI w (wr.setCell ⟨gc, v, none⟩ (.int .u64 (W64 x))) gc nw ch' pb cur := by
  subst he
  refine ⟨h.new.setCell (p := ⟨gc, v, none⟩) hg _, h.ch.put hv x (by unfold up; rw [if_pos rfl]) (fun j _ hj => by unfold up; rw [if_neg hj]), (heap_setCell_other _ _ _ _ hne).trans h.pl⟩
/-- what a place's cells are -/
def PlAt (cur : Array Value) (pl : List (Nat × Nat)) : Prop := ∀ i (h : i < pl.length), cur[i * 2]? = some (.int .i64 (pl[i].1 : Int)) ∧ cur[i * 2 + 1]? = some (.int .i64 (pl[i].2 : Int))
theorem plAt_of {w : World} {base : Nat} {v : Value} {n : Nat} {pl : List (Nat × Nat)} (h : w.ownsRow base 147 2 v n (plCs pl)) (hl : pl.length = n) (hn : 0 < n) :
    ∃ pb cap cur, v = .slice (some ⟨pb, 0, none⟩) n cap ∧ base ≤ pb ∧ w.heap[pb]? = some (.cells cur 147 (0, 0)) ∧ n ≤ cap ∧ PlAt cur pl := by
  rcases h.2 with ⟨_, h0⟩ | ⟨g, cap, cur, hv, hb, hc, hle, _, hs, ht⟩
  · omega
  · refine ⟨g, cap, cur, hv, hb, hc, hle, fun i hi => ?_⟩
    obtain ⟨e1, e2⟩ := plCs_get pl i hi
    rw [← ht, List.getElem?_take_of_lt (by omega), Array.getElem?_toList] at e1
    rw [← ht, List.getElem?_take_of_lt (by omega), Array.getElem?_toList] at e2
    exact ⟨e1, e2⟩
theorem plF_ok {m n : Nat} {R : Nat → Nat → Nat} (hn : n ≤ 3) (hm : 0 < m) (hd : ∀ i j, i < n → j < n → i ≠ j → ∃ p, p < m ∧ R i p ≠ R j p) : ∀ (k : Nat), k ≤ n → ∀ x ∈ plF m n R k (fun j => decide (j < n)), x.1 < n ∧ x.2 < m
  | 0, _, x, hx => by cases hx
  | k + 1, hk, x, hx => by
    rw [plF_snoc, List.mem_append] at hx
    rcases hx with hx | hx
    · exact plF_ok hn hm hd k (by omega) x hx
    · obtain rfl := List.mem_singleton.1 hx
      obtain ⟨g1, g2, _⟩ := aloF_ok (lfK_ex hn hm hd (fun j => decide (j < n)) (cnt_below n n (Nat.le_refl _)) k (by omega))
      exact ⟨g1, g2⟩
theorem rn_differ {R : Nat → List Int} {n m : Nat} (hl : ∀ i, i < n → (R i).length = m) (hR : ∀ i p, i < n → p < m → 0 ≤ (R i).getD p 0) {i j : Nat} (hi : i < n) (hj : j < n) (hne : R i ≠ R j) : ∃ p, p < m ∧ rn R i p ≠ rn R j p := by
  apply Classical.byContradiction
  intro hno
  apply hne
  refine List.ext_getElem (by rw [hl i hi, hl j hj]) fun p h1 h2 => ?_
  have hp : p < m := by rw [← hl i hi]; exact h1
  have h3 : rn R i p = rn R j p := Classical.byContradiction (fun h => hno ⟨p, hp, h⟩)
  unfold rn at h3
  have a := hR i p hi hp
  have b := hR j p hj hp
  rw [List.getD_eq_getElem?_getD, List.getElem?_eq_getElem h1] at h3 a
  rw [List.getD_eq_getElem?_getD, List.getElem?_eq_getElem h2] at h3 b
  simp only [Option.getD_some] at h3 a b
  omega
set_option maxHeartbeats 8000000 in
theorem aim_ok (a : Option Addr) (nw ca : Nat) (l : List (BitVec 64)) (g gf n cg m : Nat) (hcg : n ≤ cg) (hn : n ≤ 3) (hn0 : 0 < n) (hm0 : 0 < m) (hm : m ≤ 17592186044416) (R : Nat → List Int) (hf : ∀ i, i < n → fitE l.length (R i) = 0) (hl : ∀ i, i < n → (R i).length = m) (hd : ∀ i j, i < n → j < n → i ≠ j → R i ≠ R j) (b : Option Addr) (cb : Nat) (bl : List (BitVec 64)) (w : World) (ha : QRow w a nw ca l) (h : Rws w g gf n m R) (hb : QRow w b n cb bl) :
    Calls Tryz.prog 96 #[.slice a nw ca, .slice (some ⟨g, gf, none⟩) n cg, .slice b n cb] w fun e w' => ∃ v, e = .returned (.tuple #[v, .int .i64 0]) ∧ w'.ownsRow w.heap.size 31 1 v nw ((aimL l n m R bl).map fun x => .int .u64 (W64 x)) ∧ New w w' := by
  have hR : ∀ i p, i < n → p < m → 0 ≤ (R i).getD p 0 ∧ (R i).getD p 0 < 16 := fun i p hi hp => (fitE_zero (hf i hi)).2 p (by rw [hl i hi]; exact hp)
  have hdr : ∀ i j, i < n → j < n → i ≠ j → ∃ p, p < m ∧ rn R i p ≠ rn R j p := fun i j hi hj hij => rn_differ hl (fun i p hi hp => (hR i p hi hp).1) hi hj (hd i j hi hj hij)
  have hll := ha.len_eq
  have hnw : nw = 16 * m := by rw [← hll, (fitE_zero (hf 0 hn0)).1, hl 0 hn0]
  have hmost := ha.most
  have hcheck := check_rows_ok a nw ca l g gf n cg m hcg hn hn0 hm0 hm R hf hd b cb w ha h
  have HCH := Lib.hid hcheck
  have HORD := Lib.hid (fun w' (hw : New w w') => order_any g gf n cg m hn hn0 hm0 R (fun j p hj hp => (hR j p hj hp).1) hdr hm w' (h.stay hw))
  obtain ⟨pl, hpl⟩ : ∃ pl, plF m n (rn R) n (fun j => decide (j < n)) = pl := ⟨_, rfl⟩
  have HPL := Lib.hid (plF_ok hn hm0 hdr n (Nat.le_refl _))
  have HLEN := Lib.hid (plF_len m n (rn R) n (fun j => decide (j < n)))
  have HAL : Hid (aimL l n m R bl = (List.range l.length).map fun j => l.getD j 0 ^^^ chK m R (fun i => bl.getD i 0) pl 0 j) := Lib.hid (by unfold aimL; rw [hpl])
  rw [hpl] at HORD HPL HLEN
  have HRR := Lib.hid hR
  have HF := Lib.hid hf
  have HLL := Lib.hid hl
  have HMK := Lib.hid (make_w22 nw hmost)
  have HA := Lib.hid ha
  have HB := Lib.hid hb
  have HRW := Lib.hid h
  have HNW := Lib.hid hnw
  have HLEN0 := Lib.hid hll
  clear ha hb h hcheck hR hf hl hd hdr hpl hnw hll
  go_enter Tryz.func96, Tryz.ntmps96
  go_wp2_with fail
  refine HCH.out.mono ?_
  rintro e w1 ⟨rfl, n1⟩
  have hmk := HMK.out nw w1 rfl
  have HC0 := Lib.hid (cr_made w1 nw)
  have HN2 := Lib.hid (n1.alloc (.cells (madeCells #[.int .u64 0] nw) 31))
  have HN1 := Lib.hid n1.le
  clear n1 HCH
  go_wp2_with fail
  refine (HORD.out _ HN2.out).mono ?_
  rintro e w3 ⟨v, rfl, hown, n3⟩
  obtain ⟨pb, cap, cur, rfl, hpb, hcur, hcap, hat⟩ := plAt_of hown HLEN.out hn0
  have hst : AmI w w3 w1.heap.size nw (chK m R (fun i => bl.getD i 0) pl n) pb cur := ⟨HN2.out.trans n3, (by have := chK_end m R (fun i => bl.getD i 0) pl; rw [HLEN.out] at this; rw [this]; exact HC0.out.stay n3), hcur⟩
  have HST := Lib.hid hst
  have HNE : Hid (pb ≠ w1.heap.size) := Lib.hid (by have : (w1.alloc (.cells (madeCells #[.int .u64 0] nw) 31)).heap.size = w1.heap.size + 1 := by simp
                                                    omega)
  have HAT := Lib.hid hat
  obtain ⟨gc, hgc⟩ : ∃ gc, w1.heap.size = gc := ⟨_, rfl⟩
  rw [hgc] at HST HNE HN1 ⊢
  clear hown hpb hcur hat n3 hst hmk HC0 HN2 HORD hgc
  go_wp2
  go_loopw [11] (fun iv wr => ∃ (k : Nat) (z : Int), k ≤ n ∧ iv = .int .i64 z ∧ Hid (z = (k : Int) - 1) ∧ Hid (AmI w wr gc nw (chK m R (fun i => bl.getD i 0) pl k) pb cur)) (fun iv _ => (intOf iv + 1).toNat)
  case atStart => exact ⟨n, _, Nat.le_refl _, rfl, Lib.hid (by go_num), HST⟩
  case round =>
    obtain ⟨k, z, hk, rfl, HZ, HI⟩ := hrel
    clear HST
    rcases k with _ | t
    · obtain rfl : z = -1 := HZ.out
      have hmk := HMK.out nw wr rfl
      have hgo : gc < wr.heap.size := HI.out.ch.lt
      obtain ⟨ch, hch⟩ : ∃ ch, chK m R (fun i => bl.getD i 0) pl 0 = ch := ⟨_, rfl⟩
      have HAL2 := HAL
      rw [hch] at HAL2 HI
      have HLE := Lib.hid HI.out.new.le
      have hst : New w (wr.alloc (.cells (madeCells #[.int .u64 0] nw) 31)) ∧ CR (wr.alloc (.cells (madeCells #[.int .u64 0] nw) 31)) gc nw ch ∧ CR (wr.alloc (.cells (madeCells #[.int .u64 0] nw) 31)) wr.heap.size nw (fun j => if j < 0 then l.getD j 0 ^^^ ch j else 0#64) ∧ SZ (wr.alloc (.cells (madeCells #[.int .u64 0] nw) 31)) wr.heap.size nw :=
        ⟨HI.out.new.alloc _, HI.out.ch.stay ((New.refl wr).alloc _), (cr_made wr nw).congr (fun j _ => by rw [if_neg (by omega)]), ⟨_, heap_alloc_new _ _, (zeros_cr nw).1⟩⟩
      have HST := Lib.hid hst
      obtain ⟨go, hgoe⟩ : ∃ go, wr.heap.size = go := ⟨_, rfl⟩
      rw [hgoe] at HST HLE hmk hgo
      have HNG : Hid (gc ≠ go) := Lib.hid (by omega)
      clear hst HAL HZ hch HI hgo
      go_wp2
      go_loopw [80] (fun iv wx => ∃ i : Nat, i ≤ nw ∧ iv = .int .i64 (i : Int) ∧ Hid (New w wx ∧ CR wx gc nw ch ∧ CR wx go nw (fun j => if j < i then l.getD j 0 ^^^ ch j else 0#64) ∧ SZ wx go nw)) (fun iv _ => nw - (intOf iv).toNat)
      case atStart => exact ⟨0, Nat.zero_le _, rfl, HST⟩
      case round =>
        obtain ⟨i, hi, rfl, HJ⟩ := hrel
        clear HST hmk
        by_cases hlt : (i : Int) < (nw : Int)
        · have hi0 : (0 : Int) ≤ (i : Int) := by omega
          have hin : i < nw := by omega
          obtain ⟨p1, o1, ha1, d1⟩ := (HA.out.stay HJ.out.1).addr (by omega)
          subst ha1
          replace d1 := d1 i hin
          obtain ⟨d3, _⟩ := HJ.out.2.1.get hin
          obtain ⟨d4, d5⟩ := HJ.out.2.2.1.get hin
          have HP : Hid (∀ x, x = l.getD i 0 ^^^ ch i → New w (wr.setCell ⟨go, i, none⟩ (.int .u64 (W64 x))) ∧ CR (wr.setCell ⟨go, i, none⟩ (.int .u64 (W64 x))) gc nw ch ∧ CR (wr.setCell ⟨go, i, none⟩ (.int .u64 (W64 x))) go nw (fun j => if j < i + 1 then l.getD j 0 ^^^ ch j else 0#64) ∧ SZ (wr.setCell ⟨go, i, none⟩ (.int .u64 (W64 x))) go nw) := Lib.hid (fun x hx => by
            refine ⟨HJ.out.1.setCell (p := ⟨go, i, none⟩) HLE.out _, HJ.out.2.1.keep HNG.out _, HJ.out.2.2.1.put hin x (by rw [if_pos (by omega), hx]) (fun j hj hji => ?_), HJ.out.2.2.2.put _ _⟩
            by_cases e : j < i
            · rw [if_pos e, if_pos (by omega)]
            · rw [if_neg e, if_neg (by omega)])
          obtain ⟨x, hx⟩ : ∃ x, l.getD i 0 = x := ⟨_, rfl⟩
          obtain ⟨y, hy⟩ : ∃ y, ch i = y := ⟨_, rfl⟩
          rw [hx] at d1
          rw [hy] at d3
          have HP2 := Lib.hid (HP.out _ rfl)
          rw [hx, hy] at HP2
          clear HP hx hy
          go_wp2
          exact ⟨⟨i + 1, by omega, by go_num, HP2⟩, by simp [intOf]; omega⟩
        · obtain rfl : i = nw := by omega
          have HQ := Lib.hid (HJ.out.2.2.1.congr (l' := fun j => l.getD j 0 ^^^ ch j) (fun j hj => by rw [if_pos hj]))
          have HR2 := Lib.hid (SZ.own HQ.out HJ.out.2.2.2 hmost HLE.out)
          have HN2 := Lib.hid HJ.out.1
          clear HJ
          go_wp2
          go_ret2
          refine ⟨_, rfl, ?_, HN2.out⟩
          rw [HAL2.out, HLEN0.out]
          exact HR2.out
    · obtain rfl : z = (t : Int) := by have := HZ.out; omega
      have ht0 : (0 : Int) ≤ (t : Int) := by omega
      have htn : (t : Int) < (n : Int) := by omega
      have hlt : t < pl.length := by rw [HLEN.out]; omega
      have hat := HAT.out t hlt
      have hxx := HPL.out pl[t] (List.getElem_mem hlt)
      have hstep := chK_step m R (fun i => bl.getD i 0) pl t hlt
      obtain ⟨⟨xr, xp⟩, hx⟩ : ∃ x, pl[t] = x := ⟨_, rfl⟩
      rw [hx] at hat hxx hstep
      simp only at hat hxx
      obtain ⟨hxr, hxp⟩ := hxx
      have hcells := HI.out.pl
      have q0 := (cell_of_row _ _ (t * 2) _ _ _ hcells).trans hat.1
      have q1 := (cell_of_row _ _ (t * 2 + 1) _ _ _ hcells).trans hat.2
      have HSTEP := Lib.hid hstep
      clear hat hstep hx hcells HZ
      have n1 := HI.out.new
      obtain ⟨a1, c1, f1, z1⟩ := HRW.out.get2 hxr
      have hsz : wr.heap.size < wr.heap.size + 1 := Nat.lt_succ_self _
      obtain ⟨ch, hch⟩ : ∃ ch, chK m R (fun i => bl.getD i 0) pl (t + 1) = ch := ⟨_, rfl⟩
      have HSTEP2 := HSTEP
      rw [hch] at HSTEP2 HI
      clear HSTEP
      have f2 : ∀ o, (wr.alloc o).cell? ⟨g, gf + xr, none⟩ = some (.slice a1 m c1) := fun o => f1 _ (n1.alloc o)
      have hxr0 : (0 : Int) ≤ (xr : Int) := by omega
      have hxrn : (xr : Int) < (n : Int) := by omega
      have HF1 := Lib.hid f1
      have hcc := HRR.out xr xp hxr hxp
      obtain ⟨c, hc⟩ : ∃ c : Nat, (R xr).getD xp 0 = (c : Int) := ⟨((R xr).getD xp 0).toNat, by omega⟩
      have hc16 : c < 16 := by omega
      have HRN : Hid (rn R xr xp = c) := Lib.hid (by unfold rn; rw [hc]; omega)
      have hvn : 16 * xp + c < nw := by have := HNW.out; omega
      obtain ⟨v, hv⟩ : ∃ v, 16 * xp + c = v := ⟨_, rfl⟩
      rw [hv] at hvn
      have HV := Lib.hid hv
      have HENT : Hid (∀ w, Calls Tryz.prog 135 #[.int .i64 (xp : Int), .int .i64 (c : Int)] w fun e w' => e = .returned (.int .i64 (v : Int)) ∧ w' = w) := Lib.hid (fun w => by
        have := entry_any (xp : Int) (c : Int) w ⟨by omega, by omega⟩ ⟨by omega, by omega⟩
        rwa [show (16 : Int) * (xp : Int) + (c : Int) = (v : Int) by omega] at this)
      have hz1 := z1.stay (n1.alloc (.cells #[.int .i64 (xr : Int), .int .i64 (xp : Int)] 147))
      have hq1 : QRow (wr.alloc (.cells #[.int .i64 (xr : Int), .int .i64 (xp : Int)] 147)) (some ⟨gc, 0, none⟩) nw nw ((List.range nw).map ch) := (HI.out.ch.stay ((New.refl wr).alloc _)).row hmost (Nat.le_refl _) (by omega)
      have hsum := sum_any _ _ _ _ _ _ _ _ _ hq1 hz1
      have hlr := HF.out xr hxr
      rw [HLEN0.out] at hlr
      rw [show fitE ((List.range nw).map ch).length (R xr) = 0 by rw [List.length_map, List.length_range]; exact hlr] at hsum
      have hsv : sv ((List.range nw).map ch) (R xr) = sm ch (rn R xr) m := by
        unfold sv
        rw [if_pos (by rw [List.length_map, List.length_range]; exact hlr), HLL.out xr hxr, xs_sm]
        refine sm_congr _ _ _ m (fun i hi => ?_)
        have := HRR.out xr i hxr hi
        have h2 : 16 * i + rn R xr i < nw := by have := HNW.out; unfold rn; omega
        rw [List.getD_eq_getElem?_getD, List.getElem?_map, List.getElem?_range h2]
        rfl
      rw [hsv] at hsum
      obtain ⟨sum, hsum2⟩ : ∃ s, sm ch (rn R xr) m = s := ⟨_, rfl⟩
      rw [hsum2] at hsum
      have HSUM := Lib.hid hsum
      have HSM := Lib.hid hsum2
      have HZ1 := Lib.hid z1
      have HC := Lib.hid hc
      clear f1 hz1 hq1 hsum hlr hsv hsum2 z1 hc hcc hv n1 hch
      go_wp2_with fail
      refine HSUM.out.mono ?_
      rintro e w5 ⟨rfl, n5⟩
      have HI5 := Lib.hid (HI.out.stay (((New.refl wr).alloc _).trans n5))
      have hbx := (n5.block _ (by simp)).trans (heap_alloc_new wr (.cells #[.int .i64 (xr : Int), .int .i64 (xp : Int)] 147))
      have HBX := Lib.hid hbx
      obtain ⟨p1, o1, ha1, _⟩ := (HZ1.out).addr (by omega)
      subst ha1
      obtain ⟨p2, o2, hb2, _⟩ := (HB.out).addr hn0
      subst hb2
      obtain ⟨byv, hby⟩ : ∃ y, bl.getD xr 0 = y := ⟨_, rfl⟩
      have HD1 : Hid (∀ w', New w w' → w'.cell? ⟨p1, o1 + xp, none⟩ = some (.int .i64 (c : Int))) := Lib.hid (fun w' hn => by
        have := (HZ1.out.stay hn).cell p1 o1 rfl xp hxp
        rwa [HC.out] at this)
      have HD2 : Hid (∀ w', New w w' → w'.cell? ⟨p2, o2 + xr, none⟩ = some (.int .u64 (W64 byv))) := Lib.hid (fun w' hn => by
        have := (HB.out.stay hn).cell p2 o2 rfl xr hxr
        rwa [hby] at this)
      have hxp0 : (0 : Int) ≤ (xp : Int) := by omega
      have hxpm : (xp : Int) < (m : Int) := by omega
      have hv0 : (0 : Int) ≤ (v : Int) := by omega
      have hvnw : (v : Int) < (nw : Int) := by omega
      have HPUT : Hid (∀ w5, AmI w w5 gc nw ch pb cur → AmI w (w5.setCell ⟨gc, v, none⟩ (.int .u64 (W64 (ch v ^^^ (sum ^^^ byv))))) gc nw (chK m R (fun i => bl.getD i 0) pl t) pb cur) := Lib.hid (fun w5 h => h.put HN1.out HNE.out hvn _ (by rw [HSTEP2.out]; unfold aim1; simp only; rw [HRN.out, HV.out, HSM.out, hby]))
      have HNB : Hid (∀ w5, AmI w w5 gc nw ch pb cur → wr.heap.size ≠ gc) := Lib.hid (fun _ _ e => by have := HI.out.ch.lt; omega)
      clear q0 q1 n5 hbx HSUM hby f2
      go_wp2_with fail
      refine Gro2.wp_region_gro2S (fun w' => (∃ ch', AmI w w' gc nw ch' pb cur) ∧ w'.heap[wr.heap.size]? = some (.cells #[.int .i64 (xr : Int), .int .i64 (xp : Int)] 147 (0, 0))) (fun w' => AmI w w' gc nw ch pb cur ∧ w'.heap[wr.heap.size]? = some (.cells #[.int .i64 (xr : Int), .int .i64 (xp : Int)] 147 (0, 0))) [0,0,0,0,0,0,0,0,0,0,0,0,2,0,1,0,0,0,0,0,0,0,0,0,3] (by kernel_rfl) (by kernel_rfl) (by kernel_rfl) (fun w' hw' => ⟨⟨_, hw'.1⟩, hw'.2⟩) (⟨HI5.out.stay (New.refl _).drew, HBX.out⟩) ?_
      intro I J _ _ f g hfa hba hgb hbb
      have HFA := Lib.hid hfa
      have HBA := Lib.hid hba
      have HGB := Lib.hid hgb
      have HBB := Lib.hid hbb
      have d3 := fun n => ((((hgb n)).1).ch.get hvn).1
      have b0 := fun n => cell_of_row _ _ 0 _ _ _ ((hfa n)).2
      have b1 := fun n => cell_of_row _ _ 1 _ _ _ ((hfa n)).2
      have f3 := fun n => HF1.out _ (let ⟨_, h⟩ := ((hfa n)).1; h.new)
      have d1 := fun n => (HD1.out _ (let ⟨_, h⟩ := ((hfa n)).1; h.new))
      have d2 := fun n => (HD2.out _ (let ⟨_, h⟩ := ((hfa n)).1; h.new))
      clear hfa hba hgb hbb
      refine Gro2.take0 12 (by kernel_rfl) ?_
      simp only [List.take, List.drop, List.length]
      repeat (go_big_quiet_step (fail))
      refine wpQuiet_nil ?_
      refine Gro2.call (fun v' => v' = .int .i64 (v : Int)) (fun _ _ => True) rfl rfl (⟨_, rfl⟩) (fun w1 hB hG => ?_) (fun v1 A1 hv1 hA => ?_)
      · obtain ⟨nq, rfl⟩ := hB
        clear d3 b0 b1 f3 d1 d2
        go_simp
        refine (HENT.out _).mono ?_
        rintro e w2 ⟨rfl, rfl⟩
        have HXX := HBB.out _ (HGB.out nq)
        first | exact ⟨_, rfl, HXX, rfl, trivial, trivial⟩ | exact ⟨_, rfl, HXX, rfl, trivial⟩ | exact ⟨HXX, rfl⟩ | exact ⟨rfl, HXX⟩ | exact HXX | exact ⟨rfl, HXX, rfl, trivial⟩ | exact ⟨HXX, rfl, trivial⟩
      simp [Act.put] at hA
      subst hA
      obtain rfl := hv1
      refine Gro2.take0 1 (by kernel_rfl) ?_
      simp only [List.take, List.drop, List.length]
      repeat (go_big_quiet_step (fail))
      refine wpQuiet_nil ?_
      refine Gro2.take1 1 (by kernel_rfl) ?_
      simp only [List.take, List.drop, List.length]
      repeat (go_big_quiet_step (fail))
      refine wpQuiet_nil ?_
      refine Gro2.take0 9 (by kernel_rfl) ?_
      simp only [List.take, List.drop, List.length]
      repeat (go_big_quiet_step (fail))
      refine wpQuiet_nil ?_
      refine Gro2.turn (fun v => v = undef) (fun _ w9 => AmI w w9 gc nw (chK m R (fun i => bl.getD i 0) pl t) pb cur) rfl rfl ⟨_, rfl⟩ (fun w1 hB hG => ?_) (fun v2 A2 hv2 hA => ?_)
      · obtain ⟨nq, rfl⟩ : ∃ nq, w1 = g nq := hB
        have HX0 := Lib.hid (HGB.out nq)
        have hfr := (HX0.out.1.ch.get hvn).2
        have hcl := (HX0.out.1.ch.get hvn).1
        have HP := Lib.hid (HPUT.out _ HX0.out.1)
        clear d3 b0 b1 f3 d1 d2
        go_simp
        exact ⟨HBA.out _ ⟨⟨_, HP.out⟩, (heap_setCell_other _ _ _ _ (HNB.out _ HX0.out.1)).trans HX0.out.2⟩, HP.out⟩
      simp [Act.put] at hA
      subst hA
      refine Gro2.nil ?_
      rintro w9 ⟨n9, rfl⟩ hG
      have HG := Lib.hid hG
      clear HFA HBA HGB HBB d3 b0 b1 f3 d1 d2 hG
      obtain ⟨wn, hwn⟩ : ∃ z, f n9 = z := ⟨_, rfl⟩
      rw [hwn] at HG ⊢
      clear hwn
      go_wp2
      exact ⟨⟨t, _, by omega, rfl, Lib.hid (by go_num), HG⟩, by simp [intOf]⟩
end Go.Proofs.YtebcfbcfipmahaaGreat
