import Derived.Test.YtebcfbcfipmahaaGreatZ3ThrI
import Derived.Deep.AppendLies
import Derived.Test.YtebcfbcfipmahaaGreatZ3MxE
import Derived.Test.YtebcfbcfipmahaaGreatZ3PolM
section
/- through.Shift. -/
namespace Go.Proofs.YtebcfbcfipmahaaGreat
open Go.RowKit Go.Bv
set_option linter.unusedVariables false
set_option maxHeartbeats 2000000 in
theorem sh_no (a b b2 : Option Addr) (na ca nb cb nb2 cb2 : Nat) (c xs ys : List (BitVec 64)) (w : World) (hc : QRow w a na ca c) (hx : QRow w b nb cb xs) (hy : QRow w b2 nb2 cb2 ys) (h : shE c xs ys ≠ 0) :
    Calls Tryz.prog 76 #[.slice a na ca, .slice b nb cb, .slice b2 nb2 cb2] w fun e w' => e = .returned (.tuple #[.slice none 0 0, .int .i64 (shE c xs ys)]) ∧ New w w' := by
  have hlc := hc.len_eq
  have hlx := hx.len_eq
  have HC := Lib.hid (check_q _ _ _ _ _ hc)
  have HK := Lib.hid (pchk_q _ _ _ _ _ _ _ _ _ hx hy)
  by_cases h1 : chkC c = 0
  · rw [h1] at HC
    by_cases h2 : chkT xs ys = 0
    · have h3 : c.length < xs.length := by
        by_cases e : c.length < xs.length
        · exact e
        · exact absurd (by unfold shE; rw [if_neg (by simp [h1]), if_neg (by simp [h2]), if_neg e]) h
      have h4 : shE c xs ys = 1 := by unfold shE; rw [if_neg (by simp [h1]), if_neg (by simp [h2]), if_pos h3]
      have h5 : (na : Int) < (nb : Int) := by omega
      rw [h2] at HK
      rw [h4]
      clear h1 h2 h3 h4 h hc hx hy hlc hlx
      go_enter Tryz.func76, Tryz.ntmps76
      go_wp2_with fail
      refine (HC.out).mono ?_
      rintro e w9 ⟨rfl, hw⟩
      replace hw := hw.symm
      subst hw
      go_wp2_with fail
      refine (HK.out).mono ?_
      rintro e w9 ⟨rfl, hn⟩
      have HN := Lib.hid hn
      clear hn HC HK
      go_wp2
      go_ret2
      exact ⟨rfl, HN.out⟩
    · have h4 : shE c xs ys = chkT xs ys := by unfold shE; rw [if_neg (by simp [h1]), if_pos h2]
      have hne : (chkT xs ys != 0) = true := by rw [bne_iff_ne]; exact h2
      rw [h4]
      obtain ⟨q, hq⟩ : ∃ z, chkT xs ys = z := ⟨_, rfl⟩
      rw [hq] at HK hne
      rw [hq]
      clear h1 h2 h4 h hc hx hy hlc hlx hq
      go_enter Tryz.func76, Tryz.ntmps76
      go_wp2_with fail
      refine (HC.out).mono ?_
      rintro e w9 ⟨rfl, hw⟩
      replace hw := hw.symm
      subst hw
      go_wp2_with fail
      refine (HK.out).mono ?_
      rintro e w9 ⟨rfl, hn⟩
      have HN := Lib.hid hn
      clear hn HC HK
      go_wp2
      go_ret2
      exact ⟨rfl, HN.out⟩
  · have h4 : shE c xs ys = chkC c := by unfold shE; rw [if_pos h1]
    have hne : (chkC c != 0) = true := by rw [bne_iff_ne]; exact h1
    rw [h4]
    obtain ⟨q, hq⟩ : ∃ z, chkC c = z := ⟨_, rfl⟩
    rw [hq] at HC hne
    rw [hq]
    clear h1 h4 h hc hx hy hlc hlx hq HK
    go_enter Tryz.func76, Tryz.ntmps76
    go_wp2_with fail
    refine (HC.out).mono ?_
    rintro e w9 ⟨rfl, hw⟩
    replace hw := hw.symm
    subst hw
    go_wp2
    go_ret2
    exact ⟨rfl, New.refl _⟩
set_option maxRecDepth 100000 in
set_option maxHeartbeats 8000000 in
theorem sh_ok (a b b2 : Option Addr) (na ca nb cb nb2 cb2 : Nat) (c xs ys : List (BitVec 64)) (w : World) (hc : QRow w a na ca c) (hx : QRow w b nb cb xs) (hy : QRow w b2 nb2 cb2 ys) (h : shE c xs ys = 0) :
    Calls Tryz.prog 76 #[.slice a na ca, .slice b nb cb, .slice b2 nb2 cb2] w fun e w' => ∃ a' c', e = .returned (.tuple #[.slice a' (na : Nat) c', .int .i64 0]) ∧ QRow w' a' na c' (sh c xs ys) ∧ New w w' := by
  obtain ⟨i0, hi, hz0, hz1, hz2⟩ := info_parts info_u64q
  have hlc := hc.len_eq
  have hlx := hx.len_eq
  have hly := hy.len_eq
  obtain ⟨h1, h2, h3⟩ := shE_parts h
  obtain ⟨p1, p2, p3, p4, p5, p6⟩ := chk_parts h2
  obtain ⟨q1, q2, q3⟩ := chkC_parts h1
  obtain rfl : nb2 = nb := by omega
  obtain ⟨nb, rfl⟩ : ∃ n, nb2 = n := ⟨_, rfl⟩
  have HC := Lib.hid (check_q _ _ _ _ _ hc)
  rw [h1] at HC
  have HK := Lib.hid (pchk_q _ _ _ _ _ _ _ _ _ hx hy)
  rw [h2] at HK
  have hvE : vE c xs = 0 := by unfold vE; rw [if_neg (by simp [h1]), if_pos p4]
  have HVA := Lib.hid (fun w' (hn : New w w') => pvals_row _ _ _ _ _ _ _ _ w' (hc.stay hn) (hx.stay hn) hvE (by omega))
  have HTH := Lib.hid (fun w' (hn : New w w') a4 c4 (h4 : QRow w' a4 nb2 c4 (df c xs ys)) => thr_ok _ _ _ _ _ _ _ _ w' (hx.stay hn) h4 (df_chk h2))
  have HDF : Hid (∀ j, j < nb2 → (df c xs ys).getD j 0 = sb (ys.getD j 0) ((vals c xs).getD j 0)) := Lib.hid (fun j hj => df_get _ _ _ _ (by omega))
  have HDL : Hid ((df c xs ys).length = nb2) := Lib.hid (by rw [df_len]; exact hlx)
  have HSH : Hid (∀ j, j < na → (sh c xs ys).getD j 0 = if j < nb2 then mp ((c.getD j 0).toNat + ((thr xs (df c xs ys)).getD j 0).toNat) else c.getD j 0) := Lib.hid (fun j hj => by rw [sh_get _ _ _ _ (by omega), hlx])
  have HSL : Hid ((sh c xs ys).length = na) := Lib.hid (by rw [sh_len]; exact hlc)
  have HNB : Hid (nb2 ≤ na ∧ 1 ≤ nb2 ∧ na ≤ 64) := Lib.hid ⟨by omega, by omega, by omega⟩
  obtain ⟨D, hD⟩ : ∃ z, df c xs ys = z := ⟨_, rfl⟩
  rw [hD] at HTH HDF HDL HSH
  obtain ⟨T, hT⟩ : ∃ z, thr xs D = z := ⟨_, rfl⟩
  rw [hT] at HTH HSH
  obtain ⟨S, hS⟩ : ∃ z, sh c xs ys = z := ⟨_, rfl⟩
  rw [hS] at HSH HSL ⊢
  obtain ⟨V, hV⟩ : ∃ z, vals c xs = z := ⟨_, rfl⟩
  rw [hV] at HVA HDF
  have h5 : ¬ (na : Int) < (nb2 : Int) := by omega
  have hm1 : nb2 ≤ 17592186044416 := by omega
  have hm2 : na ≤ 17592186044416 := by omega
  obtain ⟨cb0, co0, rfl, _⟩ := hc.addr (by omega)
  have HCR := Lib.hid hc
  have HYR := Lib.hid hy
  have HLC := Lib.hid hlc
  clear h1 h2 h3 h hc hx hy hlc hlx hly p1 p2 p3 p4 p5 p6 q1 q2 q3 hvE hD hT hS hV
  go_enter Tryz.func76, Tryz.ntmps76
  go_wp2_with fail
  refine (HC.out).mono ?_
  rintro e w9 ⟨rfl, hw⟩
  replace hw := hw.symm
  subst hw
  go_wp2_with fail
  refine (HK.out).mono ?_
  rintro e w9 ⟨rfl, hn⟩
  have HN := Lib.hid hn
  clear hn HC HK
  go_wp2_with fail
  refine (HVA.out _ HN.out).mono ?_
  rintro e w8 ⟨cs, rfl, hg, hcs, hn⟩
  have HG := Lib.hid hg
  have HCS := hcs
  have hle := HN.out.le
  obtain ⟨g, hgq⟩ : ∃ g, w9.heap.size = g := ⟨_, rfl⟩
  rw [hgq] at HG hle
  rw [hgq]
  have HGE := Lib.hid hle
  replace HN := Lib.hid (HN.out.trans hn)
  clear hn hg hcs hle hgq HVA h5
  go_wp2_with fail
  go_loopw [43] (fun iv wr => ∃ (k : Nat) (cs : Array Value), k ≤ nb2 ∧ iv = .int .i64 (k : Int) ∧ wr.heap[g]? = some (.cells cs 31 (0, 0)) ∧ Hid (cs.size = nb2 ∧ ∀ j, j < nb2 → cs[j]? = some (.int .u64 (W64 (if j < k then D.getD j 0 else V.getD j 0)))) ∧ New w wr) (fun iv _ => nb2 - (intOf iv).toNat)
  case atStart => exact ⟨0, cs, Nat.zero_le _, rfl, HG.out, Lib.hid ⟨HCS.out.1, fun j hj => by rw [HCS.out.2 j hj, if_neg (by omega)]⟩, HN.out⟩
  case round =>
    clear HG HCS HN
    obtain ⟨k, cs, hk, rfl, hb, HCS, hnw⟩ := hrel
    have HG := Lib.hid hb
    have HN := Lib.hid hnw
    obtain ⟨wq, hwq⟩ : ∃ z, z = wr := ⟨_, rfl⟩
    rw [← hwq] at HG HN ⊢
    clear hb hnw hwq
    by_cases hlt : (k : Int) < (nb2 : Int)
    · obtain ⟨b1, off1, rfl, hc1⟩ := (HYR.out.stay HN.out).addr (by omega)
      have c1 := hc1 k (by omega)
      clear hc1
      have hk0 : (0 : Int) ≤ (k : Int) := by omega
      have HDK := Lib.hid (HDF.out k (by omega))
      have hcell : wq.cell? ⟨g, k, none⟩ = some (.int .u64 (W64 (V.getD k 0))) := by
        rw [cell_of_row _ _ _ _ _ _ HG.out, HCS.out.2 k (by omega), if_neg (by omega)]
      obtain ⟨x, hx⟩ : ∃ z, ys.getD k 0 = z := ⟨_, rfl⟩
      rw [hx] at c1 HDK
      clear hx
      obtain ⟨y, hy⟩ : ∃ z, V.getD k 0 = z := ⟨_, rfl⟩
      rw [hy] at hcell HDK
      clear hy
      have HS := Lib.hid (fun w => msub_p x y w)
      obtain ⟨d, hd⟩ : ∃ z, sb x y = z := ⟨_, rfl⟩
      rw [hd] at HS HDK
      clear hd
      go_wp2_with fail
      refine (HS.out _).mono ?_
      rintro e w7 ⟨rfl, hn3⟩
      replace HG := Lib.hid ((hn3.block _ (lt_of_block HG.out)).trans HG.out)
      replace HN := Lib.hid (HN.out.trans hn3)
      clear hn3 HS c1 hcell
      have hcell : w7.cell? ⟨g, k, none⟩ = some (.int .u64 (W64 (if k < k then D.getD k 0 else V.getD k 0))) := by
        rw [cell_of_row _ _ _ _ _ _ HG.out]; exact HCS.out.2 k (by omega)
      have hfree := frozen_of_row w7 g k cs _ HG.out
      have HD := Lib.hid (heap_setCell_same w7 g k cs _ (.int .u64 (W64 d)) HG.out)
      go_wp2
      refine ⟨⟨k + 1, _, by omega, by go_num, HD.out, Lib.hid ⟨by rw [Array.size_setIfInBounds]; exact HCS.out.1, ?_⟩, HN.out.setCell HGE.out _⟩, by simp [intOf]; omega⟩
      intro j hj
      have hs := HCS.out.1
      rw [Array.getElem?_setIfInBounds]
      by_cases e : k = j
      · subst e
        rw [if_pos rfl, if_pos (by omega), if_pos (by omega), HDK.out]
      · rw [if_neg e, HCS.out.2 j hj]
        refine congrArg (fun d => some (Value.int .u64 (W64 d))) ?_
        by_cases e2 : j < k
        · rw [if_pos e2, if_pos (by omega)]
        · rw [if_neg e2, if_neg (by omega)]
    · obtain rfl : k = nb2 := by omega
      have HQR := Lib.hid (row_of_cells HG.out HDL.out (Nat.le_refl _) (by have := HNB.out; omega) (by have := HNB.out; omega) (fun j hj => by rw [HCS.out.2 j hj, if_pos hj]))
      clear HG HCS
      go_wp2_with fail
      refine (HTH.out _ HN.out _ _ HQR.out).mono ?_
      rintro e w6 ⟨ta, rfl, hq, hn⟩
      have HTR := Lib.hid hq
      replace HN := Lib.hid (HN.out.trans hn)
      clear hn hq HTH HQR
      have HSZ := Lib.hid HN.out.le
      obtain ⟨g6, hg6⟩ : ∃ g, w6.heap.size = g := ⟨_, rfl⟩
      go_wp2_with (at_builtin; refine wpList_append_lies _ rfl _ _ 28 rfl w6.heap.size 31 i0 (.int .u64 0) 1 8 Tryz.underlying28 hi hz0 hz1 hz2 rfl (by decide) _ 0 [] rfl (World.ownsRow_nil _ _ _ 1) ⟨cb0, co0, none⟩ na ca (c.map fun x => .int .u64 (W64 x)) rfl (by simp [HLC.out]) (news_of_row (HCR.out.stay HN.out)) (by intro u hu; obtain ⟨y, _, rfl⟩ := List.mem_map.1 hu; rfl) (by have := HNB.out; omega) (by have := HNB.out; unfold maxLen; omega) (by have := HNB.out; omega) (Nat.le_refl _) g6 hg6 ?_)
      intro g0 cap w5 how hgr hat hlt5
      obtain rfl : g0 = g6 := by
        rcases hat with e | e
        · cases e
        · exact e
      have hn5 : New w6 w5 := (New.refl w6).grown' hgr (fun k hk => by cases hk)
      try rw [Nat.zero_add] at how
      try rw [List.nil_append] at how
      obtain ⟨hc1, hc2, cs0, hb0, hcs0, hcs1⟩ := own_cells how
      have HB0 := Lib.hid hb0
      have HC0 := Lib.hid (And.intro hcs0 hcs1)
      have HCAP := Lib.hid (show na ≤ cap ∧ cap ≤ maxLen from ⟨hc1, hc2⟩)
      have HG6 : Hid (w6.heap.size ≤ g0) := Lib.hid (Nat.le_of_eq hg6)
      have HN5 := Lib.hid hn5
      clear how hgr hat hlt5 hc1 hc2 hb0 hcs0 hcs1 hg6 hn5 HSZ
      go_wp2_with fail
      go_loopw [68] (fun iv wr => ∃ (i : Nat) (cs : Array Value), i ≤ k ∧ iv = .int .i64 (i : Int) ∧ wr.heap[g0]? = some (.cells cs 31 (0, 0)) ∧ Hid (cs.size = cap ∧ ∀ j, j < na → cs[j]? = some (.int .u64 (W64 (if j < i then S.getD j 0 else c.getD j 0)))) ∧ New w6 wr) (fun iv _ => k - (intOf iv).toNat)
      case atStart => exact ⟨0, cs0, Nat.zero_le _, rfl, HB0.out, Lib.hid ⟨HC0.out.1, fun j hj => by rw [HC0.out.2 j hj, if_neg (by omega)]⟩, HN5.out⟩
      case round =>
        clear HB0 HC0 HN5
        obtain ⟨i, cs, hi2, rfl, hb, HCS, hnw⟩ := hrel
        have HG := Lib.hid hb
        have HN5 := Lib.hid hnw
        obtain ⟨wq, hwq⟩ : ∃ z, z = wr := ⟨_, rfl⟩
        rw [← hwq] at HG HN5 ⊢
        clear hb hnw hwq
        by_cases hlt6 : (i : Int) < (k : Int)
        · obtain ⟨b1, off1, rfl, hc1⟩ := (HTR.out.stay HN5.out).addr (by omega)
          have c1 := hc1 i (by omega)
          clear hc1
          have hna := HNB.out.1
          have hi0 : (0 : Int) ≤ (i : Int) := by omega
          have hin : (i : Int) < (na : Int) := by omega
          have HSK := Lib.hid (HSH.out i (by omega))
          rw [if_pos (by omega)] at HSK
          have hcell : wq.cell? ⟨g0, i, none⟩ = some (.int .u64 (W64 (c.getD i 0))) := by
            rw [cell_of_row _ _ _ _ _ _ HG.out, HCS.out.2 i (by omega), if_neg (by omega)]
          obtain ⟨x, hx⟩ : ∃ z, T.getD i 0 = z := ⟨_, rfl⟩
          rw [hx] at c1 HSK
          clear hx
          obtain ⟨y, hy⟩ : ∃ z, c.getD i 0 = z := ⟨_, rfl⟩
          rw [hy] at hcell HSK
          clear hy
          have HS := Lib.hid (fun w => madd_p y x w)
          obtain ⟨d, hd⟩ : ∃ z, mp (y.toNat + x.toNat) = z := ⟨_, rfl⟩
          rw [hd] at HS HSK
          clear hd hna
          go_wp2_with fail
          refine (HS.out _).mono ?_
          rintro e w7 ⟨rfl, hn3⟩
          replace HG := Lib.hid ((hn3.block _ (lt_of_block HG.out)).trans HG.out)
          replace HN5 := Lib.hid (HN5.out.trans hn3)
          clear hn3 HS c1 hcell
          have hcell : w7.cell? ⟨g0, i, none⟩ = some (.int .u64 (W64 (if i < i then S.getD i 0 else c.getD i 0))) := by
            rw [cell_of_row _ _ _ _ _ _ HG.out]; exact HCS.out.2 i (by omega)
          have hfree := frozen_of_row w7 g0 i cs _ HG.out
          have HD := Lib.hid (heap_setCell_same w7 g0 i cs _ (.int .u64 (W64 d)) HG.out)
          go_wp2
          refine ⟨⟨i + 1, _, by omega, by go_num, HD.out, Lib.hid ⟨by rw [Array.size_setIfInBounds]; exact HCS.out.1, ?_⟩, ?_⟩, by simp [intOf]; omega⟩
          · intro j hj
            have hs := HCS.out.1
            have hcap := HCAP.out.1
            rw [Array.getElem?_setIfInBounds]
            by_cases e : i = j
            · subst e
              rw [if_pos rfl, if_pos (by omega), if_pos (by omega), HSK.out]
            · rw [if_neg e, HCS.out.2 j hj]
              refine congrArg (fun d => some (Value.int .u64 (W64 d))) ?_
              by_cases e2 : j < i
              · rw [if_pos e2, if_pos (by omega)]
              · rw [if_neg e2, if_neg (by omega)]
          · exact HN5.out.setCell HG6.out _
        · obtain rfl : i = k := by omega
          have HQR := Lib.hid (row_of_cells (l := S) HG.out HSL.out HCAP.out.1 (by have := HNB.out; omega) (by have := HCAP.out.2; unfold maxLen at this; omega) (fun j hj => by
            rw [HCS.out.2 j hj]
            by_cases e : j < i
            · rw [if_pos e]
            · rw [if_neg e, HSH.out j hj, if_neg e]))
          replace HN := Lib.hid (HN.out.trans HN5.out)
          clear HG HCS HN5
          go_wp2
          go_ret2
          exact ⟨_, _, rfl, HQR.out, HN.out⟩
end Go.Proofs.YtebcfbcfipmahaaGreat
end
section
/- The walk of the statement MixedShifts: for all seeds, all numbers of bits, all keys, all targets. -/
namespace Go.Proofs.YtebcfbcfipmahaaGreat
open Go Go.RowKit Go.Bv Go.Tab
set_option linter.unusedVariables false
set_option maxRecDepth 100000
/-- keys and targets that may be, of a seed that is right -/
structure GoodM (l : List (BitVec 64)) (bits : Int) (xl yl : List (BitVec 64)) : Prop where
  len : l.length = 320
  b1 : 1 ≤ bits
  b2 : bits ≤ 64
  tg : tgE bits.toNat xl yl = 0
theorem goodM_of {l : List (BitVec 64)} {bits : Int} {xl yl : List (BitVec 64)} (h : csN bits l.length 320 xl yl = 0) : GoodM l bits xl yl := by
  unfold csN at h
  by_cases e : chk bits l.length 320 = 0
  · rw [if_neg (by rw [e]; simp)] at h
    obtain ⟨b1, b2, b3⟩ := chk_good e
    exact ⟨by omega, b1, b2, h⟩
  · rw [if_pos e] at h; exact absurd h e
theorem csM_of {l : List (BitVec 64)} {bits : Int} {xl yl : List (BitVec 64)} (h : GoodM l bits xl yl) : chk bits l.length 320 = 0 ∧ csN bits l.length 320 xl yl = 0 := by
  have e : chk bits l.length 320 = 0 := by
    have h1 := h.len; have h2 := h.b1; have h3 := h.b2
    unfold chk
    rw [if_neg (by omega), if_neg (by omega)]
  refine ⟨e, ?_⟩
  unfold csN
  rw [if_neg (by rw [e]; simp), h.tg]
theorem goodM_ev {l : List (BitVec 64)} {bits : Int} {xl yl : List (BitVec 64)} (h : GoodM l bits xl yl) {i : Nat} (hi : i < xl.length) : evE bits l.length 320 (xl.getD i 0) = 0 ∧ meV l bits (xl.getD i 0) = lowN (xs (l.take 192) (rowM l (xl.getD i 0)) 12) bits.toNat := by
  have e : evE bits l.length 320 (xl.getD i 0) = 0 := by
    unfold evE
    rw [if_neg (by rw [(csM_of h).1]; simp), if_pos (small_of ((tg_zero h.tg).2.2.2.1 i hi).1)]
  exact ⟨e, by unfold meV; rw [if_pos e]⟩
theorem miL_parts {l : List (BitVec 64)} {bits : Int} {xl yl : List (BitVec 64)} (h : l.length = 320) : (miL l bits xl yl).length = l.length ∧ (miL l bits xl yl).take 192 = aimL (l.take 192) xl.length 12 (miR l xl) ((List.range xl.length).map (byM l bits xl yl)) ∧ ((miL l bits xl yl).drop 192).take 128 = (l.drop 192).take 128 := by
  have h1 : (aimL (l.take 192) xl.length 12 (miR l xl) ((List.range xl.length).map (byM l bits xl yl))).length = 192 := by rw [aimL_len, List.length_take, h]; rfl
  have h2 : ((l.drop 192).take 128).length = 128 := by rw [List.length_take, List.length_drop, h]; rfl
  unfold miL
  refine ⟨by rw [List.length_append, h1, h2, h], ?_, ?_⟩
  · rw [List.take_append_of_le_length (by omega), List.take_of_length_le (by omega)]
  · rw [List.drop_append_of_le_length (by omega), List.drop_of_length_le (by omega), List.nil_append, List.take_of_length_le (by omega)]
theorem miL_len (l : List (BitVec 64)) (bits : Int) (xl yl : List (BitVec 64)) (h : l.length = 320) : (miL l bits xl yl).length = l.length := (miL_parts h).1
theorem dwx_part {l m : List (BitVec 64)} (h : (m.drop 192).take 128 = (l.drop 192).take 128) (x : BitVec 64) : ∀ k, k ≤ 8 → dwx m x k = dwx l x k
  | 0, _ => rfl
  | k + 1, hk => by
    show dwx m x k ^^^ m.getD (192 + 16 * k + (lat x k).toNat) 0 = dwx l x k ^^^ l.getD (192 + 16 * k + (lat x k).toNat) 0
    have := lat_lt x k
    rw [dwx_part h x k (by omega), Nat.add_assoc, ← getD_part m 192 128 _ (by omega), ← getD_part l 192 128 _ (by omega), h]
theorem miL_row {l : List (BitVec 64)} {bits : Int} {xl yl : List (BitVec 64)} (h : l.length = 320) (x : BitVec 64) : rowM (miL l bits xl yl) x = rowM l x := by
  unfold rowM
  rw [dwx_part (miL_parts h).2.2 x 8 (by omega)]
theorem miL_rows {l : List (BitVec 64)} {bits : Int} {xl yl : List (BitVec 64)} (h : l.length = 320) : miR (miL l bits xl yl) xl = miR l xl := by
  funext i
  exact miL_row h _
theorem miL_good {l : List (BitVec 64)} {bits : Int} {xl yl zl : List (BitVec 64)} (h : GoodM l bits xl yl) (hz : tgE bits.toNat xl zl = 0) : GoodM (miL l bits xl yl) bits xl zl := ⟨by rw [miL_len _ _ _ _ h.len]; exact h.len, h.b1, h.b2, hz⟩
theorem rowM_in (l : List (BitVec 64)) (x : BitVec 64) (p : Nat) (hp : p < 12) : 0 ≤ (rowM l x).getD p 0 ∧ (rowM l x).getD p 0 < 16 := by
  have h : p < (rowM l x).length := by rw [rowM_len]; exact hp
  rw [List.getD_eq_getElem?_getD, List.getElem?_eq_getElem h]
  exact rowM_mem l x _ (List.getElem_mem h)
theorem goodM_rows {l : List (BitVec 64)} {bits : Int} {xl yl : List (BitVec 64)} (h : GoodM l bits xl yl) : ∀ i j, i < xl.length → j < xl.length → i ≠ j → ∃ p, p < 12 ∧ rn (miR l xl) i p ≠ rn (miR l xl) j p := by
  obtain ⟨t1, t2, t3, t4, t5⟩ := tg_zero h.tg
  intro i j hi hj hij
  refine rn_differ (n := xl.length) (fun i _ => rowM_len _ _) (fun i p _ hp => (rowM_in l _ p hp).1) hi hj (fun he => t5 i j hi hj hij ?_)
  have := rowM_inj l (xl.getD i 0) (xl.getD j 0) (small_of (t4 i hi).1) (small_of (t4 j hj).1)
  rw [show rowM l (xl.getD i 0) = rowM l (xl.getD j 0) from he, beq_self_eq_true] at this
  exact beq_iff_eq.1 this.symm
theorem miL_ev {l : List (BitVec 64)} {bits : Int} {xl yl : List (BitVec 64)} (h : GoodM l bits xl yl) {i : Nat} (hi : i < xl.length) : meV (miL l bits xl yl) bits (xl.getD i 0) = yl.getD i 0 := by
  have hb : bits.toNat ≤ 64 := by have := h.b2; omega
  obtain ⟨t1, t2, t3, t4, t5⟩ := tg_zero h.tg
  rw [(goodM_ev (miL_good h h.tg) hi).2, (miL_parts h.len).2.1, miL_row h.len]
  have := aimL_sum (l.take 192) xl.length 12 (miR l xl) ((List.range xl.length).map (byM l bits xl yl)) t2 (by omega) (fun i p _ hp => rowM_in l _ p hp) (goodM_rows h) (by rw [List.length_take, h.len]; omega) i hi
  rw [show rowM l (xl.getD i 0) = miR l xl i from rfl, this, map_at _ hi]
  unfold byM
  rw [(goodM_ev h hi).2]
  exact aimed_low hb (t4 i hi).2
/-- what the keys were brought to -/
def waM (l : List (BitVec 64)) (bits : Int) (xl : List (BitVec 64)) : List (BitVec 64) := (List.range xl.length).map fun i => meV l bits (xl.getD i 0)
theorem waM_tg {l : List (BitVec 64)} {bits : Int} {xl yl : List (BitVec 64)} (h : GoodM l bits xl yl) : tgE bits.toNat xl (waM l bits xl) = 0 := by
  have hb : bits.toNat ≤ 64 := by have := h.b2; omega
  obtain ⟨t1, t2, t3, t4, t5⟩ := tg_zero h.tg
  have hwl : (waM l bits xl).length = xl.length := by simp [waM]
  refine tg_ok (by omega) (fun j hj => ?_) (fun j hj => same2_no fun k hk => t5 k j (by omega) hj (by omega))
  unfold bad2 waM
  rw [map_at _ hj, (goodM_ev h hj).2, lowN_fits _ _ hb, (t4 j hj).1]
  rfl
theorem miL_back {l : List (BitVec 64)} {bits : Int} {xl yl : List (BitVec 64)} (h : GoodM l bits xl yl) : miL (miL l bits xl yl) bits xl (waM l bits xl) = l := by
  have e : (List.range xl.length).map (byM (miL l bits xl yl) bits xl (waM l bits xl)) = (List.range xl.length).map (byM l bits xl yl) := by
    refine List.map_congr_left fun i hi => ?_
    have hi := List.mem_range.1 hi
    unfold byM
    rw [miL_ev h hi]
    unfold waM
    rw [map_at _ hi, BitVec.xor_comm]
  show aimL ((miL l bits xl yl).take 192) xl.length 12 (miR (miL l bits xl yl) xl) ((List.range xl.length).map (byM (miL l bits xl yl) bits xl (waM l bits xl))) ++ ((miL l bits xl yl).drop 192).take 128 = l
  rw [e, (miL_parts h.len).2.1, (miL_parts h.len).2.2, miL_rows h.len, aimL_twice, List.take_of_length_le (l := l.drop 192) (by rw [List.length_drop, h.len]; omega), List.take_append_drop]
end Go.Proofs.YtebcfbcfipmahaaGreat
end
