/- through.Values; Vanish. -/
import Derived.Test.YtiboncnfepnjcaaThrW
namespace Go.Proofs.Ytiboncnfepnjcaa
open Go.RowKit Go.Bv
set_option linter.unusedVariables false
/-- what through.Values says -/
def vE (c xs : List (BitVec 64)) : Int := if chkC c ≠ 0 then chkC c else if blw xs = true then 0 else 2
set_option maxHeartbeats 2000000 in
theorem pvals_no (a b : Option Addr) (n c n2 c2 : Nat) (l xs : List (BitVec 64)) (w : World) (hx : QRow w a n c l) (hy : QRow w b n2 c2 xs) (h : vE l xs ≠ 0) :
    Calls Try.prog 38 #[.slice a n c, .slice b n2 c2] w fun e w' => e = .returned (.tuple #[.slice none 0 0, .int .i64 (vE l xs)]) ∧ New w w' := by
  have HC := Lib.hid (check_q _ _ _ _ _ hx)
  have HB := Lib.hid (inf_q _ _ _ _ _ hy)
  by_cases h1 : chkC l = 0
  · have h2 : blw xs = false := by
      cases e : blw xs with
      | false => rfl
      | true => exact absurd (by unfold vE; rw [if_neg (by simp [h1]), if_pos e]) h
    have h3 : vE l xs = 2 := by unfold vE; rw [if_neg (by simp [h1]), if_neg (by simp [h2])]
    rw [h1] at HC
    rw [h2] at HB
    rw [h3]
    clear h1 h2 h3 h hx hy
    go_enter Try.func38, Try.ntmps38
    go_wp2_with fail
    refine (HC.out).mono ?_
    rintro e w9 ⟨rfl, hw⟩
    replace hw := hw.symm
    subst hw
    go_wp2_with fail
    refine (HB.out).mono ?_
    rintro e w9 ⟨rfl, hw⟩
    replace hw := hw.symm
    subst hw
    go_wp2
    go_ret2
    exact ⟨rfl, New.refl _⟩
  · have h3 : vE l xs = chkC l := by unfold vE; rw [if_pos h1]
    have hne : (chkC l != 0) = true := by rw [bne_iff_ne]; exact h1
    rw [h3]
    obtain ⟨q, hq⟩ : ∃ z, chkC l = z := ⟨_, rfl⟩
    rw [hq] at HC hne
    rw [hq]
    clear hq h1 h3 h hx hy HB
    go_enter Try.func38, Try.ntmps38
    go_wp2_with fail
    refine (HC.out).mono ?_
    rintro e w9 ⟨rfl, hw⟩
    replace hw := hw.symm
    subst hw
    go_wp2
    go_ret2
    exact ⟨rfl, New.refl _⟩
theorem evP_at {l xs : List (BitVec 64)} (h1 : chkC l = 0) (h2 : blw xs = true) (k : Nat) (hk : k < xs.length) : evP l (xs.getD k 0) = mp (nv l (xs.getD k 0)) := by
  have h3 := blw_out h2 k hk
  have h4 : evC l (xs.getD k 0) = 0 := by unfold evC; rw [if_neg (by simp [h1]), if_neg (by omega)]
  unfold evP; rw [if_pos h4]
set_option maxRecDepth 100000 in
set_option maxHeartbeats 4000000 in
theorem pvals_row (a b : Option Addr) (n c n2 c2 : Nat) (l xs : List (BitVec 64)) (w : World) (hx : QRow w a n c l) (hy : QRow w b n2 c2 xs) (h : vE l xs = 0) (hlim : n2 ≤ 1000000) :
    Calls Try.prog 38 #[.slice a n c, .slice b n2 c2] w fun e w' => ∃ cs : Array Value, e = .returned (.tuple #[.slice (some ⟨w.heap.size, 0, none⟩) (n2 : Nat) n2, .int .i64 0]) ∧ w'.heap[w.heap.size]? = some (.cells cs 23 (0, 0)) ∧ Hid (cs.size = n2 ∧ ∀ j, j < n2 → cs[j]? = some (.int .u64 (W64 ((vals l xs).getD j 0)))) ∧ New w w' := by
  obtain ⟨i0, hi, hz0, hz1, hz2⟩ := info_parts info_u64q
  have h1 : chkC l = 0 := by
    by_cases e : chkC l = 0
    · exact e
    · unfold vE at h; rw [if_pos e] at h; exact h
  have h2 : blw xs = true := by
    unfold vE at h; rw [if_neg (by simp [h1])] at h
    by_cases e : blw xs = true
    · exact e
    · rw [if_neg e] at h; exact absurd h (by decide)
  have HEV := Lib.hid (fun k hk => evP_at (l := l) h1 h2 k hk)
  have HC := Lib.hid (check_q _ _ _ _ _ hx)
  have HB := Lib.hid (inf_q _ _ _ _ _ hy)
  rw [h1] at HC
  rw [h2] at HB
  have HX := Lib.hid hx
  have HY := Lib.hid hy
  have HLY := Lib.hid hy.len_eq
  have hmk := run_make_row (P := Try.prog) 22 23 i0 (.int .u64 0) Try.underlying22 hi hz0 hz1 rfl .i64 .i64 n2 (by rw [hz2]; omega) (by omega) w
  have HM := Lib.hid (made_q n2 (fun _ => 0#64))
  have HMK : Hid (∀ t : Int, t = (n2 : Int) → (Instr.makeSlice 22 (.int .i64 t) (.int .i64 t)).run Try.prog w = .ok (.slice (some ⟨w.heap.size, 0, none⟩) n2 n2) (w.alloc (.cells (madeCells #[.int .u64 0] n2) 23))) := Lib.hid (by rintro t rfl; exact hmk)
  clear hmk h1 h2 h hx hy
  go_enter Try.func38, Try.ntmps38
  go_wp2_with fail
  refine (HC.out).mono ?_
  rintro e w9 ⟨rfl, hw⟩
  replace hw := hw.symm
  subst hw
  go_wp2_with fail
  refine (HB.out).mono ?_
  rintro e w9 ⟨rfl, hw⟩
  replace hw := hw.symm
  subst hw
  go_wp2_with fail
  rw [HMK.out _ (by omega)]
  clear HMK HC HB
  go_wp2_with fail
  go_loopw [23] (fun iv wr => ∃ (k : Nat) (cs : Array Value), k ≤ n2 ∧ iv = .int .i64 (k : Int) ∧ wr.heap[w.heap.size]? = some (.cells cs 23 (0, 0)) ∧ Hid (cs.size = n2 ∧ ∀ j, j < n2 → cs[j]? = some (.int .u64 (W64 (if j < k then mp (nv l (xs.getD j 0)) else 0#64)))) ∧ New w wr) (fun iv _ => n2 - (intOf iv).toNat)
  case atStart => exact ⟨0, _, Nat.zero_le _, rfl, heap_alloc_new _ _, Lib.hid ⟨HM.out.1, fun j hj => by rw [HM.out.2 j hj, if_neg (by omega), if_neg (by omega)]⟩, (New.refl w).alloc _⟩
  case round =>
    clear HM
    obtain ⟨k, cs, hk, rfl, hb, HCS, hnw⟩ := hrel
    have HBK := Lib.hid hb
    have HN := Lib.hid hnw
    obtain ⟨wq, hwq⟩ : ∃ z, z = wr := ⟨_, rfl⟩
    rw [← hwq] at HBK HN ⊢
    clear hb hnw hwq
    by_cases hlt : (k : Int) < (n2 : Int)
    · obtain ⟨b1, off1, rfl, hc1⟩ := (HY.out.stay HN.out).addr (by omega)
      have c1 := hc1 k (by omega)
      clear hc1
      have hk0 : (0 : Int) ≤ (k : Int) := by omega
      have HVK := Lib.hid (HEV.out k (by rw [HLY.out]; omega))
      obtain ⟨x, hx⟩ : ∃ z, xs.getD k 0 = z := ⟨_, rfl⟩
      rw [hx] at c1 HVK
      have HXE := Lib.hid hx
      clear hx
      have HPE := Lib.hid (peval_q _ _ _ _ x _ (HX.out.stay HN.out))
      rw [HVK.out] at HPE
      obtain ⟨y, hy⟩ : ∃ z, mp (nv l x) = z := ⟨_, rfl⟩
      rw [hy] at HPE
      have HYE := Lib.hid hy
      clear hy
      obtain ⟨ee, hee⟩ : ∃ z, evC l x = z := ⟨_, rfl⟩
      rw [hee] at HPE
      clear hee
      go_wp2_with fail
      refine (HPE.out).mono ?_
      rintro e w9 ⟨rfl, hn3⟩
      replace HBK := Lib.hid ((hn3.block _ (lt_of_block HBK.out)).trans HBK.out)
      replace HN := Lib.hid (HN.out.trans hn3)
      clear hn3 HPE c1
      have hcell : w9.cell? ⟨w.heap.size, k, none⟩ = some (.int .u64 (W64 (if k < k then mp (nv l (xs.getD k 0)) else 0#64))) := by
        rw [cell_of_row _ _ _ _ _ _ HBK.out]; exact HCS.out.2 k (by omega)
      have hfree := frozen_of_row w9 w.heap.size k cs _ HBK.out
      have HD := Lib.hid (heap_setCell_same w9 w.heap.size k cs _ (.int .u64 (W64 y)) HBK.out)
      go_wp2
      refine ⟨⟨k + 1, _, by omega, by go_num, HD.out, Lib.hid ⟨by rw [Array.size_setIfInBounds]; exact HCS.out.1, ?_⟩, HN.out.setCell (Nat.le_refl _) _⟩, by simp [intOf]; omega⟩
      intro j hj
      have hs := HCS.out.1
      rw [Array.getElem?_setIfInBounds]
      by_cases e : k = j
      · subst e
        rw [if_pos rfl, if_pos (by omega), if_pos (by omega), HXE.out, HYE.out]
      · rw [if_neg e, HCS.out.2 j hj]
        refine congrArg (fun d => some (Value.int .u64 (W64 d))) ?_
        by_cases e2 : j < k
        · rw [if_pos e2, if_pos (by omega)]
        · rw [if_neg e2, if_neg (by omega)]
    · obtain rfl : k = n2 := by omega
      have HRES : Hid (cs.size = k ∧ ∀ j, j < k → cs[j]? = some (.int .u64 (W64 ((vals l xs).getD j 0)))) := Lib.hid ⟨HCS.out.1, fun j hj => by rw [HCS.out.2 j hj, if_pos hj, vals_get _ _ _ (by rw [HLY.out]; exact hj)]⟩
      clear HCS
      go_wp2
      go_ret2
      first | exact ⟨_, rfl, HBK.out, HRES, HN.out⟩ | exact ⟨rfl, _, HBK.out, HRES, HN.out⟩
theorem row_of_cells {w : World} {g n cap : Nat} {cs : Array Value} {l : List (BitVec 64)} (hg : w.heap[g]? = some (.cells cs 23 (0, 0))) (hl : l.length = n) (hn : n ≤ cap) (hm : n ≤ 17592186044416) (hcap : cap ≤ 9223372036854775807) (hc : ∀ j, j < n → cs[j]? = some (.int .u64 (W64 (l.getD j 0)))) : QRow w (some ⟨g, 0, none⟩) n cap l := by
  refine ⟨hl, hn, hm, hcap, (fun e => by cases e), ?_, ?_, ?_⟩
  · intro b off e j hj
    cases e
    rw [Nat.zero_add, cell_of_row _ _ _ _ _ _ hg, hc j hj]
  · intro x e h; cases e; rfl
  · intro x e h; cases e; exact lt_of_block hg
theorem pvals_ok (a b : Option Addr) (n c n2 c2 : Nat) (l xs : List (BitVec 64)) (w : World) (hx : QRow w a n c l) (hy : QRow w b n2 c2 xs) (h : vE l xs = 0) (hlim : n2 ≤ 1000000) :
    Calls Try.prog 38 #[.slice a n c, .slice b n2 c2] w fun e w' => ∃ a', e = .returned (.tuple #[.slice a' (n2 : Nat) n2, .int .i64 0]) ∧ QRow w' a' n2 n2 (vals l xs) ∧ New w w' := by
  refine (pvals_row _ _ _ _ _ _ _ _ w hx hy h hlim).mono ?_
  rintro e w9 ⟨cs, rfl, hg, hc, hn⟩
  exact ⟨_, rfl, row_of_cells hg (by rw [vals_len]; exact hy.len_eq) (Nat.le_refl _) (by omega) (by omega) hc.out.2, hn⟩
/-- the product of the factors of the first k points -/
def van (xs : List (BitVec 64)) : Nat → List (BitVec 64)
  | 0 => [1#64]
  | k + 1 => trimL (mulL (van xs k) [sb 0#64 (xs.getD k 0), 1#64])
theorem van_len (xs : List (BitVec 64)) : ∀ k, (van xs k).length ≤ k + 1
  | 0 => Nat.le_refl _
  | k + 1 => by
    have h1 := van_len xs k
    have h2 := mul2_short (van xs k) (sb 0#64 (xs.getD k 0))
    show (trimL _).length ≤ k + 1 + 1
    omega
theorem sb_mn (x : BitVec 64) : sb 0#64 x = mn x := by
  have h1 := neg_sum x (mn x) rfl
  refine fw_inj (mp_lt _) (by unfold mn; rw [BitVec.toNat_umod]; exact Nat.mod_lt _ (by decide)) ?_
  rw [fw_sb, fw_zero]
  have h2 : ff (x.toNat + (mn x).toNat) = 0 := Fin.ext h1
  rw [ff_add] at h2
  have h3 : fw x + fw (mn x) = 0 := h2
  generalize fw x = u at *
  generalize fw (mn x) = v at *
  grind
theorem van_succ (xs : List (BitVec 64)) (k : Nat) (x : BitVec 64) (h : xs.getD k 0 = x) : van xs (k + 1) = trimL (mulL (van xs k) [sb 0#64 x, 1#64]) := by rw [← h]; rfl
theorem van_ref (xs : List (BitVec 64)) (k : Nat) (x : BitVec 64) (h : xs.getD k 0 = x) : van xs (k + 1) = trimL (mulL (van xs k) [mn x, 1#64]) := by rw [← sb_mn, ← h]; rfl
set_option maxRecDepth 100000 in
set_option maxHeartbeats 4000000 in
theorem pvan_q (a : Option Addr) (n c : Nat) (xs : List (BitVec 64)) (w : World) (h : QRow w a n c xs) (hlim : n ≤ 100000) :
    Calls Try.prog 39 #[.slice a n c] w fun e w' => ∃ a' c', e = .returned (.slice a' ((van xs n).length : Nat) c') ∧ QRow w' a' (van xs n).length c' (van xs n) ∧ New w w' := by
  have hm := h.most
  have HX := Lib.hid h
  have h1 := qrow1 w 1#64
  have hn1 := (New.refl w).alloc (.cells #[.int .u64 (W64 1#64)] 23)
  rw [show W64 1#64 = 1 by decide] at h1 hn1
  have HQ1 := Lib.hid h1
  have HN1 := Lib.hid hn1
  clear h h1 hn1
  go_enter Try.func39, Try.ntmps39
  go_wp2_with fail
  go_loopw [3, 9] (fun sv iv wr => ∃ (k : Nat) (sa : Option Addr) (sl sc : Nat), k ≤ n ∧ iv = .int .i64 (k : Int) ∧ sv = .slice sa (sl : Nat) sc ∧ QRow wr sa sl sc (van xs k) ∧ New w wr) (fun _ iv _ => n - (intOf iv).toNat)
  case atStart => exact ⟨0, _, 1, 1, Nat.zero_le _, rfl, rfl, HQ1.out, HN1.out⟩
  case round =>
    clear HQ1 HN1
    obtain ⟨k, sa, sl, sc, hk, rfl, rfl, hsm, hnw⟩ := hrel
    have HSM := Lib.hid hsm
    have HN := Lib.hid hnw
    obtain ⟨wq, hwq⟩ : ∃ z, z = wr := ⟨_, rfl⟩
    rw [← hwq] at HSM HN ⊢
    clear hsm hnw hwq
    by_cases hlt : (k : Int) < (n : Int)
    · obtain ⟨b1, off1, rfl, hc1⟩ := (HX.out.stay HN.out).addr (by omega)
      have c1 := hc1 k (by omega)
      clear hc1
      have hk0 : (0 : Int) ≤ (k : Int) := by omega
      have HSL : Hid (sl ≤ n + 1) := Lib.hid (by have h3 := van_len xs k; have h4 := HSM.out.len_eq; omega)
      obtain ⟨x, hx⟩ : ∃ z, xs.getD k 0 = z := ⟨_, rfl⟩
      rw [hx] at c1
      have HFQ := Lib.hid (fun w => factor_q x w)
      have HVS := Lib.hid (van_succ xs k x hx)
      clear hx
      go_wp2_with fail
      refine (HFQ.out _).mono ?_
      rintro e w8 ⟨r, rfl, hrow, hn⟩
      replace HSM := Lib.hid (HSM.out.stay hn)
      replace HN := Lib.hid (HN.out.trans hn)
      have HR2 := Lib.hid hrow
      clear hrow hn HFQ
      go_wp2_with fail
      refine (pmul_q _ _ _ _ _ _ _ _ _ HSM.out HR2.out (by have := HSL.out; omega)).mono ?_
      rintro e w9 ⟨am, cm2, rfl, hq, hn⟩
      have HM := Lib.hid hq
      replace HN := Lib.hid (HN.out.trans hn)
      clear hq hn HR2 HSM
      go_wp2
      refine ⟨⟨k + 1, _, _, _, by omega, by go_num, rfl, by rw [HVS.out]; exact HM.out, HN.out⟩, by simp [intOf]; omega⟩
    · obtain rfl : k = n := by omega
      have HLE := Lib.hid (HSM.out.len_eq)
      go_wp2
      go_ret
      rw [HLE.out]
      exact ⟨_, _, rfl, HSM.out, HN.out⟩
set_option maxRecDepth 100000 in
set_option maxHeartbeats 4000000 in
theorem rvan_q (a : Option Addr) (n c : Nat) (xs : List (BitVec 64)) (w : World) (h : QRow w a n c xs) (hlim : n ≤ 100000) :
    Calls Try.prog 40 #[.slice a n c] w fun e w' => ∃ a' c', e = .returned (.slice a' ((van xs n).length : Nat) c') ∧ QRow w' a' (van xs n).length c' (van xs n) ∧ New w w' := by
  have hm := h.most
  have HX := Lib.hid h
  have h1 := qrow1 w 1#64
  have hn1 := (New.refl w).alloc (.cells #[.int .u64 (W64 1#64)] 23)
  rw [show W64 1#64 = 1 by decide] at h1 hn1
  have HQ1 := Lib.hid h1
  have HN1 := Lib.hid hn1
  clear h h1 hn1
  go_enter Try.func40, Try.ntmps40
  go_wp2_with fail
  go_loopw [3, 9] (fun sv iv wr => ∃ (k : Nat) (sa : Option Addr) (sl sc : Nat), k ≤ n ∧ iv = .int .i64 (k : Int) ∧ sv = .slice sa (sl : Nat) sc ∧ QRow wr sa sl sc (van xs k) ∧ New w wr) (fun _ iv _ => n - (intOf iv).toNat)
  case atStart => exact ⟨0, _, 1, 1, Nat.zero_le _, rfl, rfl, HQ1.out, HN1.out⟩
  case round =>
    clear HQ1 HN1
    obtain ⟨k, sa, sl, sc, hk, rfl, rfl, hsm, hnw⟩ := hrel
    have HSM := Lib.hid hsm
    have HN := Lib.hid hnw
    obtain ⟨wq, hwq⟩ : ∃ z, z = wr := ⟨_, rfl⟩
    rw [← hwq] at HSM HN ⊢
    clear hsm hnw hwq
    by_cases hlt : (k : Int) < (n : Int)
    · obtain ⟨b1, off1, rfl, hc1⟩ := (HX.out.stay HN.out).addr (by omega)
      have c1 := hc1 k (by omega)
      clear hc1
      have hk0 : (0 : Int) ≤ (k : Int) := by omega
      have HSL : Hid (sl ≤ n + 1) := Lib.hid (by have h3 := van_len xs k; have h4 := HSM.out.len_eq; omega)
      obtain ⟨x, hx⟩ : ∃ z, xs.getD k 0 = z := ⟨_, rfl⟩
      rw [hx] at c1
      have HMI := Lib.hid (fun w => minus_q x w)
      have HVS := Lib.hid (van_ref xs k x hx)
      clear hx
      obtain ⟨mi, hmi⟩ : ∃ z, mn x = z := ⟨_, rfl⟩
      rw [hmi] at HMI HVS
      clear hmi
      go_wp2_with fail
      refine (HMI.out _).mono ?_
      rintro e w8 ⟨rfl, hw8⟩
      replace hw8 := hw8.symm
      subst hw8
      have HR2 := Lib.hid (qrow2 wq mi 1#64)
      have hnb := (New.refl wq).alloc (.cells #[.int .u64 (W64 mi), .int .u64 (W64 1#64)] 23)
      rw [show W64 1#64 = 1 by decide] at HR2 hnb
      replace HSM := Lib.hid (HSM.out.stay hnb)
      replace HN := Lib.hid (HN.out.trans hnb)
      clear hnb HMI
      go_wp2_with fail
      generalize wq.alloc (.cells #[.int .u64 (W64 mi), .int .u64 1] 23) = w7 at *
      refine (rmul_q _ _ _ _ _ _ _ _ _ HSM.out HR2.out (by have := HSL.out; omega)).mono ?_
      rintro e w9 ⟨am, cm2, rfl, hq, hn⟩
      have HM := Lib.hid hq
      replace HN := Lib.hid (HN.out.trans hn)
      clear hq hn HR2 HSM
      go_wp2
      refine ⟨⟨k + 1, _, _, _, by omega, by go_num, rfl, by rw [HVS.out]; exact HM.out, HN.out⟩, by simp [intOf]; omega⟩
    · obtain rfl : k = n := by omega
      have HLE := Lib.hid (HSM.out.len_eq)
      go_wp2
      go_ret
      rw [HLE.out]
      exact ⟨_, _, rfl, HSM.out, HN.out⟩
end Go.Proofs.Ytiboncnfepnjcaa
