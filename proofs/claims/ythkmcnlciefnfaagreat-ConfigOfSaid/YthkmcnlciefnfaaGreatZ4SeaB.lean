import Derived.Test.YthkmcnlciefnfaaGreatZ4PutA
import Derived.Test.YthkmcnlciefnfaaGreatProg
import Derived.Test.YthkmcnlciefnfaaGreatZ4RowQ
import Derived.Deep.OwnRows
import Derived.OneCell
import Derived.Deep.AppendLies
import Derived.Handy
import Derived.BigRegion
import Derived.Deep.QuietTactic
import Derived.BigQuiet
section
/- Layer 16: Sum and Seal, and the document's own. -/
namespace Go.Proofs.YthkmcnlciefnfaaGreat
open Go.RowKit Go.Bv
set_option linter.unusedVariables false
theorem fmix16 (y : BitVec 32) (w : World) : Calls Tryz.prog 49 #[.int .u32 (W32 y)] w fun e w' => e = .returned (.int .u32 (W32 (fmix32 y))) ∧ New w w' := by
  have h := fmix32_any (W32 y) (b32 _) w w (New.refl w)
  rw [ofInt_W32] at h
  exact h
set_option maxRecDepth 100000 in
set_option maxHeartbeats 1000000 in
theorem sum_16 (a : Option Addr) (n c : Nat) (l : List (BitVec 8)) (w : World) (h : BRow w a n c l) :
    Calls Tryz.prog 36 #[.slice a n c] w fun e w' => e = .returned (.int .u32 (W32 (sum16 l))) ∧ New w w' := by
  have hm := h.most
  have hle := h.le
  have hlen := h.len_eq
  have H := Lib.hid h
  have hw32 : BitVec.ofInt 32 (n : Int) = BitVec.ofNat 32 n := by simp
  have hw64 : (BitVec.ofNat 64 n % 4294967296#64).setWidth 32 = BitVec.ofNat 32 n := by
    apply BitVec.eq_of_toNat_eq
    rw [BitVec.toNat_setWidth, BitVec.toNat_umod, BitVec.toNat_ofNat, BitVec.toNat_ofNat, BitVec.toNat_ofNat]
    have e1 : (2 : Nat) ^ 64 = 18446744073709551616 := by decide
    have e2 : (2 : Nat) ^ 32 = 4294967296 := by decide
    rw [e1, e2, show 4294967296 % 18446744073709551616 = 4294967296 by decide]
    omega
  unfold sum16
  rw [hlen]
  obtain ⟨h0, hh0⟩ : ∃ z, BitVec.ofNat 32 n = z := ⟨_, rfl⟩
  rw [hh0] at hw32 hw64 ⊢
  have HLEN := Lib.hid hlen
  clear h hlen
  go_enter Tryz.func36, Tryz.ntmps36
  go_wp2_with fail
  first | rw [hw64] | rw [hw32] | skip
  try clear hw64 hw32 hh0
  go_loopw [3, 11] (fun hv i wr => ∃ k : Nat, k ≤ n ∧ i = .int .i64 (k : Int) ∧ hv = .int .u32 (W32 ((l.take k).foldl stp16 h0)) ∧ New w wr) (fun _ i _ => n - (intOf i).toNat)
  case atStart => exact ⟨0, Nat.zero_le _, rfl, rfl, New.refl w⟩
  case round =>
    obtain ⟨k, hk, rfl, rfl, hn⟩ := hrel
    have HN := Lib.hid hn
    clear hn
    by_cases hlt : (k : Int) < (n : Int)
    · obtain ⟨b, off, rfl, hcell⟩ := (H.out.stay HN.out).addr (by omega)
      have hck := hcell k (by omega)
      have hk0 : (0 : Int) ≤ (k : Int) := by omega
      have hft := fold_tk16 h0 l k (by have := HLEN.out; omega)
      obtain ⟨g0, hg⟩ : ∃ z, (l.take k).foldl stp16 h0 = z := ⟨_, rfl⟩
      rw [hg] at hft ⊢
      unfold stp16 at hft
      obtain ⟨bb, hbb⟩ : ∃ z, l.getD k 0#8 = z := ⟨_, rfl⟩
      rw [show l.getD k 0 = bb from hbb] at hck hft
      have HRB := Lib.hid (fmix16 (g0 ^^^ bb.setWidth 32))
      obtain ⟨rb, hrb⟩ : ∃ z, fmix32 (g0 ^^^ bb.setWidth 32) = z := ⟨_, rfl⟩
      rw [hrb] at HRB hft
      have HFT := Lib.hid hft
      clear hg hbb hrb hft hcell
      go_wp2_with fail
      refine (HRB.out _).mono ?_
      rintro e w9 ⟨rfl, hn⟩
      replace HN := Lib.hid (HN.out.trans hn)
      clear hn
      go_wp2
      exact ⟨⟨k + 1, by omega, by go_num, by unfold stp16; rw [HFT.out], HN.out⟩, by simp [intOf]; omega⟩
    · have hkn : k = n := by omega
      have htt : l.take k = l := List.take_of_length_le (by rw [HLEN.out]; omega)
      rw [htt]
      clear htt
      subst hkn
      obtain ⟨ff, hff⟩ : ∃ z, l.foldl stp16 h0 = z := ⟨_, rfl⟩
      rw [hff]
      have HFF := Lib.hid hff
      clear hff
      go_wp2
      go_ret
      exact ⟨by rw [HFF.out]; rfl, HN.out⟩
set_option maxHeartbeats 1000000 in
theorem seal_16 (a : Option Addr) (n c : Nat) (l : List (BitVec 8)) (w : World) (h : BRow w a n c l) (hb : n + 4 ≤ 140737488355328) :
    Calls Tryz.prog 20 #[.slice a n c] w fun e w' => ∃ a' c', e = .returned (.slice a' (n + 4 : Nat) c') ∧ BRow w' a' (n + 4) c' (seal16 l) ∧ New w w' := by
  have HS := Lib.hid (sum_16 a n c l w h)
  have HP := Lib.hid (fun w' (hn : New w w') => put32_any a n c l (W32 (sum16 l)) (b32 _) w w' (h.stay hn) hb hn)
  rw [ofInt_W32] at HP
  have e1 : l ++ bytes ((sum16 l).setWidth 64) 4 = seal16 l := rfl
  rw [e1] at HP
  obtain ⟨sl, hs⟩ : ∃ z, seal16 l = z := ⟨_, rfl⟩
  rw [hs] at HP
  rw [hs]
  obtain ⟨sm, hm⟩ : ∃ z, sum16 l = z := ⟨_, rfl⟩
  rw [hm] at HP HS
  clear h e1 hs hm
  go_enter Tryz.func20, Tryz.ntmps20
  go_wp2_with fail
  refine HS.out.mono ?_
  rintro e w9 ⟨rfl, hn⟩
  have HN := Lib.hid hn
  clear hn HS
  go_wp2_with fail
  refine (HP.out _ HN.out).mono ?_
  rintro e w9 ⟨a', c', rfl, hr, hn, hn2⟩
  have HR := Lib.hid hr
  have HN2 := Lib.hid hn2
  clear hr hn hn2 HP HN
  go_wp2
  go_ret
  exact ⟨a', c', rfl, HR.out, HN2.out⟩
end Go.Proofs.YthkmcnlciefnfaaGreat
end
section
/- slices.Clone of words. -/
namespace Go.Proofs.YthkmcnlciefnfaaGreat
open Go Go.RowKit Go.Bv
set_option linter.unusedVariables false
theorem info8_cq : (Tryz.prog.info? 22).map (fun i => (i.zero, i.size, i.bytes)) = some (some (.int .u64 0), 1, 8) := by kernel_rfl
set_option maxHeartbeats 1000000 in
theorem clone_q (a : Option Addr) (len cap : Nat) (l : List (BitVec 64)) (w : World) (h : QRow w a len cap l) :
    Calls Tryz.prog 32 #[.slice a len cap] w fun e w' => ∃ v, e = .returned v ∧ w'.ownsRow w.heap.size 22 1 v len (l.map fun x => .int .u64 (W64 x)) ∧ New w w' := by
  obtain ⟨i0, hi, hz0, hz1, hz2⟩ := info_parts info8_cq
  have hq : ∀ (w : World) (a : Option Addr) (n c n' c' : Nat), (binOp .eql 25 (.slice a n c) (.slice none n' c')).run Tryz.prog w = .ok (.bool a.isNone) w := fun w a n c n' c' => Lib.run_eql_slice_nil w _ _ a n c n' c' Tryz.underlying25
  cases a with
  | none =>
    obtain ⟨rfl, rfl⟩ := h.none rfl
    obtain rfl : l = [] := List.eq_nil_of_length_eq_zero h.len_eq
    go_enter Tryz.func32, Tryz.ntmps32
    go_wp2
    go_ret
    exact ⟨_, rfl, World.ownsRow_nil w _ _ 1, New.refl w⟩
  | some x =>
    have H := Lib.hid h
    clear h
    go_enter Tryz.func32, Tryz.ntmps32
    go_wp2_with (at_builtin; refine wpList_append_own _ rfl _ _ 25 rfl w.heap.size 22 i0 (.int .u64 0) 1 8 Tryz.underlying25 hi hz0 hz1 hz2 rfl (by decide) _ 0 [] rfl (World.ownsRow_made w #[] 0 (Nat.le_refl _) (Nat.zero_le _) (by simp)) x len cap (l.map fun x => .int .u64 (W64 x)) rfl ?c1 ?c2 ?c3 ?c4 ?c5 ?c6 ?_)
    case c1 => rw [List.length_map, H.out.len_eq]; omega
    case c2 => intro j u hj; exact Lib.cell?_alloc_some _ (H.out.olds x rfl j u hj)
    case c3 => intro u hu; rw [List.mem_map] at hu; obtain ⟨y, _, rfl⟩ := hu; rfl
    case c4 => have := H.out.most; unfold maxLen; omega
    case c5 => have := H.out.most; omega
    case c6 => simp
    intro v' w1 how hgr _
    have how2 : w1.ownsRow w.heap.size 22 1 v' len (l.map fun x => .int .u64 (W64 x)) := by simpa using how
    have hn1 : New w w1 := ((New.refl w).alloc _).grown' hgr (fun k hk => by simp [Value.ownBlock] at hk; omega)
    clear how hgr
    go_wp2
    go_ret
    exact ⟨_, rfl, how2, hn1⟩
end Go.Proofs.YthkmcnlciefnfaaGreat
end
section
/- Contract of the document's own Words: whether two lists of words are alike. -/
namespace Go.Proofs.YthkmcnlciefnfaaGreat
open Go.RowKit Go.Bv
set_option linter.unusedVariables false
theorem words_eq {la lb : List (BitVec 64)} {n : Nat} (ha : la.length = n) (hb : lb.length = n) (h : ∀ j, j < n → la.getD j 0 = lb.getD j 0) : la = lb := by
  apply List.ext_getElem (by omega)
  intro j h1 h2
  have := h j (by omega)
  rw [List.getD_eq_getElem?_getD, List.getD_eq_getElem?_getD, List.getElem?_eq_getElem h1, List.getElem?_eq_getElem h2] at this
  simpa using this
set_option maxHeartbeats 1000000 in
theorem words_ref (a b : Option Addr) (na ca nb cb : Nat) (la lb : List (BitVec 64)) (W w : World) (ha : QRow w a na ca la) (hb : QRow w b nb cb lb) (hg : New W w) :
    Calls Tryz.prog 34 #[.slice a na ca, .slice b nb cb] w fun e w' => e = .returned (.bool (la == lb)) ∧ New w w' ∧ New W w' := by
  have hma := ha.most
  have hmb := hb.most
  by_cases hl : na = nb
  · subst hl
    have Hla := Lib.hid ha.len_eq
    have Hlb := Lib.hid hb.len_eq
    go_enter Tryz.func34, Tryz.ntmps34
    go_wp2
    go_loopw [13] (fun i wr => ∃ k : Nat, k ≤ na ∧ i = .int .i64 k ∧ Hid (∀ j, j < k → la.getD j 0 = lb.getD j 0) ∧ New w wr) (fun i _ => na - (intOf i).toNat)
    case atStart => exact ⟨0, by omega, rfl, Lib.hid (fun j hj => by omega), New.refl w⟩
    case round =>
      obtain ⟨k, hk, rfl, H, hn⟩ := hrel
      by_cases hlt : (k : Int) < na
      · obtain ⟨b1, o1, rfl, hc1⟩ := (ha.stay hn).addr (by omega)
        obtain ⟨b2, o2, rfl, hc2⟩ := (hb.stay hn).addr (by omega)
        have c1 := hc1 k (by omega)
        have c2 := hc2 k (by omega)
        clear hc1 hc2
        by_cases hxy : la.getD k 0 = lb.getD k 0
        · have Hxy := Lib.hid hxy
          rw [hxy] at c1
          clear hxy
          generalize lb.getD k 0 = y at c1 c2
          go_wp2
          go_quiet (fail)
          go_wp2
          refine ⟨⟨k + 1, by omega, by go_num, Lib.hid (fun j hj => ?_), hn.drewN nq⟩, by simp [intOf]; omega⟩
          by_cases e : j = k
          · subst e; exact Hxy.out
          · exact H.out j (by omega)
        · have hf : (la == lb) = false := by
            rw [beq_eq_false_iff_ne]; intro e; exact hxy (by rw [e])
          have HF := Lib.hid hf
          have hne : (la.getD k 0 != lb.getD k 0) = true := by rw [bne_iff_ne]; exact hxy
          clear hf hxy
          generalize la.getD k 0 = x at c1 hne
          generalize lb.getD k 0 = y at c2 hne
          go_wp2
          go_quiet (fail)
          go_wp2
          go_ret
          exact ⟨retB HF.out.symm, hn.drewN nq, hg.trans (hn.drewN nq)⟩
      · obtain rfl : k = na := by omega
        go_wp2
        go_ret
        refine ⟨retB ?_, hn, hg.trans hn⟩
        rw [words_eq Hla.out Hlb.out H.out]; simp
  · have hne : ((na : Int) != (nb : Int)) = true := by rw [bne_iff_ne]; omega
    have hf : (la == lb) = false := by
      rw [beq_eq_false_iff_ne]; intro e; exact hl (by rw [← ha.len_eq, ← hb.len_eq, e])
    have HF := Lib.hid hf
    clear hf
    go_enter Tryz.func34, Tryz.ntmps34
    go_wp2
    go_ret
    exact ⟨retB (HF.out).symm, New.refl w, hg⟩
end Go.Proofs.YthkmcnlciefnfaaGreat
end
