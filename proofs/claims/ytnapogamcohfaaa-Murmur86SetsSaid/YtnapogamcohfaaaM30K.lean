/- Layer 30: a hash behind bytes; the chapter's example; the law One. -/
import Derived.Test.YtnapogamcohfaaaM30I
import Derived.Test.YtnapogamcohfaaaM30D
import Derived.Defers
import Derived.Recover
import Derived.Laws.Pointers
import Derived.Handy
import Derived.Laws.EntriesVeiled
namespace Go.Proofs.Ytnapogamcohfaaa
open Go.RowKit Go.Bv
set_option linter.unusedVariables false
/-- no box of a block's function, and no bytes -/
def Apart30 (w : World) (q : Nat) : Prop := NoBytes w q ∧ ∀ kd, Fun30 w kd → kd.1 ≠ q ∧ kd.2 ≠ q
theorem Strm_30.apart {kd : Nat × Nat} {w : World} {p n : Nat} {fs st : BitVec 32 × BitVec 32 × BitVec 32 × BitVec 32} {tl : List (BitVec 8)} {long : BitVec 64} (h : Strm_30 kd w p n fs st tl long) : Apart30 w p := by
  refine ⟨h.noBytes, fun k hf => ?_⟩
  obtain ⟨a, cap, hb, hr⟩ := h
  constructor
  · intro e
    have h1 := hf.1
    rw [e, hb] at h1
    simp at h1
  · intro e
    have h1 := hf.2
    rw [e, hb] at h1
    simp at h1
theorem Fun30.but {w w' : World} {kd : Nat × Nat} {q : Nat} (h : Fun30 w kd) (hb : But q w w') (hq : Apart30 w q) : Fun30 w' kd := ⟨hb.keep (hq.2 kd h).1 h.1, hb.keep (hq.2 kd h).2 h.2⟩
/-- the stream of a hash in the box p: behind the bytes l -/
def HStr_30 (w : World) (p : Nat) (sd : BitVec 32) (l : List (BitVec 8)) : Prop := ∃ kd, Strm_30 kd w p 16 (start30 sd) (bState 16 stp30 (start30 sd) l) (bTail 16 l) (BitVec.ofNat 64 l.length) ∧ Fun30 w kd
theorem HStr_30.stay {w w' : World} {p : Nat} {sd : BitVec 32} {l : List (BitVec 8)} (h : HStr_30 w p sd l) (hn : New w w') : HStr_30 w' p sd l := by
  obtain ⟨kd, hs, hf⟩ := h
  exact ⟨kd, hs.stay hn, hf.stay hn⟩
theorem HStr_30.apart {w : World} {p : Nat} {sd : BitVec 32} {l : List (BitVec 8)} (h : HStr_30 w p sd l) : Apart30 w p := by
  obtain ⟨kd, hs, hf⟩ := h
  exact hs.apart
theorem HStr_30.noBytes {w : World} {p : Nat} {sd : BitVec 32} {l : List (BitVec 8)} (h : HStr_30 w p sd l) : NoBytes w p := h.apart.1
theorem HStr_30.but {w w' : World} {p : Nat} {sd : BitVec 32} {l : List (BitVec 8)} {q : Nat} (h : HStr_30 w p sd l) (hb : But q w w') (hne : p ≠ q) (hq : Apart30 w q) : HStr_30 w' p sd l := by
  obtain ⟨kd, hs, hf⟩ := h
  exact ⟨kd, hs.but hb hne hq.1, hf.but hb hq⟩
theorem HStr_30.lt {w : World} {p : Nat} {sd : BitVec 32} {l : List (BitVec 8)} (h : HStr_30 w p sd l) : p < w.heap.size := by
  obtain ⟨kd, hs, hf⟩ := h
  exact hs.lt
theorem lnew_30 (sd : BitVec 32) (w : World) : Calls Try.prog 10 #[.int .u32 (W32 sd)] w fun e w' => ∃ q g, e = .returned (.pointer (some ⟨g, 0, none⟩)) ∧ w.heap.size ≤ q ∧ q < g ∧ w'.heap[g]? = some (.cells #[.pointer (some ⟨q, 0, none⟩)] 62 (0, 0)) ∧ HStr_30 w' q sd [] ∧ New w w' := by
  refine (hnew30 sd w).mono ?_
  rintro e w' ⟨kd, q, g, h1, h2, h3, h4, h5, h6, h7⟩
  refine ⟨q, g, h1, h2, h3, h4, ⟨kd, ?_, h6⟩, h7⟩
  rw [bState_nil, bTail_nil]
  exact h5
theorem lwrite_30 (p h : Nat) (sd : BitVec 32) (l : List (BitVec 8)) (b : Option Addr) (lb cb : Nat) (m : List (BitVec 8)) (w : World) (hx : w.heap[h]? = some (.cells #[.pointer (some ⟨p, 0, none⟩)] 62 (0, 0))) (hs : HStr_30 w p sd l) (hm : BRow w b lb cb m) (hsum : l.length + lb ≤ 140737488355328) :
    Calls Try.prog 13 #[.pointer (some ⟨h, 0, none⟩), .slice b lb cb] w fun e w' => e = .returned (.tuple #[]) ∧ HStr_30 w' p sd (l ++ m) ∧ But p w w' := by
  have h1 : (bTail 16 l).length + lb ≤ 140737488355328 := by
    have := Nat.mod_le l.length 16
    rw [bTail_len]; omega
  have hap := hs.apart
  obtain ⟨kd, hs, hf⟩ := hs
  refine (hwrite_30 kd p h _ _ _ _ b lb cb m w hx hs hm h1 hf).mono ?_
  rintro e w' ⟨h2, h3, h4⟩
  refine ⟨h2, ⟨kd, ?_, hf.but h4 hap⟩, h4⟩
  rw [bState_join 16 (by decide), bTail_join 16 (by decide)] at h3
  rw [List.length_append, BitVec.ofNat_add, hm.len_eq]
  exact h3
theorem lreset_30 (p h : Nat) (sd : BitVec 32) (l : List (BitVec 8)) (w : World) (hx : w.heap[h]? = some (.cells #[.pointer (some ⟨p, 0, none⟩)] 62 (0, 0))) (hs : HStr_30 w p sd l) :
    Calls Try.prog 14 #[.pointer (some ⟨h, 0, none⟩)] w fun e w' => e = .returned (.tuple #[]) ∧ HStr_30 w' p sd [] ∧ But p w w' := by
  have hap := hs.apart
  obtain ⟨kd, hs, hf⟩ := hs
  refine (hreset_30 kd p h _ _ _ _ w hx hs).mono ?_
  rintro e w' ⟨h2, h3, h4⟩
  refine ⟨h2, ⟨kd, ?_, hf.but h4 hap⟩, h4⟩
  rw [bState_nil, bTail_nil]
  exact h3
theorem lclone_30 (p h : Nat) (sd : BitVec 32) (l : List (BitVec 8)) (w : World) (hx : w.heap[h]? = some (.cells #[.pointer (some ⟨p, 0, none⟩)] 62 (0, 0))) (hs : HStr_30 w p sd l) :
    Calls Try.prog 19 #[.pointer (some ⟨h, 0, none⟩)] w fun e w' => ∃ q g, e = .returned (.pointer (some ⟨g, 0, none⟩)) ∧ w.heap.size ≤ q ∧ q < g ∧ w'.heap[g]? = some (.cells #[.pointer (some ⟨q, 0, none⟩)] 62 (0, 0)) ∧ HStr_30 w' q sd l ∧ New w w' := by
  obtain ⟨kd, hs, hf⟩ := hs
  refine (hclone_30 kd p h _ _ _ _ w hx hs).mono ?_
  rintro e w' ⟨q, g, h1, h2, h3, h4, h5, h6⟩
  exact ⟨q, g, h1, h2, h3, h4, ⟨kd, h5, hf.stay h6⟩, h6⟩
theorem lsum_30 (p h : Nat) (sd : BitVec 32) (l : List (BitVec 8)) (w : World) (hx : w.heap[h]? = some (.cells #[.pointer (some ⟨p, 0, none⟩)] 62 (0, 0))) (hs : HStr_30 w p sd l) :
    Calls Try.prog 11 #[.pointer (some ⟨h, 0, none⟩)] w fun e w' => e = .returned (.agg #[.int .u64 (W64 (hash30 sd l).2), .int .u64 (W64 (hash30 sd l).1)]) ∧ New w w' := by
  obtain ⟨kd, hs, hf⟩ := hs
  exact hsum_30 kd p h _ _ _ _ w hx hs
theorem llanes_30 (p h : Nat) (sd : BitVec 32) (l : List (BitVec 8)) (w : World) (hx : w.heap[h]? = some (.cells #[.pointer (some ⟨p, 0, none⟩)] 62 (0, 0))) (hs : HStr_30 w p sd l) :
    Calls Try.prog 15 #[.pointer (some ⟨h, 0, none⟩)] w fun e w' => ∃ a c, e = .returned (.tuple #[.agg #[.int .u64 (W64 (((bState 16 stp30 (start30 sd) l)).1.setWidth 64)), .int .u64 (W64 (((bState 16 stp30 (start30 sd) l)).2.1.setWidth 64)), .int .u64 (W64 (((bState 16 stp30 (start30 sd) l)).2.2.1.setWidth 64)), .int .u64 (W64 (((bState 16 stp30 (start30 sd) l)).2.2.2.setWidth 64))], .int .u64 (W64 (BitVec.ofNat 64 l.length)), .slice a (bTail 16 l).length c]) ∧ BRow w' a (bTail 16 l).length c (bTail 16 l) ∧ New w w' := by
  obtain ⟨kd, hs, hf⟩ := hs
  exact hlanes_30 kd p h _ _ _ _ w hx hs
theorem lset_30 (p h : Nat) (sd : BitVec 32) (l0 l : List (BitVec 8)) (a : Option Addr) (c : Nat) (w : World) (hx : w.heap[h]? = some (.cells #[.pointer (some ⟨p, 0, none⟩)] 62 (0, 0))) (hs : HStr_30 w p sd l0) (hm : BRow w a (bTail 16 l).length c (bTail 16 l)) (hlim : l.length < 18446744073709551616) :
    Calls Try.prog 18 #[.pointer (some ⟨h, 0, none⟩), .agg #[.int .u64 (W64 (((bState 16 stp30 (start30 sd) l)).1.setWidth 64)), .int .u64 (W64 (((bState 16 stp30 (start30 sd) l)).2.1.setWidth 64)), .int .u64 (W64 (((bState 16 stp30 (start30 sd) l)).2.2.1.setWidth 64)), .int .u64 (W64 (((bState 16 stp30 (start30 sd) l)).2.2.2.setWidth 64))], .int .u64 (W64 (BitVec.ofNat 64 l.length)), .slice a (bTail 16 l).length c] w fun e w' => e = .returned (.bool true) ∧ HStr_30 w' p sd l ∧ But p w w' := by
  have hfit : (BitVec.ofNat 64 (bTail 16 l).length != BitVec.ofNat 64 l.length % 16#64) = false := by
    rw [bTail_len, bne_eq_false_iff_eq]
    apply BitVec.eq_of_toNat_eq
    rw [BitVec.toNat_umod, BitVec.toNat_ofNat, BitVec.toNat_ofNat]
    have e1 : (16#64 : BitVec 64).toNat = 16 := by decide
    rw [e1, Nat.mod_eq_of_lt hlim, Nat.mod_eq_of_lt (by have := Nat.mod_lt l.length (show 0 < 16 by decide); omega)]
  have hap := hs.apart
  obtain ⟨kd, hs, hf⟩ := hs
  refine (hset_fit_30 kd p h _ _ _ _ (bState 16 stp30 (start30 sd) l) _ a _ c _ w hx hs hm hfit).mono ?_
  rintro e w' ⟨h1, h2, h3⟩
  exact ⟨h1, ⟨kd, h2, hf.but h3 hap⟩, h3⟩
set_option maxRecDepth 100000 in
set_option maxHeartbeats 2000000 in
theorem awake_30 (w : World) : Calls Try.prog 7 #[] w fun e w' => e = .returned (.bool true) ∧ New w w' := by
  obtain ⟨z, hz⟩ : ∃ z : BitVec 32, z = 0#32 := ⟨_, rfl⟩
  have hz0 : W32 z = 0 := by rw [hz]; decide
  clear hz
  have HNW := Lib.hid (lnew_30 z)
  have HON := Lib.hid (fun w => hone30 z none 0 0 [] w (brow_none w))
  have HRF := Lib.hid (fun w => hash_ref30 z none 0 0 [] w (brow_none w))
  have HSM := Lib.hid (fun p h w hx hs => lsum_30 p h z [] w hx hs)
  rw [hz0] at HNW HON HRF
  clear hz0
  obtain ⟨hh, hhe⟩ : ∃ r, hash30 z [] = r := ⟨_, rfl⟩
  rw [hhe] at HON HRF HSM
  clear hhe
  have heq := fun w => eqUs w hh.2 hh.1
  go_enter Try.func7, Try.ntmps7
  go_wp2_with fail
  refine (HNW.out _).mono ?_
  rintro e w9 ⟨q, g, rfl, hq, hqg, hx, hs, hn⟩
  have HX := Lib.hid hx
  have HS := Lib.hid hs
  have HN := Lib.hid hn
  clear hx hs hn hq hqg HNW
  go_wp2_with fail
  refine (HON.out _).mono ?_
  rintro e w9 ⟨rfl, hn⟩
  replace HS := Lib.hid (HS.out.stay hn)
  replace HX := Lib.hid ((hn.block _ (lt_of_block HX.out)).trans HX.out)
  replace HN := Lib.hid (HN.out.trans hn)
  clear hn
  go_wp2_with fail
  refine (HRF.out _).mono ?_
  rintro e w9 ⟨rfl, hn⟩
  replace HS := Lib.hid (HS.out.stay hn)
  replace HX := Lib.hid ((hn.block _ (lt_of_block HX.out)).trans HX.out)
  replace HN := Lib.hid (HN.out.trans hn)
  clear hn
  go_wp2_with fail
  refine (HSM.out _ _ _ HX.out HS.out).mono ?_
  rintro e w9 ⟨rfl, hn⟩
  replace HS := Lib.hid (HS.out.stay hn)
  replace HX := Lib.hid ((hn.block _ (lt_of_block HX.out)).trans HX.out)
  replace HN := Lib.hid (HN.out.trans hn)
  clear hn
  go_wp2_with fail
  refine (HON.out _).mono ?_
  rintro e w9 ⟨rfl, hn⟩
  replace HS := Lib.hid (HS.out.stay hn)
  replace HX := Lib.hid ((hn.block _ (lt_of_block HX.out)).trans HX.out)
  replace HN := Lib.hid (HN.out.trans hn)
  clear hn
  go_wp2
  go_ret
  exact ⟨rfl, HN.out⟩
set_option maxRecDepth 100000 in
set_option maxHeartbeats 2000000 in
theorem Murmur86One_walk (W : World) (a0 : Int) (w0 : (Lit.int .u32 a0).wf = true) (a1 : Option Addr) (n1 m1 : Nat) (z1 : List Int) (w1 : IRow .u8 W a1 n1 m1 z1) (r1 : m1 * 1 ≤ 140737488351232) :
    Calls Try.prog 3 #[.int .u32 a0, .slice a1 n1 m1] W fun e w' => e = .returned (.bool true) ∧ Below W.heap.size W w' := by
  obtain ⟨sd, rfl⟩ := ex32 a0 (by simp [Lit.wf, IntKind.min, IntKind.max, IntKind.signed, IntKind.bits] at w0; omega)
  clear w0
  obtain ⟨l, hl⟩ := w1.bytes r1
  have HB := Lib.hid hl
  have HA := Lib.hid (awake_30 W)
  clear w1 r1 hl
  go_enter Try.func3, Try.ntmps3
  go_wp2_with fail
  refine HA.out.mono ?_
  rintro e w9 ⟨rfl, hn⟩
  have HN := Lib.hid hn
  clear hn HA
  by_cases hs : (2000 : Int) < (n1 : Int)
  · go_wp2
    go_ret
    exact ⟨rfl, HN.out⟩
  have HON := Lib.hid (fun w (hn : New W w) => hone30 sd _ _ _ _ w (HB.out.stay hn))
  have HRF := Lib.hid (fun w (hn : New W w) => hash_ref30 sd _ _ _ _ w (HB.out.stay hn))
  obtain ⟨hh, hhe⟩ : ∃ r, hash30 sd l = r := ⟨_, rfl⟩
  rw [hhe] at HON HRF
  clear hhe
  have heq := fun w => eqUs w hh.2 hh.1
  go_wp2_with fail
  refine (HON.out _ HN.out).mono ?_
  rintro e w9 ⟨rfl, hn⟩
  replace HN := Lib.hid (HN.out.trans hn)
  clear hn
  go_wp2_with fail
  refine (HRF.out _ HN.out).mono ?_
  rintro e w9 ⟨rfl, hn⟩
  replace HN := Lib.hid (HN.out.trans hn)
  clear hn
  go_wp2
  go_ret
  exact ⟨rfl, HN.out⟩
end Go.Proofs.Ytnapogamcohfaaa
