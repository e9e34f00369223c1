/- Layer 33: a hash behind bytes; the chapter's example; the law One. -/
import Derived.Test.YtfeeecmcaakpkaaM33I
import Derived.Test.YtfeeecmcaakpkaaM33D
import Derived.Defers
import Derived.Recover
import Derived.Laws.Pointers
import Derived.Handy
import Derived.Laws.EntriesVeiled
namespace Go.Proofs.Ytfeeecmcaakpkaa
open Go.RowKit Go.Bv
set_option linter.unusedVariables false
/-- the stream of a hash in the box p: behind the bytes l -/
def HStr_33 (w : World) (p : Nat) (sd : BitVec 64) (l : List (BitVec 8)) : Prop := Strm_33 w p 32 (start33 sd) (bState 32 stp33 (start33 sd) l) (bTail 32 l) (BitVec.ofNat 64 l.length)
theorem HStr_33.stay {w w' : World} {p : Nat} {sd : BitVec 64} {l : List (BitVec 8)} (h : HStr_33 w p sd l) (hn : New w w') : HStr_33 w' p sd l := Strm_33.stay h hn
theorem HStr_33.but {w w' : World} {p : Nat} {sd : BitVec 64} {l : List (BitVec 8)} {q : Nat} (h : HStr_33 w p sd l) (hb : But q w w') (hne : p ≠ q) (hq : NoBytes w q) : HStr_33 w' p sd l := Strm_33.but h hb hne hq
theorem HStr_33.noBytes {w : World} {p : Nat} {sd : BitVec 64} {l : List (BitVec 8)} (h : HStr_33 w p sd l) : NoBytes w p := Strm_33.noBytes h
theorem HStr_33.lt {w : World} {p : Nat} {sd : BitVec 64} {l : List (BitVec 8)} (h : HStr_33 w p sd l) : p < w.heap.size := Strm_33.lt h
theorem HStr_33.nil {w : World} {p : Nat} {sd : BitVec 64} (h : Strm_33 w p 32 (start33 sd) (start33 sd) [] 0#64) : HStr_33 w p sd [] := by
  unfold HStr_33; rw [bState_nil, bTail_nil]; exact h
theorem lnew_33 (sd : BitVec 64) (w : World) : Calls Try.prog 26 #[.int .u64 (W64 sd)] w fun e w' => ∃ q g, e = .returned (.pointer (some ⟨g, 0, none⟩)) ∧ w.heap.size ≤ q ∧ q < g ∧ w'.heap[g]? = some (.cells #[.pointer (some ⟨q, 0, none⟩)] 86 (0, 0)) ∧ HStr_33 w' q sd [] ∧ New w w' := by
  refine (hnew_33 sd w).mono ?_
  rintro e w' ⟨q, g, h1, h2, h3, h4, h5, h6⟩
  exact ⟨q, g, h1, h2, h3, h4, HStr_33.nil h5, h6⟩
theorem lwrite_33 (p h : Nat) (sd : BitVec 64) (l : List (BitVec 8)) (b : Option Addr) (lb cb : Nat) (m : List (BitVec 8)) (w : World) (hx : w.heap[h]? = some (.cells #[.pointer (some ⟨p, 0, none⟩)] 86 (0, 0))) (hs : HStr_33 w p sd l) (hm : BRow w b lb cb m) (hsum : l.length + lb ≤ 140737488355328) :
    Calls Try.prog 28 #[.pointer (some ⟨h, 0, none⟩), .slice b lb cb] w fun e w' => e = .returned (.tuple #[]) ∧ HStr_33 w' p sd (l ++ m) ∧ But p w w' := by
  have h1 : (bTail 32 l).length + lb ≤ 140737488355328 := by
    have := Nat.mod_le l.length 32
    rw [bTail_len]; omega
  refine (hwrite_33 p h _ _ _ _ b lb cb m w hx hs hm h1).mono ?_
  rintro e w' ⟨h2, h3, h4⟩
  refine ⟨h2, ?_, h4⟩
  rw [bState_join 32 (by decide), bTail_join 32 (by decide)] at h3
  unfold HStr_33
  rw [List.length_append, BitVec.ofNat_add, hm.len_eq]
  exact h3
theorem lreset_33 (p h : Nat) (sd : BitVec 64) (l : List (BitVec 8)) (w : World) (hx : w.heap[h]? = some (.cells #[.pointer (some ⟨p, 0, none⟩)] 86 (0, 0))) (hs : HStr_33 w p sd l) :
    Calls Try.prog 29 #[.pointer (some ⟨h, 0, none⟩)] w fun e w' => e = .returned (.tuple #[]) ∧ HStr_33 w' p sd [] ∧ But p w w' := by
  refine (hreset_33 p h _ _ _ _ w hx hs).mono ?_
  rintro e w' ⟨h2, h3, h4⟩
  exact ⟨h2, HStr_33.nil h3, h4⟩
theorem lclone_33 (p h : Nat) (sd : BitVec 64) (l : List (BitVec 8)) (w : World) (hx : w.heap[h]? = some (.cells #[.pointer (some ⟨p, 0, none⟩)] 86 (0, 0))) (hs : HStr_33 w p sd l) :
    Calls Try.prog 33 #[.pointer (some ⟨h, 0, none⟩)] w fun e w' => ∃ q g, e = .returned (.pointer (some ⟨g, 0, none⟩)) ∧ w.heap.size ≤ q ∧ q < g ∧ w'.heap[g]? = some (.cells #[.pointer (some ⟨q, 0, none⟩)] 86 (0, 0)) ∧ HStr_33 w' q sd l ∧ New w w' := hclone_33 p h _ _ _ _ w hx hs
theorem lsum_33 (p h : Nat) (sd : BitVec 64) (l : List (BitVec 8)) (w : World) (hx : w.heap[h]? = some (.cells #[.pointer (some ⟨p, 0, none⟩)] 86 (0, 0))) (hs : HStr_33 w p sd l) :
    Calls Try.prog 27 #[.pointer (some ⟨h, 0, none⟩)] w fun e w' => e = .returned (.int .u64 (W64 (hash33 sd l))) ∧ New w w' := hsum_33 p h _ _ _ _ w hx hs
set_option maxRecDepth 100000 in
set_option maxHeartbeats 2000000 in
theorem awake_33 (w : World) : Calls Try.prog 23 #[] w fun e w' => e = .returned (.bool true) ∧ New w w' := by
  obtain ⟨z, hz⟩ : ∃ z : BitVec 64, z = 0#64 := ⟨_, rfl⟩
  have hz0 : W64 z = 0 := by rw [hz]; decide
  clear hz
  have HNW := Lib.hid (lnew_33 z)
  have HON := Lib.hid (fun w => hone_33 z none 0 0 [] w (brow_none w))
  have HRF := Lib.hid (fun w => hash_ref33 z none 0 0 [] w (brow_none w))
  have HSM := Lib.hid (fun p h w hx hs => lsum_33 p h z [] w hx hs)
  rw [hz0] at HNW HON HRF
  clear hz0
  obtain ⟨hh, hhe⟩ : ∃ r, hash33 z [] = r := ⟨_, rfl⟩
  rw [hhe] at HON HRF HSM
  clear hhe
  have heq := True.intro
  go_enter Try.func23, Try.ntmps23
  go_wp2_with fail
  refine (HNW.out _).mono ?_
  rintro e w9 ⟨q, g, rfl, hq, hqg, hx, hs, hn⟩
  have HX := Lib.hid hx
  have HS := Lib.hid hs
  have HN := Lib.hid hn
  clear hx hs hn hq hqg HNW
  go_wp2_with fail
  refine (HON.out _).mono ?_
  rintro e w9 ⟨rfl, hn⟩
  replace HS := Lib.hid (HS.out.stay hn)
  replace HX := Lib.hid ((hn.block _ (lt_of_block HX.out)).trans HX.out)
  replace HN := Lib.hid (HN.out.trans hn)
  clear hn
  go_wp2_with fail
  refine (HRF.out _).mono ?_
  rintro e w9 ⟨rfl, hn⟩
  replace HS := Lib.hid (HS.out.stay hn)
  replace HX := Lib.hid ((hn.block _ (lt_of_block HX.out)).trans HX.out)
  replace HN := Lib.hid (HN.out.trans hn)
  clear hn
  go_wp2_with fail
  refine (HSM.out _ _ _ HX.out HS.out).mono ?_
  rintro e w9 ⟨rfl, hn⟩
  replace HS := Lib.hid (HS.out.stay hn)
  replace HX := Lib.hid ((hn.block _ (lt_of_block HX.out)).trans HX.out)
  replace HN := Lib.hid (HN.out.trans hn)
  clear hn
  go_wp2_with fail
  refine (HON.out _).mono ?_
  rintro e w9 ⟨rfl, hn⟩
  replace HS := Lib.hid (HS.out.stay hn)
  replace HX := Lib.hid ((hn.block _ (lt_of_block HX.out)).trans HX.out)
  replace HN := Lib.hid (HN.out.trans hn)
  clear hn
  go_wp2
  go_ret
  exact ⟨rfl, HN.out⟩
set_option maxRecDepth 100000 in
set_option maxHeartbeats 2000000 in
theorem Xx64One_walk (W : World) (a0 : Int) (w0 : (Lit.int .u64 a0).wf = true) (a1 : Option Addr) (n1 m1 : Nat) (z1 : List Int) (w1 : IRow .u8 W a1 n1 m1 z1) (r1 : m1 * 1 ≤ 140737488351232) :
    Calls Try.prog 6 #[.int .u64 a0, .slice a1 n1 m1] W fun e w' => e = .returned (.bool true) ∧ Below W.heap.size W w' := by
  obtain ⟨sd, rfl⟩ := ex64 a0 (by simp [Lit.wf, IntKind.min, IntKind.max, IntKind.signed, IntKind.bits] at w0; omega)
  clear w0
  obtain ⟨l, hl⟩ := w1.bytes r1
  have HB := Lib.hid hl
  have HA := Lib.hid (awake_33 W)
  clear w1 r1 hl
  go_enter Try.func6, Try.ntmps6
  go_wp2_with fail
  refine HA.out.mono ?_
  rintro e w9 ⟨rfl, hn⟩
  have HN := Lib.hid hn
  clear hn HA
  by_cases hs : (2000 : Int) < (n1 : Int)
  · go_wp2
    go_ret
    exact ⟨rfl, HN.out⟩
  have HON := Lib.hid (fun w (hn : New W w) => hone_33 sd _ _ _ _ w (HB.out.stay hn))
  have HRF := Lib.hid (fun w (hn : New W w) => hash_ref33 sd _ _ _ _ w (HB.out.stay hn))
  obtain ⟨hh, hhe⟩ : ∃ r, hash33 sd l = r := ⟨_, rfl⟩
  rw [hhe] at HON HRF
  clear hhe
  have heq := True.intro
  go_wp2_with fail
  refine (HON.out _ HN.out).mono ?_
  rintro e w9 ⟨rfl, hn⟩
  replace HN := Lib.hid (HN.out.trans hn)
  clear hn
  go_wp2_with fail
  refine (HRF.out _ HN.out).mono ?_
  rintro e w9 ⟨rfl, hn⟩
  replace HN := Lib.hid (HN.out.trans hn)
  clear hn
  go_wp2
  go_ret
  exact ⟨rfl, HN.out⟩
end Go.Proofs.Ytfeeecmcaakpkaa
