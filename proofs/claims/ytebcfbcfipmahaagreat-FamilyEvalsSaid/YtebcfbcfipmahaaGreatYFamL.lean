import Derived.Test.YtebcfbcfipmahaaGreatYFamK
/- Layer 27: what any right seed brings any word to. -/
namespace Go.Proofs.YtebcfbcfipmahaaGreat
open Go.RowKit Go.Bv
set_option linter.unusedVariables false
set_option maxRecDepth 100000
/-- what a right seed brings a word to; what is wrong with the word -/
def vF (k b : Int) (l : List (BitVec 64)) (x : BitVec 64) : BitVec 64 := if k = 1 then evP l x else if k = 2 then vOdd b l x else if k = 3 ∨ k = 4 then vSum k b l x else if k = 8 then seV (l.getD 0 0#64) (bytes x 8) else vTab k b l x
def eF (k b : Int) (l : List (BitVec 64)) (x : BitVec 64) : Int := if k = 1 then evC l x else if k = 2 then 0 else if k = 3 ∨ k = 4 then eSum k x else if k = 8 then seE (l.getD 0 0#64) 8 else eTab k b l x
theorem vF_tab {k : Int} (hk : k = 5 ∨ k = 6 ∨ k = 7) (b : Int) (l : List (BitVec 64)) (x : BitVec 64) : vTab k b l x = vF k b l x ∧ eTab k b l x = eF k b l x := by
  unfold vF eF
  rw [if_neg (by omega), if_neg (by omega), if_neg (by omega), if_neg (by omega), if_neg (by omega), if_neg (by omega), if_neg (by omega), if_neg (by omega)]
  exact ⟨rfl, rfl⟩
theorem ev_tab (k : Int) (hk : k = 5 ∨ k = 6 ∨ k = 7) (b : Int) (a : Option Addr) (n c : Nat) (l : List (BitVec 64)) (x : BitVec 64) (q : Nat) (w : World) (h : QRow w a n c l) (hq : w.heap[q]? = some (.cells #[.func (Fn.func (evF k)) #[] #[]] 101 (0, 0))) : Calls Tryz.prog 88 #[.agg (sdc k b a n c), .int .u64 (W64 x), .pointer (some ⟨q, 0, none⟩)] w fun e w' => e = .returned (.tuple #[.int .u64 (W64 (vF k b l x)), .int .i64 (eF k b l x)]) ∧ New w w' := by
  rw [← (vF_tab hk b l x).1, ← (vF_tab hk b l x).2]
  rcases hk with rfl | rfl | rfl
  · exact ev_tab5 b a n c l x q w h hq
  · exact ev_tab6 b a n c l x q w h hq
  · exact ev_tab7 b a n c l x q w h hq
theorem ev_sum (k : Int) (hk : k = 3 ∨ k = 4) (b : Int) (g off n c : Nat) (l : List (BitVec 64)) (x : BitVec 64) (w : World) (h : QRow w (some ⟨g, off, none⟩) n c l) (hz : chF k b l = 0) : Calls Tryz.prog 83 #[.agg (sdc k b (some ⟨g, off, none⟩) n c), .int .u64 (W64 x)] w fun e w' => e = .returned (.tuple #[.int .u64 (W64 (vF k b l x)), .int .i64 (eF k b l x)]) ∧ New w w' := by
  obtain ⟨_, h1, h2, h3, h4, _⟩ := chF_ok h.len_eq hz
  rcases hk with rfl | rfl
  · have e1 : lsF 3 = 2 := rfl
    have e2 : msF 3 = 2 := rfl
    have e3 : lbF 3 = 1 := rfl
    have e4 : mbF 3 = 32 := rfl
    exact ev_sum3 b g off n c l x w h (by omega) (by omega) (by omega)
  · have e1 : lsF 4 = 4 := rfl
    have e2 : msF 4 = 4 := rfl
    have e3 : lbF 4 = 1 := rfl
    have e4 : mbF 4 = 64 := rfl
    exact ev_sum4 b g off n c l x w h (by omega) (by omega) (by omega)
theorem n_pos {k b : Int} {l : List (BitVec 64)} {n : Nat} (hl : l.length = n) (hz : chF k b l = 0) : 0 < n := by
  obtain ⟨hok, h1, _⟩ := chF_ok hl hz
  rcases okF_k hok with rfl | rfl | rfl | rfl | rfl | rfl | rfl | rfl
  · have : lsF 1 = 1 := rfl
    omega
  · have : lsF 2 = 1 := rfl
    omega
  · have : lsF 3 = 2 := rfl
    omega
  · have : lsF 4 = 4 := rfl
    omega
  · have : lsF 5 = 128 := rfl
    omega
  · have : lsF 6 = 240 := rfl
    omega
  · have : lsF 7 = 320 := rfl
    omega
  · have : lsF 8 = 1 := rfl
    omega
set_option maxHeartbeats 4000000 in
theorem feval_any (k b : Int) (g off n c : Nat) (l : List (BitVec 64)) (x : BitVec 64) (w : World) (h : QRow w (some ⟨g, off, none⟩) n c l) (hz : chF k b l = 0) : Calls Tryz.prog 15 #[.agg (sdc k b (some ⟨g, off, none⟩) n c), .int .u64 (W64 x)] w fun e w' => e = .returned (.tuple #[.int .u64 (W64 (vF k b l x)), .int .i64 (eF k b l x)]) ∧ New w w' := by
  have hn0 := n_pos h.len_eq hz
  have HLN := Lib.hid h.len_eq
  generalize hW : w.alloc (.cells (sdc k b (some ⟨g, off, none⟩) n c) 30) = w0
  have HB : Hid (w0.heap[w.heap.size]? = some (.cells (sdc k b (some ⟨g, off, none⟩) n c) 30 (0, 0))) := Lib.hid (by rw [← hW]; exact heap_alloc_new w _)
  have HN : Hid (New w w0) := Lib.hid (by rw [← hW]; exact (New.refl w).alloc _)
  have HROW := Lib.hid (h.stay HN.out)
  have HF := Lib.hid (fos_fine k b (some ⟨g, off, none⟩) n c l w0 HROW.out hz)
  have c0 := cell_of_row _ _ 0 _ _ _ HB.out
  have c1 := cell_of_row _ _ 1 _ _ _ HB.out
  have c2 := cell_of_row _ _ 2 _ _ _ HB.out
  go_enter Tryz.func15, Tryz.ntmps15
  go_wp2_with fail
  refine HF.out.mono ?_
  rintro e w1 ⟨⟨f, rfl, hg⟩, hn⟩
  have HN1 := Lib.hid (HN.out.trans hn)
  have hI := hg.now
  clear HF c0 c1 c2
  cases hI with
  | poly =>
    have hs := ((hn.alloc (.cells #[.string (nmF 1), .int .i64 (lsF 1), .int .i64 (msF 1), .int .i64 (lbF 1), .int .i64 (mbF 1), .int .i64 (kyF 1), (.func (Fn.func 70) #[] #[]), (.func (Fn.func 72) #[] #[]), (.func (Fn.func 73) #[] #[]), (.func (Fn.func 75) #[] #[])] 52)).block _ (lt_of_block HB.out)).trans HB.out
    have s0 := cell_of_row _ _ 0 _ _ _ hs
    have s1 := cell_of_row _ _ 1 _ _ _ hs
    have s2 := cell_of_row _ _ 2 _ _ _ hs
    have HCK := Lib.hid (ev_poly 1 b (some ⟨g, off, none⟩) n c l x (w1.alloc (.cells #[.string (nmF 1), .int .i64 (lsF 1), .int .i64 (msF 1), .int .i64 (lbF 1), .int .i64 (mbF 1), .int .i64 (kyF 1), (.func (Fn.func 70) #[] #[]), (.func (Fn.func 72) #[] #[]), (.func (Fn.func 73) #[] #[]), (.func (Fn.func 75) #[] #[])] 52)) (HROW.out.stay (hn.alloc _)) )
    rw [show evP l x = vF 1 b l x from rfl, show evC l x = eF 1 b l x from rfl] at HCK
    clear hg hn hs hz h hn0 HLN HROW
    go_wp2_with fail
    refine HCK.out.mono ?_
    rintro e w2 ⟨rfl, hn2⟩
    have HN2 := Lib.hid ((HN1.out.alloc _).trans hn2)
    clear hn2
    go_wp2
    go_ret2
    exact ⟨rfl, HN2.out⟩
  | odd bq hq =>
    have hs := ((hn.alloc (.cells #[.string (nmF 2), .int .i64 (lsF 2), .int .i64 (msF 2), .int .i64 (lbF 2), .int .i64 (mbF 2), .int .i64 (kyF 2), (.func (Fn.func 77) #[] #[]), (.func (Fn.func 124) #[] #[.pointer (some ⟨bq, 0, none⟩)]), (.func (Fn.func 80) #[] #[]), .nilFunc] 52)).block _ (lt_of_block HB.out)).trans HB.out
    have s0 := cell_of_row _ _ 0 _ _ _ hs
    have s1 := cell_of_row _ _ 1 _ _ _ hs
    have s2 := cell_of_row _ _ 2 _ _ _ hs
    have HCK := Lib.hid (ev_odd b g off n c l x (w1.alloc (.cells #[.string (nmF 2), .int .i64 (lsF 2), .int .i64 (msF 2), .int .i64 (lbF 2), .int .i64 (mbF 2), .int .i64 (kyF 2), (.func (Fn.func 77) #[] #[]), (.func (Fn.func 124) #[] #[.pointer (some ⟨bq, 0, none⟩)]), (.func (Fn.func 80) #[] #[]), .nilFunc] 52)) (HROW.out.stay (hn.alloc _)) hn0 (by have := (chF_ok HLN.out hz).2.2.2.2.2; exact this))
    rw [show vOdd b l x = vF 2 b l x from rfl] at HCK
    have HE0 : Hid (eF 2 b l x = 0) := Lib.hid rfl
    clear hg hn hs hz h hn0 HLN HROW
    go_wp2_with fail
    refine HCK.out.mono ?_
    rintro e w2 ⟨rfl, hn2⟩
    have HN2 := Lib.hid ((HN1.out.alloc _).trans hn2)
    clear hn2
    go_wp2
    go_ret2
    exact ⟨by rw [HE0.out]; rfl, HN2.out⟩
  | str bq hq =>
    have hs := ((hn.alloc (.cells #[.string (nmF 8), .int .i64 (lsF 8), .int .i64 (msF 8), .int .i64 (lbF 8), .int .i64 (mbF 8), .int .i64 (kyF 8), (.func (Fn.func 105) #[] #[]), (.func (Fn.func 124) #[] #[.pointer (some ⟨bq, 0, none⟩)]), (.func (Fn.func 106) #[] #[]), .nilFunc] 52)).block _ (lt_of_block HB.out)).trans HB.out
    have s0 := cell_of_row _ _ 0 _ _ _ hs
    have s1 := cell_of_row _ _ 1 _ _ _ hs
    have s2 := cell_of_row _ _ 2 _ _ _ hs
    have HCK := Lib.hid (ev_str b g off n c l x (w1.alloc (.cells #[.string (nmF 8), .int .i64 (lsF 8), .int .i64 (msF 8), .int .i64 (lbF 8), .int .i64 (mbF 8), .int .i64 (kyF 8), (.func (Fn.func 105) #[] #[]), (.func (Fn.func 124) #[] #[.pointer (some ⟨bq, 0, none⟩)]), (.func (Fn.func 106) #[] #[]), .nilFunc] 52)) (HROW.out.stay (hn.alloc _)) hn0)
    rw [show seV (l.getD 0 0#64) (bytes x 8) = vF 8 b l x from rfl, show seE (l.getD 0 0#64) 8 = eF 8 b l x from rfl] at HCK
    clear hg hn hs hz h hn0 HLN HROW
    go_wp2_with fail
    refine HCK.out.mono ?_
    rintro e w2 ⟨rfl, hn2⟩
    have HN2 := Lib.hid ((HN1.out.alloc _).trans hn2)
    clear hn2
    go_wp2
    go_ret2
    exact ⟨rfl, HN2.out⟩
  | sum k hk bq b9 hq h9 =>
    have hs := ((hn.alloc (.cells #[.string (nmF k), .int .i64 (lsF k), .int .i64 (msF k), .int .i64 (lbF k), .int .i64 (mbF k), .int .i64 (kyF k), (.func (Fn.func 82) #[] #[]), (.func (Fn.func 124) #[] #[.pointer (some ⟨bq, 0, none⟩)]), (.func (Fn.func 83) #[] #[]), (.func (Fn.func 86) #[] #[.pointer (some ⟨b9, 0, none⟩)])] 52)).block _ (lt_of_block HB.out)).trans HB.out
    have s0 := cell_of_row _ _ 0 _ _ _ hs
    have s1 := cell_of_row _ _ 1 _ _ _ hs
    have s2 := cell_of_row _ _ 2 _ _ _ hs
    have HCK := Lib.hid (ev_sum k hk b g off n c l x (w1.alloc (.cells #[.string (nmF k), .int .i64 (lsF k), .int .i64 (msF k), .int .i64 (lbF k), .int .i64 (mbF k), .int .i64 (kyF k), (.func (Fn.func 82) #[] #[]), (.func (Fn.func 124) #[] #[.pointer (some ⟨bq, 0, none⟩)]), (.func (Fn.func 83) #[] #[]), (.func (Fn.func 86) #[] #[.pointer (some ⟨b9, 0, none⟩)])] 52)) (HROW.out.stay (hn.alloc _)) hz)
    clear hg hn hs hz h hn0 HLN HROW
    go_wp2_with fail
    refine HCK.out.mono ?_
    rintro e w2 ⟨rfl, hn2⟩
    have HN2 := Lib.hid ((HN1.out.alloc _).trans hn2)
    clear hn2
    go_wp2
    go_ret2
    exact ⟨rfl, HN2.out⟩
  | table k hk bq be bs hq he hs2 =>
    have hs := ((hn.alloc (.cells #[.string (nmF k), .int .i64 (lsF k), .int .i64 (msF k), .int .i64 (lbF k), .int .i64 (mbF k), .int .i64 (kyF k), (.func (Fn.func 82) #[] #[]), (.func (Fn.func 124) #[] #[.pointer (some ⟨bq, 0, none⟩)]), (.func (Fn.func 88) #[] #[.pointer (some ⟨be, 0, none⟩)]), (.func (Fn.func 89) #[] #[.pointer (some ⟨bs, 0, none⟩)])] 52)).block _ (lt_of_block HB.out)).trans HB.out
    have s0 := cell_of_row _ _ 0 _ _ _ hs
    have s1 := cell_of_row _ _ 1 _ _ _ hs
    have s2 := cell_of_row _ _ 2 _ _ _ hs
    have HCK := Lib.hid (ev_tab k hk b (some ⟨g, off, none⟩) n c l x be (w1.alloc (.cells #[.string (nmF k), .int .i64 (lsF k), .int .i64 (msF k), .int .i64 (lbF k), .int .i64 (mbF k), .int .i64 (kyF k), (.func (Fn.func 82) #[] #[]), (.func (Fn.func 124) #[] #[.pointer (some ⟨bq, 0, none⟩)]), (.func (Fn.func 88) #[] #[.pointer (some ⟨be, 0, none⟩)]), (.func (Fn.func 89) #[] #[.pointer (some ⟨bs, 0, none⟩)])] 52)) (HROW.out.stay (hn.alloc _)) (((New.refl w1).alloc (.cells #[.string (nmF k), .int .i64 (lsF k), .int .i64 (msF k), .int .i64 (lbF k), .int .i64 (mbF k), .int .i64 (kyF k), (.func (Fn.func 82) #[] #[]), (.func (Fn.func 124) #[] #[.pointer (some ⟨bq, 0, none⟩)]), (.func (Fn.func 88) #[] #[.pointer (some ⟨be, 0, none⟩)]), (.func (Fn.func 89) #[] #[.pointer (some ⟨bs, 0, none⟩)])] 52)).block _ (lt_of_block he) |>.trans he))
    clear hg hn hs hz h hn0 HLN HROW
    go_wp2_with fail
    refine HCK.out.mono ?_
    rintro e w2 ⟨rfl, hn2⟩
    have HN2 := Lib.hid ((HN1.out.alloc _).trans hn2)
    clear hn2
    go_wp2
    go_ret2
    exact ⟨rfl, HN2.out⟩
end Go.Proofs.YtebcfbcfipmahaaGreat
