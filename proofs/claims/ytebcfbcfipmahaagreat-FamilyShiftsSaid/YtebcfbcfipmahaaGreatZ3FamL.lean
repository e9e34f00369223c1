import Derived.Test.YtebcfbcfipmahaaGreatZ3FamK
import Derived.Test.YtebcfbcfipmahaaGreatZ3MxD
import Derived.Test.YtebcfbcfipmahaaGreatZ3FamF
import Derived.Test.YtebcfbcfipmahaaGreatZ3FamC
import Derived.Test.YtebcfbcfipmahaaGreatZ3StrG
import Derived.Test.YtebcfbcfipmahaaGreatZ3TwiB
section
/- Layer 27: what any right seed brings any word to. -/
namespace Go.Proofs.YtebcfbcfipmahaaGreat
open Go.RowKit Go.Bv
set_option linter.unusedVariables false
set_option maxRecDepth 100000
/-- what a right seed brings a word to; what is wrong with the word -/
def vF (k b : Int) (l : List (BitVec 64)) (x : BitVec 64) : BitVec 64 := if k = 1 then evP l x else if k = 2 then vOdd b l x else if k = 3 ∨ k = 4 then vSum k b l x else if k = 8 then seV (l.getD 0 0#64) (bytes x 8) else vTab k b l x
def eF (k b : Int) (l : List (BitVec 64)) (x : BitVec 64) : Int := if k = 1 then evC l x else if k = 2 then 0 else if k = 3 ∨ k = 4 then eSum k x else if k = 8 then seE (l.getD 0 0#64) 8 else eTab k b l x
theorem ev_sum (k : Int) (hk : k = 3 ∨ k = 4) (b : Int) (g off n c : Nat) (l : List (BitVec 64)) (x : BitVec 64) (w : World) (h : QRow w (some ⟨g, off, none⟩) n c l) (hz : chF k b l = 0) : Calls Tryz.prog 83 #[.agg (sdc k b (some ⟨g, off, none⟩) n c), .int .u64 (W64 x)] w fun e w' => e = .returned (.tuple #[.int .u64 (W64 (vF k b l x)), .int .i64 (eF k b l x)]) ∧ New w w' := by
  obtain ⟨_, h1, h2, h3, h4, _⟩ := chF_ok h.len_eq hz
  rcases hk with rfl | rfl
  · have e1 : lsF 3 = 2 := rfl
    have e2 : msF 3 = 2 := rfl
    have e3 : lbF 3 = 1 := rfl
    have e4 : mbF 3 = 32 := rfl
    exact ev_sum3 b g off n c l x w h (by omega) (by omega) (by omega)
  · have e1 : lsF 4 = 4 := rfl
    have e2 : msF 4 = 4 := rfl
    have e3 : lbF 4 = 1 := rfl
    have e4 : mbF 4 = 64 := rfl
    exact ev_sum4 b g off n c l x w h (by omega) (by omega) (by omega)
theorem n_pos {k b : Int} {l : List (BitVec 64)} {n : Nat} (hl : l.length = n) (hz : chF k b l = 0) : 0 < n := by
  obtain ⟨hok, h1, _⟩ := chF_ok hl hz
  rcases okF_k hok with rfl | rfl | rfl | rfl | rfl | rfl | rfl | rfl
  · have : lsF 1 = 1 := rfl
    omega
  · have : lsF 2 = 1 := rfl
    omega
  · have : lsF 3 = 2 := rfl
    omega
  · have : lsF 4 = 4 := rfl
    omega
  · have : lsF 5 = 128 := rfl
    omega
  · have : lsF 6 = 240 := rfl
    omega
  · have : lsF 7 = 320 := rfl
    omega
  · have : lsF 8 = 1 := rfl
    omega
end Go.Proofs.YtebcfbcfipmahaaGreat
end
section
/- The example of through's chapter; the law ThroughPoints. -/
namespace Go.Proofs.YtebcfbcfipmahaaGreat
open Go.RowKit Go.Bv
set_option linter.unusedVariables false
end Go.Proofs.YtebcfbcfipmahaaGreat
end
section
/- through.Values; Vanish. -/
namespace Go.Proofs.YtebcfbcfipmahaaGreat
open Go.RowKit Go.Bv
set_option linter.unusedVariables false
/-- what through.Values says -/
def vE (c xs : List (BitVec 64)) : Int := if chkC c ≠ 0 then chkC c else if blw xs = true then 0 else 2
theorem evP_at {l xs : List (BitVec 64)} (h1 : chkC l = 0) (h2 : blw xs = true) (k : Nat) (hk : k < xs.length) : evP l (xs.getD k 0) = mp (nv l (xs.getD k 0)) := by
  have h3 := blw_out h2 k hk
  have h4 : evC l (xs.getD k 0) = 0 := by unfold evC; rw [if_neg (by simp [h1]), if_neg (by omega)]
  unfold evP; rw [if_pos h4]
set_option maxRecDepth 100000 in
set_option maxHeartbeats 4000000 in
theorem pvals_row (a b : Option Addr) (n c n2 c2 : Nat) (l xs : List (BitVec 64)) (w : World) (hx : QRow w a n c l) (hy : QRow w b n2 c2 xs) (h : vE l xs = 0) (hlim : n2 ≤ 1000000) :
    Calls Tryz.prog 120 #[.slice a n c, .slice b n2 c2] w fun e w' => ∃ cs : Array Value, e = .returned (.tuple #[.slice (some ⟨w.heap.size, 0, none⟩) (n2 : Nat) n2, .int .i64 0]) ∧ w'.heap[w.heap.size]? = some (.cells cs 31 (0, 0)) ∧ Hid (cs.size = n2 ∧ ∀ j, j < n2 → cs[j]? = some (.int .u64 (W64 ((vals l xs).getD j 0)))) ∧ New w w' := by
  obtain ⟨i0, hi, hz0, hz1, hz2⟩ := info_parts info_u64q
  have h1 : chkC l = 0 := by
    by_cases e : chkC l = 0
    · exact e
    · unfold vE at h; rw [if_pos e] at h; exact h
  have h2 : blw xs = true := by
    unfold vE at h; rw [if_neg (by simp [h1])] at h
    by_cases e : blw xs = true
    · exact e
    · rw [if_neg e] at h; exact absurd h (by decide)
  have HEV := Lib.hid (fun k hk => evP_at (l := l) h1 h2 k hk)
  have HC := Lib.hid (check_q _ _ _ _ _ hx)
  have HB := Lib.hid (inf_q _ _ _ _ _ hy)
  rw [h1] at HC
  rw [h2] at HB
  have HX := Lib.hid hx
  have HY := Lib.hid hy
  have HLY := Lib.hid hy.len_eq
  have hmk := run_make_row (P := Tryz.prog) 28 31 i0 (.int .u64 0) Tryz.underlying28 hi hz0 hz1 rfl .i64 .i64 n2 (by rw [hz2]; omega) (by omega) w
  have HM := Lib.hid (made_q n2 (fun _ => 0#64))
  have HMK : Hid (∀ t : Int, t = (n2 : Int) → (Instr.makeSlice 28 (.int .i64 t) (.int .i64 t)).run Tryz.prog w = .ok (.slice (some ⟨w.heap.size, 0, none⟩) n2 n2) (w.alloc (.cells (madeCells #[.int .u64 0] n2) 31))) := Lib.hid (by rintro t rfl; exact hmk)
  clear hmk h1 h2 h hx hy
  go_enter Tryz.func120, Tryz.ntmps120
  go_wp2_with fail
  refine (HC.out).mono ?_
  rintro e w9 ⟨rfl, hw⟩
  replace hw := hw.symm
  subst hw
  go_wp2_with fail
  refine (HB.out).mono ?_
  rintro e w9 ⟨rfl, hw⟩
  replace hw := hw.symm
  subst hw
  go_wp2_with fail
  rw [HMK.out _ (by omega)]
  clear HMK HC HB
  go_wp2_with fail
  go_loopw [23] (fun iv wr => ∃ (k : Nat) (cs : Array Value), k ≤ n2 ∧ iv = .int .i64 (k : Int) ∧ wr.heap[w.heap.size]? = some (.cells cs 31 (0, 0)) ∧ Hid (cs.size = n2 ∧ ∀ j, j < n2 → cs[j]? = some (.int .u64 (W64 (if j < k then mp (nv l (xs.getD j 0)) else 0#64)))) ∧ New w wr) (fun iv _ => n2 - (intOf iv).toNat)
  case atStart => exact ⟨0, _, Nat.zero_le _, rfl, heap_alloc_new _ _, Lib.hid ⟨HM.out.1, fun j hj => by rw [HM.out.2 j hj, if_neg (by omega), if_neg (by omega)]⟩, (New.refl w).alloc _⟩
  case round =>
    clear HM
    obtain ⟨k, cs, hk, rfl, hb, HCS, hnw⟩ := hrel
    have HBK := Lib.hid hb
    have HN := Lib.hid hnw
    obtain ⟨wq, hwq⟩ : ∃ z, z = wr := ⟨_, rfl⟩
    rw [← hwq] at HBK HN ⊢
    clear hb hnw hwq
    by_cases hlt : (k : Int) < (n2 : Int)
    · obtain ⟨b1, off1, rfl, hc1⟩ := (HY.out.stay HN.out).addr (by omega)
      have c1 := hc1 k (by omega)
      clear hc1
      have hk0 : (0 : Int) ≤ (k : Int) := by omega
      have HVK := Lib.hid (HEV.out k (by rw [HLY.out]; omega))
      obtain ⟨x, hx⟩ : ∃ z, xs.getD k 0 = z := ⟨_, rfl⟩
      rw [hx] at c1 HVK
      have HXE := Lib.hid hx
      clear hx
      have HPE := Lib.hid (peval_q _ _ _ _ x _ (HX.out.stay HN.out))
      rw [HVK.out] at HPE
      obtain ⟨y, hy⟩ : ∃ z, mp (nv l x) = z := ⟨_, rfl⟩
      rw [hy] at HPE
      have HYE := Lib.hid hy
      clear hy
      obtain ⟨ee, hee⟩ : ∃ z, evC l x = z := ⟨_, rfl⟩
      rw [hee] at HPE
      clear hee
      go_wp2_with fail
      refine (HPE.out).mono ?_
      rintro e w9 ⟨rfl, hn3⟩
      replace HBK := Lib.hid ((hn3.block _ (lt_of_block HBK.out)).trans HBK.out)
      replace HN := Lib.hid (HN.out.trans hn3)
      clear hn3 HPE c1
      have hcell : w9.cell? ⟨w.heap.size, k, none⟩ = some (.int .u64 (W64 (if k < k then mp (nv l (xs.getD k 0)) else 0#64))) := by
        rw [cell_of_row _ _ _ _ _ _ HBK.out]; exact HCS.out.2 k (by omega)
      have hfree := frozen_of_row w9 w.heap.size k cs _ HBK.out
      have HD := Lib.hid (heap_setCell_same w9 w.heap.size k cs _ (.int .u64 (W64 y)) HBK.out)
      go_wp2
      refine ⟨⟨k + 1, _, by omega, by go_num, HD.out, Lib.hid ⟨by rw [Array.size_setIfInBounds]; exact HCS.out.1, ?_⟩, HN.out.setCell (Nat.le_refl _) _⟩, by simp [intOf]; omega⟩
      intro j hj
      have hs := HCS.out.1
      rw [Array.getElem?_setIfInBounds]
      by_cases e : k = j
      · subst e
        rw [if_pos rfl, if_pos (by omega), if_pos (by omega), HXE.out, HYE.out]
      · rw [if_neg e, HCS.out.2 j hj]
        refine congrArg (fun d => some (Value.int .u64 (W64 d))) ?_
        by_cases e2 : j < k
        · rw [if_pos e2, if_pos (by omega)]
        · rw [if_neg e2, if_neg (by omega)]
    · obtain rfl : k = n2 := by omega
      have HRES : Hid (cs.size = k ∧ ∀ j, j < k → cs[j]? = some (.int .u64 (W64 ((vals l xs).getD j 0)))) := Lib.hid ⟨HCS.out.1, fun j hj => by rw [HCS.out.2 j hj, if_pos hj, vals_get _ _ _ (by rw [HLY.out]; exact hj)]⟩
      clear HCS
      go_wp2
      go_ret2
      first | exact ⟨_, rfl, HBK.out, HRES, HN.out⟩ | exact ⟨rfl, _, HBK.out, HRES, HN.out⟩
theorem row_of_cells {w : World} {g n cap : Nat} {cs : Array Value} {l : List (BitVec 64)} (hg : w.heap[g]? = some (.cells cs 31 (0, 0))) (hl : l.length = n) (hn : n ≤ cap) (hm : n ≤ 17592186044416) (hcap : cap ≤ 9223372036854775807) (hc : ∀ j, j < n → cs[j]? = some (.int .u64 (W64 (l.getD j 0)))) : QRow w (some ⟨g, 0, none⟩) n cap l := by
  refine ⟨hl, hn, hm, hcap, (fun e => by cases e), ?_, ?_, ?_⟩
  · intro b off e j hj
    cases e
    rw [Nat.zero_add, cell_of_row _ _ _ _ _ _ hg, hc j hj]
  · intro x e h; cases e; rfl
  · intro x e h; cases e; exact lt_of_block hg
/-- the product of the factors of the first k points -/
def van (xs : List (BitVec 64)) : Nat → List (BitVec 64)
  | 0 => [1#64]
  | k + 1 => trimL (mulL (van xs k) [sb 0#64 (xs.getD k 0), 1#64])
end Go.Proofs.YtebcfbcfipmahaaGreat
end
section
/- Layer 23: Shift. -/
namespace Go.Proofs.YtebcfbcfipmahaaGreat
open Go Go.RowKit Go.Bv Go.Tab
set_option linter.unusedVariables false
set_option maxRecDepth 100000
abbrev ZW (n : Nat) : Obj := .cells (madeCells #[.int .u64 0] n) 31
theorem zA {w q : World} (n : Nat) (h : New (w.alloc (ZW n)) q) : New w q ∧ CR q w.heap.size n (fun _ => 0#64) := ⟨((New.refl w).alloc _).trans h, (cr_made w n).stay h⟩
theorem zAd {w q : World} (n : Nat) (h : New (w.alloc (ZW n)).drew q) : New w q ∧ CR q w.heap.size n (fun _ => 0#64) := ⟨((New.refl w).alloc _).drew.trans h, ((cr_made w n).stay (New.refl _).drew).stay h⟩
theorem zdA {w q : World} (n : Nat) (h : New (w.drew.alloc (ZW n)) q) : New w q ∧ CR q w.heap.size n (fun _ => 0#64) := ⟨((New.refl w).drew.alloc _).trans h, (cr_made w.drew n).stay h⟩
theorem zB {w q : World} (h : New w.drew q) : New w q := (New.refl w).drew.trans h
/-- turned keys -/
def tuL (l xl : List (BitVec 64)) : List (BitVec 64) := (List.range xl.length).map fun i => turnV l (xl.getD i 0)
/-- the seed that Shift makes -/
def twL (l : List (BitVec 64)) (bits : Int) (xl yl : List (BitVec 64)) : List (BitVec 64) := shL (l.take 128) bits (tuL l xl) yl ++ (l.drop 128).take 112
theorem tuL_len (l xl : List (BitVec 64)) : (tuL l xl).length = xl.length := by simp [tuL]
theorem tuL_at (l xl : List (BitVec 64)) (i : Nat) (hi : i < xl.length) : (tuL l xl).getD i 0 = turnV l (xl.getD i 0) := map_at _ hi
theorem small_of {x : BitVec 64} (h : x >>> 32 = 0#64) : x.toNat < 4294967296 := by
  have := shr_natT x 32
  rw [h] at this
  simpa using this.symm
theorem of_small {x : BitVec 64} (h : x.toNat < 4294967296) : x >>> 32 = 0#64 := by
  have := shr_natT x 32
  rw [decide_eq_true (by omega), beq_iff_eq] at this
  exact this
theorem tuL_tg {l xl yl : List (BitVec 64)} {b : Nat} (h : tgE b xl yl = 0) : tgE b (tuL l xl) yl = 0 := by
  obtain ⟨t1, t2, t3, t4, t5⟩ := tg_zero h
  have hl := tuL_len l xl
  refine tg_ok (by omega) (fun j hj => ?_) (fun j hj => same2_no fun k hk => ?_)
  · unfold bad2
    rw [tuL_at l xl j (by omega), (t4 j (by omega)).2, of_small (turn_small l _ (small_of (t4 j (by omega)).1))]
    rfl
  · rw [tuL_at l xl j (by omega), tuL_at l xl k (by omega)]
    intro he
    have := turn_inj l (xl.getD j 0) (xl.getD k 0)
    rw [he, beq_self_eq_true] at this
    exact t5 k j (by omega) (by omega) (by omega) (beq_iff_eq.1 this.symm).symm
/-- what is wrong -/
def csN (bits : Int) (n : Nat) (N : Int) (xl yl : List (BitVec 64)) : Int := if chk bits n N ≠ 0 then chk bits n N else tgE bits.toNat xl yl
theorem cs_sub {l : List (BitVec 64)} {bits : Int} {N : Int} {xl yl : List (BitVec 64)} (h : chk bits l.length N = 0) (hN : 128 ≤ N) : csE bits (l.take 128).length 128 xl yl = tgE bits.toNat xl yl := by
  obtain ⟨b1, b2, b3⟩ := chk_good h
  have hl : (l.take 128).length = 128 := by rw [List.length_take]; omega
  have hc : chk bits (l.take 128).length 128 = 0 := by unfold chk; rw [if_neg (by omega), hl, if_neg (by simp)]
  unfold csE
  rw [if_neg (by rw [hc]; simp)]
set_option maxHeartbeats 8000000 in
theorem tshift_no (a : Option Addr) (na ca : Nat) (l : List (BitVec 64)) (bits : Int) (x : Option Addr) (nx cx : Nat) (xl : List (BitVec 64)) (y : Option Addr) (ny cy : Nat) (yl : List (BitVec 64)) (w : World) (ha : QRow w a na ca l) (hx : QRow w x nx cx xl) (hy : QRow w y ny cy yl) (hne : csN bits l.length 240 xl yl ≠ 0) :
    Calls Tryz.prog 51 #[.slice a na ca, .int .i64 bits, .slice x nx cx, .slice y ny cy] w fun e w' => e = .returned (.tuple #[.slice none 0 0, .int .i64 (csN bits l.length 240 xl yl)]) ∧ New w w' := by
  have hm := ha.most
  have hle := ha.le
  have hrm := ha.room
  have hck : ∀ w, Calls Tryz.prog 97 #[.slice a na ca, .int .i64 bits] w fun e w' => e = .returned (.int .i64 (chk bits l.length 240)) ∧ w' = w := by
    rw [ha.len_eq]; exact fun w => checkt_any a na ca bits w hm
  have HCK := Lib.hid hck
  clear hck
  by_cases h1 : chk bits l.length 240 = 0
  · have he : csN bits l.length 240 xl yl = tgE bits.toNat xl yl := by unfold csN; rw [if_neg (by rw [h1]; simp)]
    rw [he] at hne ⊢
    obtain ⟨b1, b2, b3⟩ := chk_good h1
    have hL := ha.len_eq
    obtain rfl : na = 240 := by omega
    obtain ⟨b, off, rfl, _⟩ := ha.addr (by omega)
    have hS := fun w' (hw : New w w') => shift_no (some ⟨b, off, none⟩) 128 128 (l.take 128) bits x nx cx xl y ny cy yl w' ((ha.stay hw).slice 0 128 128 (by omega) (by omega) (by omega)) (hx.stay hw) (hy.stay hw) (by rw [cs_sub h1 (by omega)]; exact hne)
    rw [cs_sub h1 (by omega)] at hS
    have HS := Lib.hid hS
    have hb : (tgE bits.toNat xl yl != 0) = true := by rw [bne_iff_ne]; exact hne
    rw [h1] at HCK
    clear hS h1 he hne b1 b2 b3 hx hy hL ha
    generalize tgE bits.toNat xl yl = E at HS hb ⊢
    go_enter Tryz.func51, Tryz.ntmps51
    go_wp2_with fail
    refine (HCK.out _).mono ?_
    rintro e w' ⟨rfl, rfl⟩
    go_wp2_with fail
    refine (partst_any b off ca hle hrm _).mono ?_
    rintro e w1 ⟨rfl, n1⟩
    go_wp2_with fail
    refine (HS.out _ n1).mono ?_
    rintro e w2 ⟨rfl, n2⟩
    go_wp2
    go_ret2
    exact ⟨rfl, n1.trans n2⟩
  · have he : csN bits l.length 240 xl yl = chk bits l.length 240 := by unfold csN; rw [if_pos h1]
    rw [he]
    have hb : (chk bits l.length 240 != 0) = true := by rw [bne_iff_ne]; exact h1
    clear he hne h1 ha hx hy
    generalize chk bits l.length 240 = E at HCK hb ⊢
    go_enter Tryz.func51, Tryz.ntmps51
    go_wp2_with fail
    refine (HCK.out _).mono ?_
    rintro e w' ⟨rfl, rfl⟩
    go_wp2
    go_ret2
    exact ⟨rfl, New.refl _⟩
set_option maxHeartbeats 8000000 in
theorem tshift_ok (a : Option Addr) (ca : Nat) (l : List (BitVec 64)) (bits : Int) (x : Option Addr) (nx cx : Nat) (xl : List (BitVec 64)) (y : Option Addr) (cy : Nat) (yl : List (BitVec 64)) (w : World) (ha : QRow w a 240 ca l) (hx : QRow w x nx cx xl) (hy : QRow w y nx cy yl) (h0 : csN bits l.length 240 xl yl = 0) :
    Calls Tryz.prog 51 #[.slice a 240 ca, .int .i64 bits, .slice x nx cx, .slice y nx cy] w fun e w' => ∃ v, e = .returned (.tuple #[v, .int .i64 0]) ∧ w'.ownsRow w.heap.size 31 1 v 240 ((twL l bits xl yl).map fun x => .int .u64 (W64 x)) ∧ New w w' := by
  obtain ⟨i0, hi, hz0, hz1, hz2⟩ := info_parts info_u64t
  have hm := ha.most
  have hle := ha.le
  have hrm := ha.room
  have hck : ∀ w, Calls Tryz.prog 97 #[.slice a 240 ca, .int .i64 bits] w fun e w' => e = .returned (.int .i64 (chk bits l.length 240)) ∧ w' = w := by
    rw [ha.len_eq]; exact fun w => checkt_any a 240 ca bits w hm
  have HCK := Lib.hid hck
  clear hck
  have h1 : chk bits l.length 240 = 0 := by
    unfold csN at h0
    by_cases e : chk bits l.length 240 = 0
    · exact e
    · rw [if_pos e] at h0; exact absurd h0 e
  have htg : tgE bits.toNat xl yl = 0 := by unfold csN at h0; rwa [if_neg (by rw [h1]; simp)] at h0
  obtain ⟨t1, t2, t3, t4, t5⟩ := tg_zero htg
  have hlx := hx.len_eq
  obtain ⟨b, off, rfl, _⟩ := ha.addr (by omega)
  have HS1 := Lib.hid (fun w' (hw : New w w') => shift_ok (some ⟨b, off, none⟩) 128 128 (l.take 128) bits x nx cx xl y cy yl w' ((ha.stay hw).slice 0 128 128 (by omega) (by omega) (by omega)) (hx.stay hw) (hy.stay hw) (by rw [cs_sub h1 (by omega)]; exact htg))
  have HS2 := Lib.hid (fun gt w' (hw : New w w') (ht : QRow w' (some ⟨gt, 0, none⟩) nx nx (tuL l xl)) => shift_ok (some ⟨b, off, none⟩) 128 128 (l.take 128) bits (some ⟨gt, 0, none⟩) nx nx (tuL l xl) y cy yl w' ((ha.stay hw).slice 0 128 128 (by omega) (by omega) (by omega)) ht (hy.stay hw) (by rw [cs_sub h1 (by omega)]; exact tuL_tg htg))
  have hmk : ∀ W : World, (Instr.makeSlice 28 (.int .i64 (nx : Int)) (.int .i64 (nx : Int))).run Tryz.prog W = .ok (.slice (some ⟨W.heap.size, 0, none⟩) nx nx) (W.alloc (ZW nx)) := fun W => make_w22 nx (by omega) _ W rfl
  have HTU := Lib.hid (fun w' => turning_any b off ca hle hrm w')
  have HT1 := Lib.hid (fun g xv w' (hw : New w w') (hc : w'.cell? ⟨g, 0, none⟩ = some (.slice (some ⟨b, off + 128, none⟩) 112 112)) => turning1_any xv g b (off + 128) ((l.drop 128).take 112) w' hc ((ha.stay hw).slice 128 112 112 (by omega) (by omega) (by omega)))
  have HTV : Hid (∀ xv, xv ^^^ (twy ((l.drop 128).take 112) xv 7) <<< 28 = turnV l xv) := Lib.hid (fun xv => by rw [twy_twx l xv 7 (by omega)]; rfl)
  have HTW := Lib.hid (fun w' (hw : New w w') => (ha.stay hw).slice 128 112 112 (by omega) (by omega) (by omega))
  have HTL : Hid (tuL l xl = (List.range nx).map fun i => turnV l (xl.getD i 0)) := Lib.hid (by unfold tuL; rw [hlx])
  have HTWL : Hid (twL l bits xl yl = shL (l.take 128) bits (tuL l xl) yl ++ (l.drop 128).take 112) := Lib.hid rfl
  have hnx0 : 0 < nx := by omega
  have hnx3 : nx ≤ 3 := by omega
  obtain ⟨p1, o1, e1, _⟩ := hx.addr hnx0
  subst e1
  have HX := Lib.hid hx
  rw [h1] at HCK
  have HL240 : Hid (l.length = 240) := Lib.hid ha.len_eq
  clear ha hx hy h0 h1 htg t1 t2 t3 t4 t5 hlx
  go_enter Tryz.func51, Tryz.ntmps51
  go_wp2_with fail
  refine (HCK.out _).mono ?_
  rintro e w0 ⟨rfl, rfl⟩
  go_wp2_with fail
  refine (partst_any b off ca hle hrm _).mono ?_
  rintro e w1 ⟨rfl, n1⟩
  have HN1 := Lib.hid n1
  clear n1 HCK
  go_wp2_with fail
  refine (HS1.out _ HN1.out).mono ?_
  rintro e w2 ⟨v2, rfl, ho2, n2⟩
  obtain ⟨a2, c2, rfl, _⟩ := QRow.of_owns ho2 (by omega)
  have HN2 := Lib.hid (HN1.out.trans n2)
  clear n2 ho2 HS1 HN1
  go_wp2_with fail
  go_cut [15, 16] (fun f d wx => ∃ g gt, f = .func (Fn.func 138) #[] #[.pointer (some ⟨g, 0, none⟩)] ∧ d = .slice (some ⟨gt, 0, none⟩) nx nx ∧ wx.cell? ⟨g, 0, none⟩ = some (.slice (some ⟨b, off + 128, none⟩) 112 112) ∧ CR wx gt nx (fun _ => 0#64) ∧ w2.heap.size ≤ gt ∧ New w2 wx)
  case first =>
    go_region_held3 (fun w' => New w2 w')
      (repeat (first | with_reducible assumption | with_reducible exact New.refl _ | with_reducible apply New.drew | with_reducible refine New.alloc ?_ _))
      (first
        | (go_at_call 100
           refine (HTU.out _).mono ?_
           rintro e q0 ⟨g, rfl, hc, hn⟩
           first
             | (have hA := zAd nx hn
                have hg0 : New w2 q0 := hA.1)
             | (have hA := zdA nx hn
                have hg0 : New w2 q0 := hA.1)
             | (have hA := zA nx hn
                have hg0 : New w2 q0 := hA.1)
             | (have hg0 : New w2 q0 := by with_reducible exact zB hn)
             | (have hg0 : New w2 q0 := by with_reducible exact hn)
           clear hn))
    all_goals (
      go_wp2_with fail
      go_meet
      case rel =>
        first
          | exact ⟨g, _, rfl, rfl, hc, hA.2, Nat.le_refl _, hg0⟩
          | exact ⟨g, _, rfl, rfl, zcell hc ((New.refl q0).alloc _), cr_made q0 nx, hg0.le, hg0.alloc _⟩)
  case rest =>
    obtain ⟨g, gt, rfl, rfl, hc, hcr, hgt, hn3⟩ := hcut
    have HN3 := Lib.hid (HN2.out.trans hn3)
    have HGT : Hid (w0.heap.size ≤ gt) := Lib.hid (Nat.le_trans HN2.out.le hgt)
    have hne : g ≠ gt := by
      intro e
      subst e
      have h1 := (hcr.get hnx0).1
      rw [hc] at h1
      cases h1
    have HNE := Lib.hid hne
    have hst : New w0 wc ∧ wc.cell? ⟨g, 0, none⟩ = some (.slice (some ⟨b, off + 128, none⟩) 112 112) ∧ CR wc gt nx (fun j => if j < 0 then turnV l (xl.getD j 0) else 0#64) := ⟨HN3.out, hc, hcr.congr (fun j _ => by rw [if_neg (by omega)])⟩
    have HST := Lib.hid hst
    clear hmk hc hcr hgt hn3 hne hst HTU
    go_wp2
    go_loopw [50] (fun iv wr => ∃ k : Nat, k ≤ nx ∧ iv = .int .i64 (k : Int) ∧ Hid (New w0 wr ∧ wr.cell? ⟨g, 0, none⟩ = some (.slice (some ⟨b, off + 128, none⟩) 112 112) ∧ CR wr gt nx (fun j => if j < k then turnV l (xl.getD j 0) else 0#64))) (fun iv _ => nx - (intOf iv).toNat)
    case atStart => exact ⟨0, Nat.zero_le _, rfl, HST⟩
    case round =>
      clear HST
      obtain ⟨k, hk, rfl, HI⟩ := hrel
      by_cases hlt : (k : Int) < (nx : Int)
      · have hk0 : (0 : Int) ≤ (k : Int) := by omega
        have hkn : k < nx := by omega
        have d1 := (HX.out.stay HI.out.1).cell p1 o1 rfl k hkn
        have hcall := HT1.out g (xl.getD k 0) _ HI.out.1 HI.out.2.1
        rw [HTV.out] at hcall
        have HP : Hid (∀ q, New wr q → New w0 (q.setCell ⟨gt, k, none⟩ (.int .u64 (W64 (turnV l (xl.getD k 0))))) ∧ (q.setCell ⟨gt, k, none⟩ (.int .u64 (W64 (turnV l (xl.getD k 0))))).cell? ⟨g, 0, none⟩ = some (.slice (some ⟨b, off + 128, none⟩) 112 112) ∧ CR (q.setCell ⟨gt, k, none⟩ (.int .u64 (W64 (turnV l (xl.getD k 0))))) gt nx (fun j => if j < k + 1 then turnV l (xl.getD j 0) else 0#64)) := Lib.hid (fun q hq => by
          refine ⟨(HI.out.1.trans hq).setCell (p := ⟨gt, k, none⟩) HGT.out _, ?_, (HI.out.2.2.stay hq).put hkn _ (by rw [if_pos (by omega)]) (fun j hj hjk => ?_)⟩
          · have h1 := zcell HI.out.2.1 hq
            have h2 : (q.setCell ⟨gt, k, none⟩ (.int .u64 (W64 (turnV l (xl.getD k 0))))).heap[g]? = q.heap[g]? := heap_setCell_other _ _ _ _ HNE.out
            unfold World.cell? at h1 ⊢
            simp only at h1 ⊢
            rw [h2]; exact h1
          · by_cases e : j < k
            · rw [if_pos e, if_pos (by omega)]
            · rw [if_neg e, if_neg (by omega)])
        have HSP : Hid (∀ q, New wr q → q.cell? ⟨gt, k, none⟩ = some (.int .u64 (W64 (if k < k then turnV l (xl.getD k 0) else 0#64))) ∧ q.frozen? ⟨gt, k, none⟩ = false) := Lib.hid (fun q hq => (HI.out.2.2.stay hq).get hkn)
        obtain ⟨xv, hxv⟩ : ∃ xv, xl.getD k 0 = xv := ⟨_, rfl⟩
        rw [hxv] at d1 hcall HP HSP
        obtain ⟨tv, htv⟩ : ∃ tv, turnV l xv = tv := ⟨_, rfl⟩
        rw [htv] at hcall HP HSP
        have HC := Lib.hid hcall
        clear hcall hxv htv
        go_wp2_with fail
        refine HC.out.mono ?_
        rintro e w6 ⟨rfl, n6⟩
        obtain ⟨e1, e2⟩ := HSP.out _ n6
        have HP6 := Lib.hid (HP.out _ n6)
        clear n6 HP HSP HC d1
        go_wp2
        exact ⟨⟨k + 1, by omega, by go_num, HP6⟩, by simp [intOf]; omega⟩
      · obtain rfl : k = nx := by omega
        have hq := (HI.out.2.2.congr (l' := fun j => turnV l (xl.getD j 0)) (fun j hj => by rw [if_pos hj])).row (by omega) (Nat.le_refl _) (by omega)
        have HQ2 := HS2.out gt _ HI.out.1 (by rw [HTL.out]; exact hq)
        have HQ3 := Lib.hid HQ2
        have HNW := Lib.hid HI.out.1
        clear hq HQ2 HI
        go_wp2_with fail
        refine HQ3.out.mono ?_
        rintro e w8 ⟨v8, rfl, ho8, n8⟩
        have HN8 := Lib.hid (HNW.out.trans n8)
        have ho := ow_lower ho8 HNW.out.le
        have hrow := HTW.out _ HN8.out
        have HLN : Hid ((((l.drop 128).take 112).map fun x => Value.int .u64 (W64 x)).length = 112) := Lib.hid (by rw [List.length_map, List.length_take, List.length_drop, HL240.out]; omega)
        have HTWR : Hid ((twL l bits xl yl).map (fun x => Value.int .u64 (W64 x)) = ((shL (l.take 128) bits (tuL l xl) yl).map fun x => .int .u64 (W64 x)) ++ ((l.drop 128).take 112).map fun x => .int .u64 (W64 x)) := Lib.hid (by rw [HTWL.out, List.map_append])
        have HCELL : Hid (∀ (j : Nat) (u : Value), (((l.drop 128).take 112).map fun x => Value.int .u64 (W64 x))[j]? = some u → w8.cell? ((⟨b, off + 128, none⟩ : Addr).add j) = some u) := Lib.hid (fun j u h => by
          have hj : j < 112 := by
            have := (List.getElem?_eq_some_iff.1 h).1
            rw [HLN.out] at this; exact this
          have h2 := hrow.cell b (off + 128) rfl j hj
          rw [add_plain, h2]
          rw [List.getElem?_map, List.getElem?_eq_getElem (by rw [List.length_take, List.length_drop, HL240.out]; omega)] at h
          rw [List.getD_eq_getElem?_getD, List.getElem?_eq_getElem (by rw [List.length_take, List.length_drop, HL240.out]; omega)]
          exact h)
        obtain ⟨ys, hys⟩ : ∃ ys, (((l.drop 128).take 112).map fun x => Value.int .u64 (W64 x)) = ys := ⟨_, rfl⟩
        obtain ⟨zs, hzs⟩ : ∃ zs, ((shL (l.take 128) bits (tuL l xl) yl).map fun x => Value.int .u64 (W64 x)) = zs := ⟨_, rfl⟩
        have HONE : Hid (∀ v ∈ ys, v.oneCell' = true) := Lib.hid (by rw [← hys]; intro v hv; obtain ⟨x, _, rfl⟩ := List.mem_map.1 hv; rfl)
        rw [hys] at HLN HTWR HCELL
        rw [hzs] at HTWR ho
        clear n8 ho8 hrow hys hzs HQ3
        go_wp2_with (at_builtin; refine wpList_append_own _ rfl _ _ 28 rfl w0.heap.size 31 i0 (.int .u64 0) 1 8 Tryz.underlying28 hi hz0 hz1 hz2 rfl (by decide) _ 128 _ rfl ho ⟨b, off + 128, none⟩ 112 112 ys rfl (by rw [HLN.out]) ?c1 ?c2 ?c3 ?c4 ?c5 ?_)
        case c1 => exact HCELL.out
        case c2 => exact HONE.out
        case c3 => decide
        case c4 => decide
        case c5 => exact HN8.out.le
        intro v' w9 how hgr _
        have HN9 := Lib.hid (HN8.out.grown' hgr (own_base ho))
        have HOW := Lib.hid how
        clear how hgr ho
        go_wp2
        refine bodyPost_ret (by simp [results, Tryz.results51, go_sem]; try rfl) rfl ?_
        rw [HTWR.out]
        exact ⟨_, rfl, HOW.out, HN9.out⟩
end Go.Proofs.YtebcfbcfipmahaaGreat
end
