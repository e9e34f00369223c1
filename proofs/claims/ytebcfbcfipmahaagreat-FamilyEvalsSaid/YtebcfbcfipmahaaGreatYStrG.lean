import Derived.Test.YtebcfbcfipmahaaGreatYStrB
import Derived.RangeFuncNested
import Derived.RangeFuncBound
import Derived.RangeFuncCalls
import Derived.RangeFuncLeaves
import Derived.Shelf.Abstract
import Derived.Shelf.RegionOpen
import Derived.WalkKit
import Derived.OwnWalkIn
import Derived.TacticsInMore
import Derived.LoopNIn
import Derived.LoopIn
import Derived.RangeFuncFrom
import Derived.Maps.AppendAt
/- strpoly.each: the iterator's word, for every body. · strpoly.each: what it hands back; strpoly.Eval. · strpoly.Eval. · strpoly: Eval's errors, Append's errors. · strpoly.Chunks. -/
namespace Go.Bv
open Go Go.RowKit
theorem row_front {w : World} {a : Option Addr} {n c j : Nat} {m : List (BitVec 8)} (h : BRow w a n c m) (hj : j ≤ n) : BRow w a j c (m.take j) where
  len_eq := by have := h.len_eq; simp; omega
  le := Nat.le_trans hj h.le
  most := Nat.le_trans hj h.most
  room := h.room
  none := fun e => ⟨by have := (h.none e).1; omega, (h.none e).2⟩
  cell := fun b off e i hi => by
    rw [h.cell b off e i (by omega)]
    simp [List.getD_eq_getElem?_getD, hi]
  spot := fun x e h0 => h.spot x e (by omega)
  old := fun x e h0 => h.old x e (by omega)
theorem row_rest {w : World} {b off : Nat} {sp : Option Nat} {len cap m : Nat} {l : List (BitVec 8)} (h : BRow w (some ⟨b, off, sp⟩) len cap l) (hm : m ≤ len) :
    ∃ sp2, (⟨b, off, sp⟩ : Addr).add m = ⟨b, off + m, sp2⟩ ∧ BRow w (some ⟨b, off + m, sp2⟩) (len - m) (cap - m) (l.drop m) := by
  by_cases h0 : m = 0
  · subst h0
    exact ⟨sp, by simp [Addr.add], by simpa using h⟩
  · refine ⟨Option.none, by simp [Addr.add, h0], ?_, ?_, ?_, ?_, ?_, ?_, ?_, ?_⟩
    · have := h.len_eq; simp; omega
    · have := h.le; omega
    · have := h.most; omega
    · have := h.room; omega
    · intro e; cases e
    · intro b' off' e i hi
      cases e
      have hs := h.spot _ rfl (by omega)
      simp only at hs
      subst hs
      have := h.cell b off rfl (m + i) (by omega)
      rw [Nat.add_assoc, this]
      simp [List.getD_eq_getElem?_getD, List.getElem?_drop]
    · intro x e _; cases e; rfl
    · intro x e h1; cases e
      exact h.old ⟨b, off, sp⟩ rfl (by omega)
theorem row_end {w : World} {a : Option Addr} {m : Nat} {l : List (BitVec 8)} (h : BRow w a m m l) : BRow w a 0 0 (l.drop m) where
  len_eq := by have := h.len_eq; simp; omega
  le := Nat.le_refl _
  most := by omega
  room := by omega
  none := fun _ => ⟨rfl, rfl⟩
  cell := fun b off e i hi => absurd hi (by omega)
  spot := fun x e h0 => absurd h0 (by omega)
  old := fun x e h0 => absurd h0 (by omega)
end Go.Bv
namespace Go.Proofs.YtebcfbcfipmahaaGreat
open Go Go.RowKit Go.Bv Go.Shelf
attribute [local go_sem] Oper.semAt_some
set_option linter.unusedVariables false
set_option maxRecDepth 100000 in
set_option maxHeartbeats 4000000 in
theorem each_stops (m p : Nat) (a : Option Addr) (n c : Nat) (l : List (BitVec 8)) (w w0 : World) (hm : 3 ≤ m) (hw0 : Below w.heap.size w w0) (hp : w0.heap[p]? = some (.cells #[.slice a n c] 40 (0, 0))) (h : BRow w a n c l) (hlim : n ≤ 1000000) :
    SeqStopsK Fence.wide m Tryz.prog 113 #[.pointer (some ⟨p, 0, none⟩)] (fun x : BitVec 64 => #[.int .u64 (W64 x)]) (Below w.heap.size) (fun xs => xs = chL l) (fun _ => True) (n / 7 + 1) w0 := fun rl J Jx W hW hJ hJx hY h0 => by
  have k0 := cell_of_row _ _ 0 _ _ _ ((hW.block _ (lt_of_block hp)).trans hp)
  have HH := Lib.hid h
  have HW := Lib.hid (hw0.trans (hW.mono hw0.size))
  have HY := Lib.hid hY
  have H0 := Lib.hid h0
  have HJA := Lib.hid hJ
  clear hJ hJx hp h hW hY h0 hw0
  refine callsIn_of_wp Tryz.func113 rfl trivial ?_ rfl
  simp only [Tryz.ntmps113, List.size_toArray, List.length_cons, List.length_nil, Nat.reduceAdd, Nat.reduceSub, Array.replicate_succ, Array.replicate_zero, List.push_toArray, List.append_toArray, List.nil_append, List.cons_append]
  gi_wp2
  gi_loopw [3] (fun sv wr => ∃ (k nk ck : Nat) (ak : Option Addr), sv = .slice ak nk ck ∧ Hid (BRow w ak nk ck (l.drop (7 * k)) ∧ nk + 7 * k = n) ∧ J (chP l k) wr ∧ Below w.heap.size w wr) (fun sv _ => lenV sv)
  case atStart => exact ⟨0, n, c, a, rfl, Lib.hid ⟨HH.out, rfl⟩, H0.out, HW.out⟩
  case round =>
    clear k0 HW H0
    obtain ⟨k, nk, ck, ak, rfl, HR, hj, hb⟩ := hrel
    have HJ := Lib.hid hj
    have HB := Lib.hid hb
    clear hj hb
    have hle := HR.out.1.le
    have hmo := HR.out.1.most
    have hro := HR.out.1.room
    by_cases h7 : (7 : Int) ≤ (nk : Int)
    · have ht := tail_any ak 7 ck _ wr ((row_front HR.out.1 (show 7 ≤ nk by omega)).stay HB.out)
      rw [show min 7 8 = 7 from rfl, num_sub l (7 * k) 7] at ht
      obtain ⟨y, hy⟩ : ∃ z, num (fun i => l.getD (7 * k + i) 0) 7 = z := ⟨_, rfl⟩
      rw [hy] at ht
      have HT := Lib.hid ht
      have HCS : Hid (chP l (k + 1) = chP l k ++ [y]) := Lib.hid (by rw [chP_succ, ← hy]; rfl)
      clear ht hy
      obtain ⟨b, off, rfl, _⟩ := HR.out.1.addr (by omega)
      obtain ⟨fn, tmps, assign, body, hyi, hR⟩ := HY.out (chP l k) y wr HJ.out (by rw [chP_len]; have := HR.out.2; omega)
      have HRN := Lib.hid hR
      clear hR
      gi_wp2
      refine ⟨trivial, fun h => (by cases h), ?_⟩
      refine (callsIn_wide.2 HT.out).mono ?_
      rintro e w' ⟨rfl, hw⟩
      replace hw := hw.symm
      subst hw
      gi_wp2
      refine ⟨fun h => (by cases h), (HRN.out).mono ?_⟩
      rintro e W1 (⟨rfl, hj, hk⟩ | ⟨rfl, hx⟩)
      · have HJ1 := Lib.hid hj
        have HB1 := Lib.hid (HB.out.trans hk)
        clear hj hk HRN hyi HT
        by_cases hc7 : (ck : Int) = 7
        · obtain rfl : ck = 7 := by omega
          have HE : Hid (BRow w (some ⟨b, off, none⟩) 0 0 (l.drop (7 * (k + 1))) ∧ 0 + 7 * (k + 1) = n) := Lib.hid (by
            obtain ⟨h1, h2⟩ := HR.out
            obtain rfl : nk = 7 := by omega
            have h3 := row_end h1
            rw [List.drop_drop] at h3
            exact ⟨by rw [show 7 * (k + 1) = 7 * k + 7 by omega]; exact h3, by omega⟩)
          gi_wp2
          exact ⟨⟨k + 1, 0, 0, _, rfl, HE, by rw [HCS.out]; exact HJ1.out, HB1.out⟩, by simp [lenV]; omega⟩
        · have HE : Hid (BRow w (some ⟨b, off + 7, none⟩) (nk - 7) (ck - 7) (l.drop (7 * (k + 1))) ∧ nk - 7 + 7 * (k + 1) = n) := Lib.hid (by
            obtain ⟨h1, h2⟩ := HR.out
            obtain ⟨sp2, e, h3⟩ := row_rest h1 (show 7 ≤ nk by omega)
            simp [Addr.add] at e
            subst e
            rw [List.drop_drop] at h3
            exact ⟨by rw [show 7 * (k + 1) = 7 * k + 7 by omega]; exact h3, by omega⟩)
          gi_wp2
          exact ⟨⟨k + 1, nk - 7, ck - 7, _, rfl, HE, by rw [HCS.out]; exact HJ1.out, HB1.out⟩, by simp [lenV]; omega⟩
      · gi_wp2
        refine bodyPost_ret (results_none rfl _ _ _) rfl ?_
        exact ⟨⟨_, rfl⟩, .inr ⟨_, trivial, hx⟩⟩
    · have hnd : Below w.heap.size w wr.drew := HB.out.drew
      have ht := tail_any ak nk ck _ wr.drew (HR.out.1.stay hnd)
      have hkn : nk ≤ 6 := by omega
      have hmin : min nk 8 = nk := by omega
      rw [hmin] at ht
      have HT := Lib.hid ht
      clear ht hmin
      have hmx : Tryz.prog.follows .mixedOrders = true := by kernel_rfl
      have hsh : ∀ w, (Op.shift BinOp.shl IntKind.u64 1 IntKind.i64 (IntKind.i64.wrap (8 * (nk : Int)))).run Tryz.prog w = .ok (.int .u64 (W64 (BitVec.ofNat 64 (256 ^ nk)))) w := by
        rcases (show nk = 0 ∨ nk = 1 ∨ nk = 2 ∨ nk = 3 ∨ nk = 4 ∨ nk = 5 ∨ nk = 6 by omega) with rfl | rfl | rfl | rfl | rfl | rfl | rfl <;> (intro w; rfl)
      have HCL : Hid (chL l = chP l k ++ [num (fun i => (l.drop (7 * k)).getD i 0) nk + BitVec.ofNat 64 (256 ^ nk)]) := Lib.hid (by
        obtain ⟨h1, h2⟩ := HR.out
        have hl := HH.out.len_eq
        unfold chL chZ
        rw [hl, show n / 7 = k by omega, show n % 7 = nk by omega]
        have e : rd l (7 * k) nk = num (fun i => (l.drop (7 * k)).getD i 0) nk := by
          unfold rd; congr 1; funext i; simp [List.getD_eq_getElem?_getD]
        rw [e])
      obtain ⟨y, hy⟩ : ∃ z, num (fun i => (l.drop (7 * k)).getD i 0) nk = z := ⟨_, rfl⟩
      rw [hy] at HT HCL
      obtain ⟨mk, hmk⟩ : ∃ z, BitVec.ofNat 64 (256 ^ nk) = z := ⟨_, rfl⟩
      rw [hmk] at HCL
      simp only [hmk] at hsh
      have HJD := Lib.hid (HJA.out (chP l k) wr wr.drew none HJ.out ⟨rfl, rfl, rfl, Nat.le_refl _, fun _ _ _ => rfl⟩ (fun r e => by cases e))
      obtain ⟨fn, tmps, assign, body, hyi, hR⟩ := HY.out (chP l k) (y + mk) wr.drew HJD.out (by rw [chP_len]; have := HR.out.2; omega)
      have HRN := Lib.hid (hR.mono (R' := fun e W' => ∃ bb, e = .returned (.bool bb) ∧ ((J (chP l k ++ [y + mk]) W' ∧ Below w.heap.size wr.drew W') ∨ Jx (chP l k ++ [y + mk]) W')) (by
        rintro e W1 (⟨rfl, h1, h2⟩ | ⟨rfl, h1⟩)
        · exact ⟨true, rfl, .inl ⟨h1, h2⟩⟩
        · exact ⟨false, rfl, .inr h1⟩))
      clear hR hy hmk
      gi_wp2
      gi_region_with_o (first
        | (refine ⟨trivial, fun h => (by cases h), ?_⟩; refine (callsIn_wide.2 HT.out).mono ?_; rintro e w' ⟨rfl, hw⟩; replace hw := hw.symm; subst hw)
        | (refine ⟨fun h => (by cases h), (HRN.out).mono ?_⟩; rintro e W1 ⟨bb, rfl, hor⟩))
      all_goals gi_wp2
      all_goals (
        go_end0
        refine ⟨⟨_, rfl⟩, ?_⟩
        rcases hor with ⟨hj, _⟩ | hx
        · exact .inl ⟨_, HCL.out.symm, hj⟩
        · exact .inr ⟨_, trivial, hx⟩)
end Go.Proofs.YtebcfbcfipmahaaGreat
namespace Go.Proofs.YtebcfbcfipmahaaGreat
open Go Go.RowKit Go.Bv Go.Shelf
attribute [local go_sem] Oper.semAt_some
set_option linter.unusedVariables false
theorem each_q (a : Option Addr) (n c : Nat) (w : World) :
    Calls Tryz.prog 67 #[.slice a n c] w fun e w' => e = .returned (.func (Fn.func 113) #[] #[.pointer (some ⟨w.heap.size, 0, none⟩)]) ∧ w' = w.alloc (.cells #[.slice a n c] 40) := by
  have hmf : ∀ (fn : Fn) (first cap : Array Value) (w : World), (Instr.makeFunc fn first cap).run Tryz.prog w = .ok (.func fn first cap) w := fun _ _ _ _ => rfl
  go_enter Tryz.func67, Tryz.ntmps67
  go_wp2
  go_ret
  exact ⟨rfl, rfl⟩
set_option maxHeartbeats 2000000 in
theorem sapp_no (a h x : BitVec 64) (ha : a.toNat < PP) (hh : h.toNat < PP) (hx : ¬ x.toNat < PP) (w : World) :
    Calls Tryz.prog 68 #[.int .u64 (W64 a), .int .u64 (W64 h), .int .u64 (W64 x)] w fun e w' => e = .returned (.tuple #[.int .u64 0, .int .i64 2]) ∧ New w w' := by
  have g1 : decide (2305843009213693951 ≤ W64 a) = false := decide_eq_false (by unfold PP at ha; unfold W64; omega)
  have g2 : decide (2305843009213693951 ≤ W64 h) = false := decide_eq_false (by unfold PP at hh; unfold W64; omega)
  have g3 : decide (2305843009213693951 ≤ W64 x) = true := decide_eq_true (by unfold PP at hx; unfold W64; omega)
  clear ha hh hx
  go_enter Tryz.func68, Tryz.ntmps68
  go_wp2
  go_ret2
  exact ⟨rfl, New.refl _⟩
end Go.Proofs.YtebcfbcfipmahaaGreat
namespace Go.Proofs.YtebcfbcfipmahaaGreat
open Go Go.RowKit Go.Bv Go.Shelf
attribute [local go_sem] Oper.semAt_some
set_option linter.unusedVariables false
/-- one chunk more, whatever it is -/
def stp (x h y : BitVec 64) : BitVec 64 := if y.toNat < PP then mp (h.toNat * x.toNat + y.toNat) else 0#64
def fo (x : BitVec 64) (pre : List (BitVec 64)) : BitVec 64 := pre.foldl (stp x) 1#64
theorem fo_snoc (x : BitVec 64) (pre : List (BitVec 64)) (y : BitVec 64) : fo x (pre ++ [y]) = stp x (fo x pre) y := by unfold fo; rw [List.foldl_append]; rfl
theorem stp_lt (x h y : BitVec 64) : (stp x h y).toNat < PP := by
  unfold stp; split
  · exact mp_lt _
  · decide
theorem fo_lt (x : BitVec 64) (pre : List (BitVec 64)) : (fo x pre).toNat < PP := by
  rcases List.eq_nil_or_concat pre with rfl | ⟨l, y, rfl⟩
  · show (1#64 : BitVec 64).toNat < PP; decide
  · rw [List.concat_eq_append, fo_snoc]; exact stp_lt _ _ _
theorem sapp_any (a h x : BitVec 64) (ha : a.toNat < PP) (hh : h.toNat < PP) (w : World) :
    Calls Tryz.prog 68 #[.int .u64 (W64 a), .int .u64 (W64 h), .int .u64 (W64 x)] w fun e w' => ∃ er : Int, e = .returned (.tuple #[.int .u64 (W64 (stp a h x)), .int .i64 er]) ∧ New w w' := by
  unfold stp
  by_cases hx : x.toNat < PP
  · rw [if_pos hx]
    exact (sapp_ok a h x ha hh hx w).mono (fun e w' hh => ⟨0, hh⟩)
  · rw [if_neg hx, lo_zero]
    exact (sapp_no a h x ha hh hx w).mono (fun e w' hh => ⟨2, hh⟩)
theorem fo_hor (x : BitVec 64) : ∀ pre : List (BitVec 64), (∀ y ∈ pre, y.toNat < PP) → fo x pre = hor x pre := by
  intro pre h
  unfold fo hor
  have : ∀ (l : List (BitVec 64)) (h0 : BitVec 64), (∀ y ∈ l, y.toNat < PP) → l.foldl (stp x) h0 = l.foldl (fun h y => mp (h.toNat * x.toNat + y.toNat)) h0 := by
    intro l
    induction l with
    | nil => intro h0 _; rfl
    | cons y l ih =>
      intro h0 hl
      rw [List.foldl_cons, List.foldl_cons, ih _ (fun z hz => hl z (List.mem_cons_of_mem _ hz))]
      congr 1
      unfold stp; rw [if_pos (hl y List.mem_cons_self)]
  exact this pre _ h
theorem chL_lt (l : List (BitVec 8)) : ∀ y ∈ chL l, y.toNat < PP := by
  intro y hy
  unfold chL at hy
  rcases List.mem_append.1 hy with h | h
  · unfold chP at h
    obtain ⟨i, _, rfl⟩ := List.mem_map.1 h
    have := num_lt (fun j => l.getD (7 * i + j) 0) 7 (by omega)
    exact Nat.lt_trans (show (rd l (7 * i) 7).toNat < 256 ^ 7 from this) (by decide)
  · rw [List.mem_singleton] at h
    subst h
    unfold chZ
    have h1 : l.length % 7 ≤ 6 := by omega
    have h2 := num_lt (fun j => l.getD (7 * (l.length / 7) + j) 0) (l.length % 7) (by omega)
    have h3 : (rd l (7 * (l.length / 7)) (l.length % 7)).toNat < 256 ^ (l.length % 7) := h2
    have h4 : 256 ^ (l.length % 7) ≤ 256 ^ 6 := Nat.pow_le_pow_right (by omega) h1
    rw [BitVec.toNat_add, BitVec.toNat_ofNat]
    have h5 : (256 : Nat) ^ 6 = 281474976710656 := by decide
    show _ < 2305843009213693951
    omega
set_option maxRecDepth 100000 in
set_option maxHeartbeats 4000000 in
theorem seval_ok (x : BitVec 64) (a : Option Addr) (n c : Nat) (l : List (BitVec 8)) (w : World) (h : BRow w a n c l) (hlim : n ≤ 4096) (hx : x.toNat < PP) :
    Calls Tryz.prog 41 #[.int .u64 (W64 x), .slice a n c] w fun e w' => e = .returned (.tuple #[.int .u64 (W64 (hor x (chL l))), .int .i64 0]) ∧ New w w' := by
  have hg : decide (2305843009213693951 ≤ W64 x) = false := decide_eq_false (by unfold PP at hx; unfold W64; omega)
  have hle : ¬ (4096 : Int) < (n : Int) := by omega
  have HH := Lib.hid h
  have HE := Lib.hid (fun w => each_q a n c w)
  clear h
  refine (callsIn_wide (n := 9)).1 ?_
  refine callsIn_of_wp_marks Tryz.func41 rfl trivial ?_ rfl
  simp only [Tryz.ntmps41, List.size_toArray, List.length_cons, List.length_nil, Nat.reduceAdd, Nat.reduceSub, Array.replicate_succ, Array.replicate_zero, List.push_toArray, List.append_toArray, List.nil_append, List.cons_append]
  gi_wp2
  refine ⟨trivial, ?_⟩
  refine (callsIn_wide.2 (HE.out _)).mono ?_
  rintro e w' ⟨rfl, hw⟩
  replace hw := hw.symm
  subst hw
  gi_wp2
  have hb1 := heap_alloc_new w (.cells #[.int .u64 (W64 x)] 31)
  have hs1 : (w.alloc (.cells #[.int .u64 (W64 x)] 31)).heap.size = w.heap.size + 1 := by simp
  have hs2 : ((w.alloc (.cells #[.int .u64 (W64 x)] 31)).alloc (.cells #[.int .u64 1] 31)).heap.size = w.heap.size + 1 + 1 := by simp
  have hn2 := (New.refl (w.alloc (.cells #[.int .u64 (W64 x)] 31))).alloc (.cells #[.int .u64 1] 31)
  have hn3 := (New.refl ((w.alloc (.cells #[.int .u64 (W64 x)] 31)).alloc (.cells #[.int .u64 1] 31))).alloc (.cells #[.slice a n c] 40)
  have hX := (hn3.block _ (by rw [hs2]; omega)).trans ((hn2.block _ (by rw [hs1]; omega)).trans hb1)
  have hb2 := heap_alloc_new (w.alloc (.cells #[.int .u64 (W64 x)] 31)) (.cells #[.int .u64 1] 31)
  rw [hs1] at hb2
  have hH := (hn3.block _ (by rw [hs2]; omega)).trans hb2
  have hB := heap_alloc_new ((w.alloc (.cells #[.int .u64 (W64 x)] 31)).alloc (.cells #[.int .u64 1] 31)) (.cells #[.slice a n c] 40)
  rw [hs2] at hB
  have hN : New w (((w.alloc (.cells #[.int .u64 (W64 x)] 31)).alloc (.cells #[.int .u64 1] 31)).alloc (.cells #[.slice a n c] 40)) := (((New.refl w).alloc _).alloc _).alloc _
  have hs3 : (((w.alloc (.cells #[.int .u64 (W64 x)] 31)).alloc (.cells #[.int .u64 1] 31)).alloc (.cells #[.slice a n c] 40)).heap.size = w.heap.size + 3 := by simp
  generalize ((w.alloc (.cells #[.int .u64 (W64 x)] 31)).alloc (.cells #[.int .u64 1] 31)).alloc (.cells #[.slice a n c] 40) = w3 at *
  clear hb1 hs1 hs2 hn2 hn3 hb2
  have hcX : w3.cell? ⟨w.heap.size, 0, none⟩ = some (.int .u64 (W64 x)) := by rw [cell_of_row _ _ _ _ _ _ hX]; rfl
  have hcH : w3.cell? ⟨w.heap.size + 1, 0, none⟩ = some (.int .u64 (W64 (fo x []))) := by rw [cell_of_row _ _ _ _ _ _ hH]; rfl
  have hfH := frozen_of_row w3 (w.heap.size + 1) 0 _ _ hH
  refine wpIn_rangeFunc_ownF (F := Fence.wide) (n := 9) rfl (by omega) (gf := 113) (lb := #[.pointer (some ⟨w.heap.size + 1 + 1, 0, none⟩)]) rfl trivial (enters_of Tryz.func113 (by kernel_rfl) rfl)
    (each_stops 8 (w.heap.size + 1 + 1) a n c l w w3 (by omega) hN hB HH.out (by omega)) belowK_t (belowK_b (by rw [hs3]; omega)) (Below.refl _ _) (fun _ => rfl)
    (fun pre W => (W.cell? ⟨w.heap.size + 1, 0, none⟩ = some (.int .u64 (W64 (fo x pre))) ∧ W.frozen? ⟨w.heap.size + 1, 0, none⟩ = false ∧ W.cell? ⟨w.heap.size, 0, none⟩ = some (.int .u64 (W64 x))) ∧ Below w.heap.size w W)
    (fun _ _ _ => False)
    (OwnFrom.and (Own.from (fun s A B row hs hg hr => ⟨cell_kept hs.1 hg hr, (frozen_kept hs.1 hg hr).trans hs.2.1, cell_kept hs.2.2 hg hr⟩) _) (ownFrom_below (Nat.le_refl _) (by rw [hs3]; omega)))
    (fun _ _ _ _ _ hs _ _ => hs)
    ⟨⟨hcH, hfH, hcX⟩, hN⟩
    (fun y => { tmps := #[.int .u64 (W64 x), .slice a n c, .pointer (some ⟨w.heap.size, 0, none⟩), undef, .int .u64 0, .int .i64 0, .pointer (some ⟨w.heap.size + 1, 0, none⟩), .int .u64 (W64 y), .slice a n c, .int .i64 n, .bool false, .int .u64 (W64 x), .bool false, .slice a n c, .func (.func 113) #[] #[.pointer (some ⟨w.heap.size + 1 + 1, 0, none⟩)], .int .u64 (W64 y), undef, undef, undef, undef, undef, undef, undef, undef], defers := [] }) ?assign ?body ?done ?stop
  case assign =>
    intro l y W K hK
    gi_wp2
    exact hK
  case body =>
    rintro rl pre y W ⟨⟨hc, hf, hx0⟩, hbw⟩ _
    have HA := Lib.hid (sapp_any x (fo x pre) y hx (fo_lt x pre) W)
    gi_wp2
    refine ⟨trivial, ?_⟩
    refine (CallsIn.inRound rl (callsIn_wide.2 HA.out)).mono ?_
    rintro e W1 ⟨er, rfl, hn⟩
    have hlt := World.block_lt_of_cell? _ _ hc
    have hc1 := (hn.cell (a := ⟨w.heap.size + 1, 0, none⟩) hlt).trans hc
    have hf1 : W1.frozen? ⟨w.heap.size + 1, 0, none⟩ = false := (World.frozen?_of_block (hn.block _ hlt)).trans hf
    have hx1 := (hn.cell (a := ⟨w.heap.size, 0, none⟩) (World.block_lt_of_cell? _ _ hx0)).trans hx0
    have hg1 : W.grownBy W1 none := ⟨hn.1, hn.2, hn.3, hn.4, fun k hk _ => hn.5 k hk⟩
    have HB1 := Lib.hid (hbw.trans (hn.mono hbw.size))
    have HN1 := Lib.hid (hn.mono hbw.size)
    gi_wp2
    exact ⟨(KeepsOthers.of_grownBy hg1 (by simp)).trans (KeepsOthers.setCell _ _ _), HN1.out.trans ((Below.refl w.heap.size W1).setCell (p := ⟨w.heap.size + 1, 0, none⟩) (Nat.le_succ _) _), ⟨⟨by rw [fo_snoc]; exact World.cell?_setCell_same' _ _ _ (by rw [hc1]; rfl), by rw [World.frozen?_setCell]; exact hf1, (World.cell?_of_block (a := ⟨w.heap.size, 0, none⟩) (heap_setCell_other W1 ⟨w.heap.size + 1, 0, none⟩ w.heap.size _ (by show w.heap.size ≠ w.heap.size + 1; omega))).trans hx1⟩, HB1.out.setCell (p := ⟨w.heap.size + 1, 0, none⟩) (Nat.le_succ _) _⟩⟩
  case done =>
    rintro D ys W hD rfl ⟨⟨hc, hf, hx0⟩, hbw⟩ hK
    rw [fo_hor x _ (chL_lt l)] at hc
    gi_wp2
    refine ⟨by simp, .inl ⟨_, _, rfl, run_takeDeferred hK, ?_⟩⟩
    exact ⟨_, results_tmp2 rfl _ _ _, rfl, hbw.trans (belowK_b (Nat.le_refl _) W D _ _ (by omega) hK rfl rfl)⟩
  case stop =>
    rintro D c pre W hD _ h _
    exact h.elim
end Go.Proofs.YtebcfbcfipmahaaGreat
namespace Go.Proofs.YtebcfbcfipmahaaGreat
open Go Go.RowKit Go.Bv
set_option linter.unusedVariables false
set_option maxHeartbeats 2000000 in
theorem seval_any (x : BitVec 64) (a : Option Addr) (n c : Nat) (l : List (BitVec 8)) (w : World) (h : BRow w a n c l) :
    Calls Tryz.prog 41 #[.int .u64 (W64 x), .slice a n c] w fun e w' => e = .returned (.tuple #[.int .u64 (W64 (seV x l)), .int .i64 (seE x n)]) ∧ New w w' := by
  have hl := h.len_eq
  have hm := h.most
  by_cases h1 : 4096 < (n : Int)
  · have e1 : seE x n = 4 := by unfold seE; rw [if_pos (by omega)]
    have e2 : seV x l = 0#64 := by unfold seV; rw [hl, e1]; rfl
    rw [e1, e2, lo_zero]
    clear e1 e2 hl h
    go_enter Tryz.func41, Tryz.ntmps41
    go_wp2
    go_ret2
    exact ⟨rfl, (New.refl _).alloc _⟩
  · by_cases h2 : PP ≤ x.toNat
    · have e1 : seE x n = 2 := by unfold seE; rw [if_neg (by omega), if_pos h2]
      have e2 : seV x l = 0#64 := by unfold seV; rw [hl, e1]; rfl
      have hg : decide (2305843009213693951 ≤ W64 x) = true := decide_eq_true (by unfold PP at h2; unfold W64; omega)
      rw [e1, e2, lo_zero]
      clear e1 e2 hl h h2
      go_enter Tryz.func41, Tryz.ntmps41
      go_wp2
      go_ret2
      exact ⟨rfl, (New.refl _).alloc _⟩
    · have e1 : seE x n = 0 := by unfold seE; rw [if_neg (by omega), if_neg h2]
      have e2 : seV x l = hor x (chL l) := by unfold seV; rw [hl, e1, hor_value]; rfl
      rw [e1, e2]
      exact seval_ok x a n c l w h (by omega) (by omega)
set_option maxHeartbeats 2000000 in
theorem sapp_bad (a h x : BitVec 64) (hb : ¬ (a.toNat < PP ∧ h.toNat < PP ∧ x.toNat < PP)) (w : World) :
    Calls Tryz.prog 68 #[.int .u64 (W64 a), .int .u64 (W64 h), .int .u64 (W64 x)] w fun e w' => e = .returned (.tuple #[.int .u64 0, .int .i64 2]) ∧ New w w' := by
  by_cases ha : a.toNat < PP
  · have g1 : decide (2305843009213693951 ≤ W64 a) = false := decide_eq_false (by unfold PP at ha; unfold W64; omega)
    by_cases hh : h.toNat < PP
    · exact sapp_no a h x ha hh (fun hx => hb ⟨ha, hh, hx⟩) w
    · have g2 : decide (2305843009213693951 ≤ W64 h) = true := decide_eq_true (by unfold PP at hh; unfold W64; omega)
      clear ha hh hb
      go_enter Tryz.func68, Tryz.ntmps68
      go_wp2
      go_ret2
      exact ⟨rfl, New.refl _⟩
  · have g1 : decide (2305843009213693951 ≤ W64 a) = true := decide_eq_true (by unfold PP at ha; unfold W64; omega)
    clear ha hb
    go_enter Tryz.func68, Tryz.ntmps68
    go_wp2
    go_ret2
    exact ⟨rfl, New.refl _⟩
end Go.Proofs.YtebcfbcfipmahaaGreat
namespace Go.Proofs.YtebcfbcfipmahaaGreat
open Go Go.RowKit Go.Bv Go.Shelf
attribute [local go_sem] Oper.semAt_some
set_option linter.unusedVariables false
end Go.Proofs.YtebcfbcfipmahaaGreat
