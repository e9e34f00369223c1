/- strpoly.each: the iterator's word, for every body. -/
import Derived.Test.YtiboncnfepnjcaaStrM
import Derived.RangeFuncNested
import Derived.RangeFuncBound
import Derived.RangeFuncCalls
import Derived.RangeFuncLeaves
import Derived.Shelf.Abstract
import Derived.Shelf.RegionOpen
import Derived.WalkKit
import Derived.OwnWalkIn
import Derived.TacticsInMore
import Derived.LoopNIn
import Derived.LoopIn
namespace Go.Bv
open Go Go.RowKit
theorem row_front {w : World} {a : Option Addr} {n c j : Nat} {m : List (BitVec 8)} (h : BRow w a n c m) (hj : j ≤ n) : BRow w a j c (m.take j) where
  len_eq := by have := h.len_eq; simp; omega
  le := Nat.le_trans hj h.le
  most := Nat.le_trans hj h.most
  room := h.room
  none := fun e => ⟨by have := (h.none e).1; omega, (h.none e).2⟩
  cell := fun b off e i hi => by
    rw [h.cell b off e i (by omega)]
    simp [List.getD_eq_getElem?_getD, hi]
  spot := fun x e h0 => h.spot x e (by omega)
  old := fun x e h0 => h.old x e (by omega)
theorem row_rest {w : World} {b off : Nat} {sp : Option Nat} {len cap m : Nat} {l : List (BitVec 8)} (h : BRow w (some ⟨b, off, sp⟩) len cap l) (hm : m ≤ len) :
    ∃ sp2, (⟨b, off, sp⟩ : Addr).add m = ⟨b, off + m, sp2⟩ ∧ BRow w (some ⟨b, off + m, sp2⟩) (len - m) (cap - m) (l.drop m) := by
  by_cases h0 : m = 0
  · subst h0
    exact ⟨sp, by simp [Addr.add], by simpa using h⟩
  · refine ⟨Option.none, by simp [Addr.add, h0], ?_, ?_, ?_, ?_, ?_, ?_, ?_, ?_⟩
    · have := h.len_eq; simp; omega
    · have := h.le; omega
    · have := h.most; omega
    · have := h.room; omega
    · intro e; cases e
    · intro b' off' e i hi
      cases e
      have hs := h.spot _ rfl (by omega)
      simp only at hs
      subst hs
      have := h.cell b off rfl (m + i) (by omega)
      rw [Nat.add_assoc, this]
      simp [List.getD_eq_getElem?_getD, List.getElem?_drop]
    · intro x e _; cases e; rfl
    · intro x e h1; cases e
      exact h.old ⟨b, off, sp⟩ rfl (by omega)
theorem row_end {w : World} {a : Option Addr} {m : Nat} {l : List (BitVec 8)} (h : BRow w a m m l) : BRow w a 0 0 (l.drop m) where
  len_eq := by have := h.len_eq; simp; omega
  le := Nat.le_refl _
  most := by omega
  room := by omega
  none := fun _ => ⟨rfl, rfl⟩
  cell := fun b off e i hi => absurd hi (by omega)
  spot := fun x e h0 => absurd h0 (by omega)
  old := fun x e h0 => absurd h0 (by omega)
end Go.Bv
namespace Go.Proofs.Ytiboncnfepnjcaa
open Go Go.RowKit Go.Bv Go.Shelf
attribute [local go_sem] Oper.semAt_some
set_option linter.unusedVariables false
set_option maxRecDepth 100000 in
set_option maxHeartbeats 4000000 in
theorem each_stops (m p : Nat) (a : Option Addr) (n c : Nat) (l : List (BitVec 8)) (w w0 : World) (hm : 3 ≤ m) (hw0 : Below w.heap.size w w0) (hp : w0.heap[p]? = some (.cells #[.slice a n c] 48 (0, 0))) (h : BRow w a n c l) (hlim : n ≤ 1000000) :
    SeqStopsK Fence.wide m Try.prog 84 #[.pointer (some ⟨p, 0, none⟩)] (fun x : BitVec 64 => #[.int .u64 (W64 x)]) (Below w.heap.size) (fun xs => xs = chL l) (fun _ => True) (n / 7 + 1) w0 := fun rl J Jx W hW hJ hJx hY h0 => by
  have k0 := cell_of_row _ _ 0 _ _ _ ((hW.block _ (lt_of_block hp)).trans hp)
  have HH := Lib.hid h
  have HW := Lib.hid (hw0.trans (hW.mono hw0.size))
  have HY := Lib.hid hY
  have H0 := Lib.hid h0
  have HJA := Lib.hid hJ
  clear hJ hJx hp h hW hY h0 hw0
  refine callsIn_of_wp Try.func84 rfl trivial ?_ rfl
  simp only [Try.ntmps84, List.size_toArray, List.length_cons, List.length_nil, Nat.reduceAdd, Nat.reduceSub, Array.replicate_succ, Array.replicate_zero, List.push_toArray, List.append_toArray, List.nil_append, List.cons_append]
  gi_wp2
  gi_loopw [3] (fun sv wr => ∃ (k nk ck : Nat) (ak : Option Addr), sv = .slice ak nk ck ∧ Hid (BRow w ak nk ck (l.drop (7 * k)) ∧ nk + 7 * k = n) ∧ J (chP l k) wr ∧ Below w.heap.size w wr) (fun sv _ => lenV sv)
  case atStart => exact ⟨0, n, c, a, rfl, Lib.hid ⟨HH.out, rfl⟩, H0.out, HW.out⟩
  case round =>
    clear k0 HW H0
    obtain ⟨k, nk, ck, ak, rfl, HR, hj, hb⟩ := hrel
    have HJ := Lib.hid hj
    have HB := Lib.hid hb
    clear hj hb
    have hle := HR.out.1.le
    have hmo := HR.out.1.most
    have hro := HR.out.1.room
    by_cases h7 : (7 : Int) ≤ (nk : Int)
    · have ht := tail_any ak 7 ck _ wr ((row_front HR.out.1 (show 7 ≤ nk by omega)).stay HB.out)
      rw [show min 7 8 = 7 from rfl, num_sub l (7 * k) 7] at ht
      obtain ⟨y, hy⟩ : ∃ z, num (fun i => l.getD (7 * k + i) 0) 7 = z := ⟨_, rfl⟩
      rw [hy] at ht
      have HT := Lib.hid ht
      have HCS : Hid (chP l (k + 1) = chP l k ++ [y]) := Lib.hid (by rw [chP_succ, ← hy]; rfl)
      clear ht hy
      obtain ⟨b, off, rfl, _⟩ := HR.out.1.addr (by omega)
      obtain ⟨fn, tmps, assign, body, hyi, hR⟩ := HY.out (chP l k) y wr HJ.out (by rw [chP_len]; have := HR.out.2; omega)
      have HRN := Lib.hid hR
      clear hR
      gi_wp2
      refine ⟨trivial, fun h => (by cases h), ?_⟩
      refine (callsIn_wide.2 HT.out).mono ?_
      rintro e w' ⟨rfl, hw⟩
      replace hw := hw.symm
      subst hw
      gi_wp2
      refine ⟨fun h => (by cases h), (HRN.out).mono ?_⟩
      rintro e W1 (⟨rfl, hj, hk⟩ | ⟨rfl, hx⟩)
      · have HJ1 := Lib.hid hj
        have HB1 := Lib.hid (HB.out.trans hk)
        clear hj hk HRN hyi HT
        by_cases hc7 : (ck : Int) = 7
        · obtain rfl : ck = 7 := by omega
          have HE : Hid (BRow w (some ⟨b, off, none⟩) 0 0 (l.drop (7 * (k + 1))) ∧ 0 + 7 * (k + 1) = n) := Lib.hid (by
            obtain ⟨h1, h2⟩ := HR.out
            obtain rfl : nk = 7 := by omega
            have h3 := row_end h1
            rw [List.drop_drop] at h3
            exact ⟨by rw [show 7 * (k + 1) = 7 * k + 7 by omega]; exact h3, by omega⟩)
          gi_wp2
          exact ⟨⟨k + 1, 0, 0, _, rfl, HE, by rw [HCS.out]; exact HJ1.out, HB1.out⟩, by simp [lenV]; omega⟩
        · have HE : Hid (BRow w (some ⟨b, off + 7, none⟩) (nk - 7) (ck - 7) (l.drop (7 * (k + 1))) ∧ nk - 7 + 7 * (k + 1) = n) := Lib.hid (by
            obtain ⟨h1, h2⟩ := HR.out
            obtain ⟨sp2, e, h3⟩ := row_rest h1 (show 7 ≤ nk by omega)
            simp [Addr.add] at e
            subst e
            rw [List.drop_drop] at h3
            exact ⟨by rw [show 7 * (k + 1) = 7 * k + 7 by omega]; exact h3, by omega⟩)
          gi_wp2
          exact ⟨⟨k + 1, nk - 7, ck - 7, _, rfl, HE, by rw [HCS.out]; exact HJ1.out, HB1.out⟩, by simp [lenV]; omega⟩
      · gi_wp2
        refine bodyPost_ret (results_none rfl _ _ _) rfl ?_
        exact ⟨⟨_, rfl⟩, .inr ⟨_, trivial, hx⟩⟩
    · have hnd : Below w.heap.size w wr.drew := HB.out.drew
      have ht := tail_any ak nk ck _ wr.drew (HR.out.1.stay hnd)
      have hkn : nk ≤ 6 := by omega
      have hmin : min nk 8 = nk := by omega
      rw [hmin] at ht
      have HT := Lib.hid ht
      clear ht hmin
      have hmx : Try.prog.follows .mixedOrders = true := by kernel_rfl
      have hsh : ∀ w, (Op.shift BinOp.shl IntKind.u64 1 IntKind.i64 (IntKind.i64.wrap (8 * (nk : Int)))).run Try.prog w = .ok (.int .u64 (W64 (BitVec.ofNat 64 (256 ^ nk)))) w := by
        rcases (show nk = 0 ∨ nk = 1 ∨ nk = 2 ∨ nk = 3 ∨ nk = 4 ∨ nk = 5 ∨ nk = 6 by omega) with rfl | rfl | rfl | rfl | rfl | rfl | rfl <;> (intro w; rfl)
      have HCL : Hid (chL l = chP l k ++ [num (fun i => (l.drop (7 * k)).getD i 0) nk + BitVec.ofNat 64 (256 ^ nk)]) := Lib.hid (by
        obtain ⟨h1, h2⟩ := HR.out
        have hl := HH.out.len_eq
        unfold chL chZ
        rw [hl, show n / 7 = k by omega, show n % 7 = nk by omega]
        have e : rd l (7 * k) nk = num (fun i => (l.drop (7 * k)).getD i 0) nk := by
          unfold rd; congr 1; funext i; simp [List.getD_eq_getElem?_getD]
        rw [e])
      obtain ⟨y, hy⟩ : ∃ z, num (fun i => (l.drop (7 * k)).getD i 0) nk = z := ⟨_, rfl⟩
      rw [hy] at HT HCL
      obtain ⟨mk, hmk⟩ : ∃ z, BitVec.ofNat 64 (256 ^ nk) = z := ⟨_, rfl⟩
      rw [hmk] at HCL
      simp only [hmk] at hsh
      have HJD := Lib.hid (HJA.out (chP l k) wr wr.drew none HJ.out ⟨rfl, rfl, rfl, Nat.le_refl _, fun _ _ _ => rfl⟩ (fun r e => by cases e))
      obtain ⟨fn, tmps, assign, body, hyi, hR⟩ := HY.out (chP l k) (y + mk) wr.drew HJD.out (by rw [chP_len]; have := HR.out.2; omega)
      have HRN := Lib.hid (hR.mono (R' := fun e W' => ∃ bb, e = .returned (.bool bb) ∧ ((J (chP l k ++ [y + mk]) W' ∧ Below w.heap.size wr.drew W') ∨ Jx (chP l k ++ [y + mk]) W')) (by
        rintro e W1 (⟨rfl, h1, h2⟩ | ⟨rfl, h1⟩)
        · exact ⟨true, rfl, .inl ⟨h1, h2⟩⟩
        · exact ⟨false, rfl, .inr h1⟩))
      clear hR hy hmk
      gi_wp2
      gi_region_with_o (first
        | (refine ⟨trivial, fun h => (by cases h), ?_⟩; refine (callsIn_wide.2 HT.out).mono ?_; rintro e w' ⟨rfl, hw⟩; replace hw := hw.symm; subst hw)
        | (refine ⟨fun h => (by cases h), (HRN.out).mono ?_⟩; rintro e W1 ⟨bb, rfl, hor⟩))
      all_goals gi_wp2
      all_goals (
        go_end0
        refine ⟨⟨_, rfl⟩, ?_⟩
        rcases hor with ⟨hj, _⟩ | hx
        · exact .inl ⟨_, HCL.out.symm, hj⟩
        · exact .inr ⟨_, trivial, hx⟩)
end Go.Proofs.Ytiboncnfepnjcaa
