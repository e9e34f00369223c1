import Derived.Test.YtebcfbcfipmahaaGreatZ3StrB
import Derived.RangeFuncNested
import Derived.RangeFuncBound
import Derived.RangeFuncCalls
import Derived.RangeFuncLeaves
import Derived.Shelf.Abstract
import Derived.Shelf.RegionOpen
import Derived.WalkKit
import Derived.OwnWalkIn
import Derived.TacticsInMore
import Derived.LoopNIn
import Derived.LoopIn
import Derived.RangeFuncFrom
import Derived.Maps.AppendAt
import Derived.Deep.AppendLies
import Derived.WalkMore
import Derived.ScopeJumps
import Derived.Test.YtebcfbcfipmahaaGreatZ3FamH
import Derived.Test.YtebcfbcfipmahaaGreatZ3FamC
section
/- strpoly.each: the iterator's word, for every body. · strpoly.each: what it hands back; strpoly.Eval. · strpoly.Eval. · strpoly: Eval's errors, Append's errors. · strpoly.Chunks. -/
namespace Go.Bv
open Go Go.RowKit
end Go.Bv
namespace Go.Proofs.YtebcfbcfipmahaaGreat
open Go Go.RowKit Go.Bv Go.Shelf
attribute [local go_sem] Oper.semAt_some
set_option linter.unusedVariables false
end Go.Proofs.YtebcfbcfipmahaaGreat
namespace Go.Proofs.YtebcfbcfipmahaaGreat
open Go Go.RowKit Go.Bv Go.Shelf
attribute [local go_sem] Oper.semAt_some
set_option linter.unusedVariables false
end Go.Proofs.YtebcfbcfipmahaaGreat
namespace Go.Proofs.YtebcfbcfipmahaaGreat
open Go Go.RowKit Go.Bv Go.Shelf
attribute [local go_sem] Oper.semAt_some
set_option linter.unusedVariables false
/-- one chunk more, whatever it is -/
def stp (x h y : BitVec 64) : BitVec 64 := if y.toNat < PP then mp (h.toNat * x.toNat + y.toNat) else 0#64
def fo (x : BitVec 64) (pre : List (BitVec 64)) : BitVec 64 := pre.foldl (stp x) 1#64
end Go.Proofs.YtebcfbcfipmahaaGreat
namespace Go.Proofs.YtebcfbcfipmahaaGreat
open Go Go.RowKit Go.Bv
set_option linter.unusedVariables false
end Go.Proofs.YtebcfbcfipmahaaGreat
namespace Go.Proofs.YtebcfbcfipmahaaGreat
open Go Go.RowKit Go.Bv Go.Shelf
attribute [local go_sem] Oper.semAt_some
set_option linter.unusedVariables false
end Go.Proofs.YtebcfbcfipmahaaGreat
end
section
/- through: divided differences. -/
namespace Go.Proofs.YtebcfbcfipmahaaGreat
open Go.RowKit Go.Bv
set_option linter.unusedVariables false
theorem news_of_row {w : World} {a : Addr} {n c : Nat} {l : List (BitVec 64)} (h : QRow w (some a) n c l) : ∀ j u, (l.map fun x => Value.int .u64 (W64 x))[j]? = some u → w.cell? (a.add j) = some u := by
  intro j u hu
  rw [List.getElem?_map] at hu
  by_cases hj : j < l.length
  · rw [List.getElem?_eq_getElem hj] at hu
    obtain rfl : Value.int .u64 (W64 l[j]) = u := by simpa using hu
    have hl := h.len_eq
    have hsp := h.spot a rfl (by omega)
    obtain ⟨b, off, sp⟩ := a
    subst hsp
    have hc := h.cell b off rfl j (by omega)
    rw [show (⟨b, off, none⟩ : Addr).add j = ⟨b, off + j, none⟩ from by unfold Addr.add; split <;> simp_all, hc, List.getD_eq_getElem?_getD, List.getElem?_eq_getElem hj]; rfl
  · rw [List.getElem?_eq_none (by omega)] at hu; cases hu
theorem own_cells {w : World} {base : Nat} {e : TypeId} {g n cap : Nat} {l : List (BitVec 64)} (h : w.ownsRow base e 1 (.slice (some ⟨g, 0, none⟩) n cap) n (l.map fun x => .int .u64 (W64 x))) :
    n ≤ cap ∧ cap ≤ maxLen ∧ ∃ cs : Array Value, w.heap[g]? = some (.cells cs e (0, 0)) ∧ cs.size = cap ∧ ∀ k, k < n → cs[k]? = some (.int .u64 (W64 (l.getD k 0))) := by
  obtain ⟨hl, h2⟩ := h
  rcases h2 with ⟨h3, _⟩ | ⟨g', cap', cur, hv, _, hg, h4, h5, h6, h7⟩
  · cases h3
  · cases hv
    rw [Nat.mul_one] at h6 h7
    refine ⟨h4, h5, cur, hg, h6, fun k hk => ?_⟩
    have hl2 : l.length = n := by simpa using hl
    have h8 : (cur.toList.take n)[k]? = (l.map fun x => Value.int .u64 (W64 x))[k]? := by rw [h7]
    rw [List.getElem?_take_of_lt hk, Array.getElem?_toList, List.getElem?_map, List.getElem?_eq_getElem (by omega)] at h8
    rw [h8, List.getD_eq_getElem?_getD, List.getElem?_eq_getElem (by omega)]; rfl
set_option maxRecDepth 100000 in
set_option maxHeartbeats 8000000 in
theorem divided_q (a b : Option Addr) (n c c2 : Nat) (xs ys : List (BitVec 64)) (w : World) (hx : QRow w a n c xs) (hy : QRow w b n c2 ys) (h1 : 1 ≤ n) (h2 : n ≤ 64) :
    Calls Tryz.prog 150 #[.slice a n c, .slice b n c2] w fun e w' => ∃ a' c', e = .returned (.slice a' (n : Nat) c') ∧ QRow w' a' n c' (dL xs ys) ∧ New w w' := by
  obtain ⟨i0, hi, hz0, hz1, hz2⟩ := info_parts info_u64q
  have hmf : ∀ (fn : Fn) (first cap : Array Value) (w : World), (Instr.makeFunc fn first cap).run Tryz.prog w = .ok (.func fn first cap) w := fun _ _ _ _ => rfl
  obtain ⟨bx, ox, rfl, _⟩ := hx.addr (by omega)
  obtain ⟨yb, yo, rfl, _⟩ := hy.addr (by omega)
  have HX := Lib.hid hx
  have HY := Lib.hid hy
  have HLX := Lib.hid hx.len_eq
  have HLY := Lib.hid hy.len_eq
  clear hx hy
  have HP0 := Lib.hid (heap_alloc_new w (.cells #[.slice (some ⟨bx, ox, none⟩) n c] 28))
  have HN0 := Lib.hid ((New.refl w).alloc (.cells #[.slice (some ⟨bx, ox, none⟩) n c] 28))
  have HS0 : Hid ((w.alloc (.cells #[.slice (some ⟨bx, ox, none⟩) n c] 28)).heap.size = w.heap.size + 1) := Lib.hid (by simp)
  go_enter Tryz.func150, Tryz.ntmps150
  go_wp2_with (at_builtin; refine wpList_append_lies _ rfl _ _ 28 rfl (w.heap.size + 1) 31 i0 (.int .u64 0) 1 8 Tryz.underlying28 hi hz0 hz1 hz2 rfl (by decide) _ 0 [] rfl (World.ownsRow_nil _ _ _ 1) ⟨yb, yo, none⟩ n c2 (ys.map fun x => .int .u64 (W64 x)) rfl (by simp [HLY.out]) (news_of_row (HY.out.stay HN0.out)) (by intro u hu; obtain ⟨y, _, rfl⟩ := List.mem_map.1 hu; rfl) (by omega) (by unfold maxLen; omega) (by omega) (by rw [HS0.out]; exact Nat.le_refl _) (w.heap.size + 1) HS0.out ?_)
  intro g0 cap w2 how hgr hat hlt
  obtain rfl : g0 = w.heap.size + 1 := by
    rcases hat with e | e
    · cases e
    · exact e
  have hn2 : New w w2 := (HN0.out).grown' hgr (fun k hk => by cases hk)
  try rw [Nat.zero_add] at how
  try rw [List.nil_append] at how
  obtain ⟨hc1, hc2, cs0, hb0, hcs0⟩ := own_cells how
  have HP1 := Lib.hid ((hgr.block _ (lt_of_block HP0.out) (fun e => by cases e)).trans HP0.out)
  have HB0 := Lib.hid hb0
  have HN2 := Lib.hid hn2
  have HC0 := Lib.hid hcs0
  have HCAP := Lib.hid (show n ≤ cap ∧ cap ≤ maxLen from ⟨hc1, hc2⟩)
  clear how hgr hat hlt hn2 hc1 hc2 hb0 hcs0 HP0 HN0 HS0 HLY
  go_wp2_with fail
  go_loopw [7] (fun av wr => ∃ (q : Nat) (cs : Array Value), 1 ≤ q ∧ q ≤ n ∧ av = .int .i64 (q : Int) ∧ wr.heap[w.heap.size]? = some (.cells #[.slice (some ⟨bx, ox, none⟩) n c] 28 (0, 0)) ∧ wr.heap[w.heap.size + 1]? = some (.cells cs 31 (0, 0)) ∧ Hid (cs.size = cap ∧ ∀ k, k < n → cs[k]? = some (.int .u64 (W64 (dw xs ys (q - 1) k)))) ∧ New w wr) (fun av _ => n - (intOf av).toNat)
  case atStart => exact ⟨1, _, Nat.le_refl _, h1, rfl, HP1.out, HB0.out, Lib.hid HC0.out, HN2.out⟩
  case round =>
    clear HP1 HB0 HC0 HN2
    obtain ⟨q, cs, hq, hqn, rfl, hp, hb, HCS, hnw⟩ := hrel
    have HP := Lib.hid hp
    have HB := Lib.hid hb
    have HN := Lib.hid hnw
    obtain ⟨wq, hwq⟩ : ∃ z, z = wr := ⟨_, rfl⟩
    rw [← hwq] at HP HB HN ⊢
    clear hp hb hnw hwq
    have k0 := cell_of_row _ _ 0 _ _ _ HP.out
    by_cases hlt : (q : Int) < (n : Int)
    · go_wp2_with fail
      go_step3
      go_wp2_with fail
      go_step3
      go_wp2_with fail
      clear k0
      go_loopw [8] (fun tv wr => ∃ (m : Nat) (cs : Array Value), q ≤ m ∧ m ≤ n ∧ tv = .int .i64 (m : Int) ∧ wr.heap[w.heap.size]? = some (.cells #[.slice (some ⟨bx, ox, none⟩) n c] 28 (0, 0)) ∧ wr.heap[w.heap.size + 1]? = some (.cells cs 31 (0, 0)) ∧ Hid (cs.size = cap ∧ ∀ k, k < n → cs[k]? = some (.int .u64 (W64 (if m ≤ k then dw xs ys q k else dw xs ys (q - 1) k)))) ∧ New w wr) (fun tv _ => (intOf tv).toNat)
      case atStart => exact ⟨n, cs, hqn, Nat.le_refl _, rfl, HP.out, HB.out, Lib.hid ⟨HCS.out.1, fun k hk => by rw [HCS.out.2 k hk, if_neg (by omega)]⟩, HN.out⟩
      case round =>
        clear HP HB HCS HN
        obtain ⟨m, cs, hqm, hmn, rfl, hp, hb, HCS, hnw⟩ := hrel
        have HP := Lib.hid hp
        have HB := Lib.hid hb
        have HN := Lib.hid hnw
        obtain ⟨wq, hwq⟩ : ∃ z, z = wr := ⟨_, rfl⟩
        rw [← hwq] at HP HB HN ⊢
        clear hp hb hnw hwq
        obtain ⟨t, ht⟩ : ∃ t, m = t + 1 := ⟨m - 1, by omega⟩
        have hmw : wrap64 ((m : Int) - 1) = (t : Int) := by unfold wrap64; omega
        have hmw2 : IntKind.i64.wrap ((m : Int) - 1) = (t : Int) := by simp [IntKind.wrap, IntKind.bits, IntKind.signed]; omega
        have HT := Lib.hid ht
        clear ht
        by_cases htq : (t : Int) < (q : Int)
        · have HQT := Lib.hid (show t < q by omega)
          go_wp2_with fail
          apply_assumption
          go_wp2
          refine ⟨⟨q + 1, cs, by omega, by omega, by go_num, HP.out, HB.out, Lib.hid ⟨HCS.out.1, fun k hk => ?_⟩, HN.out⟩, by simp [intOf]; omega⟩
          rw [HCS.out.2 k hk]
          refine congrArg (fun d => some (Value.int .u64 (W64 d))) ?_
          rw [Nat.add_sub_cancel]
          by_cases e : m ≤ k
          · rw [if_pos e]
          · rw [if_neg e]
            obtain ⟨q', rfl⟩ : ∃ q', q = q' + 1 := ⟨q - 1, by omega⟩
            have ht := HT.out
            have := HQT.out
            exact (dw_low xs ys q' k (by omega)).symm
        · have ht := HT.out
          obtain ⟨r, hr⟩ : ∃ r, t = r + 1 := ⟨t - 1, by omega⟩
          obtain ⟨s, hs⟩ : ∃ s, t = s + q := ⟨t - q, by omega⟩
          have hrw : wrap64 ((t : Int) - 1) = (r : Int) := by unfold wrap64; omega
          have hrw2 : IntKind.i64.wrap ((t : Int) - 1) = (r : Int) := by simp [IntKind.wrap, IntKind.bits, IntKind.signed]; omega
          have hsw : wrap64 ((t : Int) - (q : Int)) = (s : Int) := by unfold wrap64; omega
          have hsw2 : IntKind.i64.wrap ((t : Int) - (q : Int)) = (s : Int) := by simp [IntKind.wrap, IntKind.bits, IntKind.signed]; omega
          have ht0 : (0 : Int) ≤ (t : Int) := by omega
          have ht1 : (t : Int) < (n : Int) := by omega
          have hr0 : (0 : Int) ≤ (r : Int) := by omega
          have hr1 : (r : Int) < (n : Int) := by omega
          have HCT : Hid (cs[t]? = some (.int .u64 (W64 (dw xs ys (q - 1) t)))) := Lib.hid (by rw [HCS.out.2 t (by omega), if_neg (by omega)])
          have HCR : Hid (cs[r]? = some (.int .u64 (W64 (dw xs ys (q - 1) r)))) := Lib.hid (by rw [HCS.out.2 r (by omega), if_neg (by omega)])
          have HST : Hid (mp ((sb (dw xs ys (q - 1) t) (dw xs ys (q - 1) r)).toNat * (iv (sb (xs.getD t 0) (xs.getD s 0))).toNat) = dw xs ys q t) := Lib.hid (by
            obtain ⟨q', rfl⟩ : ∃ q', q = q' + 1 := ⟨q - 1, by omega⟩
            rw [dw_up xs ys q' t (by omega), Nat.add_sub_cancel, show t - 1 = r by omega, show t - (q' + 1) = s by omega])
          obtain ⟨x, hx⟩ : ∃ z, dw xs ys (q - 1) t = z := ⟨_, rfl⟩
          rw [hx] at HCT HST
          clear hx
          obtain ⟨y, hy⟩ : ∃ z, dw xs ys (q - 1) r = z := ⟨_, rfl⟩
          rw [hy] at HCR HST
          clear hy
          have HS := Lib.hid (fun w => msub_p x y w)
          obtain ⟨d1, hd1⟩ : ∃ z, sb x y = z := ⟨_, rfl⟩
          rw [hd1] at HS HST
          clear hd1
          have HDV := Lib.hid (fun w' (h1 : w'.heap[w.heap.size]? = some (.cells #[.slice (some ⟨bx, ox, none⟩) n c] 28 (0, 0))) (h2 : New w w') => div_q w.heap.size bx ox n c xs d1 s t w' h1 (HX.out.stay h2) (by omega) (by omega))
          obtain ⟨s1, hs1⟩ : ∃ z, mp (d1.toNat * (iv (sb (xs.getD t 0) (xs.getD s 0))).toNat) = z := ⟨_, rfl⟩
          rw [hs1] at HDV HST
          clear hs1 ht hr hs
          go_wp2_with fail
          refine Gro3.wp_region_gro3S (fun w' => w'.heap[w.heap.size]? = some (.cells #[.slice (some ⟨bx, ox, none⟩) n c] 28 (0, 0)) ∧ (∃ c9 : Array Value, w'.heap[w.heap.size + 1]? = some (.cells c9 31 (0, 0))) ∧ New w w') (fun w' => w'.heap[w.heap.size]? = some (.cells #[.slice (some ⟨bx, ox, none⟩) n c] 28 (0, 0)) ∧ w'.heap[w.heap.size + 1]? = some (.cells cs 31 (0, 0)) ∧ New w w') [0,0,0,0,0,0,1,0,0,0,0,1,2,0,0,0,0,2,0,3] New (fun _ _ _ => True) (by kernel_rfl) (by kernel_rfl) (by kernel_rfl) (fun _ _ _ _ _ _ => trivial) (fun w' hw' => ⟨hw'.1, ⟨_, hw'.2.1⟩, hw'.2.2⟩) (⟨HP.out, HB.out, HN.out.drew⟩) ?_
          intro I J _ _ f g hfa hba hgb hbb
          have HFA := Lib.hid hfa
          have HBA := Lib.hid hba
          have HGB := Lib.hid hgb
          have HBB := Lib.hid hbb
          have fa := fun n => (cell_of_row (g n) _ t _ _ _ (hgb n).2.1).trans HCT.out
          have fb := fun n => (cell_of_row (g n) _ r _ _ _ (hgb n).2.1).trans HCR.out
          clear hfa hba hgb hbb
          refine Gro3.take0 6 (by kernel_rfl) ?_
          simp only [List.take, List.drop, List.length]
          repeat (go_big_quiet_step (fail))
          refine wpQuiet_nil ?_
          refine Gro3.take1 1 (by kernel_rfl) ?_
          simp only [List.take, List.drop, List.length]
          repeat (go_big_quiet_step (fail))
          refine wpQuiet_nil ?_
          refine Gro3.take0 4 (by kernel_rfl) ?_
          simp only [List.take, List.drop, List.length]
          repeat (go_big_quiet_step (fail))
          refine wpQuiet_nil ?_
          refine Gro3.take1 1 (by kernel_rfl) ?_
          simp only [List.take, List.drop, List.length]
          repeat (go_big_quiet_step (fail))
          refine wpQuiet_nil ?_
          refine Gro3.callt (fun v => v = .int .u64 (W64 d1)) (fun _ _ => True) rfl rfl (⟨_, rfl⟩) (fun _ _ _ _ _ => trivial) (fun w1 hB hG => ?_) (fun v1 A1 hv1 hA => ?_)
          · obtain ⟨nq, rfl⟩ := hB
            clear fa fb
            go_simp
            refine (HS.out _).mono ?_
            rintro e w2 ⟨rfl, hn⟩
            have HX := HBB.out _ ⟨(hn.block _ (lt_of_block (HGB.out nq).1)).trans (HGB.out nq).1, (hn.block _ (lt_of_block (HGB.out nq).2.1)).trans (HGB.out nq).2.1, (HGB.out nq).2.2.trans hn⟩
            first | exact ⟨_, rfl, HX, hn, rfl⟩ | exact ⟨_, rfl, HX, hn, rfl, trivial⟩ | exact ⟨rfl, HX, hn⟩ | exact ⟨HX, hn, rfl⟩ | exact ⟨HX, hn⟩
          simp [Act.put] at hA
          subst hA
          obtain rfl := hv1
          refine Gro3.take0 4 (by kernel_rfl) ?_
          simp only [List.take, List.drop, List.length]
          repeat (go_big_quiet_step (fail))
          refine wpQuiet_nil ?_
          refine Gro3.callt (fun v => v = .int .u64 (W64 s1)) (fun _ _ => True) rfl rfl (⟨_, rfl⟩) (fun _ _ _ _ _ => trivial) (fun w1 hB hG => ?_) (fun v2 A2 hv2 hA => ?_)
          · obtain ⟨nq, rfl⟩ := hB
            clear fa fb
            go_simp
            refine (HDV.out _ (HGB.out nq).1 (HGB.out nq).2.2).mono ?_
            rintro e w2 ⟨rfl, hn⟩
            have HX := HBB.out _ ⟨(hn.block _ (lt_of_block (HGB.out nq).1)).trans (HGB.out nq).1, (hn.block _ (lt_of_block (HGB.out nq).2.1)).trans (HGB.out nq).2.1, (HGB.out nq).2.2.trans hn⟩
            first | exact ⟨_, rfl, HX, hn, rfl⟩ | exact ⟨_, rfl, HX, hn, rfl, trivial⟩ | exact ⟨rfl, HX, hn⟩ | exact ⟨HX, hn, rfl⟩ | exact ⟨HX, hn⟩
          simp [Act.put] at hA
          subst hA
          obtain rfl := hv2
          refine Gro3.take0 1 (by kernel_rfl) ?_
          simp only [List.take, List.drop, List.length]
          repeat (go_big_quiet_step (fail))
          refine wpQuiet_nil ?_
          refine Gro3.turn (fun v => v = undef) (fun _ w9 => Lies w9 (w.heap.size + 1) (.cells (cs.setIfInBounds t (.int .u64 (W64 s1))) 31 (0, 0))) rfl rfl ⟨_, rfl⟩ (fun w1 hB hG => ?_) (fun v3 A3 hv3 hA => ?_)
          · obtain ⟨nq, rfl⟩ : ∃ nq, w1 = g nq := hB
            have HX := Lib.hid (HGB.out nq)
            have c0 := (cell_of_row (g nq) _ t _ _ _ HX.out.2.1).trans HCT.out
            have cf := fun i => frozen_of_row _ _ i _ _ HX.out.2.1
            have h0 := heap_setCell_same (g nq) (w.heap.size + 1) t _ _ (.int .u64 (W64 s1)) HX.out.2.1
            have h2 := (heap_setCell_other (g nq) ⟨w.heap.size + 1, t, none⟩ (w.heap.size) (.int .u64 (W64 s1)) (by show w.heap.size ≠ w.heap.size + 1; omega)).trans HX.out.1
            have HLI := Lib.hid (show Lies _ _ _ from h0)
            have HOT := Lib.hid h2
            clear h0 h2 fa fb
            go_simp
            exact ⟨HBA.out _ ⟨HOT.out, ⟨_, HLI.out⟩, HX.out.2.2.setCell (Nat.le_succ _) _⟩, HLI.out⟩
          simp [Act.put] at hA
          subst hA
          refine Gro3.nil ?_
          rintro w11 ⟨n9, rfl⟩ hG
          have hF := HFA.out n9
          have HP2 := Lib.hid hF.1
          have HB2 := Lib.hid (show (f n9).heap[w.heap.size + 1]? = _ from hG)
          replace HN := Lib.hid hF.2.2
          clear HFA HBA HGB HBB hG hF fa fb HS HDV HB HP hmw hmw2 hrw hrw2 hsw hsw2 ht0 ht1 hr0 hr1
          generalize f n9 = w9 at *
          go_wp2
          refine ⟨⟨t, _, by omega, by have := HT.out; omega, rfl, HP2.out, HB2.out, Lib.hid ⟨by rw [Array.size_setIfInBounds]; exact HCS.out.1, ?_⟩, HN.out⟩, by have := HT.out; simp [intOf]; omega⟩
          intro k hk
          have ht := HT.out
          have hs := HCS.out.1
          have hcap := HCAP.out.1
          rw [Array.getElem?_setIfInBounds]
          by_cases e : t = k
          · subst e
            rw [if_pos rfl, if_pos (by omega), if_pos (Nat.le_refl _), HST.out]
          · rw [if_neg e, HCS.out.2 k hk]
            refine congrArg (fun d => some (Value.int .u64 (W64 d))) ?_
            by_cases e2 : m ≤ k
            · rw [if_pos e2, if_pos (by omega)]
            · rw [if_neg e2, if_neg (by omega)]
    · obtain rfl : q = n := by omega
      have HQR : Hid (QRow wq (some ⟨w.heap.size + 1, 0, none⟩) q cap (dL xs ys)) := Lib.hid (by
        refine ⟨by rw [dL_len]; exact HLX.out, HCAP.out.1, by omega, HCAP.out.2, (fun e => by cases e), ?_, ?_, ?_⟩
        · intro b off e k hk
          cases e
          rw [Nat.zero_add, cell_of_row _ _ _ _ _ _ HB.out, HCS.out.2 k hk, dL_get _ _ _ (by rw [HLX.out]; exact hk), HLX.out]
        · intro x e h; cases e; rfl
        · intro x e h; cases e; exact lt_of_block HB.out)
      clear HB HCS
      go_wp2
      go_ret
      exact ⟨_, _, rfl, HQR.out, HN.out⟩
end Go.Proofs.YtebcfbcfipmahaaGreat
end
section
/- Layer 22: the mathematics of Shift: aimed there, and back. -/
namespace Go.Bv
theorem lowN_xor (x y : BitVec 64) (b : Nat) (hb : b ≤ 64) : lowN (x ^^^ y) b = lowN x b ^^^ lowN y b := by
  apply BitVec.eq_of_toNat_eq
  rw [lowN_nat _ _ hb, BitVec.toNat_xor, BitVec.toNat_xor, lowN_nat _ _ hb, lowN_nat _ _ hb, Nat.xor_mod_two_pow]
theorem lowN_low (x : BitVec 64) (b : Nat) (hb : b ≤ 64) : lowN (lowN x b) b = lowN x b := by
  apply BitVec.eq_of_toNat_eq
  rw [lowN_nat _ _ hb, lowN_nat _ _ hb, Nat.mod_mod]
theorem lowN_fits (x : BitVec 64) (b : Nat) (hb : b ≤ 64) : lowN x b >>> b = 0#64 := by
  apply BitVec.eq_of_toNat_eq
  rw [BitVec.toNat_ushiftRight, Nat.shiftRight_eq_div_pow, lowN_nat _ _ hb, Nat.div_eq_of_lt (Nat.mod_lt _ (Nat.two_pow_pos b))]
  rfl
theorem lowN_of_fits {x : BitVec 64} {b : Nat} (hb : b ≤ 64) (h : x >>> b = 0#64) : lowN x b = x := by
  apply BitVec.eq_of_toNat_eq
  have h2 := Go.Tab.shr_natT x b
  rw [h] at h2
  rw [lowN_nat _ _ hb, Nat.mod_eq_of_lt (by simpa using h2.symm)]
/-- an aimed value -/
theorem aimed_low {s y : BitVec 64} {b : Nat} (hb : b ≤ 64) (h : y >>> b = 0#64) : lowN (s ^^^ (lowN s b ^^^ y)) b = y := by
  rw [lowN_xor _ _ _ hb, lowN_xor _ _ _ hb, lowN_low _ _ hb, lowN_of_fits hb h, ← BitVec.xor_assoc, BitVec.xor_self, BitVec.zero_xor]
end Go.Bv
namespace Go.Proofs.YtebcfbcfipmahaaGreat
open Go Go.RowKit Go.Bv Go.Tab
set_option linter.unusedVariables false
set_option maxRecDepth 100000
theorem aimL_len (l : List (BitVec 64)) (n m : Nat) (R : Nat → List Int) (bl : List (BitVec 64)) : (aimL l n m R bl).length = l.length := by simp [aimL]
theorem aimL_at (l : List (BitVec 64)) (n m : Nat) (R : Nat → List Int) (bl : List (BitVec 64)) (j : Nat) (hj : j < l.length) : (aimL l n m R bl).getD j 0 = l.getD j 0 ^^^ chK m R (fun i => bl.getD i 0) (plF m n (rn R) n (fun j => decide (j < n))) 0 j := by
  unfold aimL
  rw [List.getD_eq_getElem?_getD, List.getElem?_map, List.getElem?_range hj]
  rfl
/-- aimed words: all rows' sums -/
theorem aimL_sum (l : List (BitVec 64)) (n m : Nat) (R : Nat → List Int) (bl : List (BitVec 64)) (hn : n ≤ 3) (hm : 0 < m) (hR : ∀ i p, i < n → p < m → 0 ≤ (R i).getD p 0 ∧ (R i).getD p 0 < 16) (hd : ∀ i j, i < n → j < n → i ≠ j → ∃ p, p < m ∧ rn R i p ≠ rn R j p) (hl : 16 * m ≤ l.length) (i : Nat) (hi : i < n) :
    xs (aimL l n m R bl) (R i) m = xs l (R i) m ^^^ bl.getD i 0 := by
  have hR2 : ∀ i p, i < n → p < m → rn R i p < 16 := fun i p h1 h2 => by have := hR i p h1 h2; unfold rn; omega
  rw [xs_sm, xs_sm]
  rw [sm_congr _ (fun j => l.getD j 0 ^^^ chK m R (fun i => bl.getD i 0) (plF m n (rn R) n (fun j => decide (j < n))) 0 j) (rn R i) m (fun p hp => by
    have := hR2 i p hi hp
    exact aimL_at l n m R bl _ (by omega))]
  rw [sm_xor]
  have h := aim_below (m := m) (n := n) (R := rn R) (fun i => bl.getD i 0) hn hm hR2 hd i hi
  unfold chK
  rw [List.drop_zero, h]
/-- aimed twice by the same changes -/
theorem aimL_twice (l : List (BitVec 64)) (n m : Nat) (R : Nat → List Int) (bl : List (BitVec 64)) : aimL (aimL l n m R bl) n m R bl = l := by
  refine List.ext_getElem (by rw [aimL_len, aimL_len]) fun j h1 h2 => ?_
  have e1 := aimL_at (aimL l n m R bl) n m R bl j (by rw [aimL_len]; exact h2)
  rw [aimL_at l n m R bl j h2, BitVec.xor_assoc, BitVec.xor_self, BitVec.xor_zero, List.getD_eq_getElem?_getD, List.getElem?_eq_getElem h1, List.getD_eq_getElem?_getD, List.getElem?_eq_getElem h2] at e1
  exact e1
theorem shL_len (l : List (BitVec 64)) (bits : Int) (xl yl : List (BitVec 64)) : (shL l bits xl yl).length = l.length := aimL_len _ _ _ _ _
/-- keys and targets that may be, of a seed that is right -/
structure Good (l : List (BitVec 64)) (bits : Int) (xl yl : List (BitVec 64)) : Prop where
  len : l.length = 128
  b1 : 1 ≤ bits
  b2 : bits ≤ 64
  tg : tgE bits.toNat xl yl = 0
theorem good_of {l : List (BitVec 64)} {bits : Int} {xl yl : List (BitVec 64)} (h : csE bits l.length 128 xl yl = 0) : Good l bits xl yl := by
  unfold csE at h
  by_cases e : chk bits l.length 128 = 0
  · rw [if_neg (by rw [e]; simp)] at h
    obtain ⟨b1, b2, b3⟩ := chk_good e
    exact ⟨by omega, b1, b2, h⟩
  · rw [if_pos e] at h; exact absurd h e
theorem cs_of {l : List (BitVec 64)} {bits : Int} {xl yl : List (BitVec 64)} (h : Good l bits xl yl) : chk bits l.length 128 = 0 ∧ csE bits l.length 128 xl yl = 0 := by
  have e : chk bits l.length 128 = 0 := by
    have h1 := h.len; have h2 := h.b1; have h3 := h.b2
    unfold chk
    rw [if_neg (by omega), if_neg (by omega)]
  refine ⟨e, ?_⟩
  unfold csE
  rw [if_neg (by rw [e]; simp), h.tg]
theorem good_ev {l : List (BitVec 64)} {bits : Int} {xl yl : List (BitVec 64)} (h : Good l bits xl yl) {i : Nat} (hi : i < xl.length) : evE bits l.length 128 (xl.getD i 0) = 0 ∧ evV l bits 128 (xl.getD i 0) = lowN (xs l (lets (xl.getD i 0) 8) 8) bits.toNat := by
  have e : evE bits l.length 128 (xl.getD i 0) = 0 := by
    have h5 := shr_natT (xl.getD i 0) 32
    rw [((tg_zero h.tg).2.2.2.1 i hi).1] at h5
    unfold evE
    rw [if_neg (by rw [(cs_of h).1]; simp), if_pos (by simpa using h5.symm)]
  exact ⟨e, by unfold evV; rw [if_pos e]⟩
theorem lets_rows (xl : List (BitVec 64)) (i p : Nat) (hp : p < 8) : 0 ≤ (lets (xl.getD i 0) 8).getD p 0 ∧ (lets (xl.getD i 0) 8).getD p 0 < 16 := by
  rw [lets_at _ _ _ hp]; exact lat_lt _ _
theorem good_rows {l : List (BitVec 64)} {bits : Int} {xl yl : List (BitVec 64)} (h : Good l bits xl yl) : ∀ i j, i < xl.length → j < xl.length → i ≠ j → ∃ p, p < 8 ∧ rn (fun i => lets (xl.getD i 0) 8) i p ≠ rn (fun i => lets (xl.getD i 0) 8) j p := by
  obtain ⟨t1, t2, t3, t4, t5⟩ := tg_zero h.tg
  intro i j hi hj hij
  exact rn_differ (n := xl.length) (fun i _ => lets_len _ _) (fun i p _ hp => (lets_rows xl i p hp).1) hi hj (fun he => t5 i j hi hj hij (lets_inj _ _ (t4 i hi).1 (t4 j hj).1 he))
theorem shL_good {l : List (BitVec 64)} {bits : Int} {xl yl zl : List (BitVec 64)} (h : Good l bits xl yl) (hz : tgE bits.toNat xl zl = 0) : Good (shL l bits xl yl) bits xl zl := ⟨by rw [shL_len]; exact h.len, h.b1, h.b2, hz⟩
theorem map_at {n : Nat} (f : Nat → BitVec 64) {i : Nat} (hi : i < n) : ((List.range n).map f).getD i 0 = f i := by
  rw [List.getD_eq_getElem?_getD, List.getElem?_map, List.getElem?_range hi]; rfl
/-- it brings them there -/
theorem shL_ev {l : List (BitVec 64)} {bits : Int} {xl yl : List (BitVec 64)} (h : Good l bits xl yl) {i : Nat} (hi : i < xl.length) : evV (shL l bits xl yl) bits 128 (xl.getD i 0) = yl.getD i 0 := by
  have hb : bits.toNat ≤ 64 := by have := h.b2; omega
  obtain ⟨t1, t2, t3, t4, t5⟩ := tg_zero h.tg
  rw [(good_ev (shL_good h h.tg) hi).2]
  have := aimL_sum l xl.length 8 (fun i => lets (xl.getD i 0) 8) ((List.range xl.length).map (byB l bits 128 xl yl)) t2 (by omega) (fun i p _ hp => lets_rows xl i p hp) (good_rows h) (by rw [h.len]; omega) i hi
  unfold shL
  rw [this, map_at _ hi]
  unfold byB
  rw [(good_ev h hi).2]
  exact aimed_low hb (t4 i hi).2
/-- what the keys were brought to -/
def wasL (l : List (BitVec 64)) (bits : Int) (xl : List (BitVec 64)) : List (BitVec 64) := (List.range xl.length).map fun i => evV l bits 128 (xl.getD i 0)
theorem was_tg {l : List (BitVec 64)} {bits : Int} {xl yl : List (BitVec 64)} (h : Good l bits xl yl) : tgE bits.toNat xl (wasL l bits xl) = 0 := by
  have hb : bits.toNat ≤ 64 := by have := h.b2; omega
  obtain ⟨t1, t2, t3, t4, t5⟩ := tg_zero h.tg
  have hwl : (wasL l bits xl).length = xl.length := by simp [wasL]
  refine tg_ok (by omega) (fun j hj => ?_) (fun j hj => same2_no fun k hk => t5 k j (by omega) hj (by omega))
  unfold bad2 wasL
  rw [map_at _ hj, (good_ev h hj).2, lowN_fits _ _ hb, (t4 j hj).1]
  rfl
/-- aimed back -/
theorem shL_back {l : List (BitVec 64)} {bits : Int} {xl yl : List (BitVec 64)} (h : Good l bits xl yl) : shL (shL l bits xl yl) bits xl (wasL l bits xl) = l := by
  have e : (List.range xl.length).map (byB (shL l bits xl yl) bits 128 xl (wasL l bits xl)) = (List.range xl.length).map (byB l bits 128 xl yl) := by
    refine List.map_congr_left fun i hi => ?_
    have hi := List.mem_range.1 hi
    unfold byB
    rw [shL_ev h hi]
    unfold wasL
    rw [map_at _ hi, BitVec.xor_comm]
  show aimL (shL l bits xl yl) xl.length 8 _ ((List.range xl.length).map (byB (shL l bits xl yl) bits 128 xl (wasL l bits xl))) = l
  rw [e]
  exact aimL_twice _ _ _ _ _
end Go.Proofs.YtebcfbcfipmahaaGreat
end
section
/- The walk of the statement TabsShifts: for all seeds, all numbers of bits, all keys, all targets. -/
namespace Go.Proofs.YtebcfbcfipmahaaGreat
open Go Go.RowKit Go.Bv Go.Tab
set_option linter.unusedVariables false
set_option maxRecDepth 100000
/-- the first k values of a function -/
def vlK (f : Nat → BitVec 64) (k : Nat) : List (BitVec 64) := (List.range k).map f
theorem vlK_snoc (f : Nat → BitVec 64) (k : Nat) : (vlK f (k + 1)).map (fun y => Value.int .u64 (W64 y)) = (vlK f k).map (fun y => Value.int .u64 (W64 y)) ++ [.int .u64 (W64 (f k))] := by
  unfold vlK
  rw [List.range_succ, List.map_append, List.map_append]; rfl
end Go.Proofs.YtebcfbcfipmahaaGreat
end
