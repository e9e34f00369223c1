/- shuffle.Aim. -/
import Derived.Test.YtopepchfaomdoaaRdwR
import Derived.Test.YtopepchfaomdoaaDrwC
import Derived.Deep.AppendLies
import Derived.Deep.RegionHeld3
namespace Go.Proofs.Ytopepchfaomdoaa
open Go Go.RowKit Go.Bv
set_option linter.unusedVariables false
end Go.Proofs.Ytopepchfaomdoaa
namespace Go.Bv
open Go Go.RowKit
set_option linter.unusedVariables false
/-- two rows of one's own, the first one grown -/
structure St1 (wC w : World) (e : TypeId) (g1 cp1 n1 : Nat) (xs1 : List Value) (v2 : Value) (n2 : Nat) (xs2 : List Value) : Prop where
  own1 : w.ownsRow wC.heap.size e 1 (.slice (some ⟨g1, 0, none⟩) n1 cp1) n1 xs1
  own2 : w.ownsRow wC.heap.size e 1 v2 n2 xs2
  ne : ∀ x, v2.ownBlock = some x → x ≠ g1
  lt : g1 < w.heap.size
  new : New wC w
theorem st_first {wC X Y : World} {e : TypeId} {v1 v2 : Value} {m1 n1 n2 g1 cp1 : Nat} {ys xs1 xs2 : List Value} (h1 : X.ownsRow wC.heap.size e 1 v1 m1 ys) (h2 : X.ownsRow wC.heap.size e 1 v2 n2 xs2) (hap : ∀ x, v1.ownBlock = some x → v2.ownBlock ≠ some x) (hn : New wC X) (hg : X.grownBy Y v1.ownBlock) (ho : Y.ownsRow wC.heap.size e 1 (.slice (some ⟨g1, 0, none⟩) n1 cp1) n1 xs1) (ha : v1.ownBlock = some g1 ∨ g1 = X.heap.size) (hl : g1 < Y.heap.size) : St1 wC Y e g1 cp1 n1 xs1 v2 n2 xs2 where
  own1 := ho
  own2 := ow_blk h2 (fun g hg2 => hg.block g (ow_lt h2 g hg2).2 (fun e => hap g e.symm hg2))
  ne := fun x hx => by
    have := (ow_lt h2 x hx).2
    rcases ha with ha | ha
    · intro e; subst e; exact hap _ ha hx
    · omega
  lt := hl
  new := hn.grown' hg (fun k hk => (ow_lt h1 k hk).1)
structure St2 (wC w : World) (e : TypeId) (g1 cp1 n1 : Nat) (xs1 : List Value) (g2 cp2 n2 : Nat) (xs2 : List Value) : Prop where
  own1 : w.ownsRow wC.heap.size e 1 (.slice (some ⟨g1, 0, none⟩) n1 cp1) n1 xs1
  own2 : w.ownsRow wC.heap.size e 1 (.slice (some ⟨g2, 0, none⟩) n2 cp2) n2 xs2
  ne : g1 ≠ g2
  new : New wC w
theorem st_second {wC X Z Y : World} {e : TypeId} {v2 : Value} {n1 m2 n2 g1 cp1 g2 cp2 : Nat} {xs1 ys xs2 : List Value} (h : St1 wC X e g1 cp1 n1 xs1 v2 m2 ys) (hz : New X Z) (hg : Z.grownBy Y v2.ownBlock) (ho : Y.ownsRow wC.heap.size e 1 (.slice (some ⟨g2, 0, none⟩) n2 cp2) n2 xs2) (ha : v2.ownBlock = some g2 ∨ g2 = Z.heap.size) : St2 wC Y e g1 cp1 n1 xs1 g2 cp2 n2 xs2 where
  own1 := ow_blk (ow_new h.own1 hz) (fun g hg1 => hg.block g (by have := (ow_lt h.own1 g hg1).2; have := hz.le; omega) (fun e => by
    have e2 : g1 = g := by simpa [Value.ownBlock] using hg1
    exact h.ne g e.symm e2.symm))
  own2 := ho
  ne := by
    have h1 := h.lt
    have h2 := hz.le
    rcases ha with ha | ha
    · exact fun e => h.ne g2 ha e.symm
    · omega
  new := (h.new.trans hz).grown' hg (fun k hk => (ow_lt h.own2 k hk).1)
theorem blk_one {W X : World} {c : Obj} {B : Nat} (hB : W.heap.size = B) (h : New (W.alloc c) X) : X.heap[B]? = some c := by
  subst hB
  exact (h.block _ (by simp)).trans (heap_alloc_new W c)
theorem blk_two {W X : World} {c d : Obj} {B : Nat} (hB : W.heap.size + 1 = B) (h : New ((W.alloc d).drew.alloc c) X) : X.heap[B]? = some c := by
  subst hB
  have h1 := heap_alloc_new (W.alloc d).drew c
  have e : (W.alloc d).drew.heap.size = W.heap.size + 1 := by simp
  rw [e] at h1
  exact (h.block _ (by simp)).trans h1
theorem blk_three {W X : World} {c d : Obj} {B : Nat} (hB : W.heap.size + 1 = B) (h : New ((W.alloc d).alloc c) X) : X.heap[B]? = some c := by
  subst hB
  have h1 := heap_alloc_new (W.alloc d) c
  have e : (W.alloc d).heap.size = W.heap.size + 1 := by simp
  rw [e] at h1
  exact (h.block _ (by simp)).trans h1
theorem blk_grown {X Y Z : World} {row : Option Nat} {c : Obj} {B : Nat} (hg : X.grownBy Y row) (hX : X.heap[B]? = some c) (hr : row ≠ some B) (hn : New Y Z) : Z.heap[B]? = some c := by
  have h1 := lt_of_block hX
  exact (hn.block B (by have := hg.size; omega)).trans ((hg.block B h1 (fun e => hr e.symm)).trans hX)
end Go.Bv
namespace Go.Proofs.Ytopepchfaomdoaa
open Go Go.RowKit Go.Bv
set_option linter.unusedVariables false
def vAim (p : List Int) (i : Nat) : Nat := fnI (chI p) (p.length - 1 - i)
set_option maxRecDepth 100000 in
set_option maxHeartbeats 8000000 in
theorem aim40_ok (a a2 : Option Addr) (nl c n c2 : Nat) (l : List (BitVec 64)) (p : List Int) (ds : List Drw) (k : Nat) (w : World) (hl : QRow w a nl c l) (hz : ZRow w a2 n c2 p) (hn : n ≤ 256) (hp : isO p) (hd : drS l (lmL n) (n - 1) = some (ds, k)) :
    Calls Try.prog 25 #[.slice a nl c, .slice a2 n c2] w fun e w' => ∃ v' c', e = .returned (.tuple #[.slice v' nl c', .int .i64 0]) ∧ QRow w' v' nl c' (amS l (lmL n) (fun i => BitVec.ofNat 64 (vAim p i)) ds (n - 1)) ∧ New w w' := by
  obtain ⟨i0, hi, hz0, hz1, hz2⟩ := info_parts info_int40
  have HL := Lib.hid hl
  have HLN := Lib.hid hz.len_eq
  have HD := Lib.hid hd
  have HCH := Lib.hid (chc_ok a2 n c2 p w hz (by omega) hp)
  have HRT := Lib.hid (chI_rt hp)
  clear hl hz hd hp
  go_enter Try.func25, Try.ntmps25
  go_wp2_with fail
  refine HCH.out.mono ?_
  rintro e w1 ⟨a3, c3, rfl, hz, hn1⟩
  have HZ := Lib.hid hz
  have HN := Lib.hid hn1
  replace HL := Lib.hid (HL.out.stay hn1)
  clear hz hn1 HCH
  go_wp2_with fail
  refine (new_t _ _ _ _ _ HL.out).mono ?_
  rintro e wB ⟨b, rfl, hb, ht, hn2⟩
  have HT := Lib.hid ht
  have HNB := Lib.hid hn2
  have HBB := Lib.hid hb
  clear ht hn2 hb
  go_wp2_with fail
  refine (take40_q b b n l _ HT.out hn).mono ?_
  rintro e wC (⟨ds2, k2, p1, p2, p3, p4, hd2, rfl, hz2, hk, g, ht, hb2, _⟩ | ⟨hd2, _⟩)
  case inr => rw [HD.out] at hd2; cases hd2
  rw [HD.out] at hd2
  cases hd2
  have HK := Lib.hid hk
  have hnc : New w1 wC := hb2.new w1 HNB.out HBB.out HBB.out
  replace HL := Lib.hid (HL.out.stay hnc)
  replace HZ := Lib.hid (HZ.out.stay hnc)
  replace HN := Lib.hid (HN.out.trans hnc)
  clear hz2 hk ht hb2 hnc HT HNB HBB
  obtain ⟨m, hm⟩ : ∃ m, n - 1 = m := ⟨_, rfl⟩
  rw [hm] at HD HK ⊢
  go_wp2_with fail
  go_loopw [10, 11, 12] (fun v1 v2 iv wr => ∃ (q : Nat) (z : Int), q ≤ m ∧ iv = .int .i64 z ∧ Hid (z = (n : Int) - 1 - (q : Int)) ∧ wr.ownsRow wC.heap.size 3 1 v1 q ((liI (fun j => n - j) q).map fun x => .int .i64 x) ∧ wr.ownsRow wC.heap.size 3 1 v2 q ((liI (vAim p) q).map fun x => .int .i64 x) ∧ Hid (∀ x, v1.ownBlock = some x → v2.ownBlock ≠ some x) ∧ New wC wr) (fun _ _ iv _ => (intOf iv).toNat)
  case atStart => exact ⟨0, _, Nat.zero_le _, rfl, Lib.hid (by omega), World.ownsRow_nil _ _ _ 1, World.ownsRow_nil _ _ _ 1, Lib.hid (fun x h => by cases h), New.refl _⟩
  case round =>
    obtain ⟨q, z, hq, rfl, HZ2, ho1, ho2, HAP, hnew⟩ := hrel
    have HO1 := Lib.hid ho1
    have HO2 := Lib.hid ho2
    have HNW := Lib.hid hnew
    obtain ⟨wq, hwq⟩ : ∃ z, z = wr := ⟨_, rfl⟩
    rw [← hwq] at HO1 HO2 HNW ⊢
    clear ho1 ho2 hnew hwq
    by_cases hlt : q < m
    · obtain ⟨r, hr⟩ : ∃ r, n - 1 - q = r := ⟨_, rfl⟩
      obtain rfl : z = (r : Int) := by have := HZ2.out; omega
      have hr0 : (0 : Int) < (r : Int) := by omega
      have hr00 : (0 : Int) ≤ (r : Int) := by omega
      obtain ⟨s, hs⟩ : ∃ s, r + 1 = s := ⟨_, rfl⟩
      have hs1 : (r : Int) + 1 = (s : Int) := by omega
      obtain ⟨b3, o3, rfl, h3⟩ := (HZ.out.stay HNW.out).addr (by omega)
      have c4 := h3 r (by omega)
      have hrn : (r : Int) < (n : Int) := by omega
      have hci := HRT.out r (by rw [chI_len, HLN.out]; omega)
      have hvA : Hid (vAim p q = fnI (chI p) r) := Lib.hid (by unfold vAim; rw [HLN.out, hr])
      obtain ⟨t, htt⟩ : ∃ t : Nat, (chI p).getD r 0 = (t : Int) := ⟨((chI p).getD r 0).toNat, by omega⟩
      rw [htt] at c4
      have HTT : Hid (vAim p q = t) := Lib.hid (by rw [hvA.out]; unfold fnI; rw [htt]; rfl)
      clear h3 hci htt
      have hws : IntKind.i64.wrap (s : Int) = (s : Int) := by unfold IntKind.wrap; simp [IntKind.signed, IntKind.bits]; omega
      have HAP2 : Hid (∀ x, u11.ownBlock = some x → u10.ownBlock ≠ some x) := Lib.hid (fun x h1 h2 => HAP.out x h2 h1)
      have HB1 : Hid (∀ B, wq.heap.size ≤ B → u10.ownBlock ≠ some B) := Lib.hid (fun B h1 h2 => by have := (ow_lt HO1.out B h2).2; omega)
      have HB2 : Hid (∀ B, wq.heap.size ≤ B → u11.ownBlock ≠ some B) := Lib.hid (fun B h1 h2 => by have := (ow_lt HO2.out B h2).2; omega)
      have hnq : New wC wq := HNW.out
      have hblt : b3 < wC.heap.size := by
        have := HZ.out.old _ rfl (by omega)
        exact this
      have SK : Hid (∀ w', New wC w' → w'.cell? ⟨b3, o3 + r, none⟩ = some (.int .i64 (t : Int))) := Lib.hid (fun w' hn => (hn.cell (a := ⟨b3, o3 + r, none⟩) hblt).trans ((hnq.cell (a := ⟨b3, o3 + r, none⟩) hblt).symm.trans c4))
      have tok1 : True := trivial
      have tok2 : True := trivial
      go_wp2_with fail
      go_region_held3 (fun w' => w'.cell? ⟨b3, o3 + r, none⟩ = some (.int .i64 (t : Int)))
        ((refine SK.out _ ?_; (repeat (first | with_reducible assumption | with_reducible exact New.refl _ | with_reducible refine New.drew ?_ | with_reducible refine New.alloc ?_ _))))
        (first
        | (have _t := tok1
           refine step_append_lies _ (by rfl) (.tmp 40) (.tmp 43) 22 (by rfl) wC.heap.size 3 i0 (.int .i64 0) 1 8 Try.underlying22 hi hz0 hz1 hz2 rfl (by omega) u10 q ((liI (fun j => n - j) q).map fun x => .int .i64 x) (by rfl)
             (by first
               | (with_reducible refine ow_new HO1.out ?_; (repeat (first | with_reducible assumption | with_reducible exact New.refl _ | with_reducible refine New.drew ?_ | with_reducible refine New.alloc ?_ _)); done)
               | (with_reducible refine ow_new HS2.out.own2 ?_; (repeat (first | with_reducible assumption | with_reducible exact New.refl _ | with_reducible refine New.drew ?_ | with_reducible refine New.alloc ?_ _)); done))
             _ 1 1 [.int .i64 (s : Int)] (by rfl) (by rfl)
             (World.news_of_block (cs := #[.int .i64 (s : Int)]) (t := 3) (fr := (0, 0)) (by first
               | (with_reducible refine blk_one (W := wq) (c := (.cells #[.int .i64 (s : Int)] 3)) (by simp) ?_; (repeat (first | with_reducible assumption | with_reducible exact New.refl _ | with_reducible refine New.drew ?_ | with_reducible refine New.alloc ?_ _)); done)
               | (with_reducible refine blk_two (W := wq) (c := (.cells #[.int .i64 (s : Int)] 3)) (d := (.cells #[.int .i64 (t : Int)] 3)) (by simp) ?_; (repeat (first | with_reducible assumption | with_reducible exact New.refl _ | with_reducible refine New.drew ?_ | with_reducible refine New.alloc ?_ _)); done)
               | (with_reducible refine blk_three (W := wq) (c := (.cells #[.int .i64 (s : Int)] 3)) (d := (.cells #[.int .i64 (t : Int)] 3)) (by simp) ?_; (repeat (first | with_reducible assumption | with_reducible exact New.refl _ | with_reducible refine New.drew ?_ | with_reducible refine New.alloc ?_ _)); done)
               | (with_reducible refine blk_one (W := wA2) (c := (.cells #[.int .i64 (s : Int)] 3)) (by simp) ?_; (repeat (first | with_reducible assumption | with_reducible exact New.refl _ | with_reducible refine New.drew ?_ | with_reducible refine New.alloc ?_ _)); done)
               | (with_reducible refine blk_one (W := wA2.drew) (c := (.cells #[.int .i64 (s : Int)] 3)) (by simp) ?_; (repeat (first | with_reducible assumption | with_reducible exact New.refl _ | with_reducible refine New.drew ?_ | with_reducible refine New.alloc ?_ _)); done)
               | (with_reducible refine blk_grown hgrow2 (blk_one (W := wq) (c := (.cells #[.int .i64 (s : Int)] 3)) ?_ ?_) (HB2.out _ ?_) ?_; all_goals (first | ((repeat (first | with_reducible assumption | with_reducible exact New.refl _ | with_reducible refine New.drew ?_ | with_reducible refine New.alloc ?_ _)); done) | (simp; done)))
               | (with_reducible refine blk_grown hgrow2 (blk_two (W := wq) (c := (.cells #[.int .i64 (s : Int)] 3)) (d := (.cells #[.int .i64 (t : Int)] 3)) ?_ ?_) (HB2.out _ ?_) ?_; all_goals (first | ((repeat (first | with_reducible assumption | with_reducible exact New.refl _ | with_reducible refine New.drew ?_ | with_reducible refine New.alloc ?_ _)); done) | (simp; done)))
               | (with_reducible refine blk_grown hgrow2 (blk_three (W := wq) (c := (.cells #[.int .i64 (s : Int)] 3)) (d := (.cells #[.int .i64 (t : Int)] 3)) ?_ ?_) (HB2.out _ ?_) ?_; all_goals (first | ((repeat (first | with_reducible assumption | with_reducible exact New.refl _ | with_reducible refine New.drew ?_ | with_reducible refine New.alloc ?_ _)); done) | (simp; done)))))
             (by simp [Value.oneCell']) (by omega) (by unfold maxLen; omega) (by omega)
             (by first
               | (with_reducible refine New.le (W := wC) ?_; (repeat (first | with_reducible assumption | with_reducible exact New.refl _ | with_reducible refine New.drew ?_ | with_reducible refine New.alloc ?_ _)); done))
             _ rfl ?_
           intro g1 cp1 wA1 hown1 hgrow1 hat1 hlt1
           first
             | (have HF : Hid (St2 wC wA1 3 g2 cp2 (q + 1) _ g1 cp1 (q + 1) _) := Lib.hid (st_second HS2.out (by (repeat (first | with_reducible assumption | with_reducible exact New.refl _ | with_reducible refine New.drew ?_ | with_reducible refine New.alloc ?_ _)); done) hgrow1 hown1 hat1)
                have hnF : New wC wA1 := HF.out.new)
             | (have HS1 := Lib.hid (st_first (wC := wC) (ow_new HO1.out (by (repeat (first | with_reducible assumption | with_reducible exact New.refl _ | with_reducible refine New.drew ?_ | with_reducible refine New.alloc ?_ _)); done)) (ow_new HO2.out (by (repeat (first | with_reducible assumption | with_reducible exact New.refl _ | with_reducible refine New.drew ?_ | with_reducible refine New.alloc ?_ _)); done)) (HAP.out) (by (repeat (first | with_reducible assumption | with_reducible exact New.refl _ | with_reducible refine New.drew ?_ | with_reducible refine New.alloc ?_ _)); done) hgrow1 hown1 hat1 hlt1)
                have hnA : New wC wA1 := HS1.out.new)
           clear tok1)
        | (have _t := tok2
           refine step_append_lies _ (by rfl) (.tmp 45) (.tmp 50) 22 (by rfl) wC.heap.size 3 i0 (.int .i64 0) 1 8 Try.underlying22 hi hz0 hz1 hz2 rfl (by omega) u11 q ((liI (vAim p) q).map fun x => .int .i64 x) (by rfl)
             (by first
               | (with_reducible refine ow_new HO2.out ?_; (repeat (first | with_reducible assumption | with_reducible exact New.refl _ | with_reducible refine New.drew ?_ | with_reducible refine New.alloc ?_ _)); done)
               | (with_reducible refine ow_new HS1.out.own2 ?_; (repeat (first | with_reducible assumption | with_reducible exact New.refl _ | with_reducible refine New.drew ?_ | with_reducible refine New.alloc ?_ _)); done))
             _ 1 1 [.int .i64 (t : Int)] (by rfl) (by rfl)
             (World.news_of_block (cs := #[.int .i64 (t : Int)]) (t := 3) (fr := (0, 0)) (by first
               | (with_reducible refine blk_one (W := wq) (c := (.cells #[.int .i64 (t : Int)] 3)) (by simp) ?_; (repeat (first | with_reducible assumption | with_reducible exact New.refl _ | with_reducible refine New.drew ?_ | with_reducible refine New.alloc ?_ _)); done)
               | (with_reducible refine blk_two (W := wq) (c := (.cells #[.int .i64 (t : Int)] 3)) (d := (.cells #[.int .i64 (s : Int)] 3)) (by simp) ?_; (repeat (first | with_reducible assumption | with_reducible exact New.refl _ | with_reducible refine New.drew ?_ | with_reducible refine New.alloc ?_ _)); done)
               | (with_reducible refine blk_three (W := wq) (c := (.cells #[.int .i64 (t : Int)] 3)) (d := (.cells #[.int .i64 (s : Int)] 3)) (by simp) ?_; (repeat (first | with_reducible assumption | with_reducible exact New.refl _ | with_reducible refine New.drew ?_ | with_reducible refine New.alloc ?_ _)); done)
               | (with_reducible refine blk_one (W := wA1) (c := (.cells #[.int .i64 (t : Int)] 3)) (by simp) ?_; (repeat (first | with_reducible assumption | with_reducible exact New.refl _ | with_reducible refine New.drew ?_ | with_reducible refine New.alloc ?_ _)); done)
               | (with_reducible refine blk_one (W := wA1.drew) (c := (.cells #[.int .i64 (t : Int)] 3)) (by simp) ?_; (repeat (first | with_reducible assumption | with_reducible exact New.refl _ | with_reducible refine New.drew ?_ | with_reducible refine New.alloc ?_ _)); done)
               | (with_reducible refine blk_grown hgrow1 (blk_one (W := wq) (c := (.cells #[.int .i64 (t : Int)] 3)) ?_ ?_) (HB1.out _ ?_) ?_; all_goals (first | ((repeat (first | with_reducible assumption | with_reducible exact New.refl _ | with_reducible refine New.drew ?_ | with_reducible refine New.alloc ?_ _)); done) | (simp; done)))
               | (with_reducible refine blk_grown hgrow1 (blk_two (W := wq) (c := (.cells #[.int .i64 (t : Int)] 3)) (d := (.cells #[.int .i64 (s : Int)] 3)) ?_ ?_) (HB1.out _ ?_) ?_; all_goals (first | ((repeat (first | with_reducible assumption | with_reducible exact New.refl _ | with_reducible refine New.drew ?_ | with_reducible refine New.alloc ?_ _)); done) | (simp; done)))
               | (with_reducible refine blk_grown hgrow1 (blk_three (W := wq) (c := (.cells #[.int .i64 (t : Int)] 3)) (d := (.cells #[.int .i64 (s : Int)] 3)) ?_ ?_) (HB1.out _ ?_) ?_; all_goals (first | ((repeat (first | with_reducible assumption | with_reducible exact New.refl _ | with_reducible refine New.drew ?_ | with_reducible refine New.alloc ?_ _)); done) | (simp; done)))))
             (by simp [Value.oneCell']) (by omega) (by unfold maxLen; omega) (by omega)
             (by first
               | (with_reducible refine New.le (W := wC) ?_; (repeat (first | with_reducible assumption | with_reducible exact New.refl _ | with_reducible refine New.drew ?_ | with_reducible refine New.alloc ?_ _)); done))
             _ rfl ?_
           intro g2 cp2 wA2 hown2 hgrow2 hat2 hlt2
           first
             | (have HF : Hid (St2 wC wA2 3 g1 cp1 (q + 1) _ g2 cp2 (q + 1) _) := Lib.hid (st_second HS1.out (by (repeat (first | with_reducible assumption | with_reducible exact New.refl _ | with_reducible refine New.drew ?_ | with_reducible refine New.alloc ?_ _)); done) hgrow2 hown2 hat2)
                have hnF : New wC wA2 := HF.out.new)
             | (have HS2 := Lib.hid (st_first (wC := wC) (ow_new HO2.out (by (repeat (first | with_reducible assumption | with_reducible exact New.refl _ | with_reducible refine New.drew ?_ | with_reducible refine New.alloc ?_ _)); done)) (ow_new HO1.out (by (repeat (first | with_reducible assumption | with_reducible exact New.refl _ | with_reducible refine New.drew ?_ | with_reducible refine New.alloc ?_ _)); done)) (HAP2.out) (by (repeat (first | with_reducible assumption | with_reducible exact New.refl _ | with_reducible refine New.drew ?_ | with_reducible refine New.alloc ?_ _)); done) hgrow2 hown2 hat2 hlt2)
                have hnA : New wC wA2 := HS2.out.new)
           clear tok2))
      all_goals (
        have HE1 : Hid ((liI (fun j => n - j) (q + 1)).map (fun x => Value.int .i64 x) = ((liI (fun j => n - j) q).map fun x => Value.int .i64 x) ++ [.int .i64 (s : Int)]) := Lib.hid (by rw [liI_succ, List.map_append, show n - q = s by omega]; rfl)
        have HE2 : Hid ((liI (vAim p) (q + 1)).map (fun x => Value.int .i64 x) = ((liI (vAim p) q).map fun x => Value.int .i64 x) ++ [.int .i64 (t : Int)]) := Lib.hid (by rw [liI_succ, List.map_append, HTT.out]; rfl)
        have HO3 := Lib.hid HF.out.own1
        have HO4 := Lib.hid HF.out.own2
        rw [← HE1.out] at HO3
        rw [← HE2.out] at HO4
        have HZ3 : Hid ((r : Int) - 1 = (n : Int) - 1 - ((q + 1 : Nat) : Int)) := Lib.hid (by have := HZ2.out; omega)
        have HNE := Lib.hid HF.out.ne
        clear SK HE1 HE2
        go_wp2_with fail
        refine ⟨⟨q + 1, _, by omega, rfl, HZ3.out, HO3.out, HO4.out, Lib.hid (fun x h1 h2 => ?_), hnF⟩, by simp [intOf]; omega⟩
        have e1 : g1 = x := by simpa [Value.ownBlock] using h1
        have e2 : g2 = x := by simpa [Value.ownBlock] using h2
        exact HNE.out (e1.trans e2.symm))
    · obtain rfl : q = m := by omega
      have hz0' : ¬ (0 : Int) < z := by have := HZ2.out; omega
      obtain ⟨a5, c5, rfl, hq5⟩ := ZRow.of_owns HO1.out (by omega) (in64_li _ (fun x hx => by omega))
      obtain ⟨a6, c6, rfl, hq6⟩ := ZRow.of_owns HO2.out (by omega) (in64_li _ (fun x hx => by
        have h := HRT.out (p.length - 1 - x) (by rw [chI_len, HLN.out]; omega)
        have hl := HLN.out
        unfold vAim fnI
        omega))
      have HRD := Lib.hid (redraw_q a p3 a5 a6 nl c q p4 c5 c6 l (lmL n) ds k (fun j => n - j) (vAim p) wq (HL.out.stay HNW.out) (HK.out.stay HNW.out) hq5 hq6 HD.out (fun i hi => lmL_get (by omega)) (fun i hi => by omega) (fun i hi => by
        have h := HRT.out (p.length - 1 - i) (by rw [chI_len, HLN.out]; omega)
        have hl := HLN.out
        unfold vAim fnI
        omega))
      replace HN := Lib.hid (HN.out.trans HNW.out)
      clear hq5 hq6
      go_wp2_with fail
      refine HRD.out.mono ?_
      rintro e w9 ⟨v', c', rfl, hq, hn9⟩
      have HQ := Lib.hid hq
      replace HN := Lib.hid (HN.out.trans hn9)
      clear hq hn9 HRD
      go_wp2
      go_ret2
      exact ⟨_, _, rfl, (by rw [hm]; exact HQ.out), HN.out⟩
end Go.Proofs.Ytopepchfaomdoaa
