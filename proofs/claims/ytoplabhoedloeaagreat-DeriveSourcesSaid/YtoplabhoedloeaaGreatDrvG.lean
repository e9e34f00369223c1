/- Layer 45: the iterator over a path's parts. -/
import Derived.Test.YtoplabhoedloeaaGreatDrvA
import Derived.Test.YtoplabhoedloeaaGreatShelf
import Derived.RangeFuncNested
import Derived.RangeFuncBound
import Derived.RangeFuncCalls
import Derived.RangeFuncLeaves
import Derived.Shelf.Abstract
import Derived.Shelf.RegionOpen
import Derived.WalkKit
import Derived.OwnWalkIn
import Derived.TacticsInMore
import Derived.LoopNIn
import Derived.LoopIn
import Derived.RangeFuncFrom
import Derived.Maps.AppendAt
namespace Go.Drv
open Go Go.RowKit Go.Bv
set_option linter.unusedVariables false
theorem spl_len : ∀ l : List UInt8, (spl l).length ≤ l.length + 1
  | [] => by unfold spl; simp
  | b :: t => by
    have ih := spl_len t
    rw [spl]
    by_cases e : b = 47
    · rw [if_pos e]; simp; omega
    · rw [if_neg e]
      cases h : spl t with
      | nil => simp
      | cons x y => rw [h] at ih; simp at ih ⊢; omega
theorem pts_len (l : List UInt8) : (pts l).length ≤ l.length + 1 := by
  unfold pts
  by_cases h : l = []
  · rw [if_pos h]; simp
  · rw [if_neg h]; exact spl_len l
/-- the variable that the library's search reads -/
def MaxL (w : World) : Prop := ∃ m, w.cell? ⟨0, 0, none⟩ = some (.int .i64 m)
theorem MaxL.stay {w w' : World} (h : MaxL w) (hn : New w w') : MaxL w' := by
  obtain ⟨m, h⟩ := h
  exact ⟨m, (hn.cell (a := ⟨0, 0, none⟩) (World.block_lt_of_cell? _ _ h)).trans h⟩
theorem cut_len (r : List UInt8) : (Lib.cut r [47]).2.1.length ≤ r.length := by
  unfold Lib.cut
  by_cases e : 0 ≤ Lib.index r [47]
  · rw [if_pos e]; simp
  · rw [if_neg e]; simp
/-- what is left of a path -/
def lft (r : List UInt8) (mo : Bool) : List (List UInt8) := if mo then spl r else []
theorem lft_cut (r : List UInt8) : lft r true = (Lib.cut r [47]).1 :: lft (Lib.cut r [47]).2.1 (Lib.cut r [47]).2.2 := by
  unfold lft
  rw [if_pos rfl]
  exact cut_spl r
theorem bel_dn (n : Nat) (w : World) (q : Nat) : Below n w (w.drewN q) := ⟨rfl, rfl, rfl, Nat.le_refl _, fun _ _ => rfl⟩
def mS : Value → Value → Nat
  | .string b, .bool true => b.size + 1
  | _, _ => 0
end Go.Drv
namespace Go.Proofs.YtoplabhoedloeaaGreat
open Go Go.RowKit Go.Bv Go.Shelf Go.Drv
attribute [local go_sem] Oper.semAt_some
set_option linter.unusedVariables false
theorem cut_q (r : List UInt8) (hr : r.length ≤ 1000000) (w : World) (hm : MaxL w) :
    Calls Tryz.prog 31 #[.string (bs r), .string ⟨#[47]⟩] w fun e w' => e = .returned (.tuple #[.string (bs (Lib.cut r [47]).1), .string (bs (Lib.cut r [47]).2.1), .bool (Lib.cut r [47]).2.2]) ∧ ∃ n, w' = w.drewN n := by
  obtain ⟨m, hm⟩ := hm
  have h := Tryz.strings_Cut (bs r) ⟨#[47]⟩ m w (by rw [bs_size]; omega) hm
  have e1 : (bs r).data.toList = r := by unfold bs; simp
  have e2 : (ByteArray.mk #[47]).data.toList = [47] := rfl
  rw [e1, e2] at h
  exact h
theorem each_q (l : List UInt8) (w : World) :
    Calls Tryz.prog 19 #[.string (bs l)] w fun e w' => e = .returned (.func (Fn.func 30) #[] #[.pointer (some ⟨w.heap.size, 0, none⟩)]) ∧ w' = w.alloc (.cells #[.string (bs l)] 9) := by
  have hmf : ∀ (fn : Fn) (first cap : Array Value) (w : World), (Instr.makeFunc fn first cap).run Tryz.prog w = .ok (.func fn first cap) w := fun _ _ _ _ => rfl
  go_enter Tryz.func19, Tryz.ntmps19
  go_wp2
  go_ret
  exact ⟨rfl, rfl⟩
set_option maxRecDepth 100000 in
set_option maxHeartbeats 4000000 in
theorem each_stops (m p : Nat) (l : List UInt8) (w w0 : World) (hm : 3 ≤ m) (hw0 : Below w.heap.size w w0) (hp : w0.heap[p]? = some (.cells #[.string (bs l)] 9 (0, 0))) (hlim : l.length ≤ 1000000) (hne : l ≠ []) (hx : MaxL w) :
    SeqStopsK Fence.wide m Tryz.prog 30 #[.pointer (some ⟨p, 0, none⟩)] (fun x : List UInt8 => #[.string (bs x)]) (Below w.heap.size) (fun xs => xs = pts l) (fun pre => ∃ rest, pts l = pre ++ rest) (l.length + 1) w0 := fun rl J Jx W hW hJ hJx hY h0 => by
  have k0 := cell_of_row _ _ 0 _ _ _ ((hW.block _ (lt_of_block hp)).trans hp)
  have hem : (bs l).toList.isEmpty = false := by
    rw [bs_list]
    cases l with
    | nil => exact absurd rfl hne
    | cons x y => rfl
  have HL0 : Hid (pts l = lft l true) := Lib.hid (by unfold pts lft; rw [if_neg hne]; rfl)
  have HW := Lib.hid (hw0.trans (hW.mono hw0.size))
  have HY := Lib.hid hY
  have H0 := Lib.hid h0
  have HJA := Lib.hid hJ
  have HX := Lib.hid hx
  have HPL := Lib.hid (pts_len l)
  obtain ⟨N, hN⟩ : ∃ N, l.length = N := ⟨_, rfl⟩
  rw [hN] at HY HPL hlim
  have HNL := Lib.hid hN
  generalize pts l = P at *
  clear hJ hJx hp hW hY h0 hw0 hne hN
  refine callsIn_of_wp Tryz.func30 rfl trivial ?_ rfl
  simp only [Tryz.ntmps30, List.size_toArray, List.length_cons, List.length_nil, Nat.reduceAdd, Nat.reduceSub, Array.replicate_succ, Array.replicate_zero, List.push_toArray, List.append_toArray, List.nil_append, List.cons_append]
  gi_wp2
  gi_quiet (fail)
  gi_wp2
  have HWD := Lib.hid (fun q => (HW.out.trans (bel_dn w.heap.size W q)))
  have H0D := Lib.hid (fun q => HJA.out [] W (W.drewN q) none H0.out ⟨rfl, rfl, rfl, Nat.le_refl _, fun _ _ _ => rfl⟩ (fun r e => by cases e))
  gi_loopw [3, 4] (fun sv bv wr => ∃ (r : List UInt8) (mo : Bool) (pre : List (List UInt8)), sv = .string (bs r) ∧ bv = .bool mo ∧ Hid (P = pre ++ lft r mo ∧ r.length ≤ N) ∧ J pre wr ∧ Below w.heap.size w wr) (fun sv bv _ => mS sv bv)
  case atStart => exact ⟨l, true, [], rfl, rfl, Lib.hid ⟨by rw [HL0.out]; rfl, Nat.le_of_eq HNL.out⟩, H0D.out _, HWD.out _⟩
  case round =>
    clear k0 HW H0 HWD H0D hem
    obtain ⟨r, mo, pre, rfl, rfl, HR, hj, hb⟩ := hrel
    have HJ := Lib.hid hj
    have HB := Lib.hid hb
    clear hj hb
    rcases mo with _ | _
    · gi_wp2
      go_end0
      exact ⟨⟨_, rfl⟩, .inl ⟨_, by rw [HR.out.1]; exact (List.append_nil _).symm, HJ.out⟩⟩
    · have HC := Lib.hid (cut_q r (by have := HR.out.2; omega) wr (HX.out.stay HB.out))
      have HR2 := HR.out.1
      rw [lft_cut] at HR2
      have hcl := cut_len r
      have hcs := @cut_short r
      obtain ⟨⟨u, v, f⟩, hcut⟩ : ∃ z, Lib.cut r [47] = z := ⟨_, rfl⟩
      rw [hcut] at HC HR2 hcl hcs
      have HR3 := Lib.hid HR2
      clear HR2 hcut
      have HJD := Lib.hid (fun q => HJA.out pre wr (wr.drewN q) none HJ.out ⟨rfl, rfl, rfl, Nat.le_refl _, fun _ _ _ => rfl⟩ (fun r e => by cases e))
      have hlen : pre.length < N + 1 := by
        have h1 := congrArg List.length HR3.out
        have h2 := HPL.out
        rw [List.length_append, List.length_cons] at h1
        omega
      gi_wp2
      refine ⟨trivial, fun h => (by cases h), ?_⟩
      refine (callsIn_wide.2 HC.out).mono ?_
      rintro e w' ⟨rfl, q, hw⟩
      subst hw
      obtain ⟨fn, tmps, assign, body, hyi, hR⟩ := HY.out pre u (wr.drewN q) (HJD.out q) hlen
      have HRN := Lib.hid hR
      clear hR hlen
      gi_wp2
      refine ⟨fun h => (by cases h), (HRN.out).mono ?_⟩
      rintro e W1 (⟨rfl, hj, hk⟩ | ⟨rfl, hx⟩)
      · have HJ1 := Lib.hid hj
        have HB1 := Lib.hid ((HB.out.trans (bel_dn w.heap.size wr q)).trans hk)
        have HE : Hid (P = (pre ++ [u]) ++ lft v f ∧ v.length ≤ N) := Lib.hid ⟨by rw [HR3.out, List.append_assoc]; rfl, Nat.le_trans hcl HR.out.2⟩
        have hms : mS (.string (bs v)) (.bool f) < mS (.string (bs r)) (.bool true) := by
          rcases f with _ | _
          · show 0 < (bs r).size + 1; omega
          · show (bs v).size + 1 < (bs r).size + 1
            have := hcs rfl
            rw [bs_size, bs_size]
            omega
        clear hj hk HRN hyi HC hcl hcs
        gi_wp2
        exact ⟨⟨v, f, pre ++ [u], rfl, rfl, HE, HJ1.out, HB1.out⟩, hms⟩
      · have HX2 := Lib.hid hx
        gi_wp2
        refine bodyPost_ret (results_none rfl _ _ _) rfl ?_
        exact ⟨⟨_, rfl⟩, .inr ⟨_, ⟨lft v f, by rw [HR3.out, List.append_assoc]; rfl⟩, HX2.out⟩⟩
set_option maxRecDepth 100000 in
set_option maxHeartbeats 4000000 in
theorem each_stops0 (m p : Nat) (w w0 : World) (hm : 3 ≤ m) (hw0 : Below w.heap.size w w0) (hp : w0.heap[p]? = some (.cells #[.string (bs [])] 9 (0, 0))) :
    SeqStopsK Fence.wide m Tryz.prog 30 #[.pointer (some ⟨p, 0, none⟩)] (fun x : List UInt8 => #[.string (bs x)]) (Below w.heap.size) (fun xs => xs = pts []) (fun pre => ∃ rest, pts [] = pre ++ rest) (([] : List UInt8).length + 1) w0 := fun rl J Jx W hW hJ hJx hY h0 => by
  have hb : bs [] = ⟨#[]⟩ := rfl
  have hP : pts [] = [] := rfl
  rw [hb] at hp
  rw [hP]
  have k0 := cell_of_row _ _ 0 _ _ _ ((hW.block _ (lt_of_block hp)).trans hp)
  have H0D := Lib.hid (fun q => hJ [] W (W.drewN q) none h0 ⟨rfl, rfl, rfl, Nat.le_refl _, fun _ _ _ => rfl⟩ (fun r e => by cases e))
  clear hJ hJx hp hW hY h0 hw0 hP hb
  refine callsIn_of_wp Tryz.func30 rfl trivial ?_ rfl
  simp only [Tryz.ntmps30, List.size_toArray, List.length_cons, List.length_nil, Nat.reduceAdd, Nat.reduceSub, Array.replicate_succ, Array.replicate_zero, List.push_toArray, List.append_toArray, List.nil_append, List.cons_append]
  gi_wp2
  gi_quiet (fail)
  gi_wp2
  gi_loopw [4] (fun bv wr => bv = .bool false ∧ J [] wr) (fun _ _ => 0)
  case atStart => exact ⟨rfl, H0D.out _⟩
  case round =>
    obtain ⟨rfl, hj⟩ := hrel
    gi_wp2
    go_end0
    exact ⟨⟨_, rfl⟩, .inl ⟨_, rfl, hj⟩⟩
theorem each_any (m p : Nat) (l : List UInt8) (w w0 : World) (hm : 3 ≤ m) (hw0 : Below w.heap.size w w0) (hp : w0.heap[p]? = some (.cells #[.string (bs l)] 9 (0, 0))) (hlim : l.length ≤ 1000000) (hx : MaxL w) :
    SeqStopsK Fence.wide m Tryz.prog 30 #[.pointer (some ⟨p, 0, none⟩)] (fun x : List UInt8 => #[.string (bs x)]) (Below w.heap.size) (fun xs => xs = pts l) (fun pre => ∃ rest, pts l = pre ++ rest) (l.length + 1) w0 := by
  by_cases h : l = []
  · subst h; exact each_stops0 m p w w0 hm hw0 hp
  · exact each_stops m p l w w0 hm hw0 hp hlim h hx
end Go.Proofs.YtoplabhoedloeaaGreat
