/- slices.Clone of words. -/
import Derived.Test.YtdjlbpgjbgepdaaGreatProg
import Derived.Test.YtdjlbpgjbgepdaaGreatRowQ
import Derived.Test.YtdjlbpgjbgepdaaGreatBut
import Derived.Deep.OwnRows
import Derived.OneCell
import Derived.Deep.AppendLies
import Derived.Handy
import Derived.BigRegion
namespace Go.Proofs.YtdjlbpgjbgepdaaGreat
open Go Go.RowKit Go.Bv
set_option linter.unusedVariables false
theorem info8_cq : (Tryz.prog.info? 23).map (fun i => (i.zero, i.size, i.bytes)) = some (some (.int .u64 0), 1, 8) := by kernel_rfl
set_option maxHeartbeats 1000000 in
theorem clone_q (a : Option Addr) (len cap : Nat) (l : List (BitVec 64)) (w : World) (h : QRow w a len cap l) :
    Calls Tryz.prog 28 #[.slice a len cap] w fun e w' => ∃ v, e = .returned v ∧ w'.ownsRow w.heap.size 23 1 v len (l.map fun x => .int .u64 (W64 x)) ∧ New w w' := by
  obtain ⟨i0, hi, hz0, hz1, hz2⟩ := info_parts info8_cq
  have hq : ∀ (w : World) (a : Option Addr) (n c n' c' : Nat), (binOp .eql 28 (.slice a n c) (.slice none n' c')).run Tryz.prog w = .ok (.bool a.isNone) w := fun w a n c n' c' => Lib.run_eql_slice_nil w _ _ a n c n' c' Tryz.underlying28
  cases a with
  | none =>
    obtain ⟨rfl, rfl⟩ := h.none rfl
    obtain rfl : l = [] := List.eq_nil_of_length_eq_zero h.len_eq
    go_enter Tryz.func28, Tryz.ntmps28
    go_wp2
    go_ret
    exact ⟨_, rfl, World.ownsRow_nil w _ _ 1, New.refl w⟩
  | some x =>
    have H := Lib.hid h
    clear h
    go_enter Tryz.func28, Tryz.ntmps28
    go_wp2_with (at_builtin; refine wpList_append_own _ rfl _ _ 28 rfl w.heap.size 23 i0 (.int .u64 0) 1 8 Tryz.underlying28 hi hz0 hz1 hz2 rfl (by decide) _ 0 [] rfl (World.ownsRow_made w #[] 0 (Nat.le_refl _) (Nat.zero_le _) (by simp)) x len cap (l.map fun x => .int .u64 (W64 x)) rfl ?c1 ?c2 ?c3 ?c4 ?c5 ?c6 ?_)
    case c1 => rw [List.length_map, H.out.len_eq]; omega
    case c2 => intro j u hj; exact Lib.cell?_alloc_some _ (H.out.olds x rfl j u hj)
    case c3 => intro u hu; rw [List.mem_map] at hu; obtain ⟨y, _, rfl⟩ := hu; rfl
    case c4 => have := H.out.most; unfold maxLen; omega
    case c5 => have := H.out.most; omega
    case c6 => simp
    intro v' w1 how hgr _
    have how2 : w1.ownsRow w.heap.size 23 1 v' len (l.map fun x => .int .u64 (W64 x)) := by simpa using how
    have hn1 : New w w1 := ((New.refl w).alloc _).grown' hgr (fun k hk => by simp [Value.ownBlock] at hk; omega)
    clear how hgr
    go_wp2
    go_ret
    exact ⟨_, rfl, how2, hn1⟩
end Go.Proofs.YtdjlbpgjbgepdaaGreat
