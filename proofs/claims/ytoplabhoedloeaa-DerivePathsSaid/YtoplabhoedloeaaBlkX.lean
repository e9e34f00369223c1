/- The block's contracts, what they share. -/
import Derived.Test.YtoplabhoedloeaaBlkB
import Derived.Test.YtoplabhoedloeaaDivM
import Derived.Defers
import Derived.Recover
import Derived.Laws.Pointers
import Derived.Handy
import Derived.Laws.EntriesVeiled
namespace Go.Bv
open Go Go.RowKit
/-- the block holds no byte -/
def NoBytes (w : World) (q : Nat) : Prop := ∃ cs T fz, w.heap[q]? = some (.cells cs T fz) ∧ ∀ v ∈ cs.toList, ∀ i, v ≠ .int .u8 i
theorem BRow.apart {w : World} {q : Nat} {a : Option Addr} {len cap : Nat} {l : List (BitVec 8)} (h : BRow w a len cap l) (hq : NoBytes w q) : ∀ y, a = some y → 0 < len → y.block ≠ q := by
  intro y e h0 hy
  obtain ⟨cs, T, fz, hb, hcs⟩ := hq
  obtain ⟨b, off, e2, hc⟩ := h.addr h0
  rw [e] at e2
  cases e2
  have hc0 := hc 0 h0
  subst hy
  unfold World.cell? at hc0
  simp only [hb] at hc0
  simp only [Nat.add_zero] at hc0
  have hm : cs[off]? = some (.int .u8 (W8 (l.getD 0 0))) := by simpa using hc0
  exact hcs _ (by rw [← Array.getElem?_toList] at hm; exact List.mem_of_getElem? hm) _ rfl
theorem BRow.buts {w w' : World} {q : Nat} {a : Option Addr} {len cap : Nat} {l : List (BitVec 8)} (h : BRow w a len cap l) (hb : But q w w') (hq : NoBytes w q) : BRow w' a len cap l :=
  h.but hb.size (fun y e h0 => hb.block _ (h.old y e h0) (h.apart hq y e h0))
/-- a size that may be -/
def szN (i : Int) : Nat := (min (max i 1) 64).toNat
theorem szN_in (i : Int) : 1 ≤ szN i ∧ szN i ≤ 64 := by unfold szN; omega
/-- what lies there, for simp to leave alone -/
def Lies (w : World) (p : Nat) (o : Obj) : Prop := w.heap[p]? = some o
theorem brow_none (w : World) : BRow w none 0 0 [] := ⟨rfl, Nat.le_refl _, by omega, by omega, fun _ => ⟨rfl, rfl⟩, (fun _ _ e => by cases e), (fun _ e => by cases e), (fun _ e => by cases e)⟩
end Go.Bv
namespace Go.Proofs.Ytoplabhoedloeaa
open Go.RowKit Go.Bv
set_option linter.unusedVariables false
set_option maxHeartbeats 400000 in
theorem size_of (i : Int) (w : World) : Calls Try.prog 37 #[.int .i64 i] w fun e w' => e = .returned (.int .i64 (szN i : Nat)) ∧ w' = w := by
  go_enter Try.func37, Try.ntmps37
  go_wp2
  all_goals (go_ret; refine ⟨retI ?_, rfl⟩; (try split at *) <;> simp only [szN] <;> omega)
end Go.Proofs.Ytoplabhoedloeaa
