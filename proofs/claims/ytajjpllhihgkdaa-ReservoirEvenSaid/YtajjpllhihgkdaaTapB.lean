/- Contracts of layer 37: New, made, Used, Left, Taken. -/
import Derived.Test.YtajjpllhihgkdaaTapA
namespace Go.Proofs.Ytajjpllhihgkdaa
open Go.RowKit Go.Bv
set_option linter.unusedVariables false
set_option maxHeartbeats 1000000 in
theorem made_t (b g : Nat) (l : List (BitVec 64)) (k : Nat) (w : World) (h : Tape w b g l k) :
    Calls Try.prog 45 #[.pointer (some ⟨b, 0, none⟩)] w fun e w' => e = .returned (.bool true) ∧ w' = w := by
  obtain ⟨c, v, a, cap, h⟩ := h
  have c0 : w.cell? ⟨b, 0, none⟩ = some (.func (Fn.func 41) #[] #[.pointer (some ⟨c, 0, none⟩)]) := cell_of_row _ _ 0 _ _ _ h.box
  clear h
  have hne : ∀ (w : World), (binOp .neq 66 (.func (Fn.func 41) #[] #[.pointer (some ⟨c, 0, none⟩)]) .nilFunc).run Try.prog w = .ok (.bool true) w := fun w => by
    kernel_rfl
  go_enter Try.func45, Try.ntmps45
  go_wp2
  go_ret
  exact ⟨rfl, rfl⟩
theorem own_len {w : World} {base : Nat} {e : TypeId} {v : Value} {n : Nat} {xs : List Value} (h : w.ownsRow base e 1 v n xs) : ∃ a cap, v = .slice a n cap ∧ (a.isNone = true → n = 0) := by
  rcases h.2 with ⟨rfl, rfl⟩ | ⟨g, cap, cur, rfl, _⟩
  · exact ⟨_, _, rfl, fun _ => rfl⟩
  · exact ⟨_, _, rfl, fun h => by cases h⟩
set_option maxHeartbeats 1000000 in
theorem used_t (b g : Nat) (l : List (BitVec 64)) (k : Nat) (w : World) (h : Tape w b g l k) :
    Calls Try.prog 24 #[.pointer (some ⟨b, 0, none⟩)] w fun e w' => e = .returned (.int .i64 (k : Int)) ∧ w' = w := by
  have HM := Lib.hid (made_t b g l k w h)
  obtain ⟨c, v, a, cap, h⟩ := h
  obtain ⟨x, cap2, rfl, _⟩ := own_len h.taken
  have c6 : w.cell? ⟨b, 6, none⟩ = some (.slice x k cap2) := cell_of_row _ _ 6 _ _ _ h.box
  clear h
  go_enter Try.func24, Try.ntmps24
  go_wp2_with fail
  refine HM.out.mono ?_
  rintro e w' ⟨rfl, rfl⟩
  go_wp2
  go_ret
  exact ⟨rfl, rfl⟩
set_option maxHeartbeats 1000000 in
theorem new_t (a : Option Addr) (len cap : Nat) (l : List (BitVec 64)) (w : World) (h : QRow w a len cap l) :
    Calls Try.prog 21 #[.slice a len cap] w fun e w' => ∃ b, e = .returned (.pointer (some ⟨b, 0, none⟩)) ∧ w.heap.size ≤ b ∧ Tape w' b b l 0 ∧ New w w' := by
  have hmf : ∀ (fn : Fn) (first cap : Array Value) (w : World), (Instr.makeFunc fn first cap).run Try.prog w = .ok (.func fn first cap) w := fun _ _ _ _ => rfl
  have hmost := h.most
  obtain rfl := h.len_eq
  have HC := Lib.hid (clone_q a l.length cap l w h)
  clear h
  go_enter Try.func21, Try.ntmps21
  go_wp2_with fail
  refine HC.out.mono ?_
  rintro e w1 ⟨v, rfl, how, hn⟩
  obtain ⟨a3, cap3, rfl, hq3⟩ := QRow.of_owns how (by omega)
  have hc := heap_alloc_new w1 (.cells #[.slice a3 l.length cap3] 38)
  have HQ := Lib.hid hq3
  have HN := Lib.hid hn
  have HC1 := Lib.hid hc
  clear how hq3 hn hc
  go_wp2
  go_ret
  refine ⟨_, rfl, by have := HN.out.le; omega, ⟨w1.heap.size, .slice none 0 0, a3, cap3, ?_⟩, (HN.out.alloc _).alloc _⟩
  obtain ⟨h1, h2, h3⟩ := two_blocks w1 (.cells #[.slice a3 l.length cap3] 38) (.cells (tapeCells w1.heap.size (.slice none 0 0) ((l.length : Nat) : Int)) 68)
  refine ⟨h2, h1, by omega, HQ.out.stay h3, ?_, Nat.zero_le _, World.ownsRow_nil _ _ _ _, (fun g' e => by cases e), fun _ => rfl, by omega, ?_⟩
  · intro x e h0
    have := HQ.out.old x e h0
    omega
  · intro x e h0
    have := HQ.out.old x e h0
    omega
end Go.Proofs.Ytajjpllhihgkdaa
