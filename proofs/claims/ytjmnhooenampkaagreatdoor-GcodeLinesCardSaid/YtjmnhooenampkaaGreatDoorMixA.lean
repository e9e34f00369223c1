/- Contracts of package mix and of modn.Odd: what each call returns, for every word; nothing that was there in memory changes. -/
import Derived.Test.YtjmnhooenampkaaGreatDoorProg
import Derived.Test.YtjmnhooenampkaaGreatDoorNew
namespace Go.Proofs.YtjmnhooenampkaaGreatDoor
open Go.RowKit Go.Bv
set_option linter.unusedVariables false
/-- the number of bits that n folds by -/
def sh (n : Int) : Nat := (min (max n 1) 63).toNat
def fold (z : BitVec 64) (n : Int) : BitVec 64 := z ^^^ z >>> sh n
set_option maxHeartbeats 400000 in
theorem shift_any (n : Int) (w : World) :
    Calls Tryz.prog 146 #[.int .i64 n] w fun e w' => e = .returned (.int .i64 (sh n)) ∧ w' = w := by
  go_enter Tryz.func146, Tryz.ntmps146
  go_wp2
  all_goals (go_ret; refine ⟨retI ?_, rfl⟩; (try split at *) <;> simp only [sh] <;> omega)
set_option maxHeartbeats 400000 in
theorem fold_any (z n : Int) (hz : 0 ≤ z ∧ z < 18446744073709551616) (w : World) :
    Calls Tryz.prog 112 #[.int .u64 z, .int .i64 n] w fun e w' => e = .returned (.int .u64 (W64 (fold (BitVec.ofInt 64 z) n))) ∧ w' = w := by
  obtain ⟨z, rfl⟩ := ex64 z hz
  rw [ofInt_W64]
  go_enter Tryz.func112, Tryz.ntmps112
  go_wp2_with (go_at_call 146; refine (shift_any _ _).mono ?_; rintro e w' ⟨rfl, rfl⟩)
  go_ret
  exact ⟨ret64 rfl, rfl⟩
/-- five steps, one behind the other -/
def chain (g0 g1 g2 g3 g4 : Int → BitVec 64) (z : Int) : BitVec 64 := g4 (W64 (g3 (W64 (g2 (W64 (g1 (W64 (g0 z))))))))
/-- what a step of a mixer promises -/
def Step64 (f : Nat) (g : Int → BitVec 64) : Prop := ∀ (x : Int) (w : World), 0 ≤ x ∧ x < 18446744073709551616 →
  Calls Tryz.prog f #[.int .u64 x] w fun e w' => e = .returned (.int .u64 (W64 (g x))) ∧ w' = w
set_option maxRecDepth 100000 in
set_option maxHeartbeats 400000 in
theorem run_any (f0 f1 f2 f3 f4 : Nat) (g0 g1 g2 g3 g4 : Int → BitVec 64) (h0 : Step64 f0 g0) (h1 : Step64 f1 g1) (h2 : Step64 f2 g2) (h3 : Step64 f3 g3) (h4 : Step64 f4 g4)
    (c0 : ∀ a w, (callFunc f0 a).run Tryz.prog w = .ok (.enter f0 a) w) (c1 : ∀ a w, (callFunc f1 a).run Tryz.prog w = .ok (.enter f1 a) w) (c2 : ∀ a w, (callFunc f2 a).run Tryz.prog w = .ok (.enter f2 a) w) (c3 : ∀ a w, (callFunc f3 a).run Tryz.prog w = .ok (.enter f3 a) w) (c4 : ∀ a w, (callFunc f4 a).run Tryz.prog w = .ok (.enter f4 a) w)
    (z : Int) (hz : 0 ≤ z ∧ z < 18446744073709551616) (W w : World) (hg : New W w) :
    Calls Tryz.prog 110 #[.int .u64 z, .agg #[.func (Fn.func f0) #[] #[], .func (Fn.func f1) #[] #[], .func (Fn.func f2) #[] #[], .func (Fn.func f3) #[] #[], .func (Fn.func f4) #[] #[]]] w
      fun e w' => e = .returned (.int .u64 (W64 (chain g0 g1 g2 g3 g4 z))) ∧ New W w' := by
  have i0 : ∀ w, (Instr.index 151 (.agg #[.func (Fn.func f0) #[] #[], .func (Fn.func f1) #[] #[], .func (Fn.func f2) #[] #[], .func (Fn.func f3) #[] #[], .func (Fn.func f4) #[] #[]]) (.int .i64 0)).run Tryz.prog w = .ok (.func (Fn.func f0) #[] #[]) w := fun _ => rfl
  have i1 : ∀ w, (Instr.index 151 (.agg #[.func (Fn.func f0) #[] #[], .func (Fn.func f1) #[] #[], .func (Fn.func f2) #[] #[], .func (Fn.func f3) #[] #[], .func (Fn.func f4) #[] #[]]) (.int .i64 1)).run Tryz.prog w = .ok (.func (Fn.func f1) #[] #[]) w := fun _ => rfl
  have i2 : ∀ w, (Instr.index 151 (.agg #[.func (Fn.func f0) #[] #[], .func (Fn.func f1) #[] #[], .func (Fn.func f2) #[] #[], .func (Fn.func f3) #[] #[], .func (Fn.func f4) #[] #[]]) (.int .i64 2)).run Tryz.prog w = .ok (.func (Fn.func f2) #[] #[]) w := fun _ => rfl
  have i3 : ∀ w, (Instr.index 151 (.agg #[.func (Fn.func f0) #[] #[], .func (Fn.func f1) #[] #[], .func (Fn.func f2) #[] #[], .func (Fn.func f3) #[] #[], .func (Fn.func f4) #[] #[]]) (.int .i64 3)).run Tryz.prog w = .ok (.func (Fn.func f3) #[] #[]) w := fun _ => rfl
  have i4 : ∀ w, (Instr.index 151 (.agg #[.func (Fn.func f0) #[] #[], .func (Fn.func f1) #[] #[], .func (Fn.func f2) #[] #[], .func (Fn.func f3) #[] #[], .func (Fn.func f4) #[] #[]]) (.int .i64 4)).run Tryz.prog w = .ok (.func (Fn.func f4) #[] #[]) w := fun _ => rfl
  go_enter Tryz.func110, Tryz.ntmps110
  go_wp2
  go_loop [0, 8] (fun t i => (i = .int .i64 0 ∧ t = .int .u64 z) ∨ (i = .int .i64 1 ∧ t = .int .u64 (W64 (g0 z))) ∨ (i = .int .i64 2 ∧ t = .int .u64 (W64 (g1 (W64 (g0 z))))) ∨ (i = .int .i64 3 ∧ t = .int .u64 (W64 (g2 (W64 (g1 (W64 (g0 z))))))) ∨ (i = .int .i64 4 ∧ t = .int .u64 (W64 (g3 (W64 (g2 (W64 (g1 (W64 (g0 z))))))))) ∨ (i = .int .i64 5 ∧ t = .int .u64 (W64 (g4 (W64 (g3 (W64 (g2 (W64 (g1 (W64 (g0 z)))))))))))) (fun _ i => 5 - (intOf i).toNat)
  case atStart => exact .inl ⟨rfl, rfl⟩
  case round =>
    rcases hrel with ⟨rfl, rfl⟩ | ⟨rfl, rfl⟩ | ⟨rfl, rfl⟩ | ⟨rfl, rfl⟩ | ⟨rfl, rfl⟩ | ⟨rfl, rfl⟩
    · go_wp2_with (refine (h0 _ _ hz).mono ?_; rintro e w' ⟨rfl, rfl⟩)
      exact ⟨.inr (.inl ⟨rfl, rfl⟩), by simp [intOf]⟩
    · go_wp2_with (refine (h1 _ _ (b64 _)).mono ?_; rintro e w' ⟨rfl, rfl⟩)
      exact ⟨.inr (.inr (.inl ⟨rfl, rfl⟩)), by simp [intOf]⟩
    · go_wp2_with (refine (h2 _ _ (b64 _)).mono ?_; rintro e w' ⟨rfl, rfl⟩)
      exact ⟨.inr (.inr (.inr (.inl ⟨rfl, rfl⟩))), by simp [intOf]⟩
    · go_wp2_with (refine (h3 _ _ (b64 _)).mono ?_; rintro e w' ⟨rfl, rfl⟩)
      exact ⟨.inr (.inr (.inr (.inr (.inl ⟨rfl, rfl⟩)))), by simp [intOf]⟩
    · go_wp2_with (refine (h4 _ _ (b64 _)).mono ?_; rintro e w' ⟨rfl, rfl⟩)
      exact ⟨.inr (.inr (.inr (.inr (.inr (⟨rfl, rfl⟩))))), by simp [intOf]⟩
    · go_wp2
      go_ret
      exact ⟨rfl, hg.alloc _⟩
end Go.Proofs.YtjmnhooenampkaaGreatDoor
