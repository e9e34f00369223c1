/- Layer 17: any state as bytes and as a line, or what is wrong with it: the walk of the statement GcodeTells; the chapter's example. -/
import Derived.Test.YtjmnhooenampkaaGreatDoorGctA
import Derived.Test.YtjmnhooenampkaaGreatDoorGrow
namespace Go.Bv
open Go Go.RowKit
def SV (n : Nat) (v : Value) : Prop := ∃ a c, v = .slice a n c
def SR (l : List (BitVec 8)) (n : Nat) (v : Value) (w : World) : Prop := ∀ a c, v = .slice a n c → BRow w a n c l
theorem SV.some (n : Nat) : ∃ v, SV n v := ⟨.slice none n 0, none, 0, rfl⟩
theorem SR.stay {l : List (BitVec 8)} {n : Nat} {v : Value} {w w' : World} (h : SR l n v w) (hn : New w w') : SR l n v w' := fun a c e => (h a c e).stay hn
theorem SR.row {l : List (BitVec 8)} {n c : Nat} {a : Option Addr} {w : World} (h : SR l n (.slice a n c) w) : BRow w a n c l := h a c rfl
end Go.Bv
namespace Go.Proofs.YtjmnhooenampkaaGreatDoor
open Go.RowKit Go.Bv
set_option linter.unusedVariables false
theorem ex17_chk : chkK 1 ⟨0#64, 0#64, 0#64, 0#64⟩ = 0 := by decide
theorem ex17_line : tG 1 ⟨0#64, 0#64, 0#64, 0#64⟩ 1 = ⟨#[115, 112, 108, 105, 116, 32, 48, 48, 48, 48, 48, 48, 48, 48, 48, 48, 48, 48, 48, 48, 48, 48]⟩ := by decide +kernel
set_option maxRecDepth 100000 in
set_option maxHeartbeats 1000000 in
theorem awake17 (w : World) : Calls Tryz.prog 6 #[] w fun e w' => e = .returned (.bool true) ∧ New w w' := by
  have H1 := Lib.hid (fun w => marshal_yes 1 ⟨0#64, 0#64, 0#64, 0#64⟩ w ex17_chk)
  have H2 := Lib.hid (fun w => line_yes 1 ⟨0#64, 0#64, 0#64, 0#64⟩ w ex17_chk)
  rw [show nK 1 = 1 from rfl, show stc 1 ⟨0#64, 0#64, 0#64, 0#64⟩ = #[.int .i64 1, .int .u64 0, .int .u64 0, .int .u64 0, .int .u64 0] from rfl] at H1 H2
  rw [ex17_line] at H2
  go_enter Tryz.func6, Tryz.ntmps6
  go_wp2_with fail
  refine (H1.out _).mono ?_
  rintro e w9 ⟨⟨a, c, rfl, _⟩, hn⟩
  have HN := Lib.hid hn
  clear hn H1
  go_wp2_with fail
  refine (H2.out _).mono ?_
  rintro e w9 ⟨rfl, hn⟩
  replace HN := Lib.hid (HN.out.trans hn)
  clear hn H2
  go_wp2
  go_ret
  exact ⟨rfl, HN.out⟩
end Go.Proofs.YtjmnhooenampkaaGreatDoor
