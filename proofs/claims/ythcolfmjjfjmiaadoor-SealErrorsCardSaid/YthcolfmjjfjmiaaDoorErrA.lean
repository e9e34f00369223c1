/- Layer 16: errors.Is between two numbers of errors; a number's word; the document's Name. -/
import Derived.Test.YthcolfmjjfjmiaaDoorSeaD
import Derived.Lib.IfaceEq
namespace Go.Bv
open Go Go.RowKit
/-- the words of the errors, from the first on -/
def nmL16 : List ByteArray := [⟨#[97, 114, 103]⟩, ⟨#[100, 111, 109, 97, 105, 110]⟩, ⟨#[115, 104, 111, 114, 116]⟩, ⟨#[108, 111, 110, 103]⟩, ⟨#[102, 111, 114, 109]⟩, ⟨#[107, 105, 110, 100]⟩, ⟨#[101, 120, 104, 97, 117, 115, 116, 101, 100]⟩, ⟨#[122, 101, 114, 111]⟩, ⟨#[111, 118, 101, 114]⟩, ⟨#[110, 105, 108]⟩, ⟨#[104, 97, 110, 100, 108, 101]⟩, ⟨#[102, 117, 108, 108]⟩, ⟨#[115, 101, 101, 100]⟩, ⟨#[115, 117, 109]⟩, ⟨#[115, 97, 109, 101]⟩]
/-- an error's word; 0: none -/
def nm16 (c : Int) : ByteArray := if 1 ≤ c ∧ c ≤ 15 then nmL16.getD (c.toNat - 1) default else ⟨#[63]⟩
/-- the words lie in the variable b -/
structure NmD (b : Nat) (w : World) : Prop where
  lt : b < w.heap.size
  cell : ∀ i, i < 15 → w.cell? ⟨b, i, none⟩ = some (.string (nmL16.getD i default))
theorem NmD.stay {b : Nat} {w w' : World} (h : NmD b w) (hn : New w w') : NmD b w' where
  lt := Nat.lt_of_lt_of_le h.lt hn.le
  cell := fun i hi => by
    have e := hn.block b h.lt
    rw [← h.cell i hi]
    unfold World.cell?
    rw [e]
theorem nm16_size (c : Int) : (nm16 c).size ≤ 9 := by
  unfold nm16
  split
  · rename_i h
    have h15 : c.toNat - 1 < 15 := by omega
    have : ∀ i : Fin 15, (nmL16.getD i.val default).size ≤ 9 := by decide +kernel
    exact this ⟨c.toNat - 1, h15⟩
  · decide
end Go.Bv
namespace Go.Proofs.YthcolfmjjfjmiaaDoor
open Go.RowKit Go.Extern.Stop Go.Stop Go.Extern Go.Bv
set_option linter.unusedVariables false
theorem as_noIs (v : Value) (xT : TypeId) (w : World) : (Instr.typeAssert (.iface 50 v) xT 98 true).run Tryd.prog w = .ok (.tuple #[.nilIface, .bool false]) w := run_typeAssert_lacksB Tryd.underlying98 (by kernel_rfl) (by kernel_rfl) v xT w
theorem as_noUn (v : Value) (xT : TypeId) (w : World) : (Instr.typeAssert (.iface 50 v) xT 91 true).run Tryd.prog w = .ok (.tuple #[.nilIface, .bool false]) w := run_typeAssert_lacksB Tryd.underlying91 (by kernel_rfl) (by kernel_rfl) v xT w
theorem as_noUns (v : Value) (xT : TypeId) (w : World) : (Instr.typeAssert (.iface 50 v) xT 93 true).run Tryd.prog w = .ok (.tuple #[.nilIface, .bool false]) w := run_typeAssert_lacksB Tryd.underlying93 (by kernel_rfl) (by kernel_rfl) v xT w
/-- a number as an error -/
abbrev codeV (c : Int) : Value := .iface 50 (.int .i64 c)
theorem as_eqi (c d : Int) (w : World) : (binOp .eql 36 (.iface 50 (.int .i64 c)) (.iface 50 (.int .i64 d))).run Tryd.prog w = .ok (.bool (c == d)) w :=
  Lib.run_eql_iface_int w c d Tryd.underlying36 (by kernel_rfl) Tryd.underlying50
set_option maxRecDepth 100000 in
theorem is_in (c d : Int) (w : World) : Calls Tryd.prog 55 #[codeV c, codeV d, .bool true] w fun e w' => e = .returned (.bool (c == d)) ∧ w' = w := by
  have h0 := as_eqi
  have h1 := as_noIs
  have h2 := as_noUn
  have h3 := as_noUns
  by_cases hcd : c = d
  · have hb : (c == d) = true := by rw [beq_iff_eq]; exact hcd
    go_enter Tryd.func55, Tryd.ntmps55
    go_wp2_with fail
    refine wp_loop_rounds 1 ?_
    rw [rounds_succ]
    go_wp2
    go_ret
    exact ⟨by rw [hb]; rfl, rfl⟩
  · have hb : (c == d) = false := by rw [beq_eq_false_iff_ne]; exact hcd
    go_enter Tryd.func55, Tryd.ntmps55
    go_wp2_with fail
    refine wp_loop_rounds 1 ?_
    rw [rounds_succ]
    go_wp2
    go_ret
    exact ⟨by rw [hb]; rfl, rfl⟩
theorem as_typeOfC (v : Value) (w : World) : (ReflectliteType.typeOf #[.iface 50 v]).run Tryd.prog w = .ok (.iface 83 (.agg #[.pointer (some ⟨5, 50, none⟩)])) w := by kernel_rfl
theorem as_mComp (h : Value) (w : World) : (Go.method 242 83 (.agg #[h]) "Comparable").run Tryd.prog w = .ok (91, .agg #[h]) w := by kernel_rfl
theorem as_comp (w : World) : (ReflectliteType.method (fun t => do Rtype.noPackHeld "Comparable" t; (fun a => Value.bool a.comparable) <$> typeInfo t) #[.agg #[.pointer (some ⟨5, 50, none⟩)]]).run Tryd.prog w = .ok (.bool true) w := by kernel_rfl
set_option maxRecDepth 100000 in
theorem is_16 (c d : Int) (w : World) : Calls Tryd.prog 50 #[codeV c, codeV d] w fun e w' => e = .returned (.bool (c == d)) ∧ w' = w := by
  have h7 := @run_callFunc_extern Tryd.prog 52 _ ReflectliteType.typeOf Tryd.func52 (by kernel_rfl) (by kernel_rfl) (by kernel_rfl) (by kernel_rfl)
  have h8 := @run_callFunc_extern Tryd.prog 91 _ (ReflectliteType.method (fun t => do Rtype.noPackHeld "Comparable" t; (fun a => Value.bool a.comparable) <$> typeInfo t)) Tryd.func91 (by kernel_rfl) (by kernel_rfl) (by kernel_rfl) (by kernel_rfl)
  have tO := as_typeOfC
  have mA := as_mComp
  have aA := as_comp
  have H := Lib.hid (is_in c d w)
  go_enter Tryd.func50, Tryd.ntmps50
  go_wp2_with fail
  refine H.out.mono ?_
  rintro e w' ⟨rfl, rfl⟩
  go_wp2
  go_ret
  exact ⟨rfl, rfl⟩
set_option maxRecDepth 100000 in
theorem nm_index (k : Nat) (hk : k < 15) (w : World) : (Instr.index 80 (.agg #[.string (nmL16[0]?.getD default), .string (nmL16[1]?.getD default), .string (nmL16[2]?.getD default), .string (nmL16[3]?.getD default), .string (nmL16[4]?.getD default), .string (nmL16[5]?.getD default), .string (nmL16[6]?.getD default), .string (nmL16[7]?.getD default), .string (nmL16[8]?.getD default), .string (nmL16[9]?.getD default), .string (nmL16[10]?.getD default), .string (nmL16[11]?.getD default), .string (nmL16[12]?.getD default), .string (nmL16[13]?.getD default), .string (nmL16[14]?.getD default)]) (.int .i64 (k : Int))).run Tryd.prog w = .ok (.string (nmL16[k]?.getD default)) w := by
  rcases (show k = 0 ∨ k = 1 ∨ k = 2 ∨ k = 3 ∨ k = 4 ∨ k = 5 ∨ k = 6 ∨ k = 7 ∨ k = 8 ∨ k = 9 ∨ k = 10 ∨ k = 11 ∨ k = 12 ∨ k = 13 ∨ k = 14 by omega) with rfl | rfl | rfl | rfl | rfl | rfl | rfl | rfl | rfl | rfl | rfl | rfl | rfl | rfl | rfl
  all_goals rfl
theorem nm16_at (k : Nat) (hk : k < 15) : nm16 ((k : Int) + 1) = nmL16[k]?.getD default := by
  unfold nm16
  rw [if_pos (by omega), show ((k : Int) + 1).toNat - 1 = k by omega, List.getD_eq_getElem?_getD]
set_option maxRecDepth 100000 in
set_option maxHeartbeats 2000000 in
theorem code_err (c : Int) (w : World) (hN : NmD 1 w) : Calls Tryd.prog 43 #[.int .i64 c] w fun e w' => e = .returned (.string (nm16 c)) ∧ w' = w := by
  have hcl := fun i hi => hN.cell i hi
  have hix := nm_index
  clear hN
  go_enter Tryd.func43, Tryd.ntmps43
  go_wp2_with fail
  clear hcl
  go_loopw [6] (fun mv wr => ∃ k : Nat, k ≤ 15 ∧ mv = .int .i64 (k : Int) ∧ Hid (∀ j : Nat, j < k → ¬ c = (j : Int) + 1) ∧ wr = w) (fun mv _ => (15 - intOf mv).toNat)
  case atStart => exact ⟨0, by omega, rfl, Lib.hid (by omega), rfl⟩
  case round =>
    obtain ⟨k, hk, rfl, HJ, rfl⟩ := hrel
    by_cases hlt : (k : Int) < 15
    · have hk15 : k < 15 := by omega
      have hx := hix k hk15
      have hkw : wrap64 ((k : Int) + 1) = (k : Int) + 1 := by unfold wrap64; omega
      clear hix
      have HI := Lib.hid (fun w => is_16 c ((k : Int) + 1) w)
      by_cases hc : c = (k : Int) + 1
      · have hb : (c == (k : Int) + 1) = true := by rw [beq_iff_eq]; exact hc
        have HV : Hid (nm16 c = nmL16[k]?.getD default) := Lib.hid (by rw [hc]; exact nm16_at k hk15)
        clear hc HJ
        go_wp2_with fail
        refine (HI.out _).mono ?_
        rintro e w' ⟨rfl, rfl⟩
        rw [hb]
        go_wp2
        go_ret
        exact ⟨by rw [HV.out]; rfl, rfl⟩
      · have hb : (c == (k : Int) + 1) = false := by rw [beq_eq_false_iff_ne]; exact hc
        have HJ2 : Hid (∀ j : Nat, j < k + 1 → ¬ c = (j : Int) + 1) := Lib.hid (fun j hj => by
          rcases Nat.lt_or_ge j k with h | h
          · exact HJ.out j h
          · rw [show j = k by omega]; exact hc)
        clear hc HJ
        go_wp2_with fail
        refine (HI.out _).mono ?_
        rintro e w' ⟨rfl, rfl⟩
        rw [hb]
        go_wp2
        exact ⟨⟨k + 1, by omega, by rw [Int.natCast_add]; rfl, HJ2, by first | rfl | trivial⟩, by simp [intOf]; omega⟩
    · have HV : Hid (nm16 c = ⟨#[63]⟩) := Lib.hid (by
        unfold nm16
        rw [if_neg]
        rintro ⟨h1, h2⟩
        exact HJ.out (c.toNat - 1) (by omega) (by omega))
      clear HJ hix
      go_wp2
      go_ret
      exact ⟨by rw [HV.out]; rfl, rfl⟩
end Go.Proofs.YthcolfmjjfjmiaaDoor
