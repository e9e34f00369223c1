import Derived.Test.YthkmcnlciefnfaaGreatZ5AliM
import Derived.Test.YthkmcnlciefnfaaGreatZ5Crw
import Derived.Test.YthkmcnlciefnfaaGreatZ5RowI
import Derived.Test.YthkmcnlciefnfaaGreatZ5DivM
import Derived.Handy
import Derived.BigRegion
import Derived.Deep.RegionHeld3
import Derived.Deep.DeepCutAuto
import Derived.Deep.RegionWith
/- Layer 43: the first item that is such; which items have less, which more. -/
namespace Go.Proofs.YthkmcnlciefnfaaGreat
open Go Go.RowKit Go.Bv Go.Ali
set_option linter.unusedVariables false
set_option maxRecDepth 100000
set_option maxHeartbeats 4000000 in
theorem first_q (n : Nat) (hn : n ≤ 1000000) (G : Nat) (caps : Array Value) (p : Nat → Bool) (I : World → Prop) (w : World) (hG : ∀ (x : Value) (w : World), (callFunc G (#[x] ++ caps)).run Tryz.prog w = .ok (.enter G (#[x] ++ caps)) w)
    (h0 : I w) (hs : ∀ i w', i < n → I w' → Calls Tryz.prog G (#[.int .i64 (i : Int)] ++ caps) w' fun e w'' => e = .returned (.bool (p i)) ∧ I w'') :
    Calls Tryz.prog 72 #[.int .i64 (n : Int), .func (Fn.func G) #[] caps] w fun e w' => e = .returned (.tuple #[.int .i64 (((fnd p n).getD 0 : Nat) : Int), .bool (fnd p n).isSome]) ∧ I w' := by
  have HS := Lib.hid hs
  have HG := Lib.hid hG
  have H0 := Lib.hid h0
  clear hs h0 hG
  go_enter Tryz.func72, Tryz.ntmps72
  go_wp2_with fail
  go_loopw [8] (fun iv wr => ∃ i : Nat, i ≤ n ∧ iv = .int .i64 (i : Int) ∧ Hid (I wr) ∧ Hid (∀ j, j < i → p j = false)) (fun iv _ => n - (intOf iv).toNat)
  case atStart => exact ⟨0, Nat.zero_le _, rfl, H0, Lib.hid (fun j hj => absurd hj (by omega))⟩
  case round =>
    obtain ⟨i, hi, rfl, HI, HP⟩ := hrel
    by_cases hlt : (i : Int) < (n : Int)
    · have hin : i < n := by omega
      have HC := Lib.hid (HS.out i _ hin HI.out)
      rcases hb : p i with _ | _
      · rw [hb] at HC
        have HP2 : Hid (∀ j, j < i + 1 → p j = false) := Lib.hid (fun j hj => by
          by_cases e : j = i
          · subst e; exact hb
          · exact HP.out j (by omega))
        clear hb
        go_wp2_with fail
        rw [HG.out, Oper.upon_enter]
        refine (HC.out).mono ?_
        rintro e w9 ⟨rfl, hI⟩
        have HI9 := Lib.hid hI
        clear hI HC
        go_wp2
        exact ⟨⟨i + 1, by omega, by go_num, HI9, HP2⟩, by simp [intOf]; omega⟩
      · rw [hb] at HC
        have HF := Lib.hid (fnd_at hin hb HP.out)
        clear hb
        go_wp2_with fail
        rw [HG.out, Oper.upon_enter]
        refine (HC.out).mono ?_
        rintro e w9 ⟨rfl, hI⟩
        have HI9 := Lib.hid hI
        clear hI HC
        go_wp2
        go_ret2
        rw [HF.out]
        exact ⟨rfl, HI9.out⟩
    · obtain rfl : i = n := by omega
      have HF := Lib.hid (fnd_none.2 HP.out)
      go_wp2
      go_ret2
      rw [HF.out]
      exact ⟨rfl, HI.out⟩
/-- the memory of a table that is being made: what items have, which columns are filled -/
structure FM (w : World) (bf bh bt gf gh n : Nat) (T : BitVec 64) (s : St) : Prop where
  b1 : w.heap[bf]? = some (.cells #[.slice (some ⟨gf, 0, none⟩) n n] 116 (0, 0))
  b2 : w.heap[bh]? = some (.cells #[.slice (some ⟨gh, 0, none⟩) n n] 25 (0, 0))
  b3 : w.heap[bt]? = some (.cells #[.int .u64 (W64 T)] 22 (0, 0))
  fl : w.rowIs gf 4 n (fun i => .bool (s.fl i))
  hs : w.rowIs gh 22 n (fun i => .int .u64 (W64 (s.has i)))
theorem ris_stay {w w' : World} {b n : Nat} {t : TypeId} {f : Nat → Value} (h : w.rowIs b t n f) (hn : New w w') : w'.rowIs b t n f := h.of_block (hn.block _ h.lt)
theorem blk_stay {w w' : World} {g : Nat} {o : Obj} (h : w.heap[g]? = some o) (hn : New w w') : w'.heap[g]? = some o := (hn.block _ (lt_of_block h)).trans h
theorem FM.stay {w w' : World} {bf bh bt gf gh n : Nat} {T : BitVec 64} {s : St} (h : FM w bf bh bt gf gh n T s) (hn : New w w') : FM w' bf bh bt gf gh n T s :=
  ⟨blk_stay h.b1 hn, blk_stay h.b2 hn, blk_stay h.b3 hn, ris_stay h.fl hn, ris_stay h.hs hn⟩
theorem dlt (a b : BitVec 64) : decide (W64 a < W64 b) = decide (a.toNat < b.toNat) := decide_eq_decide.2 (by unfold W64; omega)
set_option maxHeartbeats 4000000 in
theorem less_q (bf bh bt gf gh n i : Nat) (hi : i < n) (hn : n ≤ 1000000) (T : BitVec 64) (s : St) (w : World) (h : FM w bf bh bt gf gh n T s) :
    Calls Tryz.prog 70 #[.int .i64 (i : Int), .pointer (some ⟨bf, 0, none⟩), .pointer (some ⟨bh, 0, none⟩), .pointer (some ⟨bt, 0, none⟩)] w fun e w' => e = .returned (.bool (ls T s i)) ∧ New w w' := by
  have c1 := cell_of_row _ _ 0 _ _ _ h.b1
  have c2 := cell_of_row _ _ 0 _ _ _ h.b2
  have c3 := cell_of_row _ _ 0 _ _ _ h.b3
  have c4 := h.fl.cell hi
  have c5 := h.hs.cell hi
  have hi0 : (0 : Int) ≤ (i : Int) := by omega
  have hin : (i : Int) < (n : Int) := by omega
  have HL : Hid (ls T s i = (!s.fl i && decide ((s.has i).toNat < T.toNat))) := Lib.hid rfl
  have hd := dlt (s.has i) T
  obtain ⟨x, hx⟩ : ∃ x, s.has i = x := ⟨_, rfl⟩
  rw [hx] at c5 HL hd
  obtain ⟨d, hd2⟩ : ∃ d, decide (x.toNat < T.toNat) = d := ⟨_, rfl⟩
  rw [hd2] at HL hd
  rcases hf : s.fl i with _ | _
  all_goals (
    rw [hf] at c4 HL
    clear h hx hd2 hf
    go_enter Tryz.func70, Tryz.ntmps70
    go_wp2
    go_region
    go_wp2
    go_ret
    rw [HL.out]
    first | exact ⟨rfl, New.refl _⟩ | exact ⟨rfl, (New.refl _).drew⟩ | exact ⟨by simp, New.refl _⟩ | exact ⟨by simp, (New.refl _).drew⟩)
set_option maxHeartbeats 4000000 in
theorem more_q (bf bh bt gf gh n i : Nat) (hi : i < n) (hn : n ≤ 1000000) (T : BitVec 64) (s : St) (w : World) (h : FM w bf bh bt gf gh n T s) :
    Calls Tryz.prog 71 #[.int .i64 (i : Int), .pointer (some ⟨bf, 0, none⟩), .pointer (some ⟨bh, 0, none⟩), .pointer (some ⟨bt, 0, none⟩)] w fun e w' => e = .returned (.bool (mo T s i)) ∧ New w w' := by
  have c1 := cell_of_row _ _ 0 _ _ _ h.b1
  have c2 := cell_of_row _ _ 0 _ _ _ h.b2
  have c3 := cell_of_row _ _ 0 _ _ _ h.b3
  have c4 := h.fl.cell hi
  have c5 := h.hs.cell hi
  have hi0 : (0 : Int) ≤ (i : Int) := by omega
  have hin : (i : Int) < (n : Int) := by omega
  have HL : Hid (mo T s i = (!s.fl i && decide (T.toNat < (s.has i).toNat))) := Lib.hid rfl
  have hd := dlt T (s.has i)
  obtain ⟨x, hx⟩ : ∃ x, s.has i = x := ⟨_, rfl⟩
  rw [hx] at c5 HL hd
  obtain ⟨d, hd2⟩ : ∃ d, decide (T.toNat < x.toNat) = d := ⟨_, rfl⟩
  rw [hd2] at HL hd
  rcases hf : s.fl i with _ | _
  all_goals (
    rw [hf] at c4 HL
    clear h hx hd2 hf
    go_enter Tryz.func71, Tryz.ntmps71
    go_wp2
    go_region
    go_wp2
    go_ret
    rw [HL.out]
    first | exact ⟨rfl, New.refl _⟩ | exact ⟨rfl, (New.refl _).drew⟩ | exact ⟨by simp, New.refl _⟩ | exact ⟨by simp, (New.refl _).drew⟩)
end Go.Proofs.YthkmcnlciefnfaaGreat
