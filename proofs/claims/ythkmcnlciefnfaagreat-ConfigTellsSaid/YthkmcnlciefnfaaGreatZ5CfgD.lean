import Derived.Test.YthkmcnlciefnfaaGreatZ5CfgC
/- Layer 47: the chapter's example; a config as the document's; configs held against each other; the config of a state. -/
namespace Go.Proofs.YthkmcnlciefnfaaGreat
open Go Go.RowKit Go.Bv
set_option linter.unusedVariables false
set_option maxRecDepth 100000
theorem qnoneC (w : World) : QRow w none 0 0 [] := ⟨rfl, Nat.le_refl _, by omega, by omega, fun _ => ⟨rfl, rfl⟩, (fun _ _ e => by cases e), (fun _ e => by cases e), (fun _ e => by cases e)⟩
theorem seal16_head (x : BitVec 8) (l : List (BitVec 8)) : (seal16 (x :: l)).getD 0 0 = x := rfl
theorem ex47 : cfE 1 4 0 0#64 0#64 [] = 0 := by decide
theorem enH_head (t k b : Int) (h l : BitVec 64) (n : Nat) : ∃ r, enH t k b h l n = 99#8 :: r := ⟨_, rfl⟩
theorem awake47 (w : World) : Calls Tryz.prog 5 #[] w fun e w' => e = .returned (.bool true) ∧ New w w' := by
  have HE : Hid (Calls Tryz.prog 6 #[.agg #[.int .i64 1, .int .i64 4, .int .i64 0, .int .u64 0, .int .u64 0, .slice none 0 0]] w fun e w' => (∃ a' c', e = .returned (.tuple #[.slice a' 28 c', .int .i64 0]) ∧ BRow w' a' 28 c' (seal16 (enH 1 4 0 0#64 0#64 0 ++ wB [] 0))) ∧ New w w') := Lib.hid (enc_ok 1 4 0 0#64 0#64 none 0 0 [] w (qnoneC w) ex47 (by omega) (by omega) (by omega) (by omega))
  go_enter Tryz.func5, Tryz.ntmps5
  go_wp2_with fail
  refine HE.out.mono ?_
  rintro e w1 ⟨⟨a', c', rfl, hr⟩, hn⟩
  obtain ⟨p, o, rfl, hc⟩ := hr.addr (by omega)
  have c0 := hc 0 (by omega)
  obtain ⟨r, hr0⟩ := enH_head 1 4 0 0#64 0#64 0
  rw [hr0, List.cons_append, seal16_head] at c0
  replace c0 : w1.cell? ⟨p, o, none⟩ = some (.int .u8 99) := c0
  have HN := Lib.hid hn
  clear hn hc hr hr0 HE
  go_wp2
  go_ret
  exact ⟨rfl, HN.out⟩
theorem of_47 (t k b : Int) (h l : BitVec 64) (a : Option Addr) (n c : Nat) (w : World) : Calls Tryz.prog 8 #[.agg (cfc t k b h l a n c)] w fun e w' => e = .returned (.agg (cfc t k b h l a n c)) ∧ New w w' := by
  obtain ⟨hb1, hb2, hN⟩ := two_blocksK w (.cells (cfc t k b h l a n c) 27) (.cells #[.int .i64 0, .int .i64 0, .int .i64 0, .int .u64 0, .int .u64 0, .slice none 0 0] 34)
  generalize hW : (w.alloc (.cells (cfc t k b h l a n c) 27)).alloc (.cells #[.int .i64 0, .int .i64 0, .int .i64 0, .int .u64 0, .int .u64 0, .slice none 0 0] 34) = w0 at *
  have HB1 := Lib.hid hb1
  have HB2 := Lib.hid hb2
  have HN := Lib.hid hN
  clear hb1 hb2 hN
  have c0 := cell_of_row _ _ 0 _ _ _ HB1.out
  have c1 := cell_of_row _ _ 1 _ _ _ HB1.out
  have c2 := cell_of_row _ _ 2 _ _ _ HB1.out
  have c3 := cell_of_row _ _ 3 _ _ _ HB1.out
  have c4 := cell_of_row _ _ 4 _ _ _ HB1.out
  have c5 := cell_of_row _ _ 5 _ _ _ HB1.out
  have r0 := cell_of_row _ _ 0 _ _ _ HB2.out
  have r1 := cell_of_row _ _ 1 _ _ _ HB2.out
  have r2 := cell_of_row _ _ 2 _ _ _ HB2.out
  have r3 := cell_of_row _ _ 3 _ _ _ HB2.out
  have r4 := cell_of_row _ _ 4 _ _ _ HB2.out
  have r5 := cell_of_row _ _ 5 _ _ _ HB2.out
  have rf := fun i => frozen_of_row _ _ i _ _ HB2.out
  have hp := put6_factsC (.int .i64 t) (.int .i64 k) (.int .i64 b) (.int .u64 (W64 h)) (.int .u64 (W64 l)) (.slice a n c) HB2.out
  go_enter Tryz.func8, Tryz.ntmps8
  go_wp2_with fail
  refine bodyPost_ret (by simp [results, Tryz.results8, go_sem, r0, r1, r2, r3, r4, r5]; try rfl) rfl ?_
  exact ⟨rfl, hp.2.2 _ HN.out (Nat.le_succ _)⟩
/-- two configs are alike -/
def smE (t1 k1 b1 t2 k2 b2 : Int) (h1 l1 h2 l2 : BitVec 64) (x1 x2 : List (BitVec 64)) : Bool := (t1 == t2) && ((k1 == k2) && ((b1 == b2) && ((h1 == h2 && l1 == l2) && (x1 == x2))))
/-- as many of a state's words as its generator has -/
def q4l (k : Int) (q : W4) : List (BitVec 64) := [q.a, q.b, q.c, q.d].take (szK k).toNat
def QFar (m : Nat) (w : World) (v : Value) (n : Nat) (l : List (BitVec 64)) : Prop := ∃ a c, v = .slice a n c ∧ QRow w a n c l ∧ ∀ y, a = some y → m < y.block
theorem QFar.of_owns {w : World} {base m n : Nat} {e : TypeId} {v : Value} {l : List (BitVec 64)} (h : w.ownsRow base e 1 v n (l.map fun x => .int .u64 (W64 x))) (hn : n ≤ 17592186044416) (hm : m < base) : QFar m w v n l := by
  have hb := fun g e => (ow_ltB h g e).1
  obtain ⟨a, c, rfl, hr⟩ := QRow.of_owns h hn
  refine ⟨a, c, rfl, hr, fun y hy => ?_⟩
  subst hy
  have := hb y.block rfl
  omega
end Go.Proofs.YthkmcnlciefnfaaGreat
