import Derived.Test.YthkmcnlciefnfaaGreatZ4CfgC
/- Layer 47: the chapter's example; a config as the document's; configs held against each other; the config of a state. -/
namespace Go.Proofs.YthkmcnlciefnfaaGreat
open Go Go.RowKit Go.Bv
set_option linter.unusedVariables false
set_option maxRecDepth 100000
theorem qnoneC (w : World) : QRow w none 0 0 [] := ⟨rfl, Nat.le_refl _, by omega, by omega, fun _ => ⟨rfl, rfl⟩, (fun _ _ e => by cases e), (fun _ e => by cases e), (fun _ e => by cases e)⟩
theorem seal16_head (x : BitVec 8) (l : List (BitVec 8)) : (seal16 (x :: l)).getD 0 0 = x := rfl
theorem ex47 : cfE 1 4 0 0#64 0#64 [] = 0 := by decide
theorem enH_head (t k b : Int) (h l : BitVec 64) (n : Nat) : ∃ r, enH t k b h l n = 99#8 :: r := ⟨_, rfl⟩
theorem awake47 (w : World) : Calls Tryz.prog 5 #[] w fun e w' => e = .returned (.bool true) ∧ New w w' := by
  have HE : Hid (Calls Tryz.prog 6 #[.agg #[.int .i64 1, .int .i64 4, .int .i64 0, .int .u64 0, .int .u64 0, .slice none 0 0]] w fun e w' => (∃ a' c', e = .returned (.tuple #[.slice a' 28 c', .int .i64 0]) ∧ BRow w' a' 28 c' (seal16 (enH 1 4 0 0#64 0#64 0 ++ wB [] 0))) ∧ New w w') := Lib.hid (enc_ok 1 4 0 0#64 0#64 none 0 0 [] w (qnoneC w) ex47 (by omega) (by omega) (by omega) (by omega))
  go_enter Tryz.func5, Tryz.ntmps5
  go_wp2_with fail
  refine HE.out.mono ?_
  rintro e w1 ⟨⟨a', c', rfl, hr⟩, hn⟩
  obtain ⟨p, o, rfl, hc⟩ := hr.addr (by omega)
  have c0 := hc 0 (by omega)
  obtain ⟨r, hr0⟩ := enH_head 1 4 0 0#64 0#64 0
  rw [hr0, List.cons_append, seal16_head] at c0
  replace c0 : w1.cell? ⟨p, o, none⟩ = some (.int .u8 99) := c0
  have HN := Lib.hid hn
  clear hn hc hr hr0 HE
  go_wp2
  go_ret
  exact ⟨rfl, HN.out⟩
theorem of_47 (t k b : Int) (h l : BitVec 64) (a : Option Addr) (n c : Nat) (w : World) : Calls Tryz.prog 8 #[.agg (cfc t k b h l a n c)] w fun e w' => e = .returned (.agg (cfc t k b h l a n c)) ∧ New w w' := by
  obtain ⟨hb1, hb2, hN⟩ := two_blocksK w (.cells (cfc t k b h l a n c) 27) (.cells #[.int .i64 0, .int .i64 0, .int .i64 0, .int .u64 0, .int .u64 0, .slice none 0 0] 34)
  generalize hW : (w.alloc (.cells (cfc t k b h l a n c) 27)).alloc (.cells #[.int .i64 0, .int .i64 0, .int .i64 0, .int .u64 0, .int .u64 0, .slice none 0 0] 34) = w0 at *
  have HB1 := Lib.hid hb1
  have HB2 := Lib.hid hb2
  have HN := Lib.hid hN
  clear hb1 hb2 hN
  have c0 := cell_of_row _ _ 0 _ _ _ HB1.out
  have c1 := cell_of_row _ _ 1 _ _ _ HB1.out
  have c2 := cell_of_row _ _ 2 _ _ _ HB1.out
  have c3 := cell_of_row _ _ 3 _ _ _ HB1.out
  have c4 := cell_of_row _ _ 4 _ _ _ HB1.out
  have c5 := cell_of_row _ _ 5 _ _ _ HB1.out
  have r0 := cell_of_row _ _ 0 _ _ _ HB2.out
  have r1 := cell_of_row _ _ 1 _ _ _ HB2.out
  have r2 := cell_of_row _ _ 2 _ _ _ HB2.out
  have r3 := cell_of_row _ _ 3 _ _ _ HB2.out
  have r4 := cell_of_row _ _ 4 _ _ _ HB2.out
  have r5 := cell_of_row _ _ 5 _ _ _ HB2.out
  have rf := fun i => frozen_of_row _ _ i _ _ HB2.out
  have hp := put6_factsC (.int .i64 t) (.int .i64 k) (.int .i64 b) (.int .u64 (W64 h)) (.int .u64 (W64 l)) (.slice a n c) HB2.out
  go_enter Tryz.func8, Tryz.ntmps8
  go_wp2_with fail
  refine bodyPost_ret (by simp [results, Tryz.results8, go_sem, r0, r1, r2, r3, r4, r5]; try rfl) rfl ?_
  exact ⟨rfl, hp.2.2 _ HN.out (Nat.le_succ _)⟩
theorem equ2 (h1 l1 h2 l2 : BitVec 64) (w : World) : (Op.equalIn 10000 24 (.agg #[.int .u64 (W64 h1), .int .u64 (W64 l1)]) (.agg #[.int .u64 (W64 h2), .int .u64 (W64 l2)])).run Tryz.prog w = .ok (h1 == h2 && l1 == l2) w := equ128 w h1 l1 h2 l2
theorem rsame_0 (t1 k1 b1 t2 k2 b2 : Int) (h1 l1 h2 l2 : BitVec 64) (a1 a2 : Option Addr) (n1 c1 n2 c2 : Nat) (x1 x2 : List (BitVec 64)) (w : World) (hr1 : QRow w a1 n1 c1 x1) (hr2 : QRow w a2 n2 c2 x2)  (g1 : (t1 == t2) = false) : Calls Tryz.prog 15 #[.agg (cfc t1 k1 b1 h1 l1 a1 n1 c1), .agg (cfc t2 k2 b2 h2 l2 a2 n2 c2)] w fun e w' => e = .returned (.bool (false)) ∧ New w w' := by
  obtain ⟨hb1, hb2, hN⟩ := two_blocksK w (.cells (cfc t1 k1 b1 h1 l1 a1 n1 c1) 34) (.cells (cfc t2 k2 b2 h2 l2 a2 n2 c2) 34)
  generalize hW : (w.alloc (.cells (cfc t1 k1 b1 h1 l1 a1 n1 c1) 34)).alloc (.cells (cfc t2 k2 b2 h2 l2 a2 n2 c2) 34) = w0 at *
  have HB1 := Lib.hid hb1
  have HB2 := Lib.hid hb2
  have HN := Lib.hid hN
  clear hb1 hb2 hN
  clear hr1 hr2
  have y0 := cell_of_row _ _ 0 _ _ _ HB1.out
  have y1 := cell_of_row _ _ 1 _ _ _ HB1.out
  have y2 := cell_of_row _ _ 2 _ _ _ HB1.out
  have y3 := cell_of_row _ _ 3 _ _ _ HB1.out
  have y4 := cell_of_row _ _ 4 _ _ _ HB1.out
  have y5 := cell_of_row _ _ 5 _ _ _ HB1.out
  have d0 := cell_of_row _ _ 0 _ _ _ HB2.out
  have d1 := cell_of_row _ _ 1 _ _ _ HB2.out
  have d2 := cell_of_row _ _ 2 _ _ _ HB2.out
  have d3 := cell_of_row _ _ 3 _ _ _ HB2.out
  have d4 := cell_of_row _ _ 4 _ _ _ HB2.out
  have d5 := cell_of_row _ _ 5 _ _ _ HB2.out
  go_enter Tryz.func15, Tryz.ntmps15
  go_wp2
  go_ret
  exact ⟨rfl, HN.out⟩
theorem rsame_1 (t1 k1 b1 t2 k2 b2 : Int) (h1 l1 h2 l2 : BitVec 64) (a1 a2 : Option Addr) (n1 c1 n2 c2 : Nat) (x1 x2 : List (BitVec 64)) (w : World) (hr1 : QRow w a1 n1 c1 x1) (hr2 : QRow w a2 n2 c2 x2) (g1 : (t1 == t2) = true) (g2 : (k1 == k2) = false) : Calls Tryz.prog 15 #[.agg (cfc t1 k1 b1 h1 l1 a1 n1 c1), .agg (cfc t2 k2 b2 h2 l2 a2 n2 c2)] w fun e w' => e = .returned (.bool (false)) ∧ New w w' := by
  obtain ⟨hb1, hb2, hN⟩ := two_blocksK w (.cells (cfc t1 k1 b1 h1 l1 a1 n1 c1) 34) (.cells (cfc t2 k2 b2 h2 l2 a2 n2 c2) 34)
  generalize hW : (w.alloc (.cells (cfc t1 k1 b1 h1 l1 a1 n1 c1) 34)).alloc (.cells (cfc t2 k2 b2 h2 l2 a2 n2 c2) 34) = w0 at *
  have HB1 := Lib.hid hb1
  have HB2 := Lib.hid hb2
  have HN := Lib.hid hN
  clear hb1 hb2 hN
  clear hr1 hr2
  have y0 := cell_of_row _ _ 0 _ _ _ HB1.out
  have y1 := cell_of_row _ _ 1 _ _ _ HB1.out
  have y2 := cell_of_row _ _ 2 _ _ _ HB1.out
  have y3 := cell_of_row _ _ 3 _ _ _ HB1.out
  have y4 := cell_of_row _ _ 4 _ _ _ HB1.out
  have y5 := cell_of_row _ _ 5 _ _ _ HB1.out
  have d0 := cell_of_row _ _ 0 _ _ _ HB2.out
  have d1 := cell_of_row _ _ 1 _ _ _ HB2.out
  have d2 := cell_of_row _ _ 2 _ _ _ HB2.out
  have d3 := cell_of_row _ _ 3 _ _ _ HB2.out
  have d4 := cell_of_row _ _ 4 _ _ _ HB2.out
  have d5 := cell_of_row _ _ 5 _ _ _ HB2.out
  go_enter Tryz.func15, Tryz.ntmps15
  go_wp2
  go_ret
  exact ⟨rfl, HN.out⟩
theorem rsame_2 (t1 k1 b1 t2 k2 b2 : Int) (h1 l1 h2 l2 : BitVec 64) (a1 a2 : Option Addr) (n1 c1 n2 c2 : Nat) (x1 x2 : List (BitVec 64)) (w : World) (hr1 : QRow w a1 n1 c1 x1) (hr2 : QRow w a2 n2 c2 x2) (g1 : (t1 == t2) = true) (g2 : (k1 == k2) = true) (g3 : (b1 == b2) = false) : Calls Tryz.prog 15 #[.agg (cfc t1 k1 b1 h1 l1 a1 n1 c1), .agg (cfc t2 k2 b2 h2 l2 a2 n2 c2)] w fun e w' => e = .returned (.bool (false)) ∧ New w w' := by
  obtain ⟨hb1, hb2, hN⟩ := two_blocksK w (.cells (cfc t1 k1 b1 h1 l1 a1 n1 c1) 34) (.cells (cfc t2 k2 b2 h2 l2 a2 n2 c2) 34)
  generalize hW : (w.alloc (.cells (cfc t1 k1 b1 h1 l1 a1 n1 c1) 34)).alloc (.cells (cfc t2 k2 b2 h2 l2 a2 n2 c2) 34) = w0 at *
  have HB1 := Lib.hid hb1
  have HB2 := Lib.hid hb2
  have HN := Lib.hid hN
  clear hb1 hb2 hN
  clear hr1 hr2
  have y0 := cell_of_row _ _ 0 _ _ _ HB1.out
  have y1 := cell_of_row _ _ 1 _ _ _ HB1.out
  have y2 := cell_of_row _ _ 2 _ _ _ HB1.out
  have y3 := cell_of_row _ _ 3 _ _ _ HB1.out
  have y4 := cell_of_row _ _ 4 _ _ _ HB1.out
  have y5 := cell_of_row _ _ 5 _ _ _ HB1.out
  have d0 := cell_of_row _ _ 0 _ _ _ HB2.out
  have d1 := cell_of_row _ _ 1 _ _ _ HB2.out
  have d2 := cell_of_row _ _ 2 _ _ _ HB2.out
  have d3 := cell_of_row _ _ 3 _ _ _ HB2.out
  have d4 := cell_of_row _ _ 4 _ _ _ HB2.out
  have d5 := cell_of_row _ _ 5 _ _ _ HB2.out
  go_enter Tryz.func15, Tryz.ntmps15
  go_wp2
  go_ret
  exact ⟨rfl, HN.out⟩
theorem rsame_3 (t1 k1 b1 t2 k2 b2 : Int) (h1 l1 h2 l2 : BitVec 64) (a1 a2 : Option Addr) (n1 c1 n2 c2 : Nat) (x1 x2 : List (BitVec 64)) (w : World) (hr1 : QRow w a1 n1 c1 x1) (hr2 : QRow w a2 n2 c2 x2) (g1 : (t1 == t2) = true) (g2 : (k1 == k2) = true) (g3 : (b1 == b2) = true) (g4 : (h1 == h2 && l1 == l2) = false) : Calls Tryz.prog 15 #[.agg (cfc t1 k1 b1 h1 l1 a1 n1 c1), .agg (cfc t2 k2 b2 h2 l2 a2 n2 c2)] w fun e w' => e = .returned (.bool (false)) ∧ New w w' := by
  obtain ⟨hb1, hb2, hN⟩ := two_blocksK w (.cells (cfc t1 k1 b1 h1 l1 a1 n1 c1) 34) (.cells (cfc t2 k2 b2 h2 l2 a2 n2 c2) 34)
  generalize hW : (w.alloc (.cells (cfc t1 k1 b1 h1 l1 a1 n1 c1) 34)).alloc (.cells (cfc t2 k2 b2 h2 l2 a2 n2 c2) 34) = w0 at *
  have HB1 := Lib.hid hb1
  have HB2 := Lib.hid hb2
  have HN := Lib.hid hN
  clear hb1 hb2 hN
  have heq := fun w => equ2 h1 l1 h2 l2 w
  rw [g4] at heq
  clear hr1 hr2
  have y0 := cell_of_row _ _ 0 _ _ _ HB1.out
  have y1 := cell_of_row _ _ 1 _ _ _ HB1.out
  have y2 := cell_of_row _ _ 2 _ _ _ HB1.out
  have y3 := cell_of_row _ _ 3 _ _ _ HB1.out
  have y4 := cell_of_row _ _ 4 _ _ _ HB1.out
  have y5 := cell_of_row _ _ 5 _ _ _ HB1.out
  have d0 := cell_of_row _ _ 0 _ _ _ HB2.out
  have d1 := cell_of_row _ _ 1 _ _ _ HB2.out
  have d2 := cell_of_row _ _ 2 _ _ _ HB2.out
  have d3 := cell_of_row _ _ 3 _ _ _ HB2.out
  have d4 := cell_of_row _ _ 4 _ _ _ HB2.out
  have d5 := cell_of_row _ _ 5 _ _ _ HB2.out
  go_enter Tryz.func15, Tryz.ntmps15
  go_wp2
  go_ret
  exact ⟨rfl, HN.out⟩
theorem rsame_4 (t1 k1 b1 t2 k2 b2 : Int) (h1 l1 h2 l2 : BitVec 64) (a1 a2 : Option Addr) (n1 c1 n2 c2 : Nat) (x1 x2 : List (BitVec 64)) (w : World) (hr1 : QRow w a1 n1 c1 x1) (hr2 : QRow w a2 n2 c2 x2) (g1 : (t1 == t2) = true) (g2 : (k1 == k2) = true) (g3 : (b1 == b2) = true) (g4 : (h1 == h2 && l1 == l2) = true) : Calls Tryz.prog 15 #[.agg (cfc t1 k1 b1 h1 l1 a1 n1 c1), .agg (cfc t2 k2 b2 h2 l2 a2 n2 c2)] w fun e w' => e = .returned (.bool (x1 == x2)) ∧ New w w' := by
  obtain ⟨hb1, hb2, hN⟩ := two_blocksK w (.cells (cfc t1 k1 b1 h1 l1 a1 n1 c1) 34) (.cells (cfc t2 k2 b2 h2 l2 a2 n2 c2) 34)
  generalize hW : (w.alloc (.cells (cfc t1 k1 b1 h1 l1 a1 n1 c1) 34)).alloc (.cells (cfc t2 k2 b2 h2 l2 a2 n2 c2) 34) = w0 at *
  have HB1 := Lib.hid hb1
  have HB2 := Lib.hid hb2
  have HN := Lib.hid hN
  clear hb1 hb2 hN
  have heq := fun w => equ2 h1 l1 h2 l2 w
  rw [g4] at heq
  have HWD := Lib.hid (words_ref a1 a2 n1 c1 n2 c2 x1 x2 w0 w0 (hr1.stay HN.out) (hr2.stay HN.out) (New.refl w0))
  obtain ⟨V, hV⟩ : ∃ z, (x1 == x2) = z := ⟨_, rfl⟩
  rw [hV] at HWD ⊢
  clear hV
  clear hr1 hr2
  have y0 := cell_of_row _ _ 0 _ _ _ HB1.out
  have y1 := cell_of_row _ _ 1 _ _ _ HB1.out
  have y2 := cell_of_row _ _ 2 _ _ _ HB1.out
  have y3 := cell_of_row _ _ 3 _ _ _ HB1.out
  have y4 := cell_of_row _ _ 4 _ _ _ HB1.out
  have y5 := cell_of_row _ _ 5 _ _ _ HB1.out
  have d0 := cell_of_row _ _ 0 _ _ _ HB2.out
  have d1 := cell_of_row _ _ 1 _ _ _ HB2.out
  have d2 := cell_of_row _ _ 2 _ _ _ HB2.out
  have d3 := cell_of_row _ _ 3 _ _ _ HB2.out
  have d4 := cell_of_row _ _ 4 _ _ _ HB2.out
  have d5 := cell_of_row _ _ 5 _ _ _ HB2.out
  go_enter Tryz.func15, Tryz.ntmps15
  go_wp2_with fail
  refine HWD.out.mono ?_
  rintro e w2 ⟨rfl, hn, _⟩
  have HN2 := Lib.hid (HN.out.trans hn)
  clear hn HWD y0 y1 y2 y3 y4 y5 d0 d1 d2 d3 d4 d5
  go_wp2
  go_ret
  exact ⟨rfl, HN2.out⟩
/-- two configs are alike -/
def smE (t1 k1 b1 t2 k2 b2 : Int) (h1 l1 h2 l2 : BitVec 64) (x1 x2 : List (BitVec 64)) : Bool := (t1 == t2) && ((k1 == k2) && ((b1 == b2) && ((h1 == h2 && l1 == l2) && (x1 == x2))))
theorem rsame_47 (t1 k1 b1 t2 k2 b2 : Int) (h1 l1 h2 l2 : BitVec 64) (a1 a2 : Option Addr) (n1 c1 n2 c2 : Nat) (x1 x2 : List (BitVec 64)) (w : World) (hr1 : QRow w a1 n1 c1 x1) (hr2 : QRow w a2 n2 c2 x2) : Calls Tryz.prog 15 #[.agg (cfc t1 k1 b1 h1 l1 a1 n1 c1), .agg (cfc t2 k2 b2 h2 l2 a2 n2 c2)] w fun e w' => e = .returned (.bool (smE t1 k1 b1 t2 k2 b2 h1 l1 h2 l2 x1 x2)) ∧ New w w' := by
  unfold smE
  cases g1 : (t1 == t2) with
  | false => exact rsame_0 t1 k1 b1 t2 k2 b2 h1 l1 h2 l2 a1 a2 n1 c1 n2 c2 x1 x2 w hr1 hr2 g1
  | true =>
    cases g2 : (k1 == k2) with
    | false => exact rsame_1 t1 k1 b1 t2 k2 b2 h1 l1 h2 l2 a1 a2 n1 c1 n2 c2 x1 x2 w hr1 hr2 g1 g2
    | true =>
      cases g3 : (b1 == b2) with
      | false => exact rsame_2 t1 k1 b1 t2 k2 b2 h1 l1 h2 l2 a1 a2 n1 c1 n2 c2 x1 x2 w hr1 hr2 g1 g2 g3
      | true =>
        cases g4 : (h1 == h2 && l1 == l2) with
        | false => exact rsame_3 t1 k1 b1 t2 k2 b2 h1 l1 h2 l2 a1 a2 n1 c1 n2 c2 x1 x2 w hr1 hr2 g1 g2 g3 g4
        | true => exact rsame_4 t1 k1 b1 t2 k2 b2 h1 l1 h2 l2 a1 a2 n1 c1 n2 c2 x1 x2 w hr1 hr2 g1 g2 g3 g4
theorem smE_self (t k b : Int) (h l : BitVec 64) (x : List (BitVec 64)) : smE t k b t k b h l h l x x = true := by
  unfold smE; simp
/-- as many of a state's words as its generator has -/
def q4l (k : Int) (q : W4) : List (BitVec 64) := [q.a, q.b, q.c, q.d].take (szK k).toNat
theorem szK_le (k : Int) : 0 ≤ szK k ∧ szK k ≤ 4 := by
  unfold szK
  split
  · omega
  · split
    · omega
    · split <;> omega
theorem q4l_len (k : Int) (q : W4) : (q4l k q).length = (szK k).toNat := by
  unfold q4l
  rw [List.length_take]
  have := szK_le k
  exact Nat.min_eq_left (by show (szK k).toNat ≤ 4; omega)
def QFar (m : Nat) (w : World) (v : Value) (n : Nat) (l : List (BitVec 64)) : Prop := ∃ a c, v = .slice a n c ∧ QRow w a n c l ∧ ∀ y, a = some y → m < y.block
theorem QFar.of_owns {w : World} {base m n : Nat} {e : TypeId} {v : Value} {l : List (BitVec 64)} (h : w.ownsRow base e 1 v n (l.map fun x => .int .u64 (W64 x))) (hn : n ≤ 17592186044416) (hm : m < base) : QFar m w v n l := by
  have hb := fun g e => (ow_ltB h g e).1
  obtain ⟨a, c, rfl, hr⟩ := QRow.of_owns h hn
  refine ⟨a, c, rfl, hr, fun y hy => ?_⟩
  subst hy
  have := hb y.block rfl
  omega
theorem q4_row (k : Int) (q : W4) (T : TypeId) (w : World) (p : Nat) (hb : w.heap[p]? = some (.cells (stc k q) T (0, 0))) : QRow w (some ⟨p, 1, none⟩) (szK k).toNat 4 (q4l k q) := by
  have hs := szK_le k
  have c1 := cell_of_row _ _ 1 _ _ _ hb
  have c2 := cell_of_row _ _ 2 _ _ _ hb
  have c3 := cell_of_row _ _ 3 _ _ _ hb
  have c4 := cell_of_row _ _ 4 _ _ _ hb
  refine ⟨q4l_len k q, by omega, by omega, by omega, (fun e => by cases e), ?_, (fun x e _ => by cases e; rfl), (fun x e _ => by cases e; exact lt_of_block hb)⟩
  intro b off e i hi
  cases e
  have hg : (q4l k q).getD i 0 = [q.a, q.b, q.c, q.d].getD i 0 := by
    unfold q4l
    rw [List.getD_eq_getElem?_getD, List.getElem?_take, if_pos hi, ← List.getD_eq_getElem?_getD]
  rw [hg]
  rcases (show i = 0 ∨ i = 1 ∨ i = 2 ∨ i = 3 by omega) with rfl | rfl | rfl | rfl
  · exact c1
  · exact c2
  · exact c3
  · exact c4
theorem far_row {w w' : World} {m n c : Nat} {a : Option Addr} {l : List (BitVec 64)} (h : QFar m w (.slice a n c) n l) (ho : ∀ j, j ≠ m → w'.heap[j]? = w.heap[j]?) : QRow w' a n c l := by
  obtain ⟨a', c', e, hr, hf⟩ := h
  cases e
  have hcell : ∀ b off, a = some ⟨b, off, Option.none⟩ → ∀ i, i < n → w'.cell? ⟨b, off + i, Option.none⟩ = some (.int .u64 (W64 (l.getD i 0))) := by
    intro b off e i hi
    have hc := hr.cell b off e i hi
    have hne := hf _ e
    rw [← hc]
    unfold World.cell?
    simp only [ho b (by have : m < b := hne; omega)]
  refine ⟨hr.len_eq, hr.le, hr.most, hr.room, hr.none, hcell, hr.spot, fun z e h0 => ?_⟩
  obtain ⟨b, off, sp⟩ := z
  obtain rfl : sp = Option.none := hr.spot _ e h0
  exact cell_block (hcell b off e 0 h0)
set_option maxHeartbeats 4000000 in
theorem cof_47 (k : Int) (q : W4) (w : World) : Calls Tryz.prog 14 #[.agg (stc k q)] w fun e w' => (∃ a c, e = .returned (.agg (cfc 3 k 0 0#64 0#64 a (szK k).toNat c)) ∧ QRow w' a (szK k).toNat c (q4l k q)) ∧ New w w' := by
  obtain ⟨hb1, hb2, hN⟩ := two_blocksK w (.cells (stc k q) 38) (.cells #[.int .i64 0, .int .i64 0, .int .i64 0, .int .u64 0, .int .u64 0, .slice none 0 0] 27)
  generalize hW : (w.alloc (.cells (stc k q) 38)).alloc (.cells #[.int .i64 0, .int .i64 0, .int .i64 0, .int .u64 0, .int .u64 0, .slice none 0 0] 27) = w0 at *
  have HB1 := Lib.hid hb1
  have HB2 := Lib.hid hb2
  have HN := Lib.hid hN
  clear hb1 hb2 hN
  have HSZ := Lib.hid (fun w => size_any k w)
  have hsz := szK_le k
  have HCL : Hid (∀ w' : World, w'.heap[w.heap.size]? = some (.cells (stc k q) 38 (0, 0)) → w.heap.size + 1 < w'.heap.size → Calls Tryz.prog 32 #[.slice (some ⟨w.heap.size, 1, none⟩) (szK k).toNat 4] w' fun e w'' => ∃ v, e = .returned v ∧ QFar (w.heap.size + 1) w'' v (szK k).toNat (q4l k q) ∧ New w' w'') := Lib.hid (fun w' h1 h2 => (clone_q _ _ _ _ w' (q4_row k q _ w' _ h1)).mono fun e w'' ⟨v, he, ho, hn⟩ => ⟨v, he, QFar.of_owns ho (by omega) h2, hn⟩)
  obtain ⟨X, hX⟩ : ∃ z, q4l k q = z := ⟨_, rfl⟩
  rw [hX] at HCL ⊢
  obtain ⟨Z, hZ⟩ : ∃ z, (szK k).toNat = z := ⟨_, rfl⟩
  rw [show szK k = ((szK k).toNat : Int) by omega] at HSZ
  rw [hZ] at HSZ HCL ⊢
  have hz4 : Z ≤ 4 := by omega
  have z1 : ¬ (Z : Int) < 0 := by omega
  have z2 : ¬ 4 < (Z : Int) := by omega
  clear hX hZ hsz
  have c0 := cell_of_row _ _ 0 _ _ _ HB1.out
  have c1 := cell_of_row _ _ 1 _ _ _ HB1.out
  have c2 := cell_of_row _ _ 2 _ _ _ HB1.out
  have c3 := cell_of_row _ _ 3 _ _ _ HB1.out
  have c4 := cell_of_row _ _ 4 _ _ _ HB1.out
  go_enter Tryz.func14, Tryz.ntmps14
  go_wp2_with fail
  clear c0 c1 c2 c3 c4
  refine GrowG.wp_region_growS (fun w' => (∃ u0 u1 u2 u3 u4 u5, w'.heap[(w.heap.size + 1)]? = some (.cells #[u0, u1, u2, u3, u4, u5] 27 (0, 0))) ∧ (w'.heap[w.heap.size]? = some (.cells (stc k q) 38 (0, 0))) ∧ New w w') (fun _ => True) (fun k => [5, 7, 9].contains k) (fun k => [].contains k) (by kernel_rfl) (by kernel_rfl) (by kernel_rfl) ⟨⟨_, _, _, _, _, _, HB2.out⟩, HB1.out, HN.out.drew⟩ trivial ?_
  intro I _ f hall hback
  have HALL := Lib.hid hall
  have HBACK := Lib.hid hback
  have s0 := fun n => cell_of_row _ _ 0 _ _ _ (hall n).2.1
  have s1 := fun n => cell_of_row _ _ 1 _ _ _ (hall n).2.1
  have s2 := fun n => cell_of_row _ _ 2 _ _ _ (hall n).2.1
  have s3 := fun n => cell_of_row _ _ 3 _ _ _ (hall n).2.1
  have s4 := fun n => cell_of_row _ _ 4 _ _ _ (hall n).2.1
  clear hall hback
  refine GrowG.wpGrow_take 5 (by kernel_rfl) ?_
  simp only [List.take, List.drop, List.length]
  repeat (go_big_quiet_step (fail))
  refine wpQuiet_nil ?_
  refine GrowG.wpGrow_turn (fun v => v = .int .i64 (Z : Int)) (fun _ _ => True) rfl rfl (⟨_, rfl⟩) (fun w1 hB hG => ?_) (fun v0 A0 hv0 hA => ?_)
  · obtain ⟨n, rfl⟩ := hB
    go_simp
    refine (HSZ.out _).mono ?_
    rintro e w2 ⟨rfl, hn⟩
    obtain ⟨⟨u0, u1, u2, u3, u4, u5, h1⟩, o0, hnw⟩ := HALL.out n
    have hB2 := HBACK.out _ ⟨⟨_, _, _, _, _, _, (hn.block _ (lt_of_block h1)).trans h1⟩, (hn.block _ (lt_of_block o0)).trans o0, hnw.trans hn⟩
    first | exact ⟨_, rfl, hB2, rfl, trivial⟩ | exact ⟨rfl, hB2⟩ | exact hB2
  subst hv0
  simp [Act.put] at hA
  subst hA
  refine GrowG.wpGrow_take 1 (by kernel_rfl) ?_
  simp only [List.take, List.drop, List.length]
  repeat (go_big_quiet_step (fail))
  refine wpQuiet_nil ?_
  refine GrowG.wpGrow_turn (fun v => ∃ a c, v = .slice a Z c) (fun v w9 => QFar (w.heap.size + 1) w9 v Z X) rfl rfl (⟨.slice none Z 0, none, 0, rfl⟩) (fun w1 hB hG => ?_) (fun v1 A1 hv1 hA => ?_)
  · obtain ⟨n, rfl⟩ := hB
    go_simp
    refine (HCL.out _ (HALL.out n).2.1 (let ⟨_, _, _, _, _, _, hh⟩ := (HALL.out n).1; lt_of_block hh)).mono ?_
    rintro e w2 ⟨v, rfl, hf, hn⟩
    obtain ⟨⟨u0, u1, u2, u3, u4, u5, h1⟩, o0, hnw⟩ := HALL.out n
    have hB2 := HBACK.out _ ⟨⟨_, _, _, _, _, _, (hn.block _ (lt_of_block h1)).trans h1⟩, (hn.block _ (lt_of_block o0)).trans o0, hnw.trans hn⟩
    first | exact ⟨_, rfl, hB2, (let ⟨a, c, e, _⟩ := hf; ⟨a, c, e⟩), hf⟩ | exact ⟨rfl, hB2⟩ | exact hB2
  obtain ⟨a1, c1, rfl⟩ := hv1
  simp [Act.put] at hA
  subst hA
  refine GrowG.wpGrow_take 1 (by kernel_rfl) ?_
  simp only [List.take, List.drop, List.length]
  repeat (go_big_quiet_step (fail))
  refine wpQuiet_nil ?_
  refine GrowG.wpGrow_turn (fun v => v = undef) (fun _ w9 => w9.heap[(w.heap.size + 1)]? = some (.cells #[(.int .i64 3), (.int .i64 k), (.int .i64 0), (.int .u64 0), (.int .u64 0), (.slice a1 Z c1)] 27 (0, 0)) ∧ QRow w9 a1 Z c1 X) rfl rfl ⟨_, rfl⟩ (fun w1 hB hG => ?_) (fun v2 A2 hv2 hA => ?_)
  · obtain ⟨n, rfl⟩ := hB
    obtain ⟨⟨u0, u1, u2, u3, u4, u5, h1⟩, o0, hnw⟩ := HALL.out n
    have hc0 := cell_of_row _ _ 0 _ _ _ h1
    have hc1 := cell_of_row _ _ 1 _ _ _ h1
    have hc2 := cell_of_row _ _ 2 _ _ _ h1
    have hc3 := cell_of_row _ _ 3 _ _ _ h1
    have hc4 := cell_of_row _ _ 4 _ _ _ h1
    have hc5 := cell_of_row _ _ 5 _ _ _ h1
    have hfr := fun i => frozen_of_row _ _ i _ _ h1
    have HQ : Hid (((((((((f n).setCell ⟨(w.heap.size + 1), 0, none⟩ (.int .i64 3)).setCell ⟨(w.heap.size + 1), 1, none⟩ (.int .i64 k)).setCell ⟨(w.heap.size + 1), 2, none⟩ (.int .i64 0)).setCell ⟨(w.heap.size + 1), 3, none⟩ (.int .u64 0)).setCell ⟨(w.heap.size + 1), 4, none⟩ (.int .u64 0)).setCell ⟨(w.heap.size + 1), 5, none⟩ (.slice a1 Z c1))).heap[(w.heap.size + 1)]? = some (.cells #[(.int .i64 3), (.int .i64 k), (.int .i64 0), (.int .u64 0), (.int .u64 0), (.slice a1 Z c1)] 27 (0, 0))) := Lib.hid (heap_setCell_same _ ((w.heap.size + 1)) 5 _ _ (.slice a1 Z c1) (heap_setCell_same _ ((w.heap.size + 1)) 4 _ _ (.int .u64 0) (heap_setCell_same _ ((w.heap.size + 1)) 3 _ _ (.int .u64 0) (heap_setCell_same _ ((w.heap.size + 1)) 2 _ _ (.int .i64 0) (heap_setCell_same _ ((w.heap.size + 1)) 1 _ _ (.int .i64 k) (heap_setCell_same _ ((w.heap.size + 1)) 0 _ _ (.int .i64 3) h1))))))
    have HOT : Hid (∀ j, j ≠ (w.heap.size + 1) → ((((((((f n).setCell ⟨(w.heap.size + 1), 0, none⟩ (.int .i64 3)).setCell ⟨(w.heap.size + 1), 1, none⟩ (.int .i64 k)).setCell ⟨(w.heap.size + 1), 2, none⟩ (.int .i64 0)).setCell ⟨(w.heap.size + 1), 3, none⟩ (.int .u64 0)).setCell ⟨(w.heap.size + 1), 4, none⟩ (.int .u64 0)).setCell ⟨(w.heap.size + 1), 5, none⟩ (.slice a1 Z c1))).heap[j]? = (f n).heap[j]?) := Lib.hid (fun j hj => by rw [heap_setCell_other _ _ _ _ hj, heap_setCell_other _ _ _ _ hj, heap_setCell_other _ _ _ _ hj, heap_setCell_other _ _ _ _ hj, heap_setCell_other _ _ _ _ hj, heap_setCell_other _ _ _ _ hj])
    have HNW : Hid (New w ((((((((f n).setCell ⟨(w.heap.size + 1), 0, none⟩ (.int .i64 3)).setCell ⟨(w.heap.size + 1), 1, none⟩ (.int .i64 k)).setCell ⟨(w.heap.size + 1), 2, none⟩ (.int .i64 0)).setCell ⟨(w.heap.size + 1), 3, none⟩ (.int .u64 0)).setCell ⟨(w.heap.size + 1), 4, none⟩ (.int .u64 0)).setCell ⟨(w.heap.size + 1), 5, none⟩ (.slice a1 Z c1)))) := Lib.hid ((((((hnw.setCell (p := ⟨(w.heap.size + 1), 0, none⟩) (by show w.heap.size ≤ w.heap.size + 1; omega) _).setCell (p := ⟨(w.heap.size + 1), 1, none⟩) (by show w.heap.size ≤ w.heap.size + 1; omega) _).setCell (p := ⟨(w.heap.size + 1), 2, none⟩) (by show w.heap.size ≤ w.heap.size + 1; omega) _).setCell (p := ⟨(w.heap.size + 1), 3, none⟩) (by show w.heap.size ≤ w.heap.size + 1; omega) _).setCell (p := ⟨(w.heap.size + 1), 4, none⟩) (by show w.heap.size ≤ w.heap.size + 1; omega) _).setCell (p := ⟨(w.heap.size + 1), 5, none⟩) (by show w.heap.size ≤ w.heap.size + 1; omega) _)
    have HO0 := Lib.hid ((HOT.out _ (by omega)).trans o0)
    have HG := Lib.hid hG
    clear hnw h1 hG o0 s0 s1 s2 s3 s4
    go_simp
    exact ⟨HBACK.out _ ⟨⟨_, _, _, _, _, _, HQ.out⟩, HO0.out, HNW.out⟩, ⟨HQ.out, far_row HG.out HOT.out⟩⟩
  simp [Act.put] at hA
  subst hA
  refine GrowG.wpGrow_nil ?_
  rintro w9 ⟨n9, rfl⟩ hG
  have HF := Lib.hid (HALL.out n9).2.2
  have k0 := cell_of_row _ _ 0 _ _ _ hG.1
  have k1 := cell_of_row _ _ 1 _ _ _ hG.1
  have k2 := cell_of_row _ _ 2 _ _ _ hG.1
  have k3 := cell_of_row _ _ 3 _ _ _ hG.1
  have k4 := cell_of_row _ _ 4 _ _ _ hG.1
  have k5 := cell_of_row _ _ 5 _ _ _ hG.1
  have HR9 := Lib.hid hG.2
  clear HALL HBACK s0 s1 s2 s3 s4 hG
  generalize f n9 = w9 at *
  go_wp2_with fail
  refine bodyPost_ret (by simp [results, Tryz.results14, go_sem, k0, k1, k2, k3, k4, k5]; try rfl) rfl ?_
  exact ⟨⟨a1, c1, rfl, HR9.out⟩, HF.out⟩
end Go.Proofs.YthkmcnlciefnfaaGreat
