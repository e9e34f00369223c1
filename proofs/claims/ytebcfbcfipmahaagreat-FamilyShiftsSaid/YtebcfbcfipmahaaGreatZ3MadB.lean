import Derived.Test.YtebcfbcfipmahaaGreatZ3MadA
section
/- Contracts of layer 21: shapeOf, fits, Width, Check. -/
namespace Go.Proofs.YtebcfbcfipmahaaGreat
open Go.RowKit Go.Bv
set_option linter.unusedVariables false
theorem shape_add (w : World) : Calls Tryz.prog 126 #[.int .i64 3] w fun e w' => e = .returned (.tuple #[.agg #[.int .i64 64, .int .i64 32, .int .i64 32], .bool true]) ∧ New w w' := by
  obtain ⟨hbl, HNN⟩ := boxes2 w (.cells #[.int .i64 0, .int .i64 0, .int .i64 0] 133) (.cells #[.int .i64 128, .int .i64 64, .int .i64 64] 133)
  obtain ⟨hb0, hb1⟩ := hbl
  have HN := Lib.hid HNN
  obtain ⟨w0, hw0⟩ : ∃ w0, (((w.alloc (.cells #[.int .i64 0, .int .i64 0, .int .i64 0] 133))).alloc (.cells #[.int .i64 128, .int .i64 64, .int .i64 64] 133)) = w0 := ⟨_, rfl⟩
  rw [hw0] at HN hb0 hb1
  have HW0 := Lib.hid hw0
  have HB0 := Lib.hid hb0
  have HB1 := Lib.hid hb1
  clear hw0 HNN hb0 hb1
  have r0 := cell_of_row _ _ 0 _ _ _ HB0.out
  have r1 := cell_of_row _ _ 1 _ _ _ HB0.out
  have r2 := cell_of_row _ _ 2 _ _ _ HB0.out
  have x0 := cell_of_row _ _ 0 _ _ _ HB1.out
  have x1 := cell_of_row _ _ 1 _ _ _ HB1.out
  have x2 := cell_of_row _ _ 2 _ _ _ HB1.out
  have rf := fun i => frozen_of_row _ _ i _ _ HB0.out
  have xf := fun i => frozen_of_row _ _ i _ _ HB1.out
  go_enter Tryz.func126, Tryz.ntmps126
  go_wp2_with (rw [HW0.out])
  refine bodyPost_ret (by simp [results, Tryz.results126, go_sem, r0, r1, r2]; try rfl) rfl ?_
  exact ⟨rfl, by repeat (first | with_reducible exact HN.out | (with_reducible refine New.setCell ?_ (by first | exact Nat.le_refl _ | exact Nat.le_succ _) _))⟩
theorem shape_wide (w : World) : Calls Tryz.prog 126 #[.int .i64 4] w fun e w' => e = .returned (.tuple #[.agg #[.int .i64 128, .int .i64 64, .int .i64 64], .bool true]) ∧ New w w' := by
  obtain ⟨hbl, HNN⟩ := boxes2 w (.cells #[.int .i64 0, .int .i64 0, .int .i64 0] 133) (.cells #[.int .i64 128, .int .i64 64, .int .i64 64] 133)
  obtain ⟨hb0, hb1⟩ := hbl
  have HN := Lib.hid HNN
  obtain ⟨w0, hw0⟩ : ∃ w0, (((w.alloc (.cells #[.int .i64 0, .int .i64 0, .int .i64 0] 133))).alloc (.cells #[.int .i64 128, .int .i64 64, .int .i64 64] 133)) = w0 := ⟨_, rfl⟩
  rw [hw0] at HN hb0 hb1
  have HW0 := Lib.hid hw0
  have HB0 := Lib.hid hb0
  have HB1 := Lib.hid hb1
  clear hw0 HNN hb0 hb1
  have r0 := cell_of_row _ _ 0 _ _ _ HB0.out
  have r1 := cell_of_row _ _ 1 _ _ _ HB0.out
  have r2 := cell_of_row _ _ 2 _ _ _ HB0.out
  have x0 := cell_of_row _ _ 0 _ _ _ HB1.out
  have x1 := cell_of_row _ _ 1 _ _ _ HB1.out
  have x2 := cell_of_row _ _ 2 _ _ _ HB1.out
  have rf := fun i => frozen_of_row _ _ i _ _ HB0.out
  have xf := fun i => frozen_of_row _ _ i _ _ HB1.out
  go_enter Tryz.func126, Tryz.ntmps126
  go_wp2_with (rw [HW0.out])
  refine bodyPost_ret (by simp [results, Tryz.results126, go_sem, r0, r1, r2]; try rfl) rfl ?_
  exact ⟨rfl, by repeat (first | with_reducible exact HN.out | (with_reducible refine New.setCell ?_ (by first | exact Nat.le_refl _ | exact Nat.le_succ _) _))⟩
set_option maxHeartbeats 1000000 in
theorem check_ok (A B wd kd : Nat) (hA : A < 2 ^ 128) (hB : B < 2 ^ 128) (hwd : wd ≤ 128) (kind bits : Int) (hb0 : 1 ≤ bits) (hb : bits ≤ (kd : Int)) (hlt : A < 2 ^ wd) (hlt2 : B < 2 ^ wd) (HS : Hid (∀ w : World, Calls Tryz.prog 126 #[.int .i64 kind] w fun e w' => e = .returned (.tuple #[.agg #[.int .i64 (wd : Int), .int .i64 (kd : Int), .int .i64 (kd : Int)], .bool true]) ∧ New w w')) (w : World) : Calls Tryz.prog 125 #[.int .i64 kind, .int .i64 bits, .agg #[.int .u64 (W64 (hiN (A))), .int .u64 (W64 (loN (A)))], .agg #[.int .u64 (W64 (hiN (B))), .int .u64 (W64 (loN (B)))]] w fun e w' => e = .returned (.int .i64 0) ∧ New w w' := by
  have heq := equ128
  have C1 := Lib.hid (cut_a A wd kd hA hwd)
  have C2 := Lib.hid (cut_a B wd kd hB hwd)
  rw [Nat.mod_eq_of_lt hlt] at C1
  rw [Nat.mod_eq_of_lt hlt2] at C2
  have b1 : ¬ bits < 1 := by omega
  have b2 : ¬ (kd : Int) < bits := by omega
  clear hA hB hwd hlt hlt2
  generalize hiN (A % 2 ^ wd) = a1' at *
  generalize loN (A % 2 ^ wd) = a0' at *
  generalize hiN (B % 2 ^ wd) = b1' at *
  generalize loN (B % 2 ^ wd) = b0' at *
  obtain ⟨hbl, HNN⟩ := boxes2 w (.cells #[.int .u64 (W64 (hiN (A))), .int .u64 (W64 (loN (A)))] 63) (.cells #[.int .u64 (W64 (hiN (B))), .int .u64 (W64 (loN (B)))] 63)
  obtain ⟨hb0, hb1⟩ := hbl
  have HN := Lib.hid HNN
  obtain ⟨w0, hw0⟩ : ∃ w0, (((w.alloc (.cells #[.int .u64 (W64 (hiN (A))), .int .u64 (W64 (loN (A)))] 63))).alloc (.cells #[.int .u64 (W64 (hiN (B))), .int .u64 (W64 (loN (B)))] 63)) = w0 := ⟨_, rfl⟩
  rw [hw0] at HN hb0 hb1
  have HW0 := Lib.hid hw0
  have HB0 := Lib.hid hb0
  have HB1 := Lib.hid hb1
  clear hw0 HNN hb0 hb1
  go_enter Tryz.func125, Tryz.ntmps125
  go_wp2_with (rw [HW0.out])
  refine (HS.out _).mono ?_
  rintro e w9 ⟨rfl, hn⟩
  replace HN := Lib.hid (HN.out.trans hn)
  replace HB0 := Lib.hid ((hn.block _ (lt_of_block HB0.out)).trans HB0.out)
  replace HB1 := Lib.hid ((hn.block _ (lt_of_block HB1.out)).trans HB1.out)
  clear hn
  have hx := heap_alloc_new w9 (.cells #[.int .i64 (wd : Int), .int .i64 (kd : Int), .int .i64 (kd : Int)] 133)
  have hn2 := (New.refl w9).alloc (.cells #[.int .i64 (wd : Int), .int .i64 (kd : Int), .int .i64 (kd : Int)] 133)
  obtain ⟨wb1, hw2⟩ : ∃ w2, w9.alloc (.cells #[.int .i64 (wd : Int), .int .i64 (kd : Int), .int .i64 (kd : Int)] 133) = w2 := ⟨_, rfl⟩
  rw [hw2] at hx hn2
  obtain ⟨q1, hq⟩ : ∃ q, w9.heap.size = q := ⟨_, rfl⟩
  rw [hq] at hx
  have HX1 := Lib.hid hx
  replace HN := Lib.hid (HN.out.trans hn2)
  have HM1 := Lib.hid hn2
  have HE1 := Lib.hid (show w9.alloc (.cells #[.int .i64 (wd : Int), .int .i64 (kd : Int), .int .i64 (kd : Int)] 133) = wb1 ∧ w9.heap.size = q1 from ⟨hw2, hq⟩)
  clear hx hn2 hw2 hq
  replace HB0 := Lib.hid ((HM1.out.block _ (lt_of_block HB0.out)).trans HB0.out)
  replace HB1 := Lib.hid ((HM1.out.block _ (lt_of_block HB1.out)).trans HB1.out)
  have x0 := cell_of_row _ _ 0 _ _ _ HX1.out
  have x1 := cell_of_row _ _ 1 _ _ _ HX1.out
  have x2 := cell_of_row _ _ 2 _ _ _ HX1.out
  go_wp2_with (rw [HE1.out.1, HE1.out.2])
  clear x0 x1 x2
  refine wp_region_class (fun w' => (w'.heap[w.heap.size]? = some (.cells #[.int .u64 (W64 (hiN (A))), .int .u64 (W64 (loN (A)))] 63) ∧ w'.heap[(w.heap.size + 1)]? = some (.cells #[.int .u64 (W64 (hiN (B))), .int .u64 (W64 (loN (B)))] 63) ∧ w'.heap[q1]? = some (.cells #[.int .i64 (wd : Int), .int .i64 (kd : Int), .int .i64 (kd : Int)] 133)) ∧ New wb1 w') (by kernel_rfl) (by kernel_rfl) ⟨⟨((New.refl wb1).drew.block _ (lt_of_block HB0.out)).trans HB0.out, ((New.refl wb1).drew.block _ (lt_of_block HB1.out)).trans HB1.out, ((New.refl wb1).drew.block _ (lt_of_block HX1.out)).trans HX1.out⟩, (New.refl _).drew⟩ ?_
  intro I _ f hall hback
  have HSTEP : Hid (∀ n w', New (f n) w' → ∃ m, w' = f m) := Lib.hid fun n w' hn => hback w' ⟨⟨(hn.block _ (lt_of_block ((hall n).1.1))).trans ((hall n).1.1), (hn.block _ (lt_of_block ((hall n).1.2.1))).trans ((hall n).1.2.1), (hn.block _ (lt_of_block ((hall n).1.2.2))).trans ((hall n).1.2.2)⟩, (hall n).2.trans hn⟩
  have HALL := Lib.hid fun n => (hall n).2
  have s0 := fun n => cell_of_row _ _ 0 _ _ _ ((hall n).1.1)
  have s1 := fun n => cell_of_row _ _ 1 _ _ _ ((hall n).1.1)
  have s2 := fun n => cell_of_row _ _ 0 _ _ _ ((hall n).1.2.1)
  have s3 := fun n => cell_of_row _ _ 1 _ _ _ ((hall n).1.2.1)
  have s4 := fun n => cell_of_row _ _ 0 _ _ _ ((hall n).1.2.2)
  have s5 := fun n => cell_of_row _ _ 1 _ _ _ ((hall n).1.2.2)
  have s6 := fun n => cell_of_row _ _ 2 _ _ _ ((hall n).1.2.2)
  clear hall hback
  repeat (go_big_quiet_step (first
    | (go_at_call_of 133 (Value.int IntKind.u64 (W64 (hiN A))); refine class_new HSTEP.out (C1.out _))
    | (go_at_call_of 133 (Value.int IntKind.u64 (W64 (hiN B))); refine class_new HSTEP.out (C2.out _))))
  refine wpQuiet_nil ?_
  rintro w9 ⟨n1, hw1⟩
  have hS := HALL.out n1
  rw [← hw1] at hS
  replace HB0 := Lib.hid ((hS.block _ (lt_of_block HB0.out)).trans HB0.out)
  replace HB1 := Lib.hid ((hS.block _ (lt_of_block HB1.out)).trans HB1.out)
  replace HX1 := Lib.hid ((hS.block _ (lt_of_block HX1.out)).trans HX1.out)
  replace HN := Lib.hid (HN.out.trans hS)
  clear HALL HSTEP hw1 hS s0 s1 s2 s3 s4 s5 s6
  go_wp2
  go_ret
  exact ⟨rfl, HN.out⟩
end Go.Proofs.YtebcfbcfipmahaaGreat
end
section
/- Layer 22: order: a place for each row. -/
namespace Go.Proofs.YtebcfbcfipmahaaGreat
open Go Go.RowKit Go.Bv Go.Tab
set_option linter.unusedVariables false
set_option maxRecDepth 100000
/-- a row of one's own where its block is as it was -/
theorem ow_blkP {w w' : World} {base size : Nat} {e : TypeId} {v : Value} {n : Nat} {xs : List Value} (h : w.ownsRow base e size v n xs) (hb : ∀ g, v.ownBlock = some g → w'.heap[g]? = w.heap[g]?) : w'.ownsRow base e size v n xs := by
  refine ⟨h.1, ?_⟩
  rcases h.2 with h2 | ⟨g, cap, cur, rfl, hg, hc, rest⟩
  · exact .inl h2
  · exact .inr ⟨g, cap, cur, rfl, hg, (hb g rfl).trans hc, rest⟩
theorem ow_ltP {w : World} {base size : Nat} {e : TypeId} {v : Value} {n : Nat} {xs : List Value} (h : w.ownsRow base e size v n xs) : ∀ g, v.ownBlock = some g → base ≤ g ∧ g < w.heap.size := by
  intro g hg
  rcases h.2 with ⟨rfl, _⟩ | ⟨g', cap, cur, rfl, hb, hc, _⟩
  · cases hg
  · have e : g' = g := by simpa [Value.ownBlock] using hg
    subst e
    exact ⟨hb, lt_of_block hc⟩
theorem ow_farP {w : World} {base n size : Nat} {e : TypeId} {v : Value} {xs : List Value} (h : w.ownsRow base e size v n xs) {a : Addr} (hv : v.ownBlock ≠ some a.block) (u : Value) : (w.setCell a u).ownsRow base e size v n xs :=
  ow_blkP h (fun g hg => heap_setCell_other _ _ _ _ (fun e => hv (by rw [hg, e])))
theorem info_pl : (Tryz.prog.info? 147).map (fun i => (i.zero, i.size, i.bytes)) = some (some (.agg #[.int .i64 0, .int .i64 0]), 2, 16) := by kernel_rfl
def plC (x : Nat × Nat) : List Value := [.int .i64 (x.1 : Int), .int .i64 (x.2 : Int)]
def plCs (l : List (Nat × Nat)) : List Value := l.flatMap plC
theorem plCs_snoc (l : List (Nat × Nat)) (x : Nat × Nat) : plCs (l ++ [x]) = plCs l ++ plC x := by unfold plCs; rw [List.flatMap_append]; simp
theorem pl_one (x : Nat × Nat) : ∀ v ∈ plC x, v.oneCell' = true := by
  intro v hv
  simp [plC] at hv
  rcases hv with rfl | rfl <;> rfl
/-- what order's second loop keeps -/
structure OrI (w wr : World) (m n : Nat) (R : Nat → List Int) (v : Value) (k : Nat) : Prop where
  new : New w wr
  lf : B3 wr w.heap.size 164 (lfK m n (rn R) (fun j => decide (j < n)) k)
  row : wr.ownsRow (w.heap.size + 1) 147 2 v k (plCs (plF m n (rn R) k (fun j => decide (j < n))))
theorem pl_cells (w : World) (x : Nat × Nat) (t : TypeId) : ∀ j u, (plC x)[j]? = some u → (w.alloc (.cells #[.int .i64 (x.1 : Int), .int .i64 (x.2 : Int)] t)).cell? ((⟨w.heap.size, 0, none⟩ : Addr).add j) = some u := by
  intro j u h
  rw [add_plain, Nat.zero_add, World.cell?_alloc_new]
  simpa [plC] using h
set_option maxHeartbeats 8000000 in
theorem order_any (g gf n cg m : Nat) (hn : n ≤ 3) (hn0 : 0 < n) (hm0 : 0 < m) (R : Nat → List Int) (hR : ∀ j p, j < n → p < m → 0 ≤ (R j).getD p 0) (hd : ∀ i j, i < n → j < n → i ≠ j → ∃ p, p < m ∧ rn R i p ≠ rn R j p) (hm : m ≤ 17592186044416) (w : World) (h : Rws w g gf n m R) :
    Calls Tryz.prog 137 #[.slice (some ⟨g, gf, none⟩) n cg] w fun e w' => ∃ v, e = .returned v ∧ w'.ownsRow (w.heap.size + 1) 147 2 v n (plCs (plF m n (rn R) n (fun j => decide (j < n)))) ∧ New w w' := by
  obtain ⟨i0, hi, hz0, hz1, hz2⟩ := info_parts info_pl
  have hb0 : B3 (w.alloc (.cells (b3 fun _ => false) 164)) w.heap.size 164 (fun j => decide (j < 0)) := heap_alloc_new w _
  have HB0 := Lib.hid hb0
  have HN0 := Lib.hid ((New.refl w).alloc (.cells (b3 fun _ => false) 164))
  have HR := Lib.hid h
  have HAL := Lib.hid (fun k (hk : k < n) w' (hw : Rws w' g gf n m R) => alone_any g gf n cg m hn hn0 R (lfK m n (rn R) (fun j => decide (j < n)) k) hR (lfK_ex hn hm0 hd _ (cnt_below n n (Nat.le_refl _)) k hk) hm w' hw)
  clear h hb0
  go_enter Tryz.func137, Tryz.ntmps137
  go_wp2
  go_loopw [9] (fun iv wr => ∃ k : Nat, k ≤ n ∧ iv = .int .i64 (k : Int) ∧ New w wr ∧ B3 wr w.heap.size 164 (fun j => decide (j < k))) (fun iv _ => n - (intOf iv).toNat)
  case atStart => exact ⟨0, Nat.zero_le _, rfl, HN0.out, HB0.out⟩
  case round =>
    obtain ⟨k, hk, rfl, hnew, hbx⟩ := hrel
    by_cases hlt : (k : Int) < (n : Int)
    · have hk3 : (k : Int) < 3 := by omega
      have hk0 : (0 : Int) ≤ (k : Int) := by omega
      have u0 := hbx.at (show k < 3 by omega)
      have uf := hbx.free
      have HP := Lib.hid (hbx.put (f' := fun j => decide (j < k + 1)) (show k < 3 by omega) true (decide_eq_true (by omega)) (fun j hj hjk => decide_eq_decide.2 (by omega)))
      have HNW := Lib.hid (hnew.setCell (p := ⟨w.heap.size, k, none⟩) (Nat.le_refl _) (.bool true))
      clear hnew hbx
      go_wp2
      exact ⟨⟨k + 1, by omega, by go_num, HNW.out, HP.out⟩, by simp [intOf]; omega⟩
    · obtain rfl : k = n := by omega
      have HST : Hid (OrI w wr m k R (.slice none 0 0) 0) := Lib.hid ⟨hnew, hbx, World.ownsRow_nil _ _ _ 2⟩
      clear hnew hbx HB0 HN0
      go_wp2
      go_loopw [5, 17] (fun v iv wr => ∃ i : Nat, i ≤ k ∧ iv = .int .i64 (i : Int) ∧ Hid (OrI w wr m k R v i)) (fun _ iv _ => k - (intOf iv).toNat)
      case atStart => exact ⟨0, Nat.zero_le _, rfl, HST⟩
      case round =>
        obtain ⟨i, hi2, rfl, HI⟩ := hrel
        clear HST
        by_cases hlt2 : (i : Int) < (k : Int)
        · have hik : i < k := by omega
          obtain ⟨l0, l1, l2⟩ := HI.out.lf.c
          have hcall := HAL.out i hik wr (HR.out.stay HI.out.new)
          obtain ⟨g1, g2, g3⟩ := aloF_ok (lfK_ex hn hm0 hd (fun j => decide (j < k)) (cnt_below k k (Nat.le_refl _)) i hik)
          have HLN : Hid (lfK m k (rn R) (fun j => decide (j < k)) (i + 1) = off (lfK m k (rn R) (fun j => decide (j < k)) i) (aloF m k (rn R) (lfK m k (rn R) (fun j => decide (j < k)) i)).1) := Lib.hid rfl
          have HPS := Lib.hid (plF_snoc m k (rn R) i (fun j => decide (j < k)))
          have HLF := Lib.hid HI.out.lf
          have HROW := Lib.hid HI.out.row
          have HNEW := Lib.hid HI.out.new
          generalize lfK m k (rn R) (fun j => decide (j < k)) i = lf at *
          generalize plF m k (rn R) i (fun j => decide (j < k)) = pl at *
          obtain ⟨⟨xr, xp⟩, hx⟩ : ∃ x, aloF m k (rn R) lf = x := ⟨_, rfl⟩
          rw [hx] at hcall HLN HPS g1 g2
          simp only at g1 g2
          have HC := Lib.hid hcall
          clear hcall hx g3 HI
          go_wp2_with fail
          refine HC.out.mono ?_
          rintro e w8 ⟨rfl, n8⟩
          have hbx8 := heap_alloc_new w8 (.cells #[.int .i64 (xr : Int), .int .i64 (xp : Int)] 147)
          have n9 := n8.alloc (.cells #[.int .i64 (xr : Int), .int .i64 (xp : Int)] 147)
          have d0 := cell_of_row _ _ 0 _ _ _ hbx8
          have d1 := cell_of_row _ _ 1 _ _ _ hbx8
          have hown := ow_blkP HROW.out (fun g' e => n9.block g' (ow_ltP HROW.out g' e).2)
          have hlf9 := HLF.out.stay n9
          have hwl : w.heap.size < w8.heap.size := Nat.lt_of_lt_of_le (lt_of_block HLF.out) n8.le
          have HBX8 := Lib.hid hbx8
          have HLF9 := Lib.hid hlf9
          have HN9 := Lib.hid (HNEW.out.trans n9)
          have HN8 := Lib.hid n8.le
          clear hbx8 hlf9 n8 n9 HC l0 l1 l2
          go_wp2_with (at_builtin; refine wpList_append_own _ rfl _ _ 144 rfl (w.heap.size + 1) 147 i0 (.agg #[.int .i64 0, .int .i64 0]) 2 16 Tryz.underlying144 hi hz0 hz1 hz2 rfl (by decide) _ i _ rfl (hown.alloc _) ⟨w8.heap.size + 1, 0, none⟩ 1 1 (plC (xr, xp)) rfl rfl ?c1 ?c2 ?c3 ?c4 ?c5 ?_)
          case c1 =>
            have h9 := pl_cells (w8.alloc (.cells #[.int .i64 (xr : Int), .int .i64 (xp : Int)] 147)) (xr, xp) 147
            rw [show (w8.alloc (.cells #[.int .i64 (xr : Int), .int .i64 (xp : Int)] 147)).heap.size = w8.heap.size + 1 by simp] at h9
            exact h9
          case c2 => exact pl_one (xr, xp)
          case c3 => unfold maxLen; omega
          case c4 => omega
          case c5 => simp; omega
          intro v' w1 how hgr _
          have hbase := own_base hown
          have hn1 : New w w1 := (HN9.out.alloc _).grown' hgr (fun kk e => by have := hbase kk e; omega)
          have n11 := (New.refl (w8.alloc (.cells #[.int .i64 (xr : Int), .int .i64 (xp : Int)] 147))).alloc (.cells #[.int .i64 (xr : Int), .int .i64 (xp : Int)] 147)
          have hlf1 : B3 w1 w.heap.size 164 lf := (hgr.block _ (by simp; omega) (fun e => by have := hbase _ e.symm; omega)).trans ((n11.block _ (by simp; omega)).trans HLF9.out)
          have hbx1 : w1.heap[w8.heap.size]? = some (.cells #[.int .i64 (xr : Int), .int .i64 (xp : Int)] 147 (0, 0)) := (hgr.block _ (by simp; omega) (fun e => by have h1 := (ow_ltP HROW.out _ e.symm).2; have := HN8.out; omega)).trans ((n11.block _ (by simp)).trans HBX8.out)
          have q0 := cell_of_row _ _ 0 _ _ _ hbx1
          have hxr3 : (xr : Int) < 3 := by omega
          have hxr0 : (0 : Int) ≤ (xr : Int) := by omega
          have u0 := hlf1.at (show xr < 3 by omega)
          have uf := hlf1.free
          have HOI : Hid (OrI w (w1.setCell ⟨w.heap.size, xr, none⟩ (.bool false)) m k R v' (i + 1)) := Lib.hid (by
            refine ⟨hn1.setCell (Nat.le_refl _) _, ?_, ?_⟩
            · rw [HLN.out]
              exact hlf1.put (show xr < 3 by omega) false (by unfold off; simp) (fun j hj hjx => by unfold off; rw [decide_eq_true hjx, Bool.and_true])
            · rw [HPS.out, plCs_snoc]
              have hb2 := own_base how
              exact ow_farP how (fun e => by have := hb2 _ e; simp at this; omega) _)
          clear how hgr hown hbase hn1 n11 hlf1 hbx1 d0 d1
          go_wp2
          exact ⟨⟨i + 1, by omega, by go_num, HOI⟩, by simp [intOf]; omega⟩
        · obtain rfl : i = k := by omega
          have HROW := Lib.hid HI.out.row
          have HN := Lib.hid HI.out.new
          go_wp2
          go_ret
          exact ⟨_, rfl, HROW.out, HN.out⟩
end Go.Proofs.YtebcfbcfipmahaaGreat
end
