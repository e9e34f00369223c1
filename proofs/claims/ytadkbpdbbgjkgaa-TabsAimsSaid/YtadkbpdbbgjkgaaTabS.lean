/- Layer 22: order: a place for each row. -/
import Derived.Test.YtadkbpdbbgjkgaaTabP
namespace Go.Proofs.Ytadkbpdbbgjkgaa
open Go Go.RowKit Go.Bv Go.Tab
set_option linter.unusedVariables false
set_option maxRecDepth 100000
/-- a row of one's own where its block is as it was -/
theorem ow_blkP {w w' : World} {base size : Nat} {e : TypeId} {v : Value} {n : Nat} {xs : List Value} (h : w.ownsRow base e size v n xs) (hb : ∀ g, v.ownBlock = some g → w'.heap[g]? = w.heap[g]?) : w'.ownsRow base e size v n xs := by
  refine ⟨h.1, ?_⟩
  rcases h.2 with h2 | ⟨g, cap, cur, rfl, hg, hc, rest⟩
  · exact .inl h2
  · exact .inr ⟨g, cap, cur, rfl, hg, (hb g rfl).trans hc, rest⟩
theorem ow_ltP {w : World} {base size : Nat} {e : TypeId} {v : Value} {n : Nat} {xs : List Value} (h : w.ownsRow base e size v n xs) : ∀ g, v.ownBlock = some g → base ≤ g ∧ g < w.heap.size := by
  intro g hg
  rcases h.2 with ⟨rfl, _⟩ | ⟨g', cap, cur, rfl, hb, hc, _⟩
  · cases hg
  · have e : g' = g := by simpa [Value.ownBlock] using hg
    subst e
    exact ⟨hb, lt_of_block hc⟩
theorem ow_farP {w : World} {base n size : Nat} {e : TypeId} {v : Value} {xs : List Value} (h : w.ownsRow base e size v n xs) {a : Addr} (hv : v.ownBlock ≠ some a.block) (u : Value) : (w.setCell a u).ownsRow base e size v n xs :=
  ow_blkP h (fun g hg => heap_setCell_other _ _ _ _ (fun e => hv (by rw [hg, e])))
theorem info_pl : (Try.prog.info? 61).map (fun i => (i.zero, i.size, i.bytes)) = some (some (.agg #[.int .i64 0, .int .i64 0]), 2, 16) := by kernel_rfl
def plC (x : Nat × Nat) : List Value := [.int .i64 (x.1 : Int), .int .i64 (x.2 : Int)]
def plCs (l : List (Nat × Nat)) : List Value := l.flatMap plC
theorem plCs_snoc (l : List (Nat × Nat)) (x : Nat × Nat) : plCs (l ++ [x]) = plCs l ++ plC x := by unfold plCs; rw [List.flatMap_append]; simp
theorem pl_one (x : Nat × Nat) : ∀ v ∈ plC x, v.oneCell' = true := by
  intro v hv
  simp [plC] at hv
  rcases hv with rfl | rfl <;> rfl
/-- what order's second loop keeps -/
structure OrI (w wr : World) (m n : Nat) (R : Nat → List Int) (v : Value) (k : Nat) : Prop where
  new : New w wr
  lf : B3 wr w.heap.size 72 (lfK m n (rn R) (fun j => decide (j < n)) k)
  row : wr.ownsRow (w.heap.size + 1) 61 2 v k (plCs (plF m n (rn R) k (fun j => decide (j < n))))
theorem pl_cells (w : World) (x : Nat × Nat) (t : TypeId) : ∀ j u, (plC x)[j]? = some u → (w.alloc (.cells #[.int .i64 (x.1 : Int), .int .i64 (x.2 : Int)] t)).cell? ((⟨w.heap.size, 0, none⟩ : Addr).add j) = some u := by
  intro j u h
  rw [add_plain, Nat.zero_add, World.cell?_alloc_new]
  simpa [plC] using h
set_option maxHeartbeats 8000000 in
theorem order_any (g gf n cg m : Nat) (hn : n ≤ 3) (hn0 : 0 < n) (hm0 : 0 < m) (R : Nat → List Int) (hR : ∀ j p, j < n → p < m → 0 ≤ (R j).getD p 0) (hd : ∀ i j, i < n → j < n → i ≠ j → ∃ p, p < m ∧ rn R i p ≠ rn R j p) (hm : m ≤ 17592186044416) (w : World) (h : Rws w g gf n m R) :
    Calls Try.prog 47 #[.slice (some ⟨g, gf, none⟩) n cg] w fun e w' => ∃ v, e = .returned v ∧ w'.ownsRow (w.heap.size + 1) 61 2 v n (plCs (plF m n (rn R) n (fun j => decide (j < n)))) ∧ New w w' := by
  obtain ⟨i0, hi, hz0, hz1, hz2⟩ := info_parts info_pl
  have hb0 : B3 (w.alloc (.cells (b3 fun _ => false) 72)) w.heap.size 72 (fun j => decide (j < 0)) := heap_alloc_new w _
  have HB0 := Lib.hid hb0
  have HN0 := Lib.hid ((New.refl w).alloc (.cells (b3 fun _ => false) 72))
  have HR := Lib.hid h
  have HAL := Lib.hid (fun k (hk : k < n) w' (hw : Rws w' g gf n m R) => alone_any g gf n cg m hn hn0 R (lfK m n (rn R) (fun j => decide (j < n)) k) hR (lfK_ex hn hm0 hd _ (cnt_below n n (Nat.le_refl _)) k hk) hm w' hw)
  clear h hb0
  go_enter Try.func47, Try.ntmps47
  go_wp2
  go_loopw [9] (fun iv wr => ∃ k : Nat, k ≤ n ∧ iv = .int .i64 (k : Int) ∧ New w wr ∧ B3 wr w.heap.size 72 (fun j => decide (j < k))) (fun iv _ => n - (intOf iv).toNat)
  case atStart => exact ⟨0, Nat.zero_le _, rfl, HN0.out, HB0.out⟩
  case round =>
    obtain ⟨k, hk, rfl, hnew, hbx⟩ := hrel
    by_cases hlt : (k : Int) < (n : Int)
    · have hk3 : (k : Int) < 3 := by omega
      have hk0 : (0 : Int) ≤ (k : Int) := by omega
      have u0 := hbx.at (show k < 3 by omega)
      have uf := hbx.free
      have HP := Lib.hid (hbx.put (f' := fun j => decide (j < k + 1)) (show k < 3 by omega) true (decide_eq_true (by omega)) (fun j hj hjk => decide_eq_decide.2 (by omega)))
      have HNW := Lib.hid (hnew.setCell (p := ⟨w.heap.size, k, none⟩) (Nat.le_refl _) (.bool true))
      clear hnew hbx
      go_wp2
      exact ⟨⟨k + 1, by omega, by go_num, HNW.out, HP.out⟩, by simp [intOf]; omega⟩
    · obtain rfl : k = n := by omega
      have HST : Hid (OrI w wr m k R (.slice none 0 0) 0) := Lib.hid ⟨hnew, hbx, World.ownsRow_nil _ _ _ 2⟩
      clear hnew hbx HB0 HN0
      go_wp2
      go_loopw [5, 17] (fun v iv wr => ∃ i : Nat, i ≤ k ∧ iv = .int .i64 (i : Int) ∧ Hid (OrI w wr m k R v i)) (fun _ iv _ => k - (intOf iv).toNat)
      case atStart => exact ⟨0, Nat.zero_le _, rfl, HST⟩
      case round =>
        obtain ⟨i, hi2, rfl, HI⟩ := hrel
        clear HST
        by_cases hlt2 : (i : Int) < (k : Int)
        · have hik : i < k := by omega
          obtain ⟨l0, l1, l2⟩ := HI.out.lf.c
          have hcall := HAL.out i hik wr (HR.out.stay HI.out.new)
          obtain ⟨g1, g2, g3⟩ := aloF_ok (lfK_ex hn hm0 hd (fun j => decide (j < k)) (cnt_below k k (Nat.le_refl _)) i hik)
          have HLN : Hid (lfK m k (rn R) (fun j => decide (j < k)) (i + 1) = off (lfK m k (rn R) (fun j => decide (j < k)) i) (aloF m k (rn R) (lfK m k (rn R) (fun j => decide (j < k)) i)).1) := Lib.hid rfl
          have HPS := Lib.hid (plF_snoc m k (rn R) i (fun j => decide (j < k)))
          have HLF := Lib.hid HI.out.lf
          have HROW := Lib.hid HI.out.row
          have HNEW := Lib.hid HI.out.new
          generalize lfK m k (rn R) (fun j => decide (j < k)) i = lf at *
          generalize plF m k (rn R) i (fun j => decide (j < k)) = pl at *
          obtain ⟨⟨xr, xp⟩, hx⟩ : ∃ x, aloF m k (rn R) lf = x := ⟨_, rfl⟩
          rw [hx] at hcall HLN HPS g1 g2
          simp only at g1 g2
          have HC := Lib.hid hcall
          clear hcall hx g3 HI
          go_wp2_with fail
          refine HC.out.mono ?_
          rintro e w8 ⟨rfl, n8⟩
          have hbx8 := heap_alloc_new w8 (.cells #[.int .i64 (xr : Int), .int .i64 (xp : Int)] 61)
          have n9 := n8.alloc (.cells #[.int .i64 (xr : Int), .int .i64 (xp : Int)] 61)
          have d0 := cell_of_row _ _ 0 _ _ _ hbx8
          have d1 := cell_of_row _ _ 1 _ _ _ hbx8
          have hown := ow_blkP HROW.out (fun g' e => n9.block g' (ow_ltP HROW.out g' e).2)
          have hlf9 := HLF.out.stay n9
          have hwl : w.heap.size < w8.heap.size := Nat.lt_of_lt_of_le (lt_of_block HLF.out) n8.le
          have HBX8 := Lib.hid hbx8
          have HLF9 := Lib.hid hlf9
          have HN9 := Lib.hid (HNEW.out.trans n9)
          have HN8 := Lib.hid n8.le
          clear hbx8 hlf9 n8 n9 HC l0 l1 l2
          go_wp2_with (at_builtin; refine wpList_append_own _ rfl _ _ 58 rfl (w.heap.size + 1) 61 i0 (.agg #[.int .i64 0, .int .i64 0]) 2 16 Try.underlying58 hi hz0 hz1 hz2 rfl (by decide) _ i _ rfl (hown.alloc _) ⟨w8.heap.size + 1, 0, none⟩ 1 1 (plC (xr, xp)) rfl rfl ?c1 ?c2 ?c3 ?c4 ?c5 ?_)
          case c1 =>
            have h9 := pl_cells (w8.alloc (.cells #[.int .i64 (xr : Int), .int .i64 (xp : Int)] 61)) (xr, xp) 61
            rw [show (w8.alloc (.cells #[.int .i64 (xr : Int), .int .i64 (xp : Int)] 61)).heap.size = w8.heap.size + 1 by simp] at h9
            exact h9
          case c2 => exact pl_one (xr, xp)
          case c3 => unfold maxLen; omega
          case c4 => omega
          case c5 => simp; omega
          intro v' w1 how hgr _
          have hbase := own_base hown
          have hn1 : New w w1 := (HN9.out.alloc _).grown' hgr (fun kk e => by have := hbase kk e; omega)
          have n11 := (New.refl (w8.alloc (.cells #[.int .i64 (xr : Int), .int .i64 (xp : Int)] 61))).alloc (.cells #[.int .i64 (xr : Int), .int .i64 (xp : Int)] 61)
          have hlf1 : B3 w1 w.heap.size 72 lf := (hgr.block _ (by simp; omega) (fun e => by have := hbase _ e.symm; omega)).trans ((n11.block _ (by simp; omega)).trans HLF9.out)
          have hbx1 : w1.heap[w8.heap.size]? = some (.cells #[.int .i64 (xr : Int), .int .i64 (xp : Int)] 61 (0, 0)) := (hgr.block _ (by simp; omega) (fun e => by have h1 := (ow_ltP HROW.out _ e.symm).2; have := HN8.out; omega)).trans ((n11.block _ (by simp)).trans HBX8.out)
          have q0 := cell_of_row _ _ 0 _ _ _ hbx1
          have hxr3 : (xr : Int) < 3 := by omega
          have hxr0 : (0 : Int) ≤ (xr : Int) := by omega
          have u0 := hlf1.at (show xr < 3 by omega)
          have uf := hlf1.free
          have HOI : Hid (OrI w (w1.setCell ⟨w.heap.size, xr, none⟩ (.bool false)) m k R v' (i + 1)) := Lib.hid (by
            refine ⟨hn1.setCell (Nat.le_refl _) _, ?_, ?_⟩
            · rw [HLN.out]
              exact hlf1.put (show xr < 3 by omega) false (by unfold off; simp) (fun j hj hjx => by unfold off; rw [decide_eq_true hjx, Bool.and_true])
            · rw [HPS.out, plCs_snoc]
              have hb2 := own_base how
              exact ow_farP how (fun e => by have := hb2 _ e; simp at this; omega) _)
          clear how hgr hown hbase hn1 n11 hlf1 hbx1 d0 d1
          go_wp2
          exact ⟨⟨i + 1, by omega, by go_num, HOI⟩, by simp [intOf]; omega⟩
        · obtain rfl : i = k := by omega
          have HROW := Lib.hid HI.out.row
          have HN := Lib.hid HI.out.new
          go_wp2
          go_ret
          exact ⟨_, rfl, HROW.out, HN.out⟩
end Go.Proofs.Ytadkbpdbbgjkgaa
