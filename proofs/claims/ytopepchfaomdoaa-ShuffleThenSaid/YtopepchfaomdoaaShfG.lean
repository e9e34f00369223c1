/- shuffle.Back. -/
import Derived.Test.YtopepchfaomdoaaShfF
namespace Go.Proofs.Ytopepchfaomdoaa
open Go Go.RowKit Go.Bv
set_option linter.unusedVariables false
def lsL (p : List Int) (n k : Nat) : List Int := liI (fun x => lsF p x k) n
theorem lsL_len (p : List Int) (n k : Nat) : (lsL p n k).length = n := liI_len _ _
theorem lsL_zero (p : List Int) (n : Nat) : lsL p n 0 = liI (fun _ => 0) n := rfl
set_option maxRecDepth 100000 in
set_option maxHeartbeats 4000000 in
theorem inv_40 (a : Option Addr) (n c : Nat) (p : List Int) (w : World) (h : ZRow w a n c p) (hn : n ≤ 1000000) (hp : isO p) :
    Calls Try.prog 30 #[.slice a n c] w fun e w' => ∃ g b, e = .returned (.func (Fn.func 38) #[] #[.pointer (some ⟨b, 0, none⟩)]) ∧ w'.heap[b]? = some (.cells #[.slice (some ⟨g, 0, none⟩) n n] 22 (0, 0)) ∧ w'.ownsRow w.heap.size 3 1 (.slice (some ⟨g, 0, none⟩) n n) n ((lsL p n n).map fun x => .int .i64 x) ∧ w.heap.size ≤ b ∧ New w w' := by
  have hmf : ∀ (fn : Fn) (first cap : Array Value) (w : World), (Instr.makeFunc fn first cap).run Try.prog w = .ok (.func fn first cap) w := fun _ _ _ _ => rfl
  have HMK := Lib.hid (make_int n hn)
  have HH := Lib.hid h
  have HP := Lib.hid hp
  have HL := Lib.hid h.len_eq
  clear h hp
  go_enter Try.func30, Try.ntmps30
  go_wp2_with fail
  rw [HMK.out _ _ rfl]
  go_wp2_with fail
  have hr0 : (w.alloc (.cells (madeCells #[.int .i64 0] n) 3)).ownsRow w.heap.size 3 1 (.slice (some ⟨w.heap.size, 0, none⟩) n n) n ((lsL p n 0).map fun x => .int .i64 x) := ow_made w _ _ _ n _ (Nat.le_refl _) (by omega) (by rw [made_toList, lsL_zero, zeros_li]) (by rw [List.length_map, lsL_len])
  have hsz : (w.alloc (.cells (madeCells #[.int .i64 0] n) 3)).heap.size = w.heap.size + 1 := by simp
  have hb0 := heap_alloc_new (w.alloc (.cells (madeCells #[.int .i64 0] n) 3)) (.cells #[.slice (some ⟨w.heap.size, 0, none⟩) n n] 22)
  rw [hsz] at hb0
  have HR0 := Lib.hid (ow_new hr0 ((New.refl _).alloc (.cells #[.slice (some ⟨w.heap.size, 0, none⟩) n n] 22)))
  have HB0 := Lib.hid hb0
  have HN0 := Lib.hid (((New.refl w).alloc (.cells (madeCells #[.int .i64 0] n) 3)).alloc (.cells #[.slice (some ⟨w.heap.size, 0, none⟩) n n] 22))
  clear hr0 hsz hb0
  go_loopw [11] (fun iv wr => ∃ k : Nat, k ≤ n ∧ iv = .int .i64 (k : Int) ∧ wr.ownsRow w.heap.size 3 1 (.slice (some ⟨w.heap.size, 0, none⟩) n n) n ((lsL p n k).map fun x => .int .i64 x) ∧ wr.heap[w.heap.size + 1]? = some (.cells #[.slice (some ⟨w.heap.size, 0, none⟩) n n] 22 (0, 0)) ∧ New w wr) (fun iv _ => n - (intOf iv).toNat)
  case atStart => exact ⟨0, Nat.zero_le _, rfl, HR0.out, HB0.out, HN0.out⟩
  case round =>
    clear HR0 HB0 HN0
    obtain ⟨k, hk, rfl, hown, hbox, hnew⟩ := hrel
    have HO := Lib.hid hown
    have HB := Lib.hid hbox
    have HN := Lib.hid hnew
    obtain ⟨wq, hwq⟩ : ∃ z, z = wr := ⟨_, rfl⟩
    rw [← hwq] at HO HB HN ⊢
    clear hown hbox hnew hwq
    have b0 := cell_of_row _ _ 0 _ _ _ HB.out
    by_cases hlt : (k : Int) < (n : Int)
    · have hk0 : (0 : Int) ≤ (k : Int) := by omega
      obtain ⟨b2, off2, rfl, hc2⟩ := (HH.out.stay HN.out).addr (by omega)
      have c2 := hc2 k (by omega)
      clear hc2
      obtain ⟨P, hP⟩ : ∃ P : Nat, p.getD k 0 = (P : Int) := ⟨(p.getD k 0).toNat, by have := HP.out.1 k (by rw [HL.out]; omega); omega⟩
      have hPn : P < n := by have := HP.out.1 k (by rw [HL.out]; omega); rw [HL.out] at this; omega
      rw [hP] at c2
      have HSS := Lib.hid (ls_set p hPn hP)
      obtain ⟨c1, f1⟩ := ow_int HO.out (k := P) hPn
      have hP0 : (0 : Int) ≤ (P : Int) := by omega
      have hPm : (P : Int) < (n : Int) := by omega
      have HO2 : Hid ((wq.setCell ⟨w.heap.size, P, none⟩ (.int .i64 (k : Nat))).ownsRow w.heap.size 3 1 (.slice (some ⟨w.heap.size, 0, none⟩) n n) n ((lsL p n (k + 1)).map fun x => .int .i64 x)) := Lib.hid (by
        unfold lsL
        rw [← HSS.out, List.map_set]; exact ow_set HO.out P _)
      have HB2 : Hid ((wq.setCell ⟨w.heap.size, P, none⟩ (.int .i64 (k : Nat))).heap[w.heap.size + 1]? = some (.cells #[.slice (some ⟨w.heap.size, 0, none⟩) n n] 22 (0, 0))) := Lib.hid ((heap_setCell_other _ _ _ _ (by show w.heap.size + 1 ≠ w.heap.size; omega)).trans HB.out)
      have HN2 : Hid (New w (wq.setCell ⟨w.heap.size, P, none⟩ (.int .i64 (k : Nat)))) := Lib.hid (HN.out.setCell (Nat.le_refl _) _)
      clear hP
      go_wp2
      exact ⟨⟨k + 1, by omega, by go_num, HO2.out, HB2.out, HN2.out⟩, by simp [intOf]; omega⟩
    · obtain rfl : k = n := by omega
      go_wp2
      go_ret
      exact ⟨_, _, rfl, HB.out, HO.out, Nat.le_succ _, HN.out⟩
set_option maxHeartbeats 1000000 in
theorem inv1_40 (x n g b : Nat) (p : List Int) (B : Nat) (w : World) (hb : w.heap[b]? = some (.cells #[.slice (some ⟨g, 0, none⟩) n n] 22 (0, 0))) (ho : w.ownsRow B 3 1 (.slice (some ⟨g, 0, none⟩) n n) n ((lsL p n n).map fun x => .int .i64 x)) (hx : x < n) :
    Calls Try.prog 38 #[.int .i64 (x : Int), .pointer (some ⟨b, 0, none⟩)] w fun e w' => e = .returned (.int .i64 (lsF p x n : Nat)) ∧ w' = w := by
  have b0 := cell_of_row _ _ 0 _ _ _ hb
  obtain ⟨c1, _⟩ := ow_int ho (k := x) hx
  unfold lsL at c1
  rw [liI_get _ hx] at c1
  have hx0 : (0 : Int) ≤ (x : Int) := by omega
  have hxn : (x : Int) < (n : Int) := by omega
  clear hb ho
  go_enter Try.func38, Try.ntmps38
  go_wp2
  go_ret
  exact ⟨rfl, rfl⟩
/-- the first k places told -/
def bkL (p : List Int) (n k : Nat) : List Int := liI (fun x => if x < k then lsF p x n else 0) n
theorem bkL_zero (p : List Int) (n : Nat) : bkL p n 0 = liI (fun _ => 0) n := liI_ext (fun x _ => by rw [if_neg (by omega)])
theorem bkL_set (p : List Int) {n k : Nat} (h : k < n) : (bkL p n k).set k ((lsF p k n : Nat) : Int) = bkL p n (k + 1) := by
  unfold bkL
  rw [liI_set _ _ h]
  apply liI_ext
  intro x _
  by_cases e : x = k
  · subst e; rw [if_pos rfl, if_pos (by omega)]
  · rw [if_neg e]
    by_cases e2 : x < k
    · rw [if_pos e2, if_pos (by omega)]
    · rw [if_neg e2, if_neg (by omega)]
set_option maxRecDepth 100000 in
set_option maxHeartbeats 4000000 in
theorem back_40 (a : Option Addr) (n c : Nat) (p : List Int) (w : World) (h : ZRow w a n c p) (hn : n ≤ 1000000) :
    Calls Try.prog 17 #[.slice a n c] w fun e w' => ∃ a' c', e = .returned (.slice a' ((bkR p).length : Nat) c') ∧ ZRow w' a' (bkR p).length c' (bkR p) ∧ New w w' := by
  have HI := Lib.hid (is_40 a n c p w h hn)
  have HH := Lib.hid h
  have HL := Lib.hid h.len_eq
  clear h
  rcases hp : isB p with _ | _
  · have HF : Hid (bkR p = []) := Lib.hid (by unfold bkR; rw [hp]; rfl)
    rw [hp] at HI
    clear hp
    go_enter Try.func17, Try.ntmps17
    go_wp2_with fail
    refine (HI.out).mono ?_
    rintro e w9 ⟨rfl, hn⟩
    have HN := Lib.hid hn
    clear hn HI
    go_wp2
    go_ret
    rw [HF.out]
    exact ⟨none, 0, rfl, nil_zrow _, HN.out⟩
  · have HR : Hid (bkR p = bkL p n n) := Lib.hid (by
      unfold bkR bkI bkL
      rw [hp, if_pos rfl, HL.out]
      exact liI_ext (fun x hx => by rw [if_pos hx]))
    have HO := Lib.hid (isB_iff.1 hp)
    have HIN : Hid (∀ z ∈ bkL p n n, In64 z) := Lib.hid (in64_li _ (fun x hx => by
      rw [if_pos hx]
      have := ls_le p x n; omega))
    have HV := Lib.hid (fun w' (h : ZRow w' a n c p) => inv_40 a n c p w' h hn HO.out)
    rw [hp] at HI
    clear hp
    have hmk : ∀ W : World, (Instr.makeSlice 22 (.int .i64 (n : Int)) (.int .i64 (n : Int))).run Try.prog W = .ok (.slice (some ⟨W.heap.size, 0, none⟩) n n) (W.alloc (.cells (madeCells #[.int .i64 0] n) 3)) := fun W => make_int n hn _ W rfl
    go_enter Try.func17, Try.ntmps17
    go_wp2_with fail
    refine (HI.out).mono ?_
    rintro e w9 ⟨rfl, hn9⟩
    have HN := Lib.hid hn9
    have HN9 := Lib.hid hn9
    have HST := Lib.hid (fun w' (h : New w9 w') => HH.out.stay (hn9.trans h))
    clear hn9 HI
    go_wp2_with fail
    go_cut [3, 4] (fun o f wx => ∃ g1 g2 b, o = .slice (some ⟨g1, 0, none⟩) n n ∧ f = .func (Fn.func 38) #[] #[.pointer (some ⟨b, 0, none⟩)] ∧ wx.ownsRow w9.heap.size 3 1 (.slice (some ⟨g1, 0, none⟩) n n) n ((liI (fun _ => 0) n).map fun x => .int .i64 x) ∧ wx.heap[b]? = some (.cells #[.slice (some ⟨g2, 0, none⟩) n n] 22 (0, 0)) ∧ wx.ownsRow w9.heap.size 3 1 (.slice (some ⟨g2, 0, none⟩) n n) n ((lsL p n n).map fun x => .int .i64 x) ∧ g1 ≠ g2 ∧ g1 ≠ b ∧ New w9 wx)
    case first =>
      go_region_held3 (fun w' => New w9 w')
        ((first | with_reducible assumption | with_reducible exact (New.refl _).drew | with_reducible exact New.drew (by assumption) | with_reducible exact ((New.refl _).alloc _).drew | with_reducible exact (((New.refl _).drew).alloc _).drew | with_reducible exact ((New.refl _).drew).alloc _ | with_reducible exact New.alloc (by assumption) _))
        (first
        | (go_at_call 30
           refine (HV.out _ (HST.out _ (by first | with_reducible assumption | with_reducible exact (New.refl _).drew | with_reducible exact New.drew (by assumption) | with_reducible exact ((New.refl _).alloc _).drew | with_reducible exact (((New.refl _).drew).alloc _).drew | with_reducible exact ((New.refl _).drew).alloc _ | with_reducible exact New.alloc (by assumption) _))).mono ?_
           rintro e w4 ⟨g, b, rfl, hbox, how, hbl, hn4⟩
           have hn5 : New w9 w4 := by first
             | with_reducible exact (New.refl w9).drew.trans hn4
             | with_reducible exact ((New.refl w9).drew.alloc _).trans hn4
             | with_reducible exact ((New.refl w9).alloc _).drew.trans hn4
             | with_reducible exact (((New.refl w9).drew.alloc _).drew).trans hn4
             | with_reducible exact (New.refl w9).trans hn4))
      all_goals (
        go_wp2_with fail
        go_meet
        case rel => first
          | exact ⟨_, _, _, rfl, rfl, ow_new (ow_made w9 _ _ _ n _ (Nat.le_refl _) (by omega) (by rw [made_toList, zeros_li]) (by rw [List.length_map, liI_len])) ((New.refl _).drew.trans hn4), hbox, ow_base how (by simp), (fun e => by have := (ow_in how).1; simp at this; omega), (fun e => by simp at hbl; omega), hn5⟩
          | exact ⟨_, _, _, rfl, rfl, ow_made w4 _ _ _ n _ hn5.le (by omega) (by rw [made_toList, zeros_li]) (by rw [List.length_map, liI_len]), (((New.refl w4).alloc _).block _ (lt_of_block hbox)).trans hbox, ow_new (ow_base how (by simp)) ((New.refl _).alloc _), (fun e => by have := (ow_in how).2.1; omega), (fun e => by have := lt_of_block hbox; omega), hn5.alloc _⟩)
    case rest =>
      obtain ⟨g1, g2, b, rfl, rfl, ho1, hbox, ho2, hg12, hgb, hn⟩ := hcut
      clear hmk
      rw [← bkL_zero p] at ho1
      have HO1 := Lib.hid ho1
      have HO2 := Lib.hid ho2
      have HB := Lib.hid hbox
      replace HN := Lib.hid (HN.out.trans hn)
      have hg1w : w.heap.size ≤ g1 := Nat.le_trans HN9.out.le (ow_in ho1).1
      have hne21 : ¬ g2 = g1 := fun e => hg12 e.symm
      have hneb1 : ¬ b = g1 := fun e => hgb e.symm
      clear ho1 ho2 hbox hn
      go_wp2_with fail
      go_loopw [16] (fun iv wr => ∃ k : Nat, k ≤ n ∧ iv = .int .i64 (k : Int) ∧ wr.ownsRow w9.heap.size 3 1 (.slice (some ⟨g1, 0, none⟩) n n) n ((bkL p n k).map fun x => .int .i64 x) ∧ wr.ownsRow w9.heap.size 3 1 (.slice (some ⟨g2, 0, none⟩) n n) n ((lsL p n n).map fun x => .int .i64 x) ∧ wr.heap[b]? = some (.cells #[.slice (some ⟨g2, 0, none⟩) n n] 22 (0, 0)) ∧ New w wr) (fun iv _ => n - (intOf iv).toNat)
      case atStart => exact ⟨0, Nat.zero_le _, rfl, HO1.out, HO2.out, HB.out, HN.out⟩
      case round =>
        clear HO1 HO2 HB HN
        obtain ⟨k, hk, rfl, h1, h2, h3, hnew⟩ := hrel
        have HO1 := Lib.hid h1
        have HO2 := Lib.hid h2
        have HB := Lib.hid h3
        have HN := Lib.hid hnew
        obtain ⟨wq, hwq⟩ : ∃ z, z = wr := ⟨_, rfl⟩
        rw [← hwq] at HO1 HO2 HB HN ⊢
        clear h1 h2 h3 hnew hwq
        by_cases hlt : (k : Int) < (n : Int)
        · have hk0 : (0 : Int) ≤ (k : Int) := by omega
          have HC := Lib.hid (inv1_40 k n g2 b p _ wq HB.out HO2.out (by omega))
          obtain ⟨c1, f1⟩ := ow_int HO1.out (k := k) (by omega)
          have HSS := Lib.hid (bkL_set p (n := n) (k := k) (by omega))
          obtain ⟨y, hy⟩ : ∃ z, lsF p k n = z := ⟨_, rfl⟩
          rw [hy] at HC HSS
          clear hy
          have HA1 : Hid ((wq.setCell ⟨g1, k, none⟩ (.int .i64 (y : Nat))).ownsRow w9.heap.size 3 1 (.slice (some ⟨g1, 0, none⟩) n n) n ((bkL p n (k + 1)).map fun x => .int .i64 x)) := Lib.hid (by
            rw [← HSS.out, List.map_set]; exact ow_set HO1.out k _)
          have HA2 := Lib.hid (ow_far HO2.out (a := ⟨g1, k, none⟩) (by simp [Value.ownBlock]; exact hne21) (.int .i64 (y : Nat)))
          have HA3 : Hid ((wq.setCell ⟨g1, k, none⟩ (.int .i64 (y : Nat))).heap[b]? = some (.cells #[.slice (some ⟨g2, 0, none⟩) n n] 22 (0, 0))) := Lib.hid ((heap_setCell_other _ _ _ _ (by show b ≠ g1; exact hneb1)).trans HB.out)
          have HA4 : Hid (New w (wq.setCell ⟨g1, k, none⟩ (.int .i64 (y : Nat)))) := Lib.hid (HN.out.setCell hg1w _)
          go_wp2_with fail
          refine (HC.out).mono ?_
          rintro e w' ⟨rfl, hw⟩
          replace hw := hw.symm
          subst hw
          go_wp2
          exact ⟨⟨k + 1, by omega, by go_num, HA1.out, HA2.out, HA3.out, HA4.out⟩, by simp [intOf]; omega⟩
        · obtain rfl : k = n := by omega
          obtain ⟨ar, cr, he, hz⟩ := ZRow.of_owns HO1.out (by omega) HIN.out
          cases he
          rw [← HR.out] at hz
          have HZ := Lib.hid hz
          have HLR : Hid ((bkR p).length = k) := Lib.hid hz.len_eq
          clear hz
          go_wp2
          go_ret
          rw [HLR.out]
          exact ⟨_, _, rfl, HZ.out, HN.out⟩
end Go.Proofs.Ytopepchfaomdoaa
