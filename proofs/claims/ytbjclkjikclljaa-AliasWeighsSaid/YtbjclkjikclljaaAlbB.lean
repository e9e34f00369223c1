/- Layer 43: Weights of a table. -/
import Derived.Test.YtbjclkjikclljaaAlbA
import Derived.Test.YtbjclkjikclljaaDivM
namespace Go.Proofs.Ytbjclkjikclljaa
open Go Go.RowKit Go.Bv Go.Ali
set_option linter.unusedVariables false
set_option maxRecDepth 100000
set_option maxHeartbeats 8000000 in
theorem weights_no (T : BitVec 64) (ab : Option Addr) (nb cb : Nat) (aa : Option Addr) (na ca : Nat) (be : List (BitVec 64)) (al : List Int) (hE : tE T be al ≠ 0) (w : World) (h : TL w ab nb cb aa na ca be al) :
    Calls Try.prog 17 #[tv T ab nb cb aa na ca] w fun e w' => e = .returned (.tuple #[.slice none 0 0, .bool false]) ∧ New w w' := by
  have hbx := heap_alloc_new w (TB (.int .u64 (W64 T)) (.slice ab nb cb) (.slice aa na ca))
  have hn0 := (New.refl w).alloc (TB (.int .u64 (W64 T)) (.slice ab nb cb) (.slice aa na ca))
  have k0 := cell_of_row _ _ 0 _ _ _ hbx
  have k1 := cell_of_row _ _ 1 _ _ _ hbx
  have k2 := cell_of_row _ _ 2 _ _ _ hbx
  have HCH := Lib.hid (check_43 T ab nb cb aa na ca be al _ (h.stay hn0))
  have HN0 := Lib.hid hn0
  obtain ⟨z, hz⟩ : ∃ z, tE T be al = z := ⟨_, rfl⟩
  rw [hz] at HCH hE
  have hb : (z != 0) = true := by rw [bne_iff_ne]; exact hE
  clear hE hz h hbx hn0
  go_enter Try.func17, Try.ntmps17
  go_wp2_with fail
  refine HCH.out.mono ?_
  rintro e w1 ⟨rfl, n1⟩
  have HN1 := Lib.hid (HN0.out.trans n1)
  clear n1 HCH k0 k1 k2
  go_wp2
  refine bodyPost_ret (by simp [results, Try.results17, go_sem]; try rfl) rfl ?_
  exact ⟨rfl, HN1.out⟩
theorem make_q43 (n : Nat) (hn : n ≤ 1000000) (W : World) : (Instr.makeSlice 22 (.int .u64 (n : Int)) (.int .u64 (n : Int))).run Try.prog W = .ok (.slice (some ⟨W.heap.size, 0, none⟩) n n) (W.alloc (.cells (madeCells #[.int .u64 0] n) 24)) := by
  obtain ⟨i0, hi, hz0, hz1, hz2⟩ := info_parts info_cr
  exact run_make_row (P := Try.prog) 22 24 i0 (.int .u64 0) Try.underlying22 hi hz0 hz1 rfl .u64 .u64 n (by rw [hz2]; omega) (by omega) W
/-- the weights that a row of n words tells behind k rounds -/
def wsK (x : Nat → BitVec 64) (k : Nat) : Nat → BitVec 64 := fun i => if i < k then x i else 0#64
set_option maxHeartbeats 8000000 in
theorem weights_ok (T : BitVec 64) (ab : Option Addr) (n cb : Nat) (aa : Option Addr) (ca : Nat) (be : List (BitVec 64)) (al : List Int) (x : Nat → BitVec 64) (hE : tE T be al = 0) (hx : ∀ j : Nat, j < n → wtV T be al (j : Int) = BitVec.ofNat 64 n * x j ∧ (BitVec.ofNat 64 n * x j).toNat = n * (x j).toNat) (w : World) (h : TL w ab n cb aa n ca be al) :
    Calls Try.prog 17 #[tv T ab n cb aa n ca] w fun e w' => ∃ g, e = .returned (.tuple #[.slice (some ⟨g, 0, none⟩) n n, .bool true]) ∧ CR w' g n x ∧ New w w' := by
  obtain ⟨hn1, hn2, hna, hT0, hT1, hbb, hab⟩ := te_good hE
  have hlb := h.b.len_eq
  have hbx := heap_alloc_new w (TB (.int .u64 (W64 T)) (.slice ab n cb) (.slice aa n ca))
  have hn0 := (New.refl w).alloc (TB (.int .u64 (W64 T)) (.slice ab n cb) (.slice aa n ca))
  have k0 := cell_of_row _ _ 0 _ _ _ hbx
  have k1 := cell_of_row _ _ 1 _ _ _ hbx
  have k2 := cell_of_row _ _ 2 _ _ _ hbx
  have hch := check_43 T ab n cb aa n ca be al _ (h.stay hn0)
  rw [hE] at hch
  have HCH := Lib.hid hch
  have HN0 := Lib.hid hn0
  have HBX := Lib.hid hbx
  have HTL := Lib.hid h
  have hn256 : n ≤ 256 := by omega
  have hnp : 0 < n := by omega
  have hW := w_of (n := n) hn256
  have hmq := make_q43 n (by omega)
  have HJ : Hid (∀ (j : Nat) (hj : j < n) w', TL w' ab n cb aa n ca be al → Calls Try.prog 15 #[tv T ab n cb aa n ca, .int .i64 (j : Int)] w' fun e w2 => e = .returned (.tuple #[.int .u64 (W64 (BitVec.ofNat 64 n * x j)), .int .i64 0]) ∧ New w' w2) := Lib.hid (fun j hj w' hw => by
    have := weight_43 T ab n cb aa n ca be al (j : Int) w' hw
    rw [(hx j hj).1, je_ok hE (by omega)] at this
    exact this)
  have hq : ∀ j, j < n → (W64 (BitVec.ofNat 64 n * x j)).tmod (n : Int) = 0 ∧ (W64 (BitVec.ofNat 64 n * x j)).tdiv (n : Int) = W64 (x j) := by
    intro j hj
    have hp := (hx j hj).2
    unfold W64
    rw [hp]
    refine ⟨?_, ?_⟩
    · rw [← Int.ofNat_tmod, Nat.mul_mod_right]; rfl
    · rw [← Int.ofNat_tdiv, Nat.mul_div_cancel_left _ hnp]
  have HQ := Lib.hid hq
  have hnz : ((n : Int) == 0) = false := by rw [beq_eq_false_iff_ne]; omega
  have hcv : IntKind.u64.wrap (n : Int) = W64 (BitVec.ofNat 64 n) := by rw [wrap_u64]; rfl
  clear hE hx h hn1 hn2 hna hT0 hT1 hbb hab hlb hbx hn0 hch hq
  go_enter Try.func17, Try.ntmps17
  go_wp2_with fail
  refine HCH.out.mono ?_
  rintro e w1 ⟨rfl, n1⟩
  have k1 := cell_of_row _ _ 1 _ _ _ (blk_stay HBX.out n1)
  have HN1 := Lib.hid (HN0.out.trans n1)
  have HB1 := Lib.hid (blk_stay HBX.out n1)
  clear n1 HCH k0 k2
  have HC0 : Hid (CR (w1.alloc (.cells (madeCells #[.int .u64 0] n) 24)) w1.heap.size n (wsK x 0)) := Lib.hid ⟨_, heap_alloc_new _ _, Nat.le_of_eq (zeros_cr n).1.symm, fun j hj => by rw [(zeros_cr n).2 j hj]; rfl⟩
  have HN2 := Lib.hid ((New.refl w1).alloc (.cells (madeCells #[.int .u64 0] n) 24))
  have HN1X := HN1
  go_wp2_with fail
  go_loopw [20] (fun iv wr => ∃ k : Nat, k ≤ n ∧ iv = .int .i64 (k : Int) ∧ Hid (New w1 wr) ∧ Hid (CR wr w1.heap.size n (wsK x k))) (fun iv _ => n - (intOf iv).toNat)
  case atStart => exact ⟨0, Nat.zero_le _, rfl, HN2, HC0⟩
  case round =>
    clear k1 HC0 HN2
    obtain ⟨k, hk, rfl, HN, HC⟩ := hrel
    by_cases hlt : (k : Int) < (n : Int)
    · have hk0 : (0 : Int) ≤ (k : Int) := by omega
      have hkn : k < n := by omega
      have k0 := cell_of_row _ _ 0 _ _ _ (blk_stay HB1.out HN.out)
      have k1 := cell_of_row _ _ 1 _ _ _ (blk_stay HB1.out HN.out)
      have k2 := cell_of_row _ _ 2 _ _ _ (blk_stay HB1.out HN.out)
      have HK := Lib.hid (HJ.out k hkn wr (HTL.out.stay (HN1.out.trans HN.out)))
      obtain ⟨q1, q2⟩ := HQ.out k hkn
      go_wp2_with fail
      refine HK.out.mono ?_
      rintro e w2 ⟨rfl, n2⟩
      have HN3 := Lib.hid (HN.out.trans n2)
      obtain ⟨c1, c2⟩ := (HC.out.stay n2).get hkn
      have HC2 : Hid (∀ y, y = x k → CR (w2.setCell ⟨w1.heap.size, k, none⟩ (.int .u64 (W64 y))) w1.heap.size n (wsK x (k + 1))) := Lib.hid (fun y e => (HC.out.stay n2).put hkn y (by show (if k < k + 1 then x k else 0#64) = y; rw [if_pos (by omega), e]) (fun j hj hne => by
        show (if j < k + 1 then x j else 0#64) = (if j < k then x j else 0#64)
        by_cases e2 : j < k
        · rw [if_pos e2, if_pos (by omega)]
        · rw [if_neg e2, if_neg (by omega)]))
      have HN4 : Hid (∀ v, New w1 (w2.setCell ⟨w1.heap.size, k, none⟩ v)) := Lib.hid (fun v => HN3.out.setCell (p := ⟨w1.heap.size, k, none⟩) (Nat.le_refl _) v)
      obtain ⟨y, hy⟩ : ∃ y, W64 (BitVec.ofNat 64 n * x k) = y := ⟨_, rfl⟩
      rw [hy] at q1 q2 ⊢
      have HQ2 := Lib.hid q2
      clear n2 k0 k1 k2 HK hy
      go_wp2
      exact ⟨⟨k + 1, by omega, by go_num, HN4.out _, HC2.out _ rfl⟩, by simp [intOf]; omega⟩
    · obtain rfl : k = n := by omega
      have HR := Lib.hid (HC.out.congr (l' := x) (fun j hj => by show x j = if j < k then x j else 0#64; rw [if_pos hj]))
      go_wp2
      refine bodyPost_ret (by simp [results, Try.results17, go_sem]; try rfl) rfl ?_
      exact ⟨_, rfl, HR.out, HN1.out.trans HN.out⟩
end Go.Proofs.Ytbjclkjikclljaa
