/- Layer 43: tables that are alike; AliasBuilds. -/
import Derived.Test.YtbjclkjikclljaaAlbF
import Derived.Test.YtbjclkjikclljaaAliT
import Derived.BigQuiet
namespace Go.Proofs.Ytbjclkjikclljaa
open Go Go.RowKit Go.Bv Go.Ali
set_option linter.unusedVariables false
set_option maxRecDepth 100000
set_option maxHeartbeats 8000000 in
theorem same_43 (T : BitVec 64) (ab : Option Addr) (n cb : Nat) (aa : Option Addr) (ca : Nat) (ab2 : Option Addr) (cb2 : Nat) (aa2 : Option Addr) (ca2 : Nat) (be : List (BitVec 64)) (al : List Int) (w : World) (h : TL w ab n cb aa n ca be al) (h2 : TL w ab2 n cb2 aa2 n ca2 be al) :
    Calls Try.prog 11 #[tv T ab n cb aa n ca, tv T ab2 n cb2 aa2 n ca2] w fun e w' => e = .returned (.bool true) ∧ New w w' := by
  have hm := h.b.most
  have hx1 := heap_alloc_new w (TB (.int .u64 (W64 T)) (.slice ab n cb) (.slice aa n ca))
  have hn1 := (New.refl w).alloc (TB (.int .u64 (W64 T)) (.slice ab n cb) (.slice aa n ca))
  have hn2 := hn1.alloc (TB (.int .u64 (W64 T)) (.slice ab2 n cb2) (.slice aa2 n ca2))
  have hb1 : ((w.alloc (TB (.int .u64 (W64 T)) (.slice ab n cb) (.slice aa n ca))).alloc (TB (.int .u64 (W64 T)) (.slice ab2 n cb2) (.slice aa2 n ca2))).heap[w.heap.size]? = some (TB (.int .u64 (W64 T)) (.slice ab n cb) (.slice aa n ca)) := blk_stay hx1 ((New.refl _).alloc _)
  have hsz : (w.alloc (TB (.int .u64 (W64 T)) (.slice ab n cb) (.slice aa n ca))).heap.size = w.heap.size + 1 := by simp
  have hb2 : ((w.alloc (TB (.int .u64 (W64 T)) (.slice ab n cb) (.slice aa n ca))).alloc (TB (.int .u64 (W64 T)) (.slice ab2 n cb2) (.slice aa2 n ca2))).heap[w.heap.size + 1]? = some (TB (.int .u64 (W64 T)) (.slice ab2 n cb2) (.slice aa2 n ca2)) := by rw [← hsz]; exact heap_alloc_new _ _
  have HTL := Lib.hid h
  have HTL2 := Lib.hid h2
  go_enter Try.func11, Try.ntmps11
  obtain ⟨w0, hw0⟩ : ∃ w0, ((w.alloc (TB (.int .u64 (W64 T)) (.slice ab n cb) (.slice aa n ca))).alloc (TB (.int .u64 (W64 T)) (.slice ab2 n cb2) (.slice aa2 n ca2))) = w0 := ⟨_, rfl⟩
  rw [hw0] at hn2 hb1 hb2
  have HW0 := Lib.hid hw0
  have HN := Lib.hid hn2
  have HB1 := Lib.hid hb1
  have HB2 := Lib.hid hb2
  have k0 := cell_of_row _ _ 0 _ _ _ hb1
  have k1 := cell_of_row _ _ 1 _ _ _ hb1
  have k2 := cell_of_row _ _ 2 _ _ _ hb1
  have q0 := cell_of_row _ _ 0 _ _ _ hb2
  have q1 := cell_of_row _ _ 1 _ _ _ hb2
  have q2 := cell_of_row _ _ 2 _ _ _ hb2
  clear hw0 hn1 hn2 hb1 hb2 hx1 h h2 hsz
  go_wp2_with (rw [HW0.out])
  clear k0 k1 k2 q0 q1 q2
  go_loopw [33] (fun iv wr => ∃ k : Nat, k ≤ n ∧ iv = .int .i64 (k : Int) ∧ Hid (New w0 wr)) (fun iv _ => n - (intOf iv).toNat)
  case atStart => exact ⟨0, Nat.zero_le _, rfl, Lib.hid (New.refl _)⟩
  case round =>
    obtain ⟨k, hk, rfl, HK⟩ := hrel
    have k1 := cell_of_row _ _ 1 _ _ _ (blk_stay HB1.out HK.out)
    have k2 := cell_of_row _ _ 2 _ _ _ (blk_stay HB1.out HK.out)
    have q1 := cell_of_row _ _ 1 _ _ _ (blk_stay HB2.out HK.out)
    have q2 := cell_of_row _ _ 2 _ _ _ (blk_stay HB2.out HK.out)
    by_cases hlt : (k : Int) < (n : Int)
    · have hk0 : (0 : Int) ≤ (k : Int) := by omega
      have hkn : k < n := by omega
      obtain ⟨p1, o1, e1, _⟩ := HTL.out.b.addr (by omega)
      obtain ⟨p2, o2, e2, _⟩ := HTL2.out.b.addr (by omega)
      have d1 := (HTL.out.b.stay (HN.out.trans HK.out)).cell p1 o1 e1 k hkn
      have d2 := (HTL2.out.b.stay (HN.out.trans HK.out)).cell p2 o2 e2 k hkn
      obtain ⟨x, hx⟩ : ∃ x, be.getD k 0 = x := ⟨_, rfl⟩
      rw [hx] at d1 d2
      have HKD := Lib.hid HK.out.drew
      have HKR : Hid (∀ m, New w0 (wr.drewN m)) := Lib.hid (fun m => HK.out.drewN m)
      subst e1 e2
      clear hx
      go_wp2_with fail
      go_region
      go_wp2
      first
        | exact ⟨⟨k + 1, by omega, by go_num, HK⟩, by simp [intOf]; omega⟩
        | exact ⟨⟨k + 1, by omega, by go_num, HKD⟩, by simp [intOf]; omega⟩
    · obtain rfl : k = n := by omega
      go_wp2
      clear k1 k2 q1 q2
      go_loopw [51] (fun iv wr => ∃ i : Nat, i ≤ k ∧ iv = .int .i64 (i : Int) ∧ Hid (New w0 wr)) (fun iv _ => k - (intOf iv).toNat)
      case atStart => exact ⟨0, Nat.zero_le _, rfl, HK⟩
      case round =>
        clear HK
        obtain ⟨i, hi, rfl, HK⟩ := hrel
        have k1 := cell_of_row _ _ 1 _ _ _ (blk_stay HB1.out HK.out)
        have k2 := cell_of_row _ _ 2 _ _ _ (blk_stay HB1.out HK.out)
        have q1 := cell_of_row _ _ 1 _ _ _ (blk_stay HB2.out HK.out)
        have q2 := cell_of_row _ _ 2 _ _ _ (blk_stay HB2.out HK.out)
        by_cases hlt2 : (i : Int) < (k : Int)
        · have hi0 : (0 : Int) ≤ (i : Int) := by omega
          have hik : i < k := by omega
          obtain ⟨p1, o1, e1, _⟩ := HTL.out.a.addr (by omega)
          obtain ⟨p2, o2, e2, _⟩ := HTL2.out.a.addr (by omega)
          have d1 := (HTL.out.a.stay (HN.out.trans HK.out)).cell p1 o1 e1 i hik
          have d2 := (HTL2.out.a.stay (HN.out.trans HK.out)).cell p2 o2 e2 i hik
          obtain ⟨x, hx⟩ : ∃ x, al.getD i 0 = x := ⟨_, rfl⟩
          rw [hx] at d1 d2
          have HKD := Lib.hid HK.out.drew
          subst e1 e2
          clear hx
          go_wp2_with fail
          go_region
          go_wp2
          first
            | exact ⟨⟨i + 1, by omega, by go_num, HK⟩, by simp [intOf]; omega⟩
            | exact ⟨⟨i + 1, by omega, by go_num, HKD⟩, by simp [intOf]; omega⟩
        · obtain rfl : i = k := by omega
          go_wp2
          go_ret
          exact ⟨rfl, HN.out.trans HK.out⟩
end Go.Proofs.Ytbjclkjikclljaa
