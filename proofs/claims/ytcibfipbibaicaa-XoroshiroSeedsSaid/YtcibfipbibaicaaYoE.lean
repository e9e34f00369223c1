/- The example of xoroshiro (awake); what Back and Step undo; the walk of the statement XoroshiroTells. -/
import Derived.Test.YtcibfipbibaicaaYoD
namespace Go.Proofs.Ytcibfipbibaicaa
open Go.RowKit Go.Bv
set_option linter.unusedVariables false
theorem bck_stp (A B C : Nat) (hA : A ≤ 64) (hC : C ≤ 64) (q : Q2) : bck (64 - A) B (64 - C) (stp A B C q) = q := by
  obtain ⟨a, b⟩ := q
  simp only [bck, stp, rot_back _ C hC, Q2.mk.injEq]
  have h : a.rotateLeft A ^^^ (a ^^^ b) ^^^ (a ^^^ b) <<< B ^^^ (a ^^^ b) ^^^ (a ^^^ b) <<< B = a.rotateLeft A := by
    generalize (a ^^^ b) <<< B = u
    generalize a.rotateLeft A = v
    grind
  rw [h, rot_back _ A hA]
  exact ⟨rfl, by grind⟩
theorem stp_bck (A B C : Nat) (hA : A ≤ 64) (hC : C ≤ 64) (q : Q2) : stp A B C (bck (64 - A) B (64 - C) q) = q := by
  obtain ⟨a, b⟩ := q
  have hr : ∀ (x : BitVec 64) k, k ≤ 64 → (x.rotateLeft (64 - k)).rotateLeft k = x := by
    intro x k hk
    have := rot_back x (64 - k) (by omega)
    rwa [show 64 - (64 - k) = k by omega] at this
  simp only [bck, stp, hr _ A hA, Q2.mk.injEq]
  generalize hx : b.rotateLeft (64 - C) = x
  have hb : x.rotateLeft C = b := by rw [← hx]; exact hr _ C hC
  generalize (a ^^^ x ^^^ x <<< B).rotateLeft (64 - A) = y
  rw [show y ^^^ (x ^^^ y) = x by grind, hb]
  generalize x <<< B = u
  exact ⟨by grind, rfl⟩
theorem cells2 : Try.prog.cellsOf 22 = 1 := cells9
theorem eq2 (w : World) (x0 x1 y0 y1 : BitVec 64) :
    (Op.equalIn 10000 35 (.agg #[.int .u64 (W64 x0), .int .u64 (W64 x1)]) (.agg #[.int .u64 (W64 y0), .int .u64 (W64 y1)])).run Try.prog w = .ok (x0 == y0 && x1 == y1) w := by
  obtain ⟨i, hi⟩ := Option.isSome_iff_exists.1 info9
  rw [run_equalIn_array w 9999 _ _ Try.underlying35 hi, cells2, show List.range 2 = [0, 1] from rfl]
  have hu := Try.underlying22
  have e0 := run_part_plain (w := w) (v := .int .u64 (W64 x0)) plain9 (xs := #[.int .u64 (W64 x0), .int .u64 (W64 x1)]) (off := 0) rfl
  have e1 := run_part_plain (w := w) (v := .int .u64 (W64 x1)) plain9 (xs := #[.int .u64 (W64 x0), .int .u64 (W64 x1)]) (off := 1) rfl
  have f0 := run_part_plain (w := w) (v := .int .u64 (W64 y0)) plain9 (xs := #[.int .u64 (W64 y0), .int .u64 (W64 y1)]) (off := 0) rfl
  have f1 := run_part_plain (w := w) (v := .int .u64 (W64 y1)) plain9 (xs := #[.int .u64 (W64 y0), .int .u64 (W64 y1)]) (off := 1) rfl
  have g0 := run_equalIn_int (w := w) 9998 _ .u64 .u64 (W64 x0) (W64 y0) hu
  have g1 := run_equalIn_int (w := w) 9998 _ .u64 .u64 (W64 x1) (W64 y1) hu
  rw [eq_u64] at g0 g1
  simp only [Op.eqItems, Sem.run_bind, Nat.mul_one, e0, f0, g0, Result.andThen_ok]
  rcases h0 : x0 == y0 <;> rcases h1 : x1 == y1 <;> rw [h1] at g1 <;> simp [Sem.run_bind, e1, f1, g1]
def q10 : Q2 := ⟨1#64, 0#64⟩
set_option maxHeartbeats 1000000 in
theorem awake10 (w : World) :
    Calls Try.prog 25 #[] w fun e w' => e = .returned (.bool true) ∧ New w w' := by
  have h1 : (ss9 1#64 == 5760#64) = true := by decide +kernel
  have l0 : W64 0#64 = 0 := W64_lit 0 (by omega)
  have l1 : W64 1#64 = 1 := W64_lit 1 (by omega)
  have ho : ∀ w, Calls Try.prog 28 #[.int .i64 5, .agg #[.int .u64 (W64 q10.a), .int .u64 (W64 q10.b)]] w fun e w' => e = .returned (.int .u64 (W64 (ss9 q10.a))) ∧ New w w' := out_5 q10
  have hs := step_6 q10
  have hr := stepr_6 q10
  rw [show q10.a = 1#64 from rfl] at ho hs hr
  rw [show q10.b = 0#64 from rfl, l0, l1] at ho hs hr
  generalize stp 49 21 28 q10 = r at hs hr
  generalize ss9 1#64 = x at h1 ho
  obtain ⟨r0, r1⟩ := r
  have HO := Lib.hid ho
  have HS := Lib.hid hs
  have HR := Lib.hid hr
  clear ho hs hr l0 l1
  have heq := eq2
  go_enter Try.func25, Try.ntmps25
  go_wp2_with fail
  refine wp_region_class (fun w' => (w'.cell? ⟨w.heap.size, 0, none⟩ = some (.int .u64 1) ∧ w'.cell? ⟨w.heap.size, 1, none⟩ = some (.int .u64 0)) ∧ New w w') (by kernel_rfl) (by kernel_rfl) ⟨⟨by rw [World.cell?_drew, World.cell?_alloc_new]; rfl, by rw [World.cell?_drew, World.cell?_alloc_new]; rfl⟩, ((New.refl w).alloc _).drew⟩ ?_
  intro I _ f hall hback
  have HSTEP : Hid (∀ n w', New (f n) w' → ∃ m, w' = f m) := Lib.hid fun n w' hn => hback w' ⟨⟨by rw [hn.cell (World.block_lt_of_cell? _ _ (hall n).1.1)]; exact (hall n).1.1, by rw [hn.cell (World.block_lt_of_cell? _ _ (hall n).1.2)]; exact (hall n).1.2⟩, (hall n).2.trans hn⟩
  have HALL := Lib.hid hall
  have d0 := fun n => (hall n).1.1
  have d1 := fun n => (hall n).1.2
  clear hall hback
  repeat (go_big_quiet_step (first
      | (go_at_call 28; refine class_new HSTEP.out (HO.out _))
      | (go_at_call 26; refine class_new HSTEP.out (HS.out _))
      | (go_at_call 27; refine class_new HSTEP.out (HR.out _))))
  refine wpQuiet_nil ?_
  rintro _ ⟨n, rfl⟩
  have hS := (HALL.out n).2
  go_wp2
  go_ret
  exact ⟨rfl, hS⟩
end Go.Proofs.Ytcibfipbibaicaa
