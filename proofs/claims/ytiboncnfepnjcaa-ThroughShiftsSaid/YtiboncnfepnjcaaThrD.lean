/- through: the quotient of a difference. -/
import Derived.Test.YtiboncnfepnjcaaThrN
import Derived.Test.YtiboncnfepnjcaaMerB
import Derived.Test.YtiboncnfepnjcaaGro3
namespace Go.Proofs.Ytiboncnfepnjcaa
open Go.RowKit Go.Bv
set_option linter.unusedVariables false
theorem minv_p (a : BitVec 64) (w : World) : ∃ b : Bool, Calls Try.prog 82 #[.int .i64 61, .int .u64 (W64 a)] w fun e w' => e = .returned (.tuple #[.int .u64 (W64 (iv a)), .bool b]) ∧ New w w' := by
  have h := merinv_any 61 a w
  rw [pM61, md_mp, md_mp] at h
  exact ⟨_, h⟩
set_option maxRecDepth 100000 in
set_option maxHeartbeats 4000000 in
theorem div_q (p b off n c : Nat) (xs : List (BitVec 64)) (rise : BitVec 64) (s t : Nat) (w : World) (hp : w.heap[p]? = some (.cells #[.slice (some ⟨b, off, none⟩) n c] 22 (0, 0))) (hx : QRow w (some ⟨b, off, none⟩) n c xs) (hs : s < n) (ht : t < n) :
    Calls Try.prog 81 #[.int .u64 (W64 rise), .int .i64 (s : Int), .int .i64 (t : Int), .pointer (some ⟨p, 0, none⟩)] w fun e w' => e = .returned (.int .u64 (W64 (mp (rise.toNat * (iv (sb (xs.getD t 0) (xs.getD s 0))).toNat)))) ∧ New w w' := by
  have hm := hx.most
  have HX := Lib.hid hx
  have HP := Lib.hid hp
  clear hx hp
  have hs0 : (0 : Int) ≤ (s : Int) := by omega
  have hs1 : (s : Int) < (n : Int) := by omega
  have ht0 : (0 : Int) ≤ (t : Int) := by omega
  have ht1 : (t : Int) < (n : Int) := by omega
  obtain ⟨x, hx⟩ : ∃ z, xs.getD t 0 = z := ⟨_, rfl⟩
  obtain ⟨y, hy⟩ : ∃ z, xs.getD s 0 = z := ⟨_, rfl⟩
  rw [hx, hy]
  have HE := Lib.hid hx
  have HF := Lib.hid hy
  clear hx hy
  have HS := Lib.hid (fun w => msub_p x y w)
  obtain ⟨d1, hd1⟩ : ∃ z, sb x y = z := ⟨_, rfl⟩
  rw [hd1] at HS
  rw [hd1]
  clear hd1
  have HI0 := Lib.hid (merinv_any 61 d1)
  rw [pM61, md_mp, md_mp] at HI0
  obtain ⟨d2, hd2⟩ : ∃ z, iv d1 = z := ⟨_, rfl⟩
  have hd3 : (if mp d1.toNat = 0#64 then 0#64 else mp (d1.toNat ^ (2305843009213693951#64 - 2#64).toNat)) = d2 := hd2
  rw [hd3] at HI0
  rw [hd2]
  clear hd2 hd3
  obtain ⟨bb, hbb⟩ : ∃ z, (mp d1.toNat != 0#64) = z := ⟨_, rfl⟩
  rw [hbb] at HI0
  have HI := Lib.hid (fun w => HI0.out w)
  clear hbb HI0
  have HM := Lib.hid (fun w => mmul_p rise d2 w)
  obtain ⟨r, hr⟩ : ∃ z, mp (rise.toNat * d2.toNat) = z := ⟨_, rfl⟩
  rw [hr] at HM
  rw [hr]
  clear hr
  go_enter Try.func81, Try.ntmps81
  go_wp2_with fail
  refine Gro3.wp_region_gro3S (fun w' => w'.heap[p]? = some (.cells #[.slice (some ⟨b, off, none⟩) n c] 22 (0, 0)) ∧ New w w') (fun w' => w'.heap[p]? = some (.cells #[.slice (some ⟨b, off, none⟩) n c] 22 (0, 0)) ∧ New w w') [0,0,0,0,0,0,0,0,2,2,0,0,0,0,0] New (fun _ _ _ => True) (by kernel_rfl) (by kernel_rfl) (by kernel_rfl) (fun _ _ _ _ _ _ => trivial) (fun w' hw' => hw') (⟨HP.out, (New.refl w).drew⟩) ?_
  intro I J _ _ f g hfa hba hgb hbb
  have HFA := Lib.hid hfa
  have HBA := Lib.hid hba
  have HGB := Lib.hid hgb
  have HBB := Lib.hid hbb
  have fa := fun n => cell_of_row _ _ 0 _ _ _ (hfa n).1
  have fx := fun k => (HX.out.stay (hfa k).2).cell b off rfl t (by omega)
  have fy := fun k => (HX.out.stay (hfa k).2).cell b off rfl s (by omega)
  rw [HE.out] at fx
  rw [HF.out] at fy
  clear hfa hba hgb hbb
  refine Gro3.take0 8 (by kernel_rfl) ?_
  simp only [List.take, List.drop, List.length]
  repeat (go_big_quiet_step (fail))
  refine wpQuiet_nil ?_
  refine Gro3.callt (fun v => v = .int .u64 (W64 d1)) (fun _ _ => True) rfl rfl (⟨_, rfl⟩) (fun _ _ _ _ _ => trivial) (fun w1 hB hG => ?_) (fun v1 A1 hv1 hA => ?_)
  · obtain ⟨nq, rfl⟩ := hB
    clear fa fx fy
    go_simp
    refine (HS.out _).mono ?_
    rintro e w2 ⟨rfl, hn⟩
    have HX2 := HBB.out _ ⟨(hn.block _ (lt_of_block (HGB.out nq).1)).trans (HGB.out nq).1, (HGB.out nq).2.trans hn⟩
    first | exact ⟨_, rfl, HX2, hn, rfl⟩ | exact ⟨_, rfl, HX2, hn, rfl, trivial⟩ | exact ⟨rfl, HX2, hn⟩ | exact ⟨HX2, hn, rfl⟩ | exact ⟨HX2, hn⟩
  simp [Act.put] at hA
  subst hA
  obtain rfl := hv1
  refine Gro3.callt (fun v => v = .tuple #[.int .u64 (W64 d2), .bool bb]) (fun _ _ => True) rfl rfl (⟨_, rfl⟩) (fun _ _ _ _ _ => trivial) (fun w1 hB hG => ?_) (fun v2 A2 hv2 hA => ?_)
  · obtain ⟨nq, rfl⟩ := hB
    clear fa fx fy
    go_simp
    refine (HI.out _).mono ?_
    rintro e w2 ⟨rfl, hn⟩
    have HX2 := HBB.out _ ⟨(hn.block _ (lt_of_block (HGB.out nq).1)).trans (HGB.out nq).1, (HGB.out nq).2.trans hn⟩
    first | exact ⟨_, rfl, HX2, hn, rfl⟩ | exact ⟨_, rfl, HX2, hn, rfl, trivial⟩ | exact ⟨rfl, HX2, hn⟩ | exact ⟨HX2, hn, rfl⟩ | exact ⟨HX2, hn⟩
  simp [Act.put] at hA
  subst hA
  obtain rfl := hv2
  refine Gro3.take0 5 (by kernel_rfl) ?_
  simp only [List.take, List.drop, List.length]
  repeat (go_big_quiet_step (fail))
  refine wpQuiet_nil ?_
  refine Gro3.nil ?_
  rintro w11 ⟨n9, rfl⟩ hG
  have HNZ := Lib.hid (HGB.out n9).2
  clear HFA HBA HGB HBB hG fa fx fy HS HI HP
  generalize g n9 = w9 at *
  go_wp2_with fail
  refine (HM.out _).mono ?_
  rintro e w8 ⟨rfl, hn⟩
  have HN := Lib.hid (HNZ.out.trans hn)
  clear hn HM HNZ
  go_wp2
  go_ret
  exact ⟨rfl, HN.out⟩
end Go.Proofs.Ytiboncnfepnjcaa
