/- Layer 45: Same; Join. -/
import Derived.Test.YtoplabhoedloeaaDrvQ
import Derived.BigQuiet
namespace Go.Proofs.Ytoplabhoedloeaa
open Go Go.RowKit Go.Bv Go.Drv
set_option linter.unusedVariables false
set_option maxRecDepth 100000
set_option maxHeartbeats 4000000 in
theorem same_45 (a b : Option Addr) (ca cb : Nat) (ps : List (List UInt8)) (B1 B2 : Nat) (w : World) (hps : ps.length ≤ 1000001) (ha : ps.length ≤ ca) (hb : ps.length ≤ cb) (ra : SCellB B1 w a ps) (rb : SCellB B2 w b ps) :
    Calls Try.prog 17 #[.slice a (ps.length : Nat) ca, .slice b (ps.length : Nat) cb] w fun e w' => e = .returned (.bool true) ∧ New w w' := by
  have RA := Lib.hid ra
  have RB := Lib.hid rb
  clear ra rb
  obtain ⟨n, hn⟩ : ∃ n, ps.length = n := ⟨_, rfl⟩
  rw [hn] at ha hb hps
  rw [hn]
  have HN := Lib.hid hn
  have haI : (n : Int) ≤ (ca : Int) := by omega
  have hbI : (n : Int) ≤ (cb : Int) := by omega
  clear hn
  go_enter Try.func17, Try.ntmps17
  go_wp2
  go_loopw [13] (fun iv wr => ∃ k : Nat, k ≤ n ∧ iv = .int .i64 (k : Int) ∧ New w wr) (fun iv _ => n - (intOf iv).toNat)
  case atStart => exact ⟨0, Nat.zero_le _, rfl, New.refl w⟩
  case round =>
    obtain ⟨k, hk, rfl, hw⟩ := hrel
    have HW := Lib.hid hw
    clear hw
    by_cases hlt : (k : Int) < (n : Int)
    · have hk0 : (0 : Int) ≤ (k : Int) := by omega
      have hkn : k < n := by omega
      obtain ⟨ga, rfl, _, h1⟩ := RA.out (by rw [HN.out]; omega)
      obtain ⟨gb, rfl, _, h2⟩ := RB.out (by rw [HN.out]; omega)
      have h1k := h1 k (by rw [HN.out]; omega)
      have h2k := h2 k (by rw [HN.out]; omega)
      have c1 := (HW.out.cell (a := ⟨ga, k, none⟩) (World.block_lt_of_cell? _ _ h1k)).trans h1k
      have c2 := (HW.out.cell (a := ⟨gb, k, none⟩) (World.block_lt_of_cell? _ _ h2k)).trans h2k
      clear h1 h2 h1k h2k
      generalize ps.getD k [] = x at *
      go_wp2_with fail
      go_quiet (fail)
      go_wp2
      exact ⟨⟨k + 1, by omega, by go_num, HW.out.drewN _⟩, by simp [intOf]; omega⟩
    · obtain rfl : k = n := by omega
      go_wp2
      go_ret
      exact ⟨rfl, HW.out⟩
theorem join_q (a b : List UInt8) (hab : a.length + b.length ≤ 1000000) (w : World) :
    Calls Try.prog 18 #[.string (bs a), .string (bs b)] w fun e w' => e = .returned (.string (bs (if a = [] ∨ b = [] then a ++ b else a ++ 47 :: b))) ∧ w' = w := by
  have hca : ∀ x y : List UInt8, bs x ++ bs y = bs (x ++ y) := fun x y => by
    unfold bs
    apply ByteArray.ext
    simp
  have hlit : (ByteArray.mk #[47]) = bs [47] := rfl
  have h1 := hca a b
  have h2 := hca a [47]
  have h3 := hca (a ++ [47]) b
  have hz1 := bs_size a
  have hz2 := bs_size b
  have hz3 := bs_size (a ++ [47])
  have hz4 : (ByteArray.mk #[47]).size = 1 := rfl
  rw [← hlit] at h2
  rw [List.length_append] at hz3
  have hemp : ∀ l : List UInt8, (bs l).toList.isEmpty = l.isEmpty := fun l => by rw [bs_list]
  by_cases ha : a = []
  · subst ha
    have hb0 : bs [] = ⟨#[]⟩ := rfl
    rw [if_pos (Or.inl rfl)]
    rw [← h1, hb0]
    rw [hb0] at hz1
    clear h1 h2 h3 hca hemp
    go_enter Try.func18, Try.ntmps18
    go_wp2
    go_ret
    exact ⟨rfl, rfl⟩
  · have ea : (bs a).toList.isEmpty = false := by
      rw [hemp]
      cases a with
      | nil => exact absurd rfl ha
      | cons x y => rfl
    by_cases hb : b = []
    · subst hb
      have hb0 : bs [] = ⟨#[]⟩ := rfl
      rw [if_pos (Or.inr rfl)]
      rw [← h1, hb0]
      rw [hb0] at hz2
      clear h1 h2 h3 hca hemp
      go_enter Try.func18, Try.ntmps18
      go_wp2
      go_ret
      exact ⟨rfl, rfl⟩
    · have eb : (bs b).toList.isEmpty = false := by
        rw [hemp]
        cases b with
        | nil => exact absurd rfl hb
        | cons x y => rfl
      rw [if_neg (by rintro (h | h); exact ha h; exact hb h)]
      have h4 : a ++ 47 :: b = (a ++ [47]) ++ b := by simp
      have hq1 : ¬ (bs a).size + (ByteArray.mk #[47]).size > 9223372036854775807 := by omega
      have hl1 : ([47] : List UInt8).length = 1 := rfl
      have hq2 : ¬ (bs (a ++ [47])).size + (bs b).size > 9223372036854775807 := by omega
      clear hca h4 h1 hemp hz1 hz2 hz3 hz4 hl1 hlit
      go_enter Try.func18, Try.ntmps18
      go_wp2
      go_ret
      exact ⟨rfl, rfl⟩
end Go.Proofs.Ytoplabhoedloeaa
