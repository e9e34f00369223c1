/- Contracts of mixed.Check, mixed.Row and of the document's own Row; the example of mixed (awake); the walk of the statement MixedRows: for all words, all keys. -/
import Derived.Test.YtadkbpdbbgjkgaaMxA
import Derived.Test.YtadkbpdbbgjkgaaTwiB
namespace Go.Proofs.Ytadkbpdbbgjkgaa
open Go.RowKit Go.Bv
set_option linter.unusedVariables false
set_option maxHeartbeats 1000000 in
theorem checkm_any (a : Option Addr) (n c : Nat) (bits : Int) (w : World) (hn : n ≤ 17592186044416) :
    Calls Try.prog 43 #[.slice a n c, .int .i64 bits] w fun e w' => e = .returned (.int .i64 (chk bits n 320)) ∧ w' = w := by
  by_cases h1 : bits < 1
  · have h : chk bits n 320 = 1 := by unfold chk; rw [if_pos (Or.inl h1)]
    have H := Lib.hid h
    clear h
    go_enter Try.func43, Try.ntmps43
    go_wp2
    go_ret
    rw [H.out]; exact ⟨rfl, rfl⟩
  · by_cases h2 : 64 < bits
    · have h : chk bits n 320 = 1 := by unfold chk; rw [if_pos (Or.inr h2)]
      have H := Lib.hid h
      clear h
      go_enter Try.func43, Try.ntmps43
      go_wp2
      go_ret
      rw [H.out]; exact ⟨rfl, rfl⟩
    · by_cases h3 : (n : Int) = 320
      · have h : chk bits n 320 = 0 := by unfold chk; rw [if_neg (by omega), if_neg (by omega)]
        have H := Lib.hid h
        have hb : ((n : Int) != 320) = false := by rw [bne_eq_false_iff_eq]; exact h3
        clear h h3
        go_enter Try.func43, Try.ntmps43
        go_wp2
        go_ret
        rw [H.out]; exact ⟨rfl, rfl⟩
      · have h : chk bits n 320 = 13 := by unfold chk; rw [if_neg (by omega), if_pos h3]
        have H := Lib.hid h
        have hb : ((n : Int) != 320) = true := by rw [bne_iff_ne]; exact h3
        clear h h3
        go_enter Try.func43, Try.ntmps43
        go_wp2
        go_ret
        rw [H.out]; exact ⟨rfl, rfl⟩
set_option maxHeartbeats 1000000 in
theorem partsm_any (b off c : Nat) (hc : 320 ≤ c) (hcc : c ≤ 9223372036854775807) (w : World) :
    Calls Try.prog 56 #[.slice (some ⟨b, off, none⟩) 320 c] w fun e w' => e = .returned (.tuple #[.slice (some ⟨b, off, none⟩) 192 192, .slice (some ⟨b, off + 192, none⟩) 128 128]) ∧ New w w' := by
  go_enter Try.func56, Try.ntmps56
  go_wp2
  go_quiet (fail)
  go_wp2
  go_ret2
  exact ⟨rfl, (New.refl w).drewN nq⟩
set_option maxHeartbeats 1000000 in
theorem rowing_any (b off c : Nat) (hc : 320 ≤ c) (hcc : c ≤ 9223372036854775807) (w : World) :
    Calls Try.prog 55 #[.slice (some ⟨b, off, none⟩) 320 c] w fun e w' => ∃ g, e = .returned (.func (.func 60) #[] #[.pointer (some ⟨g, 0, none⟩)]) ∧ w'.cell? ⟨g, 0, none⟩ = some (.slice (some ⟨b, off + 192, none⟩) 128 128) ∧ New w w' := by
  go_enter Try.func55, Try.ntmps55
  go_wp2_with fail
  refine (partsm_any b off c hc hcc _).mono ?_
  rintro e w1 ⟨rfl, hn⟩
  go_wp2
  go_ret
  exact ⟨_, rfl, by rw [World.cell?_alloc_new]; rfl, hn.alloc _⟩
def roM (l : List (BitVec 64)) (x : BitVec 64) : List Int := if evE 64 l.length 320 x = 0 then rowM l x else []
set_option maxHeartbeats 1000000 in
theorem rowm_any (a : Option Addr) (n c : Nat) (l : List (BitVec 64)) (x : BitVec 64) (w : World) (ha : QRow w a n c l) :
    Calls Try.prog 39 #[.slice a n c, .int .u64 (W64 x)] w fun e w' => ∃ a' n' c', e = .returned (.tuple #[.slice a' n' c', .int .i64 (evE 64 l.length 320 x)]) ∧ ZRow w' a' n' c' (roM l x) ∧ New w w' := by
  have hm := ha.most
  have hle := ha.le
  have hrm := ha.room
  have hck : ∀ w, Calls Try.prog 43 #[.slice a n c, .int .i64 64] w fun e w' => e = .returned (.int .i64 (chk 64 l.length 320)) ∧ w' = w := by
    rw [ha.len_eq]; exact fun w => checkm_any a n c 64 w hm
  have HCK := Lib.hid hck
  clear hck
  have hL := ha.len_eq
  have hnil : ∀ w : World, ZRow w none 0 0 [] := fun w => ⟨rfl, Nat.le_refl _, by omega, by omega, fun _ => ⟨rfl, rfl⟩, (fun _ _ e => by cases e), (fun _ e => by cases e), (fun _ e => by cases e), (fun _ e => by cases e)⟩
  have HN := Lib.hid hnil
  clear hnil
  rcases badE l.length 320 x with ⟨h1, h2, h3⟩ | ⟨h1, h2, h3⟩ | ⟨h1, h2, h3⟩
  · obtain ⟨b1, b2, b3⟩ := chk_good h1
    have hV : roM l x = rowM l x := by unfold roM; rw [if_pos h3]
    have HV := Lib.hid hV
    have H3 := Lib.hid h3
    have hx : decide (4294967295 < W64 x) = false := decide_eq_false (by unfold W64; omega)
    rw [h1] at HCK
    obtain rfl : n = 320 := by omega
    obtain ⟨b, off, rfl, _⟩ := ha.addr (by omega)
    have HL := Lib.hid hL
    clear hV h1 h2 h3 b3 b1 b2 hL
    go_enter Try.func39, Try.ntmps39
    go_wp2_with fail
    refine (HCK.out _).mono ?_
    rintro e w' ⟨rfl, rfl⟩
    go_wp2_with fail
    refine (rowing_any b off c hle hrm _).mono ?_
    rintro e w1 ⟨g, rfl, hcell, hn1⟩
    have hq1 := (ha.stay hn1).slice 192 128 128 (by omega) (by omega) (by omega)
    go_wp2_with fail
    refine (rowing1_any x g b (off + 192) l _ HL.out hcell hq1).mono ?_
    rintro e w2 ⟨a2, c2, rfl, hz, hn2⟩
    go_wp2
    go_ret2
    rw [H3.out, HV.out]
    exact ⟨_, _, _, rfl, hz, hn1.trans hn2⟩
  · have hV : roM l x = [] := by unfold roM; rw [if_neg (by rw [h3]; decide)]
    have HV := Lib.hid hV
    have H3 := Lib.hid h3
    have hx : decide (4294967295 < W64 x) = true := decide_eq_true (by unfold W64; omega)
    rw [h1] at HCK
    clear hV h1 h2 h3
    go_enter Try.func39, Try.ntmps39
    go_wp2_with fail
    refine (HCK.out _).mono ?_
    rintro e w' ⟨rfl, rfl⟩
    go_wp2
    go_ret2
    rw [H3.out, HV.out]
    exact ⟨_, _, _, rfl, HN.out _, New.refl _⟩
  · have hV : roM l x = [] := by unfold roM; rw [if_neg (by rw [h3]; rw [bne_iff_ne] at h2; exact h2)]
    have HV := Lib.hid hV
    have H3 := Lib.hid h3
    clear hV h1 h3
    generalize chk 64 l.length 320 = q at *
    go_enter Try.func39, Try.ntmps39
    go_wp2_with fail
    refine (HCK.out _).mono ?_
    rintro e w' ⟨rfl, rfl⟩
    go_wp2
    go_ret2
    rw [H3.out, HV.out]
    exact ⟨_, _, _, rfl, HN.out _, New.refl _⟩
set_option maxHeartbeats 1000000 in
theorem rowm_ref (a : Option Addr) (n c : Nat) (l : List (BitVec 64)) (x : BitVec 64) (w : World) (ha : QRow w a n c l) (h320 : n = 320) :
    Calls Try.prog 40 #[.slice a n c, .int .u64 (W64 x)] w fun e w' => ∃ a' c', e = .returned (.slice a' 12 c') ∧ ZRow w' a' 12 c' (rowM l x) ∧ New w w' := by
  subst h320
  obtain ⟨i0, hi, hz0, hz1, hz2⟩ := info_parts info_i64
  obtain ⟨b, off, rfl, _⟩ := ha.addr (by omega)
  have HR : Hid (lets x 8 ++ lets (dwx l x 8) 4 = rowM l x) := Lib.hid rfl
  go_enter Try.func40, Try.ntmps40
  go_wp2_with fail
  refine (letters_own x 8 8 (by omega) (by decide) _).mono ?_
  rintro e w1 ⟨v, rfl, hown, hn1⟩
  obtain ⟨a1, c1, rfl, hz⟩ := ZRow.of_owns hown (by omega) (lets_wf _ _)
  have HOWN := Lib.hid hown
  have HZ := Lib.hid hz
  clear hown hz
  go_wp2_with fail
  go_loopw [6, 13] (fun s i wr => ∃ k : Nat, k ≤ 8 ∧ i = .int .i64 k ∧ s = .int .u64 (W64 (dwx l x k)) ∧ New w wr ∧ New w1 wr) (fun _ i _ => 8 - (intOf i).toNat)
  case atStart => exact ⟨0, by omega, rfl, congrArg (Value.int .u64) (W64_lit 0 (by omega)).symm, hn1, New.refl w1⟩
  case round =>
    obtain ⟨k, hk, rfl, rfl, hn, hnr⟩ := hrel
    by_cases hlt : (k : Int) < 8
    · obtain ⟨b2, o2, rfl, hc2⟩ := (HZ.out.stay hnr).addr (by omega)
      have c2 := hc2 k (by omega)
      clear hc2
      rw [lets_at _ _ _ (by omega)] at c2
      have hl := lat_lt x k
      obtain ⟨c, hc⟩ : ∃ c : Nat, lat x k = (c : Int) := ⟨(lat x k).toNat, by omega⟩
      rw [hc] at c2
      have c1' := (ha.stay hn).cell b off rfl (192 + 16 * k + c) (by omega)
      have hw1 : wrap64 (16 * (k : Int)) = 16 * (k : Int) := by unfold wrap64; omega
      have hw2 : wrap64 (192 + 16 * (k : Int)) = 192 + 16 * (k : Int) := by unfold wrap64; omega
      have hw3 : wrap64 (192 + 16 * (k : Int) + (c : Int)) = 192 + 16 * (k : Int) + (c : Int) := by unfold wrap64; omega
      have ht : (192 + 16 * (k : Int) + (c : Int)).toNat = 192 + 16 * k + c := by omega
      have hlen : 192 + 16 * (k : Int) + (c : Int) < 320 := by omega
      have hx : dwx l x k ^^^ l.getD (192 + 16 * k + c) 0 = dwx l x (k + 1) := by
        show _ = dwx l x k ^^^ l.getD (192 + 16 * k + (lat x k).toNat) 0
        rw [hc]; rfl
      have HX := Lib.hid hx
      clear hx hc hl
      generalize l.getD (192 + 16 * k + c) 0 = y at c1' HX
      go_wp2
      exact ⟨⟨k + 1, by omega, by go_num, by rw [HX.out], hn, hnr⟩, by simp [intOf]; omega⟩
    · obtain rfl : k = 8 := by omega
      go_wp2_with fail
      refine (letters_ref (dwx l x 8) 4 4 (by omega) (by decide) _).mono ?_
      rintro e w3 ⟨a3, c3, rfl, hz3, hn3⟩
      have hown3 := own_stay HOWN.out (hnr.trans hn3)
      obtain ⟨b3, o3, rfl, _⟩ := hz3.addr (by omega)
      have hn13 := hn.trans hn3
      clear hn3 hn hnr
      go_wp2_with (at_builtin; refine wpList_append_own _ rfl _ _ 23 rfl w.heap.size 3 i0 (.int .i64 0) 1 8 Try.underlying23 hi hz0 hz1 hz2 rfl (by decide) _ 8 _ rfl hown3 ⟨b3, o3, none⟩ 4 c3 ((lets (dwx l x 8) 4).map fun y => .int .i64 y) rfl (by simp [lets_len]) ?c1 ?c2 ?c3 ?c4 ?c5 ?_)
      case c1 => exact hz3.olds _ rfl
      case c2 => intro u hu; obtain ⟨y, _, rfl⟩ := List.mem_map.1 hu; rfl
      case c3 => unfold maxLen; omega
      case c4 => omega
      case c5 => exact hn13.le
      intro v' w4 how hgr _
      rw [← List.map_append, HR.out] at how
      have hn4 : New w w4 := hn13.grown' hgr (own_base hown3)
      obtain ⟨a5, c5, rfl, hz5⟩ := ZRow.of_owns how (by omega) (rowM_wf l x)
      clear how hgr
      go_wp2
      go_ret
      exact ⟨_, _, rfl, hz5, hn4⟩
end Go.Proofs.Ytadkbpdbbgjkgaa
