import Derived.Test.YtebcfbcfipmahaaGreatZ3TwiB
import Derived.Test.YtebcfbcfipmahaaGreatZ3PolA
import Derived.Test.YtebcfbcfipmahaaGreatZ3ModC
import Derived.Test.YtebcfbcfipmahaaGreatZ3Frame
import Derived.Deep.Strs
import Derived.SizedLaws
import Derived.Test.YtebcfbcfipmahaaGreatZ3PolM
import Derived.Test.YtebcfbcfipmahaaGreatZ3Bv
import Derived.Handy
import Derived.Test.YtebcfbcfipmahaaGreatZ3MadC
section
/- Contracts of mixed.Check, mixed.Row and of the document's own Row; the example of mixed (awake); the walk of the statement MixedRows: for all words, all keys. -/
namespace Go.Proofs.YtebcfbcfipmahaaGreat
open Go.RowKit Go.Bv
set_option linter.unusedVariables false
set_option maxRecDepth 100000
set_option maxHeartbeats 1000000 in
theorem checkm_any (a : Option Addr) (n c : Nat) (bits : Int) (w : World) (hn : n ≤ 17592186044416) :
    Calls Tryz.prog 101 #[.slice a n c, .int .i64 bits] w fun e w' => e = .returned (.int .i64 (chk bits n 320)) ∧ w' = w := by
  by_cases h1 : bits < 1
  · have h : chk bits n 320 = 1 := by unfold chk; rw [if_pos (Or.inl h1)]
    have H := Lib.hid h
    clear h
    go_enter Tryz.func101, Tryz.ntmps101
    go_wp2
    go_ret
    rw [H.out]; exact ⟨rfl, rfl⟩
  · by_cases h2 : 64 < bits
    · have h : chk bits n 320 = 1 := by unfold chk; rw [if_pos (Or.inr h2)]
      have H := Lib.hid h
      clear h
      go_enter Tryz.func101, Tryz.ntmps101
      go_wp2
      go_ret
      rw [H.out]; exact ⟨rfl, rfl⟩
    · by_cases h3 : (n : Int) = 320
      · have h : chk bits n 320 = 0 := by unfold chk; rw [if_neg (by omega), if_neg (by omega)]
        have H := Lib.hid h
        have hb : ((n : Int) != 320) = false := by rw [bne_eq_false_iff_eq]; exact h3
        clear h h3
        go_enter Tryz.func101, Tryz.ntmps101
        go_wp2
        go_ret
        rw [H.out]; exact ⟨rfl, rfl⟩
      · have h : chk bits n 320 = 13 := by unfold chk; rw [if_neg (by omega), if_pos h3]
        have H := Lib.hid h
        have hb : ((n : Int) != 320) = true := by rw [bne_iff_ne]; exact h3
        clear h h3
        go_enter Tryz.func101, Tryz.ntmps101
        go_wp2
        go_ret
        rw [H.out]; exact ⟨rfl, rfl⟩
set_option maxHeartbeats 1000000 in
theorem partsm_any (b off c : Nat) (hc : 320 ≤ c) (hcc : c ≤ 9223372036854775807) (w : World) :
    Calls Tryz.prog 103 #[.slice (some ⟨b, off, none⟩) 320 c] w fun e w' => e = .returned (.tuple #[.slice (some ⟨b, off, none⟩) 192 192, .slice (some ⟨b, off + 192, none⟩) 128 128]) ∧ New w w' := by
  go_enter Tryz.func103, Tryz.ntmps103
  go_wp2
  go_quiet (fail)
  go_wp2
  go_ret2
  exact ⟨rfl, (New.refl w).drewN nq⟩
set_option maxHeartbeats 1000000 in
theorem rowing_any (b off c : Nat) (hc : 320 ≤ c) (hcc : c ≤ 9223372036854775807) (w : World) :
    Calls Tryz.prog 104 #[.slice (some ⟨b, off, none⟩) 320 c] w fun e w' => ∃ g, e = .returned (.func (.func 139) #[] #[.pointer (some ⟨g, 0, none⟩)]) ∧ w'.cell? ⟨g, 0, none⟩ = some (.slice (some ⟨b, off + 192, none⟩) 128 128) ∧ New w w' := by
  go_enter Tryz.func104, Tryz.ntmps104
  go_wp2_with fail
  refine (partsm_any b off c hc hcc _).mono ?_
  rintro e w1 ⟨rfl, hn⟩
  go_wp2
  go_ret
  exact ⟨_, rfl, by rw [World.cell?_alloc_new]; rfl, hn.alloc _⟩
def roM (l : List (BitVec 64)) (x : BitVec 64) : List Int := if evE 64 l.length 320 x = 0 then rowM l x else []
set_option maxHeartbeats 1000000 in
theorem rowm_any (a : Option Addr) (n c : Nat) (l : List (BitVec 64)) (x : BitVec 64) (w : World) (ha : QRow w a n c l) :
    Calls Tryz.prog 102 #[.slice a n c, .int .u64 (W64 x)] w fun e w' => ∃ a' n' c', e = .returned (.tuple #[.slice a' n' c', .int .i64 (evE 64 l.length 320 x)]) ∧ ZRow w' a' n' c' (roM l x) ∧ New w w' := by
  have hm := ha.most
  have hle := ha.le
  have hrm := ha.room
  have hck : ∀ w, Calls Tryz.prog 101 #[.slice a n c, .int .i64 64] w fun e w' => e = .returned (.int .i64 (chk 64 l.length 320)) ∧ w' = w := by
    rw [ha.len_eq]; exact fun w => checkm_any a n c 64 w hm
  have HCK := Lib.hid hck
  clear hck
  have hL := ha.len_eq
  have hnil : ∀ w : World, ZRow w none 0 0 [] := fun w => ⟨rfl, Nat.le_refl _, by omega, by omega, fun _ => ⟨rfl, rfl⟩, (fun _ _ e => by cases e), (fun _ e => by cases e), (fun _ e => by cases e), (fun _ e => by cases e)⟩
  have HN := Lib.hid hnil
  clear hnil
  rcases badE l.length 320 x with ⟨h1, h2, h3⟩ | ⟨h1, h2, h3⟩ | ⟨h1, h2, h3⟩
  · obtain ⟨b1, b2, b3⟩ := chk_good h1
    have hV : roM l x = rowM l x := by unfold roM; rw [if_pos h3]
    have HV := Lib.hid hV
    have H3 := Lib.hid h3
    have hx : decide (4294967295 < W64 x) = false := decide_eq_false (by unfold W64; omega)
    rw [h1] at HCK
    obtain rfl : n = 320 := by omega
    obtain ⟨b, off, rfl, _⟩ := ha.addr (by omega)
    have HL := Lib.hid hL
    clear hV h1 h2 h3 b3 b1 b2 hL
    go_enter Tryz.func102, Tryz.ntmps102
    go_wp2_with fail
    refine (HCK.out _).mono ?_
    rintro e w' ⟨rfl, rfl⟩
    go_wp2_with fail
    refine (rowing_any b off c hle hrm _).mono ?_
    rintro e w1 ⟨g, rfl, hcell, hn1⟩
    have hq1 := (ha.stay hn1).slice 192 128 128 (by omega) (by omega) (by omega)
    go_wp2_with fail
    refine (rowing1_any x g b (off + 192) l _ HL.out hcell hq1).mono ?_
    rintro e w2 ⟨a2, c2, rfl, hz, hn2⟩
    go_wp2
    go_ret2
    rw [H3.out, HV.out]
    exact ⟨_, _, _, rfl, hz, hn1.trans hn2⟩
  · have hV : roM l x = [] := by unfold roM; rw [if_neg (by rw [h3]; decide)]
    have HV := Lib.hid hV
    have H3 := Lib.hid h3
    have hx : decide (4294967295 < W64 x) = true := decide_eq_true (by unfold W64; omega)
    rw [h1] at HCK
    clear hV h1 h2 h3
    go_enter Tryz.func102, Tryz.ntmps102
    go_wp2_with fail
    refine (HCK.out _).mono ?_
    rintro e w' ⟨rfl, rfl⟩
    go_wp2
    go_ret2
    rw [H3.out, HV.out]
    exact ⟨_, _, _, rfl, HN.out _, New.refl _⟩
  · have hV : roM l x = [] := by unfold roM; rw [if_neg (by rw [h3]; rw [bne_iff_ne] at h2; exact h2)]
    have HV := Lib.hid hV
    have H3 := Lib.hid h3
    clear hV h1 h3
    generalize chk 64 l.length 320 = q at *
    go_enter Tryz.func102, Tryz.ntmps102
    go_wp2_with fail
    refine (HCK.out _).mono ?_
    rintro e w' ⟨rfl, rfl⟩
    go_wp2
    go_ret2
    rw [H3.out, HV.out]
    exact ⟨_, _, _, rfl, HN.out _, New.refl _⟩
set_option maxHeartbeats 1000000 in
theorem rowm_ref (a : Option Addr) (n c : Nat) (l : List (BitVec 64)) (x : BitVec 64) (w : World) (ha : QRow w a n c l) (h320 : n = 320) :
    Calls Tryz.prog 66 #[.slice a n c, .int .u64 (W64 x)] w fun e w' => ∃ a' c', e = .returned (.slice a' 12 c') ∧ ZRow w' a' 12 c' (rowM l x) ∧ New w w' := by
  subst h320
  obtain ⟨i0, hi, hz0, hz1, hz2⟩ := info_parts info_i64
  obtain ⟨b, off, rfl, _⟩ := ha.addr (by omega)
  have HR : Hid (lets x 8 ++ lets (dwx l x 8) 4 = rowM l x) := Lib.hid rfl
  go_enter Tryz.func66, Tryz.ntmps66
  go_wp2_with fail
  refine (letters_own x 8 8 (by omega) (by decide) _).mono ?_
  rintro e w1 ⟨v, rfl, hown, hn1⟩
  obtain ⟨a1, c1, rfl, hz⟩ := ZRow.of_owns hown (by omega) (lets_wf _ _)
  have HOWN := Lib.hid hown
  have HZ := Lib.hid hz
  clear hown hz
  go_wp2_with fail
  go_loopw [6, 13] (fun s i wr => ∃ k : Nat, k ≤ 8 ∧ i = .int .i64 k ∧ s = .int .u64 (W64 (dwx l x k)) ∧ New w wr ∧ New w1 wr) (fun _ i _ => 8 - (intOf i).toNat)
  case atStart => exact ⟨0, by omega, rfl, congrArg (Value.int .u64) (W64_lit 0 (by omega)).symm, hn1, New.refl w1⟩
  case round =>
    obtain ⟨k, hk, rfl, rfl, hn, hnr⟩ := hrel
    by_cases hlt : (k : Int) < 8
    · obtain ⟨b2, o2, rfl, hc2⟩ := (HZ.out.stay hnr).addr (by omega)
      have c2 := hc2 k (by omega)
      clear hc2
      rw [lets_at _ _ _ (by omega)] at c2
      have hl := lat_lt x k
      obtain ⟨c, hc⟩ : ∃ c : Nat, lat x k = (c : Int) := ⟨(lat x k).toNat, by omega⟩
      rw [hc] at c2
      have c1' := (ha.stay hn).cell b off rfl (192 + 16 * k + c) (by omega)
      have hw1 : wrap64 (16 * (k : Int)) = 16 * (k : Int) := by unfold wrap64; omega
      have hw2 : wrap64 (192 + 16 * (k : Int)) = 192 + 16 * (k : Int) := by unfold wrap64; omega
      have hw3 : wrap64 (192 + 16 * (k : Int) + (c : Int)) = 192 + 16 * (k : Int) + (c : Int) := by unfold wrap64; omega
      have ht : (192 + 16 * (k : Int) + (c : Int)).toNat = 192 + 16 * k + c := by omega
      have hlen : 192 + 16 * (k : Int) + (c : Int) < 320 := by omega
      have hx : dwx l x k ^^^ l.getD (192 + 16 * k + c) 0 = dwx l x (k + 1) := by
        show _ = dwx l x k ^^^ l.getD (192 + 16 * k + (lat x k).toNat) 0
        rw [hc]; rfl
      have HX := Lib.hid hx
      clear hx hc hl
      generalize l.getD (192 + 16 * k + c) 0 = y at c1' HX
      go_wp2
      exact ⟨⟨k + 1, by omega, by go_num, by rw [HX.out], hn, hnr⟩, by simp [intOf]; omega⟩
    · obtain rfl : k = 8 := by omega
      go_wp2_with fail
      refine (letters_ref (dwx l x 8) 4 4 (by omega) (by decide) _).mono ?_
      rintro e w3 ⟨a3, c3, rfl, hz3, hn3⟩
      have hown3 := own_stay HOWN.out (hnr.trans hn3)
      obtain ⟨b3, o3, rfl, _⟩ := hz3.addr (by omega)
      have hn13 := hn.trans hn3
      clear hn3 hn hnr
      go_wp2_with (at_builtin; refine wpList_append_own _ rfl _ _ 55 rfl w.heap.size 3 i0 (.int .i64 0) 1 8 Tryz.underlying55 hi hz0 hz1 hz2 rfl (by decide) _ 8 _ rfl hown3 ⟨b3, o3, none⟩ 4 c3 ((lets (dwx l x 8) 4).map fun y => .int .i64 y) rfl (by simp [lets_len]) ?c1 ?c2 ?c3 ?c4 ?c5 ?_)
      case c1 => exact hz3.olds _ rfl
      case c2 => intro u hu; obtain ⟨y, _, rfl⟩ := List.mem_map.1 hu; rfl
      case c3 => unfold maxLen; omega
      case c4 => omega
      case c5 => exact hn13.le
      intro v' w4 how hgr _
      rw [← List.map_append, HR.out] at how
      have hn4 : New w w4 := hn13.grown' hgr (own_base hown3)
      obtain ⟨a5, c5, rfl, hz5⟩ := ZRow.of_owns how (by omega) (rowM_wf l x)
      clear how hgr
      go_wp2
      go_ret
      exact ⟨_, _, rfl, hz5, hn4⟩
end Go.Proofs.YtebcfbcfipmahaaGreat
end
section
/- The document's own Trim, Add, Mul of polynomials. -/
namespace Go.Proofs.YtebcfbcfipmahaaGreat
open Go.RowKit Go.Bv
set_option linter.unusedVariables false
theorem new_cells_q (w : World) (cs : Array Value) (t : TypeId) : ∀ j u, cs.toList[j]? = some u → (w.alloc (.cells cs t)).cell? ((⟨w.heap.size, 0, none⟩ : Addr).add j) = some u := by
  intro j u h
  rw [add_plain, Nat.zero_add, World.cell?_alloc_new]
  simpa using h
def lenV : Value → Nat
  | .slice _ n _ => n
  | _ => 0
end Go.Proofs.YtebcfbcfipmahaaGreat
end
section
/- A seed that came in: its datum opened. -/
namespace Go.Proofs.YtebcfbcfipmahaaGreat
open Go Go.RowKit Go.Bv Go.Deep Go.ChangeShapes
set_option linter.unusedVariables false
set_option maxRecDepth 100000
section
variable {H : Type} {enc : TypeId × Value → H} {P : Program} {w : World} {base : Nat} {held : Bool}
end
end Go.Proofs.YtebcfbcfipmahaaGreat
end
section
/- Trailing zeros of a word: the document's Twos, modn.Left; for seats without layer 20. -/
namespace Go.Bv
open Go Go.RowKit
end Go.Bv
namespace Go.Proofs.YtebcfbcfipmahaaGreat
open Go.RowKit Go.Bv
set_option linter.unusedVariables false
set_option linter.unusedVariables false
end Go.Proofs.YtebcfbcfipmahaaGreat
end
section
/- Plain lemmas (for seats without layer 20): the inverse of an odd word, round by round; no program in sight. -/
namespace Go.Bv
open Go Go.RowKit
/-- an odd number's inverse, round by round -/
def invR (a : BitVec 64) : Nat → BitVec 64
  | 0 => a
  | k + 1 => invR a k * (2#64 - a * invR a k)
theorem round_err (a x : BitVec 64) : 1#64 - a * (x * (2#64 - a * x)) = (1#64 - a * x) * (1#64 - a * x) := by grind
theorem odd_square (a : BitVec 64) (h : a.toNat % 2 = 1) : ∃ c : BitVec 64, 1#64 - a * a = 8#64 * c := by
  obtain ⟨k, hk⟩ : ∃ k, a.toNat = 2 * k + 1 := ⟨a.toNat / 2, by omega⟩
  obtain ⟨g, hg⟩ : ∃ g, k * (k + 1) = 2 * g := ⟨k * (k + 1) / 2, by
    have : k * (k + 1) % 2 = 0 := by
      rcases Nat.mod_two_eq_zero_or_one k with h1 | h1
      · rw [Nat.mul_mod, h1, Nat.zero_mul, Nat.zero_mod]
      · rw [Nat.mul_mod, Nat.add_mod, h1]
    omega⟩
  refine ⟨-BitVec.ofNat 64 g, ?_⟩
  have e : a * a = 1#64 + 8#64 * BitVec.ofNat 64 g := by
    apply BitVec.eq_of_toNat_eq
    rw [BitVec.toNat_mul, hk, BitVec.toNat_add, BitVec.toNat_mul, BitVec.toNat_ofNat]
    have e2 : (2 * k + 1) * (2 * k + 1) = 1 + 8 * g := by
      have : (2 * k + 1) * (2 * k + 1) = 4 * (k * (k + 1)) + 1 := by grind
      rw [this, hg]; omega
    rw [e2]
    show (1 + 8 * g) % 2 ^ 64 = (1 + 8 * (g % 2 ^ 64) % 2 ^ 64) % 2 ^ 64
    omega
  rw [e]; grind
theorem inv_odd (a : BitVec 64) (h : a.toNat % 2 = 1) : a * invR a 5 = 1#64 := by
  obtain ⟨c, hc⟩ := odd_square a h
  have s1 := round_err a (invR a 0)
  have s2 := round_err a (invR a 1)
  have s3 := round_err a (invR a 2)
  have s4 := round_err a (invR a 3)
  have s5 := round_err a (invR a 4)
  change 1#64 - a * invR a 1 = _ at s1
  change 1#64 - a * invR a 2 = _ at s2
  change 1#64 - a * invR a 3 = _ at s3
  change 1#64 - a * invR a 4 = _ at s4
  change 1#64 - a * invR a 5 = _ at s5
  rw [show invR a 0 = a from rfl, hc] at s1
  have sq : ∀ p u : BitVec 64, p * u * (p * u) = p * p * (u * u) := fun p u => by ac_rfl
  rw [sq, show 8#64 * 8#64 = 64#64 by decide] at s1
  rw [s1, sq, show 64#64 * 64#64 = 4096#64 by decide] at s2
  rw [s2, sq, show 4096#64 * 4096#64 = 16777216#64 by decide] at s3
  rw [s3, sq, show 16777216#64 * 16777216#64 = 281474976710656#64 by decide] at s4
  rw [s4, sq, show 281474976710656#64 * 281474976710656#64 = 0#64 by decide, BitVec.zero_mul] at s5
  have := congrArg (fun q => q + a * invR a 5) s5
  simp only [BitVec.sub_add_cancel, BitVec.zero_add] at this
  exact this.symm
end Go.Bv
end
section
/- The mathematics of a shift's slope: what it brings the line to. -/
namespace Go.Bv
open Go Go.RowKit
theorem slope_ok (run rise a inv k wd o r : Nat) (hrun : run = 2 ^ k * o) (hrise : rise = 2 ^ k * r) (hk : k ≤ wd) (hinv : o * inv % 2 ^ (wd - k) = 1 % 2 ^ (wd - k)) :
    (r * inv % 2 ^ (wd - k) + (a - a % 2 ^ (wd - k))) * run % 2 ^ wd = rise % 2 ^ wd := by
  have hp : 2 ^ wd = 2 ^ k * 2 ^ (wd - k) := by rw [← Nat.pow_add, Nat.add_sub_cancel' hk]
  rw [hp, hrun, hrise]
  generalize 2 ^ (wd - k) = m at *
  have ha : a - a % m = m * (a / m) := by
    have := Nat.div_add_mod a m
    omega
  rw [ha, Nat.mul_left_comm, Nat.mul_mod_mul_left, Nat.mul_mod_mul_left]
  congr 1
  rw [Nat.add_mul, Nat.mul_assoc, Nat.add_mul_mod_self_left, Nat.mod_mul_mod]
  rw [Nat.mul_assoc, Nat.mul_comm inv o, Nat.mul_mod, hinv, ← Nat.mul_mod, Nat.mul_one]
/-- what isn't aimed at stays: above the shift's power the slope is a's -/
theorem slope_high (a l m : Nat) (hl : l < m) : (l + (a - a % m)) / m = a / m := by
  have ha : a - a % m = m * (a / m) := by
    have := Nat.div_add_mod a m
    omega
  rw [ha, Nat.add_mul_div_left _ _ (by omega), Nat.div_eq_of_lt hl, Nat.zero_add]
/-- aimed back, the slope is a again -/
theorem slope_back (a c inv m o : Nat) (hinv : o * inv % m = 1 % m) (hc : c / m = a / m) : a * o * inv % m + (c - c % m) = a := by
  have ha : c - c % m = m * (a / m) := by
    have := Nat.div_add_mod c m
    rw [hc] at this
    omega
  have e : a * o * inv % m = a % m := by rw [Nat.mul_assoc, Nat.mul_mod, hinv, ← Nat.mul_mod, Nat.mul_one]
  rw [ha, e]
  have := Nat.div_add_mod a m
  omega
end Go.Bv
end
