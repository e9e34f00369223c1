/- Layer 22: what is wrong with keys and targets: the program's and the document's. -/
import Derived.Test.YtadkbpdbbgjkgaaTabW
import Derived.Test.YtadkbpdbbgjkgaaClass
namespace Go.Tab
open Go.Bv
/-- a key or a target at i that may not be -/
def bad2 (bits : Nat) (xl yl : List (BitVec 64)) (i : Nat) : Bool := !(xl.getD i 0 >>> 32 == 0#64) || !(yl.getD i 0 >>> bits == 0#64)
/-- the key at i is one of those before it -/
def same2 (xl : List (BitVec 64)) (i : Nat) : Bool := (List.range i).any fun k => xl.getD k 0 == xl.getD i 0
/-- the error's number of keys and targets -/
def tgE (bits : Nat) (xl yl : List (BitVec 64)) : Int :=
  if xl.length < 1 ∨ 3 < xl.length ∨ yl.length ≠ xl.length then 1 else if (List.range xl.length).any (bad2 bits xl yl) then 2 else if (List.range xl.length).any (same2 xl) then 15 else 0
theorem tg_len {bits : Nat} {xl yl : List (BitVec 64)} (h : xl.length < 1 ∨ 3 < xl.length ∨ yl.length ≠ xl.length) : tgE bits xl yl = 1 := by unfold tgE; rw [if_pos h]
theorem tg_bad {bits : Nat} {xl yl : List (BitVec 64)} (h : ¬ (xl.length < 1 ∨ 3 < xl.length ∨ yl.length ≠ xl.length)) {i : Nat} (hi : i < xl.length) (hb : bad2 bits xl yl i = true) : tgE bits xl yl = 2 := by
  unfold tgE
  rw [if_neg h, if_pos (List.any_eq_true.2 ⟨i, List.mem_range.2 hi, hb⟩)]
theorem none_bad {n : Nat} {P : Nat → Bool} (h : ∀ j, j < n → P j = false) : (List.range n).any P = false := by
  rw [List.any_eq_false]
  intro x hx
  rw [h x (List.mem_range.1 hx)]
  decide
theorem tg_same {bits : Nat} {xl yl : List (BitVec 64)} (h : ¬ (xl.length < 1 ∨ 3 < xl.length ∨ yl.length ≠ xl.length)) (h2 : ∀ j, j < xl.length → bad2 bits xl yl j = false) {i k : Nat} (hi : i < xl.length) (hk : k < i) (hb : xl.getD k 0 = xl.getD i 0) : tgE bits xl yl = 15 := by
  unfold tgE
  rw [if_neg h, none_bad h2, if_neg (by decide), if_pos (List.any_eq_true.2 ⟨i, List.mem_range.2 hi, ?_⟩)]
  unfold same2
  exact List.any_eq_true.2 ⟨k, List.mem_range.2 hk, by rw [hb]; exact beq_self_eq_true _⟩
theorem same2_no {xl : List (BitVec 64)} {i : Nat} (h : ∀ k, k < i → xl.getD k 0 ≠ xl.getD i 0) : same2 xl i = false := none_bad fun k hk => by rw [beq_eq_false_iff_ne]; exact h k hk
theorem tg_ok {bits : Nat} {xl yl : List (BitVec 64)} (h : ¬ (xl.length < 1 ∨ 3 < xl.length ∨ yl.length ≠ xl.length)) (h2 : ∀ j, j < xl.length → bad2 bits xl yl j = false) (h3 : ∀ j, j < xl.length → same2 xl j = false) : tgE bits xl yl = 0 := by
  unfold tgE
  rw [if_neg h, none_bad h2, if_neg (by decide), none_bad h3, if_neg (by decide)]
theorem tg_zero {bits : Nat} {xl yl : List (BitVec 64)} (h : tgE bits xl yl = 0) : 0 < xl.length ∧ xl.length ≤ 3 ∧ yl.length = xl.length ∧ (∀ i, i < xl.length → xl.getD i 0 >>> 32 = 0#64 ∧ yl.getD i 0 >>> bits = 0#64) ∧ ∀ i j, i < xl.length → j < xl.length → i ≠ j → xl.getD i 0 ≠ xl.getD j 0 := by
  unfold tgE at h
  by_cases e1 : xl.length < 1 ∨ 3 < xl.length ∨ yl.length ≠ xl.length
  · rw [if_pos e1] at h; cases h
  · rw [if_neg e1] at h
    cases e2 : (List.range xl.length).any (bad2 bits xl yl) with
    | true => rw [e2, if_pos rfl] at h; cases h
    | false =>
      rw [e2, if_neg (by decide)] at h
      cases e3 : (List.range xl.length).any (same2 xl) with
      | true => rw [e3, if_pos rfl] at h; cases h
      | false =>
        have hs : ∀ i k, i < xl.length → k < i → xl.getD k 0 ≠ xl.getD i 0 := by
          intro i k hi hk he
          have := List.any_eq_false.1 e3 i (List.mem_range.2 hi)
          apply this
          unfold same2
          exact List.any_eq_true.2 ⟨k, List.mem_range.2 hk, by rw [he]; exact beq_self_eq_true _⟩
        refine ⟨by omega, by omega, by omega, fun i hi => ?_, fun i j hi hj hij => ?_⟩
        · have := List.any_eq_false.1 e2 i (List.mem_range.2 hi)
          unfold bad2 at this
          simp only [Bool.or_eq_true, Bool.not_eq_true', beq_eq_false_iff_ne, not_or, ne_eq, Decidable.not_not] at this
          exact this
        · by_cases e : i < j
          · exact hs j i hj e
          · exact fun he => hs i j hi (by omega) he.symm
theorem shr_nat (x : BitVec 64) (m : Nat) : (x >>> m == 0#64) = decide (x.toNat < 2 ^ m) := by
  rw [Bool.eq_iff_iff, beq_iff_eq, decide_eq_true_iff]
  constructor
  · intro h
    have := congrArg BitVec.toNat h
    rw [BitVec.toNat_ushiftRight, Nat.shiftRight_eq_div_pow] at this
    have h0 : (0#64).toNat = 0 := rfl
    rw [h0] at this
    exact (Nat.div_eq_zero_iff_lt (Nat.two_pow_pos m)).1 this
  · intro h
    apply BitVec.eq_of_toNat_eq
    rw [BitVec.toNat_ushiftRight, Nat.shiftRight_eq_div_pow, Nat.div_eq_of_lt h]
    rfl
theorem low_same (y : BitVec 64) (m : Nat) (hm : m ≤ 64) : (lowN y m != y) = !(y >>> m == 0#64) := by
  rw [shr_nat]
  by_cases h : y.toNat < 2 ^ m
  · have : lowN y m = y := BitVec.eq_of_toNat_eq (by rw [lowN_nat _ _ hm, Nat.mod_eq_of_lt h])
    rw [this, decide_eq_true h]
    simp
  · have : lowN y m ≠ y := fun e => h (by
      have := congrArg BitVec.toNat e
      rw [lowN_nat _ _ hm] at this
      have h2 := Nat.mod_lt y.toNat (Nat.two_pow_pos m)
      omega)
    rw [decide_eq_false h, Bool.not_false, bne_iff_ne]
    exact this
end Go.Tab
namespace Go.Proofs.Ytadkbpdbbgjkgaa
open Go Go.RowKit Go.Bv Go.Tab
set_option linter.unusedVariables false
set_option maxRecDepth 100000
theorem fits_any (x : BitVec 64) (n : Int) (m : Nat) (hn : n = (m : Int)) (w : World) : Calls Try.prog 49 #[.int .u64 (W64 x), .int .i64 n] w fun e w' => e = .returned (.bool (x >>> m == 0#64)) ∧ w' = w := by
  subst hn
  have h0 : (0 : Int) ≤ (m : Int) := by omega
  go_enter Try.func49, Try.ntmps49
  go_wp2
  go_ret
  exact ⟨rfl, rfl⟩
/-- what is wrong with the arguments of Shift -/
def csE (bits : Int) (n : Nat) (N : Int) (xl yl : List (BitVec 64)) : Int := if chk bits n N ≠ 0 then chk bits n N else tgE bits.toNat xl yl
set_option maxHeartbeats 8000000 in
theorem check_shift (a : Option Addr) (na ca : Nat) (l : List (BitVec 64)) (bits : Int) (x : Option Addr) (nx cx : Nat) (xl : List (BitVec 64)) (y : Option Addr) (ny cy : Nat) (yl : List (BitVec 64)) (w : World) (ha : QRow w a na ca l) (hx : QRow w x nx cx xl) (hy : QRow w y ny cy yl) :
    Calls Try.prog 52 #[.slice a na ca, .int .i64 bits, .slice x nx cx, .slice y ny cy] w fun e w' => e = .returned (.int .i64 (csE bits l.length 128 xl yl)) ∧ New w w' := by
  have hlx := hx.len_eq
  have hly := hy.len_eq
  have hck : ∀ w, Calls Try.prog 26 #[.slice a na ca, .int .i64 bits] w fun e w' => e = .returned (.int .i64 (chk bits l.length 128)) ∧ w' = w := by
    rw [ha.len_eq]; exact fun w => check_any a na ca bits w ha.most
  have HCK := Lib.hid hck
  clear hck ha
  by_cases h1 : chk bits l.length 128 = 0
  · have hE : csE bits l.length 128 xl yl = tgE bits.toNat xl yl := by unfold csE; rw [if_neg (by rw [h1]; simp)]
    obtain ⟨b1, b2, b3⟩ := chk_good h1
    rw [h1] at HCK
    rw [hE]
    by_cases h2 : xl.length < 1 ∨ 3 < xl.length ∨ yl.length ≠ xl.length
    · have HE := Lib.hid (tg_len (bits := bits.toNat) h2)
      rw [hlx, hly] at h2
      have h3 : ((nx : Int) == 0) = true ∨ (((nx : Int) == 0) = false ∧ (3 : Int) < (nx : Int)) ∨ (((nx : Int) == 0) = false ∧ ¬ (3 : Int) < (nx : Int) ∧ ((ny : Int) != (nx : Int)) = true) := by
        rw [beq_iff_eq, beq_eq_false_iff_ne, bne_iff_ne]; omega
      clear h1 h2 b1 b2 b3 hE hx hy hlx hly
      rcases h3 with h3 | ⟨h3, h4⟩ | ⟨h3, h4, h5⟩
      all_goals (
        go_enter Try.func52, Try.ntmps52
        go_wp2_with (go_at_call 26; refine (HCK.out _).mono ?_; rintro e w' ⟨rfl, rfl⟩)
        go_ret
        rw [HE.out]
        exact ⟨rfl, New.refl _⟩)
    · have HLE := Lib.hid h2
      have hn1 : 0 < nx := by omega
      have hn3 : nx ≤ 3 := by omega
      obtain rfl : ny = nx := by omega
      have h3 : ((ny : Int) == 0) = false := by rw [beq_eq_false_iff_ne]; omega
      have h4 : ¬ (3 : Int) < (ny : Int) := by omega
      have HBT : Hid (bits = ((bits.toNat : Nat) : Int)) := Lib.hid (by omega)
      have HFB := Lib.hid (fun z w => fits_any z bits bits.toNat HBT.out w)
      have HF3 := Lib.hid (fun z w => fits_any z 32 32 rfl w)
      have HX := Lib.hid hx
      have HY := Lib.hid hy
      have hcx := hx.le
      have HLX := Lib.hid hlx
      clear h1 h2 b1 b2 b3 hE hx hy hlx hly
      go_enter Try.func52, Try.ntmps52
      go_wp2_with fail
      refine (HCK.out _).mono ?_
      rintro e w1 ⟨rfl, rfl⟩
      go_wp2
      go_loopw [39] (fun iv wr => ∃ k : Nat, k ≤ ny ∧ iv = .int .i64 (k : Int) ∧ Hid (New w1 wr) ∧ Hid (∀ j, j < k → bad2 bits.toNat xl yl j = false)) (fun iv _ => ny - (intOf iv).toNat)
      case atStart => exact ⟨0, Nat.zero_le _, rfl, Lib.hid (by first | exact New.refl _ | exact (New.refl _).drew), Lib.hid (fun j hj => absurd hj (by omega))⟩
      case round =>
        obtain ⟨k, hk, rfl, HN, HG⟩ := hrel
        by_cases hlt : (k : Int) < (ny : Int)
        · have hk0 : (0 : Int) ≤ (k : Int) := by omega
          have hkn : k < ny := by omega
          obtain ⟨p1, o1, e1, d1⟩ := (HX.out.stay HN.out).addr hn1
          subst e1
          replace d1 := d1 k hkn
          obtain ⟨p2, o2, e2, d2⟩ := (HY.out.stay HN.out).addr hn1
          subst e2
          replace d2 := d2 k hkn
          have HBAD : Hid (bad2 bits.toNat xl yl k = (!(xl.getD k 0 >>> 32 == 0#64) || !(yl.getD k 0 >>> bits.toNat == 0#64))) := Lib.hid rfl
          obtain ⟨xv, hxv⟩ : ∃ xv, xl.getD k 0 = xv := ⟨_, rfl⟩
          obtain ⟨yv, hyv⟩ : ∃ yv, yl.getD k 0 = yv := ⟨_, rfl⟩
          rw [hxv] at d1 HBAD
          rw [hyv] at d2 HBAD
          have HA1 := Lib.hid (HF3.out xv)
          have HA2 := Lib.hid (HFB.out yv)
          have HTB := Lib.hid (fun hb => tg_bad (bits := bits.toNat) HLE.out (i := k) (by rw [HLX.out]; exact hkn) hb)
          rcases hbx : (xv >>> 32 == 0#64) with _ | _
          · rw [hbx] at HA1 HBAD
            have HE := Lib.hid (HTB.out (by rw [HBAD.out]; rfl))
            clear HTB hxv hyv hbx HBAD
            go_wp2_with (first | (go_at_call_of 49 (Value.int IntKind.i64 32); refine (HA1.out _).mono ?_; rintro e w' ⟨rfl, rfl⟩))
            go_ret
            rw [HE.out]
            exact ⟨rfl, HN.out⟩
          · rw [hbx] at HA1 HBAD
            rcases hby : (yv >>> bits.toNat == 0#64) with _ | _
            · rw [hby] at HA2 HBAD
              have HE := Lib.hid (HTB.out (by rw [HBAD.out]; rfl))
              clear HTB hxv hyv hbx hby HBAD
              go_wp2_with (first | (go_at_call_of 49 (Value.int IntKind.i64 32); refine (HA1.out _).mono ?_; rintro e w' ⟨rfl, rfl⟩) | (go_at_call_of 49 (Value.int IntKind.i64 bits); refine (HA2.out _).mono ?_; rintro e w' ⟨rfl, rfl⟩))
              go_ret
              rw [HE.out]
              exact ⟨rfl, HN.out⟩
            · rw [hby] at HA2 HBAD
              have HG2 : Hid (∀ j, j < k + 1 → bad2 bits.toNat xl yl j = false) := Lib.hid (fun j hj => by
                by_cases e : j = k
                · subst e; rw [HBAD.out]; rfl
                · exact HG.out j (by omega))
              clear HTB hxv hyv hbx hby HBAD
              go_wp2_with (first | (go_at_call_of 49 (Value.int IntKind.i64 32); refine (HA1.out _).mono ?_; rintro e w' ⟨rfl, rfl⟩) | (go_at_call_of 49 (Value.int IntKind.i64 bits); refine (HA2.out _).mono ?_; rintro e w' ⟨rfl, rfl⟩))
              exact ⟨⟨k + 1, by omega, by go_num, HN, HG2⟩, by simp [intOf]; omega⟩
        · obtain rfl : k = ny := by omega
          go_wp2
          go_loopw [59] (fun iv wr => ∃ i : Nat, i ≤ k ∧ iv = .int .i64 (i : Int) ∧ Hid (New w1 wr) ∧ Hid (∀ j, j < i → same2 xl j = false)) (fun iv _ => k - (intOf iv).toNat)
          case atStart => exact ⟨0, Nat.zero_le _, rfl, HN, Lib.hid (fun j hj => absurd hj (by omega))⟩
          case round =>
            clear HN
            obtain ⟨i, hi, rfl, HN, HS⟩ := hrel
            by_cases hlt2 : (i : Int) < (k : Int)
            · have hi0 : (0 : Int) ≤ (i : Int) := by omega
              have hin : i < k := by omega
              have hic : (i : Int) ≤ (cx : Int) := by omega
              obtain ⟨p1, o1, e1, _⟩ := HX.out.addr hn1
              subst e1
              have d1 := (HX.out.stay HN.out).cell p1 o1 rfl i hin
              obtain ⟨xv, hxv⟩ : ∃ xv, xl.getD i 0 = xv := ⟨_, rfl⟩
              rw [hxv] at d1
              have HXV := Lib.hid hxv
              clear hxv
              go_wp2
              go_loopw [68] (fun iv wr => ∃ j : Nat, j ≤ i ∧ iv = .int .i64 (j : Int) ∧ Hid (New w1 wr) ∧ Hid (∀ q, q < j → xl.getD q 0 ≠ xl.getD i 0)) (fun iv _ => i - (intOf iv).toNat)
              case atStart => exact ⟨0, Nat.zero_le _, rfl, HN, Lib.hid (fun j hj => absurd hj (by omega))⟩
              case round =>
                clear HN d1
                obtain ⟨j, hj, rfl, HN, HD⟩ := hrel
                by_cases hlt3 : (j : Int) < (i : Int)
                · have hj0 : (0 : Int) ≤ (j : Int) := by omega
                  have d2 := (HX.out.stay HN.out).cell p1 o1 rfl j (by omega)
                  obtain ⟨yv, hyv⟩ : ∃ yv, xl.getD j 0 = yv := ⟨_, rfl⟩
                  rw [hyv] at d2
                  have HYV := Lib.hid hyv
                  clear hyv
                  rcases hb : (yv == xv) with _ | _
                  · have HD2 : Hid (∀ q, q < j + 1 → xl.getD q 0 ≠ xl.getD i 0) := Lib.hid (fun q hq => by
                      by_cases e : q = j
                      · subst e; rw [HYV.out, HXV.out]; exact beq_eq_false_iff_ne.1 hb
                      · exact HD.out q (by omega))
                    go_wp2
                    exact ⟨⟨j + 1, by omega, by go_num, HN, HD2⟩, by simp [intOf]; omega⟩
                  · have HE := Lib.hid (tg_same (bits := bits.toNat) HLE.out (by rw [HLX.out]; exact HG.out) (i := i) (k := j) (by rw [HLX.out]; exact hin) (by omega) (by rw [HYV.out, HXV.out]; exact beq_iff_eq.1 hb))
                    go_wp2
                    go_ret
                    rw [HE.out]
                    exact ⟨rfl, HN.out⟩
                · obtain rfl : j = i := by omega
                  have HS2 : Hid (∀ q, q < j + 1 → same2 xl q = false) := Lib.hid (fun q hq => by
                    by_cases e : q = j
                    · subst e; exact same2_no HD.out
                    · exact HS.out q (by omega))
                  go_wp2
                  exact ⟨⟨j + 1, by omega, by go_num, HN, HS2⟩, by simp [intOf]; omega⟩
            · obtain rfl : i = k := by omega
              have HE := Lib.hid (tg_ok (bits := bits.toNat) HLE.out (by rw [HLX.out]; exact HG.out) (by rw [HLX.out]; exact HS.out))
              go_wp2
              go_ret
              rw [HE.out]
              exact ⟨rfl, HN.out⟩
  · have HE : Hid (csE bits l.length 128 xl yl = chk bits l.length 128) := Lib.hid (by unfold csE; rw [if_pos h1])
    have hne : (chk bits l.length 128 != 0) = true := by rw [bne_iff_ne]; exact h1
    clear h1
    generalize chk bits l.length 128 = q at HCK hne HE
    go_enter Try.func52, Try.ntmps52
    go_wp2_with (go_at_call 26; refine (HCK.out _).mono ?_; rintro e w' ⟨rfl, rfl⟩)
    go_ret
    rw [HE.out]
    exact ⟨rfl, New.refl _⟩
end Go.Proofs.Ytadkbpdbbgjkgaa
