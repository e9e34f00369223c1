/- Layer 16: numbers in decimal digits, the document's Digits and Name; an error's word. -/
import Derived.Test.YthcolfmjjfjmiaaDoorErrA
import Derived.Test.YthcolfmjjfjmiaaDoorClass
import Derived.Test.YthcolfmjjfjmiaaDoorShelf
import Derived.Lib.ItoaNum
import Derived.Lib.LaidTab
import Derived.Deep.DeepCutAuto
namespace Go.Bv
open Go Go.RowKit
/-- decimal digits as a text -/
def dS (n : Nat) : ByteArray := ⟨(Lib.decDigits n).toArray⟩
/-- an integer in decimal digits -/
def iS (n : Int) : ByteArray := ⟨(Lib.itoa n).toArray⟩
theorem two_arr (a b : List UInt8) : (⟨a.toArray⟩ : ByteArray) ++ ⟨b.toArray⟩ = ⟨(a ++ b).toArray⟩ := by
  apply ByteArray.ext
  rw [ByteArray.data_append]
  simp
theorem nDig_le : ∀ (k u : Nat), 1 ≤ k → u < 10 ^ k → Lib.nDigits u ≤ k
  | 0, u, h1, _ => by omega
  | 1, u, _, h => by rw [Lib.nDigits_small (by simpa using h)]; exact Nat.le_refl _
  | k + 2, u, _, h => by
    by_cases h10 : u < 10
    · rw [Lib.nDigits_small h10]; omega
    · rw [Lib.nDigits_big h10]
      have := nDig_le (k + 1) (u / 10) (by omega) (by rw [Nat.pow_succ] at h; omega)
      omega
theorem dS_size (n : Nat) (h : n < 18446744073709551616) : (dS n).size ≤ 20 := by
  have e : (dS n).size = Lib.nDigits n := by
    rw [← Lib.decDigits_length]; exact List.size_toArray
  rw [e]
  exact nDig_le 20 n (by omega) (Nat.lt_trans h (by decide))
theorem iS_neg (n : Int) (h : n < 0) : iS n = ⟨#[45]⟩ ++ dS n.natAbs := by
  unfold iS Lib.itoa dS
  rw [if_pos h]
  exact (two_arr [45] _).symm
theorem iS_pos (n : Int) (h : ¬ n < 0) : iS n = dS n.toNat := by
  unfold iS Lib.itoa dS
  rw [if_neg h]
theorem iS_size (n : Int) (h0 : -9223372036854775808 ≤ n) (h1 : n ≤ 9223372036854775807) : (iS n).size ≤ 21 := by
  by_cases h : n < 0
  · rw [iS_neg n h, ByteArray.size_append]
    have := dS_size n.natAbs (by omega)
    have e : (⟨#[45]⟩ : ByteArray).size = 1 := rfl
    omega
  · rw [iS_pos n h]
    have := dS_size n.toNat (by omega)
    omega
theorem dig_byte (x : BitVec 64) : strOfNums [W8 ((48#64 + x % 10#64).setWidth 8)] = ⟨#[UInt8.ofNat (48 + x.toNat % 10)]⟩ := by
  have e : W8 ((48#64 + x % 10#64).setWidth 8) = ((48 + x.toNat % 10 : Nat) : Int) := by
    unfold W8
    rw [BitVec.toNat_setWidth, BitVec.toNat_add, BitVec.toNat_umod, show (10#64 : BitVec 64).toNat = 10 from rfl, show (48#64 : BitVec 64).toNat = 48 from rfl]
    omega
  rw [e]
  rfl
theorem dS_small (x : BitVec 64) (h : x.toNat < 10) : strOfNums [W8 ((48#64 + x % 10#64).setWidth 8)] = dS x.toNat := by
  rw [dig_byte]
  unfold dS
  rw [Lib.decDigits, dif_pos h, Nat.mod_eq_of_lt h]
theorem dS_big (x : BitVec 64) (h : ¬ x.toNat < 10) : dS (x / 10#64).toNat ++ strOfNums [W8 ((48#64 + x % 10#64).setWidth 8)] = dS x.toNat := by
  rw [dig_byte]
  unfold dS
  rw [show (⟨#[UInt8.ofNat (48 + x.toNat % 10)]⟩ : ByteArray) = ⟨[UInt8.ofNat (48 + x.toNat % 10)].toArray⟩ from rfl, two_arr, show (x / 10#64).toNat = x.toNat / 10 from BitVec.toNat_udiv]
  conv => rhs; rw [Lib.decDigits, dif_neg h]
theorem tabIs_stay {P : Program} {nm : String} {k : IntKind} {zs : List Int} {w w' : World} (h : Lib.TabIs P w nm k zs) (hn : New w w') : Lib.TabIs P w' nm k zs := by
  unfold Lib.TabIs World.var? at *
  cases hg : P.globalNamed nm with
  | none => rw [hg] at h; cases h
  | some g =>
    rw [hg] at h
    simp only [Option.bind_some] at h ⊢
    have hlt : g < w.heap.size := by
      rcases Nat.lt_or_ge g w.heap.size with h' | h'
      · exact h'
      · rw [show w.heap[g]? = none from Array.getElem?_eq_none h'] at h
        cases h
    rw [hn.block g hlt]
    exact h
theorem new_grow {W w : World} {k : Nat} {os : Array Obj} (hn : New W w) : New W (Go.Sort.grow (w.drewN k) os) :=
  (hn.drewN k).trans ⟨rfl, rfl, rfl, by show (w.drewN k).heap.size ≤ ((w.drewN k).heap ++ os).size; rw [Array.size_append]; exact Nat.le_add_right _ _, fun j hj => by show ((w.drewN k).heap ++ os)[j]? = _; exact Array.getElem?_append_left hj⟩
end Go.Bv
namespace Go.Proofs.YthcolfmjjfjmiaaDoor
open Go.RowKit Go.Bv
set_option linter.unusedVariables false
theorem conv_dec (w : World) (c : BitVec 8) :
    (convert 22 9 (.slice (some ⟨w.heap.size, 0, none⟩) 1 1)).run Tryd.prog (w.alloc (.cells #[.int .u8 (W8 c)] 5)) = .ok (.string (strOfNums [W8 c])) (w.alloc (.cells #[.int .u8 (W8 c)] 5)) :=
  run_convert_bytes_arg (P := Tryd.prog) _ 22 5 Tryd.underlying22 Tryd.underlying5 w.heap.size 0 1 1 [W8 c] rfl
    (by intro i hi; obtain rfl : i = 0 := by omega
        rw [World.cell?_alloc_new]; rfl) 9 Tryd.underlying9
theorem ahead_16 : ∀ (n : Nat) (x : BitVec 64), x.toNat ≤ n → ∀ w : World, Calls Tryd.prog 28 #[.int .u64 (W64 x)] w fun e w' => e = .returned (.string (dS x.toNat)) ∧ New w w' := by
  intro n
  induction n with
  | zero =>
    intro x hx w
    have hcv := conv_dec
    have h10 : W64 x < 10 := by unfold W64; omega
    have HD := Lib.hid (dS_small x (by omega))
    clear hx
    go_enter Tryd.func28, Tryd.ntmps28
    go_wp2
    go_ret
    exact ⟨by rw [HD.out]; rfl, (New.refl _).alloc _⟩
  | succ n ih =>
    intro x hx w
    have hcv := conv_dec
    by_cases h : x.toNat < 10
    · have h10 : W64 x < 10 := by unfold W64; omega
      have HD := Lib.hid (dS_small x h)
      clear hx h ih
      go_enter Tryd.func28, Tryd.ntmps28
      go_wp2
      go_ret
      exact ⟨by rw [HD.out]; rfl, (New.refl _).alloc _⟩
    · have h10 : ¬ W64 x < 10 := by unfold W64; omega
      have hq : (x / 10#64).toNat = x.toNat / 10 := BitVec.toNat_udiv
      have HI := Lib.hid (ih (x / 10#64) (by omega))
      have HD := Lib.hid (dS_big x h)
      rw [hq] at HD
      have hsz : ¬ 9223372036854775807 < (dS (x / 10#64).toNat).size + (strOfNums [W8 ((48#64 + x % 10#64).setWidth 8)]).size := by
        have := dS_size (x / 10#64).toNat (x / 10#64).isLt
        rw [strOfNums_size, List.length_singleton]
        omega
      clear hx h ih hq
      go_enter Tryd.func28, Tryd.ntmps28
      go_wp2_with fail
      refine (HI.out _).mono ?_
      rintro e w9 ⟨rfl, hn⟩
      have HN := Lib.hid (((New.refl w).alloc (.cells #[.int .u8 (W8 ((48#64 + x % 10#64).setWidth 8))] 5)).trans hn)
      clear hn
      go_wp2
      go_ret
      exact ⟨by rw [HD.out]; rfl, HN.out⟩
theorem neg_word (p : Int) (h : p < 0) (h0 : -9223372036854775808 ≤ p) : (-(BitVec.ofInt 64 p + 1#64) + 1#64).toNat = p.natAbs := by
  have e0 : -(BitVec.ofInt 64 p + 1#64) + 1#64 = -(BitVec.ofInt 64 p) := by
    rw [BitVec.neg_add, BitVec.sub_eq_add_neg, BitVec.add_assoc, BitVec.add_comm (-1#64), ← BitVec.sub_eq_add_neg 1#64, BitVec.sub_self, BitVec.add_zero]
  have e : (BitVec.ofInt 64 p).toNat = (p + 18446744073709551616).toNat := by
    rw [BitVec.toNat_ofInt]; omega
  rw [e0, BitVec.toNat_neg, e]
  omega
theorem digits_16 (p : Int) (h0 : -9223372036854775808 ≤ p) (h1 : p ≤ 9223372036854775807) (w : World) : Calls Tryd.prog 19 #[.int .i64 p] w fun e w' => e = .returned (.string (iS p)) ∧ New w w' := by
  by_cases h : p < 0
  · have HI := Lib.hid (ahead_16 _ (-(BitVec.ofInt 64 p + 1#64) + 1#64) (Nat.le_refl _))
    rw [neg_word p h h0] at HI
    have HD := Lib.hid (iS_neg p h)
    have hsz : ¬ 9223372036854775807 < (⟨#[45]⟩ : ByteArray).size + (dS p.natAbs).size := by
      have := dS_size p.natAbs (by omega)
      have e : (⟨#[45]⟩ : ByteArray).size = 1 := rfl
      omega
    have e1 : wrap64 (p + 1) = p + 1 := by unfold wrap64; omega
    have e2 : wrap64 (-(p + 1)) = -(p + 1) := by unfold wrap64; omega
    go_enter Tryd.func19, Tryd.ntmps19
    go_wp2_with fail
    refine (HI.out _).mono ?_
    rintro e w9 ⟨rfl, hn⟩
    have HN := Lib.hid hn
    clear hn e1 e2
    go_wp2
    go_ret
    exact ⟨by rw [HD.out]; rfl, HN.out⟩
  · have HI := Lib.hid (ahead_16 _ (BitVec.ofInt 64 p) (Nat.le_refl _))
    have ep : (BitVec.ofInt 64 p).toNat = p.toNat := by rw [BitVec.toNat_ofInt]; omega
    rw [ep] at HI
    have HD := Lib.hid (iS_pos p h)
    clear ep
    go_enter Tryd.func19, Tryd.ntmps19
    go_wp2_with fail
    refine (HI.out _).mono ?_
    rintro e w9 ⟨rfl, hn⟩
    have HN := Lib.hid hn
    clear hn
    go_wp2
    go_ret
    exact ⟨by rw [HD.out]; rfl, HN.out⟩
set_option maxHeartbeats 4000000 in
theorem rname_16 (c : Int) (hc : ¬ c = 0) (w : World) : Calls Tryd.prog 18 #[.int .i64 c] w fun e w' => e = .returned (.string (nm16 c)) ∧ New w w' := by
  by_cases h : c < 0
  · have HV : Hid (nm16 c = ⟨#[63]⟩) := Lib.hid (by unfold nm16; rw [if_neg (by omega)])
    go_enter Tryd.func18, Tryd.ntmps18
    go_wp2
    go_ret
    exact ⟨by rw [HV.out]; rfl, (New.refl _).alloc _⟩
  by_cases h2 : 16 ≤ c
  · have HV : Hid (nm16 c = ⟨#[63]⟩) := Lib.hid (by unfold nm16; rw [if_neg (by omega)])
    have h3 : (c < 0) = False := eq_false h
    clear h
    go_enter Tryd.func18, Tryd.ntmps18
    go_wp2
    go_ret
    exact ⟨by rw [HV.out]; rfl, (New.refl _).alloc _⟩
  rcases (show c = 1 ∨ c = 2 ∨ c = 3 ∨ c = 4 ∨ c = 5 ∨ c = 6 ∨ c = 7 ∨ c = 8 ∨ c = 9 ∨ c = 10 ∨ c = 11 ∨ c = 12 ∨ c = 13 ∨ c = 14 ∨ c = 15 by omega) with rfl | rfl | rfl | rfl | rfl | rfl | rfl | rfl | rfl | rfl | rfl | rfl | rfl | rfl | rfl
  all_goals
    clear hc h h2
    go_enter Tryd.func18, Tryd.ntmps18
    go_wp2
    go_ret
    exact ⟨rfl, (New.refl _).alloc _⟩
theorem itoa_16 (p : Int) (h0 : -9223372036854775808 ≤ p) (h1 : p ≤ 9223372036854775807) (w : World) (ht : Lib.TabIs Tryd.prog w "internal/strconv.uint64pow10" .u64 Lib.pow10Tab) : Calls Tryd.prog 44 #[.int .i64 p] w fun e w' => e = .returned (.string (iS p)) ∧ New w w' :=
  (Tryd.strconv_Itoa p h0 h1 w ht).mono fun e w' ⟨he, k, os, hw⟩ => ⟨he, by rw [hw]; exact new_grow (New.refl _)⟩
end Go.Proofs.YthcolfmjjfjmiaaDoor
