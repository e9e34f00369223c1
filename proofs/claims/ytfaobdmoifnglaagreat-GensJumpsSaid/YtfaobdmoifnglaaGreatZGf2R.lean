import Derived.Test.YtfaobdmoifnglaaGreatZGf2A
import Derived.Test.YtfaobdmoifnglaaGreatZRowB
import Derived.OneCell
section
/- The document's own answers of layer 6: Of, at, Deg, Add, Up, Mul, Words. -/
namespace Go.G2
set_option linter.unusedVariables false
/-- so many bits of a number -/
def bO (V n : Nat) : List Bool := (List.range n).map fun i => V.testBit i
theorem bO_len (V n : Nat) : (bO V n).length = n := by unfold bO; simp
theorem bO_get (V : Nat) {n i : Nat} (h : i < n) : (bO V n).getD i false = V.testBit i := by
  unfold bO; rw [List.getD_eq_getElem?_getD, List.getElem?_map, List.getElem?_range h]; rfl
theorem bO_succ (V n : Nat) : bO V (n + 1) = bO V n ++ [V.testBit n] := by unfold bO; rw [List.range_succ, List.map_append]; rfl
theorem vB_bO (V n : Nat) : vB (bO V n) = V % 2 ^ n := by
  apply Nat.eq_of_testBit_eq
  intro i
  rw [bit_bool, Nat.testBit_mod_two_pow]
  by_cases h : i < n
  · rw [bO_get V h]; simp [h]
  · rw [List.getD_eq_getElem?_getD, List.getElem?_eq_none (by rw [bO_len]; omega)]; simp [h]
theorem vB_bO_all {V n : Nat} (h : V < 2 ^ n) : vB (bO V n) = V := by rw [vB_bO, Nat.mod_eq_of_lt h]
theorem bO_vB (bs : List Bool) : bO (vB bs) bs.length = bs := by
  apply List.ext_getElem?
  intro i
  by_cases h : i < bs.length
  · have h1 := bO_get (vB bs) h
    rw [bit_bool, List.getD_eq_getElem?_getD, List.getD_eq_getElem?_getD, List.getElem?_eq_getElem h, List.getElem?_eq_getElem (by rw [bO_len]; exact h)] at h1
    rw [List.getElem?_eq_getElem h, List.getElem?_eq_getElem (by rw [bO_len]; exact h)]
    simpa using h1
  · rw [List.getElem?_eq_none (by rw [bO_len]; omega), List.getElem?_eq_none (by omega)]
theorem rem_one (x : BitVec 64) (k : Nat) : (x >>> k % 2#64 == 1#64) = x.getLsbD k := by
  have e : (x >>> k % 2#64).toNat = (x.getLsbD k).toNat := by
    rw [BitVec.toNat_umod, BitVec.toNat_ushiftRight, Nat.shiftRight_eq_div_pow]
    show x.toNat / 2 ^ k % 2 = (x.toNat.testBit k).toNat
    rw [Nat.testBit_eq_decide_div_mod_eq]
    rcases Nat.mod_two_eq_zero_or_one (x.toNat / 2 ^ k) with h | h <;> rw [h] <;> rfl
  cases h : x.getLsbD k
  · rw [h] at e
    rw [beq_eq_false_iff_ne]
    intro h2
    rw [h2] at e
    cases e
  · rw [h] at e
    rw [beq_iff_eq]
    exact BitVec.eq_of_toNat_eq e
end Go.G2
namespace Go.Proofs.YtfaobdmoifnglaaGreat
open Go Go.RowKit Go.Bv Go.G2
set_option linter.unusedVariables false
theorem info_bool06 : (Tryz.prog.info? 4).map (fun i => (i.zero, i.size, i.bytes)) = some (some (.bool false), 1, 1) := by kernel_rfl
/-- the bits of a sum -/
theorem sum_bit {bs cs : List Bool} (i : Nat) : ((vB bs).testBit i != (vB cs).testBit i) = (vB bs ^^^ vB cs).testBit i := by
  rw [Nat.testBit_xor]
end Go.Proofs.YtfaobdmoifnglaaGreat
end
section
/- gf2: addShifted, divide, Div, Mod. -/
namespace Go.G2
set_option linter.unusedVariables false
/-- what has been added, and the carry -/
theorem ash_step {A T c : Nat} (x : BitVec 64) {n wd bt i : Nat} (hn : n = 64 * wd + bt) (hb : bt < 64) (hT : T = A * 2 ^ n) (hA : A < 2 ^ (64 * i)) (hc : c = T / 2 ^ (64 * (wd + i))) :
    c < 2 ^ bt ∧ (A + 2 ^ (64 * i) * x.toNat) * 2 ^ n / 2 ^ (64 * (wd + i)) = c + 2 ^ bt * x.toNat ∧
    ((A + 2 ^ (64 * i) * x.toNat) * 2 ^ n) % 2 ^ (64 * (wd + i)) = T % 2 ^ (64 * (wd + i)) := by
  have e1 : 2 ^ n = 2 ^ (64 * wd) * 2 ^ bt := by rw [hn, Nat.pow_add]
  have e2 : 2 ^ (64 * (wd + i)) = 2 ^ (64 * wd) * 2 ^ (64 * i) := by rw [Nat.mul_add, Nat.pow_add]
  have e3 : 2 ^ (64 * i) * x.toNat * 2 ^ n = 2 ^ (64 * (wd + i)) * (2 ^ bt * x.toNat) := by
    rw [e1, e2]
    generalize 2 ^ (64 * i) = a; generalize 2 ^ (64 * wd) = b; generalize 2 ^ bt = d
    grind
  refine ⟨?_, ?_, ?_⟩
  · rw [hc, hT]
    apply Nat.div_lt_of_lt_mul
    rw [e1, e2]
    have h1 : A * (2 ^ (64 * wd) * 2 ^ bt) < 2 ^ (64 * i) * (2 ^ (64 * wd) * 2 ^ bt) := (Nat.mul_lt_mul_right (Nat.mul_pos (Nat.two_pow_pos _) (Nat.two_pow_pos _))).2 hA
    have h2 : 2 ^ (64 * i) * (2 ^ (64 * wd) * 2 ^ bt) = 2 ^ (64 * wd) * 2 ^ (64 * i) * 2 ^ bt := by
      generalize 2 ^ (64 * i) = a; generalize 2 ^ (64 * wd) = b; generalize 2 ^ bt = d
      grind
    omega
  · rw [Nat.add_mul, e3, ← hT, Nat.add_mul_div_left _ _ (Nat.two_pow_pos _), ← hc]
  · rw [Nat.add_mul, e3, ← hT, Nat.add_mul_mod_self_left]
/-- the carry and the shifted word, as one -/
theorem ash_word (x c : BitVec 64) {bt : Nat} (hb : bt < 64) (hc : c.toNat < 2 ^ bt) :
    BitVec.ofNat 64 (c.toNat + 2 ^ bt * x.toNat) = x <<< bt ||| c ∧ (c.toNat + 2 ^ bt * x.toNat) / 2 ^ 64 = (x >>> (64 - bt)).toNat := by
  have e : c.toNat + 2 ^ bt * x.toNat = c.toNat ^^^ 2 ^ bt * x.toNat := bits_split _ _ _ hc
  constructor
  · rw [e]
    apply BitVec.eq_of_getLsbD_eq
    intro i hi
    rw [BitVec.getLsbD_ofNat, Nat.testBit_xor, Nat.testBit_two_pow_mul, BitVec.getLsbD_or, BitVec.getLsbD_shiftLeft]
    by_cases h : i < bt
    · simp [hi, h, show ¬ bt ≤ i by omega]; rfl
    · have : c.toNat.testBit i = false := Nat.testBit_lt_two_pow (Nat.lt_of_lt_of_le hc (Nat.pow_le_pow_right (by decide) (by omega)))
      have h3 : c.getLsbD i = false := this
      rw [this, h3]
      simp [hi, h, show bt ≤ i by omega]; rfl
  · rw [BitVec.toNat_ushiftRight, Nat.shiftRight_eq_div_pow]
    have h64 : (2 : Nat) ^ 64 = 2 ^ bt * 2 ^ (64 - bt) := by rw [← Nat.pow_add]; congr 1; omega
    rw [h64, ← Nat.div_div_eq_div_mul, Nat.add_mul_div_left _ _ (Nat.two_pow_pos _), Nat.div_eq_of_lt hc, Nat.zero_add]
theorem vW_snoc (l : List (BitVec 64)) {i : Nat} (hi : i < l.length) : vW (l.take (i + 1)) = vW (l.take i) + 2 ^ (64 * i) * (l.getD i 0).toNat := by
  induction l generalizing i with
  | nil => simp at hi
  | cons y l ih =>
    cases i with
    | zero => simp [vW]
    | succ i =>
      have := ih (i := i) (by simpa using hi)
      rw [List.take_succ_cons, List.take_succ_cons]
      show y.toNat + 2 ^ 64 * vW (l.take (i + 1)) = y.toNat + 2 ^ 64 * vW (l.take i) + 2 ^ (64 * (i + 1)) * (l.getD i 0).toNat
      rw [this, Nat.mul_add (2 ^ 64), show 64 * (i + 1) = 64 + 64 * i by omega, Nat.pow_add, Nat.mul_assoc]; omega
theorem vW_take_lt (l : List (BitVec 64)) (i : Nat) : vW (l.take i) < 2 ^ (64 * i) :=
  Nat.lt_of_lt_of_le (vW_lt _) (Nat.pow_le_pow_right (by decide) (by rw [List.length_take]; exact Nat.mul_le_mul_left _ (Nat.min_le_left _ _)))
theorem mod_next (T k : Nat) : T % 2 ^ (64 * (k + 1)) = T % 2 ^ (64 * k) ^^^ 2 ^ (64 * k) * (T / 2 ^ (64 * k) % 2 ^ 64) := by
  rw [mod_step, BitVec.toNat_ofNat]
theorem div_next (T k : Nat) : T / 2 ^ (64 * (k + 1)) = T / 2 ^ (64 * k) / 2 ^ 64 := by
  rw [Nat.div_div_eq_div_mul, ← Nat.pow_add, Nat.mul_add]
end Go.G2
namespace Go.Bv
open Go Go.RowKit
set_option linter.unusedVariables false
theorem QRow.but {w w' : World} {g : Nat} {a : Option Addr} {len cap : Nat} {l : List (BitVec 64)} (h : QRow w a len cap l) (hb : But g w w') (hg : ∀ x, a = some x → 0 < len → x.block ≠ g) : QRow w' a len cap l where
  len_eq := h.len_eq
  le := h.le
  most := h.most
  room := h.room
  none := h.none
  cell := fun b off e i hi => by
    have h1 := h.cell b off e i hi
    have h2 := hb.block b (by have := h.old _ e (by omega); exact this) (hg _ e (by omega))
    unfold World.cell? at h1 ⊢
    simp only [h2]
    exact h1
  spot := h.spot
  old := fun x e h0 => Nat.lt_of_lt_of_le (h.old x e h0) hb.size
theorem QRow.far {w : World} {a : Option Addr} {len cap : Nat} {l : List (BitVec 64)} (h : QRow w a len cap l) {g : Nat} (hg : w.heap.size ≤ g) : ∀ x, a = some x → 0 < len → x.block ≠ g := fun x e h0 => by
  have := h.old x e h0
  omega
end Go.Bv
namespace Go.Proofs.YtfaobdmoifnglaaGreat
open Go Go.RowKit Go.Bv Go.G2
set_option linter.unusedVariables false
/-- the numbers of a round -/
theorem ash_idx {wd i k M N : Nat} (hk : wd + i = k) (hN : N ≤ 1000000) (hkN : k < N) : (wd : Int) + (i : Int) = (k : Int) ∧ wrap64 (k : Int) = (k : Int) ∧ IntKind.i64.wrap (k : Int) = (k : Int) ∧ (0 : Int) ≤ (k : Int) ∧ (k : Int) < (N : Int) :=
  ⟨by omega, wrap_64 (by omega) (by omega), wrap_i64 (by omega) (by omega), by omega, by omega⟩
set_option maxRecDepth 100000 in
set_option maxHeartbeats 4000000 in
theorem ash_q (g N cap base : Nat) (b : Option Addr) (M c2 : Nat) (lm : List (BitVec 64)) (V n : Nat) (w : World) (ho : w.ownsRow base 22 1 (.slice (some ⟨g, 0, none⟩) N cap) N ((wL N V).map fun x => .int .u64 (W64 x))) (hm : QRow w b M c2 lm) (hg : ∀ x, b = some x → 0 < M → x.block ≠ g) (hN : N ≤ 100000) (hf : n / 64 + M ≤ N) (hT : vW lm * 2 ^ n < 2 ^ (64 * N)) :
    Calls Tryz.prog 174 #[.slice (some ⟨g, 0, none⟩) N cap, .slice b M c2, .int .i64 (n : Int)] w fun e w' => e = .returned (.tuple #[]) ∧ w'.ownsRow base 22 1 (.slice (some ⟨g, 0, none⟩) N cap) N ((wL N (V ^^^ vW lm * 2 ^ n)).map fun x => .int .u64 (W64 x)) ∧ But g w w' := by
  have hml := hm.len_eq
  obtain ⟨wd, hwd⟩ : ∃ z, n / 64 = z := ⟨_, rfl⟩
  obtain ⟨bt, hbt⟩ : ∃ z, n % 64 = z := ⟨_, rfl⟩
  have hn : n = 64 * wd + bt := by omega
  have hb64 : bt < 64 := by omega
  have hji : (n : Int) / 64 = (wd : Int) := by omega
  have hri : (n : Int) % 64 = (bt : Int) := by omega
  have hjt : (n : Int).tdiv 64 = (wd : Int) := by rw [Int.tdiv_eq_ediv_of_nonneg (by omega)]; exact hji
  have hrt : (n : Int).tmod 64 = (bt : Int) := by rw [Int.tmod_eq_emod_of_nonneg (by omega)]; exact hri
  have hn0 : (0 : Int) ≤ (n : Int) := by omega
  have hb0 : (0 : Int) ≤ (bt : Int) := by omega
  obtain ⟨sb, hsb⟩ : ∃ z, 64 - bt = z := ⟨_, rfl⟩
  have hsbi : (64 : Int) - (bt : Int) = (sb : Int) := by omega
  have hsb0 : (0 : Int) ≤ (sb : Int) := by omega
  rw [hwd] at hf
  have hwN : wd ≤ 100000 := by omega
  have hMb : M ≤ 100000 := by omega
  obtain ⟨A, hA⟩ : ∃ A : Nat → Nat, (fun i => vW (lm.take i)) = A := ⟨_, rfl⟩
  have hA0 : A 0 = 0 := by rw [← hA]; rfl
  have hAM : A M = vW lm := by rw [← hA, ← hml]; show vW (lm.take lm.length) = _; rw [List.take_length]
  have hAs : ∀ i, i < M → A (i + 1) = A i + 2 ^ (64 * i) * (lm.getD i 0).toNat := fun i hi => by rw [← hA]; exact vW_snoc lm (by omega)
  have hAl : ∀ i, A i < 2 ^ (64 * i) := fun i => by rw [← hA]; exact vW_take_lt lm i
  rw [← hAM] at hT ⊢
  have HST : Hid (∀ i, i < M → ∀ x c : BitVec 64, lm.getD i 0 = x → c.toNat = A i * 2 ^ n / 2 ^ (64 * (wd + i)) → (x >>> sb).toNat = A (i + 1) * 2 ^ n / 2 ^ (64 * (wd + (i + 1))) ∧ V ^^^ A (i + 1) * 2 ^ n % 2 ^ (64 * (wd + (i + 1))) = (V ^^^ A i * 2 ^ n % 2 ^ (64 * (wd + i))) ^^^ 2 ^ (64 * (wd + i)) * (x <<< bt ||| c).toNat) := Lib.hid (fun i hi x c hx hc => by
    obtain ⟨h1, h2, h3⟩ := ash_step x (A := A i) hn hb64 rfl (hAl i) hc
    obtain ⟨h4, h5⟩ := ash_word x c hb64 h1
    rw [hAs i hi, hx, show wd + (i + 1) = wd + i + 1 by omega, div_next, h2, mod_next, h2, h3, h5, hsb, ← h4, BitVec.toNat_ofNat, Nat.xor_assoc]
    exact ⟨rfl, rfl⟩)
  have HT := Lib.hid hT
  have HA0 := Lib.hid hA0
  have HM := Lib.hid hm
  have HGG := Lib.hid hg
  have HO := Lib.hid ho
  have HNE : Hid (wL N V = wL N (V ^^^ A 0 * 2 ^ n % 2 ^ (64 * (wd + 0)))) := Lib.hid (by rw [hA0]; simp)
  have HC0 : Hid ((0#64).toNat = A 0 * 2 ^ n / 2 ^ (64 * (wd + 0))) := Lib.hid (by rw [hA0]; simp)
  have HWN : Hid (∀ i, i < M → wd + i < N) := Lib.hid (fun i hi => by omega)
  -- what is left over at the end
  have HEND : Hid (∀ c : BitVec 64, c.toNat = A M * 2 ^ n / 2 ^ (64 * (wd + M)) → (c = 0#64 → wL N (V ^^^ A M * 2 ^ n % 2 ^ (64 * (wd + M))) = wL N (V ^^^ A M * 2 ^ n)) ∧ (c ≠ 0#64 → wd + M < N ∧ (V ^^^ A M * 2 ^ n % 2 ^ (64 * (wd + M))) ^^^ 2 ^ (64 * (wd + M)) * c.toNat = V ^^^ A M * 2 ^ n)) := Lib.hid (fun c hc => by
    obtain ⟨T, hT'⟩ : ∃ T, A M * 2 ^ n = T := ⟨_, rfl⟩
    rw [hT'] at hc hT ⊢
    constructor
    · intro h0
      rw [h0] at hc
      have : T < 2 ^ (64 * (wd + M)) := by
        rcases Nat.lt_or_ge T (2 ^ (64 * (wd + M))) with h | h
        · exact h
        · have := Nat.div_pos h (Nat.two_pow_pos _)
          rw [← hc] at this
          simp at this
      rw [Nat.mod_eq_of_lt this]
    · intro h0
      refine ⟨?_, ?_⟩
      · rcases Nat.lt_or_ge (wd + M) N with h | h
        · exact h
        · exfalso
          have h2 : T < 2 ^ (64 * (wd + M)) := Nat.lt_of_lt_of_le hT (Nat.pow_le_pow_right (by decide) (by omega))
          rw [Nat.div_eq_of_lt h2] at hc
          exact h0 (BitVec.eq_of_toNat_eq (by rw [hc]; rfl))
      · rw [Nat.xor_assoc, hc, ← bits_split _ _ _ (Nat.mod_lt _ (Nat.two_pow_pos _)), Nat.mod_add_div])
  clear hm hg ho hml hwd hbt hn hA hA0 hAM hAs hAl hT hf hsb
  have hg9 := HO.out
  go_enter Tryz.func174, Tryz.ntmps174
  go_wp2_with fail
  clear hji hri hjt hrt hn0 hg9
  go_loopw [8, 17] (fun cv iv wr => ∃ (i : Nat) (c : BitVec 64), i ≤ M ∧ iv = .int .i64 (i : Int) ∧ cv = .int .u64 (W64 c) ∧ Hid (c.toNat = A i * 2 ^ n / 2 ^ (64 * (wd + i))) ∧ wr.ownsRow base 22 1 (.slice (some ⟨g, 0, none⟩) N cap) N ((wL N (V ^^^ A i * 2 ^ n % 2 ^ (64 * (wd + i)))).map fun x => .int .u64 (W64 x)) ∧ But g w wr) (fun _ iv _ => M - (intOf iv).toNat)
  case atStart => exact ⟨0, 0#64, Nat.zero_le _, rfl, rfl, HC0, by rw [← HNE.out]; exact HO.out, But.refl _ _⟩
  case round =>
    clear HO
    obtain ⟨i, cc, hi, rfl, rfl, HC, hown, hbut⟩ := hrel
    obtain ⟨wq, hwq⟩ : ∃ z, z = wr := ⟨_, rfl⟩
    rw [← hwq] at hown hbut ⊢
    clear hwq
    by_cases hlt : (i : Int) < (M : Int)
    · have hi0 : (0 : Int) ≤ (i : Int) := by omega
      obtain ⟨b1, off, rfl, hc⟩ := (HM.out.but hbut HGG.out).addr (by omega)
      have c1 := hc i (by omega)
      clear hc
      obtain ⟨x, hx⟩ : ∃ x, lm.getD i 0 = x := ⟨_, rfl⟩
      rw [hx] at c1
      obtain ⟨hs1, hs2⟩ := HST.out i (by omega) x cc hx HC.out
      have HS1 := Lib.hid hs1
      obtain ⟨k, hk⟩ : ∃ k, wd + i = k := ⟨_, rfl⟩
      have hkN : k < N := hk ▸ HWN.out i (by omega)
      obtain ⟨ha, hb, hc, hd, he⟩ := ash_idx hk (by omega) hkN (M := M)
      rw [hk] at hs2
      rw [hk] at hown
      obtain ⟨d1, f1⟩ := ow_w64 hown (k := k) hkN
      obtain ⟨Z, hZ⟩ : ∃ Z, V ^^^ A i * 2 ^ n % 2 ^ (64 * k) = Z := ⟨_, rfl⟩
      rw [hZ] at hown d1 hs2
      obtain ⟨u, hu⟩ : ∃ u, (wL N Z).getD k 0 = u := ⟨_, rfl⟩
      rw [hu] at d1
      have HO2 : Hid (((wq.setCell ⟨g, k, none⟩ (.int .u64 (W64 (u ^^^ (x <<< bt ||| cc))))).drew).ownsRow base 22 1 (.slice (some ⟨g, 0, none⟩) N cap) N ((wL N (V ^^^ A (i + 1) * 2 ^ n % 2 ^ (64 * (wd + (i + 1))))).map fun x => .int .u64 (W64 x))) := Lib.hid (by
        rw [hs2, ← wL_xor hkN, ← wL_get hkN, hu, List.map_set]; exact ow_new (ow_set hown k _) (New.refl _).drew)
      have HB2 : Hid (But g w ((wq.setCell ⟨g, k, none⟩ (.int .u64 (W64 (u ^^^ (x <<< bt ||| cc))))).drew)) := Lib.hid ((hbut.setCell (p := ⟨g, k, none⟩) rfl _).drew)
      clear hown hbut hs1 hs2 hx hZ hu hk HC
      go_wp2_with fail
      go_region
      clear c1 d1 f1
      obtain ⟨W2, hW2⟩ : ∃ z, (wq.setCell ⟨g, k, none⟩ (.int .u64 (W64 (u ^^^ (x <<< bt ||| cc))))).drew = z := ⟨_, rfl⟩
      rw [hW2] at HO2 HB2 ⊢
      clear hW2 ha hb hc hd he
      go_wp2
      exact ⟨⟨i + 1, x >>> sb, by omega, by go_num, rfl, HS1, HO2.out, HB2.out⟩, by simp [intOf]; omega⟩
    · have hiM : i = M := by omega
      rw [hiM] at hown HC
      obtain ⟨he1, he2⟩ := HEND.out cc HC.out
      rcases hce : (cc != 0#64) with _ | _
      · have hz := of_nbne hce
        rw [he1 hz] at hown
        have HO := Lib.hid hown
        have HBT := Lib.hid hbut
        clear hown hbut he1 he2 hz hiM HC
        go_wp2
        go_end0
        exact ⟨rfl, HO.out, HBT.out⟩
      · obtain ⟨hkN, he3⟩ := he2 (of_bne hce)
        obtain ⟨k, hk⟩ : ∃ k, wd + M = k := ⟨_, rfl⟩
        rw [hk] at hkN he3 hown
        obtain ⟨ha, hb, hc, hd, he⟩ := ash_idx hk (by omega) hkN (M := M)
        obtain ⟨d1, f1⟩ := ow_w64 hown (k := k) hkN
        obtain ⟨Z, hZ⟩ : ∃ Z, V ^^^ A M * 2 ^ n % 2 ^ (64 * k) = Z := ⟨_, rfl⟩
        rw [hZ] at hown d1 he3
        obtain ⟨u, hu⟩ : ∃ u, (wL N Z).getD k 0 = u := ⟨_, rfl⟩
        rw [hu] at d1
        have HO2 : Hid ((wq.setCell ⟨g, k, none⟩ (.int .u64 (W64 (u ^^^ cc)))).ownsRow base 22 1 (.slice (some ⟨g, 0, none⟩) N cap) N ((wL N (V ^^^ A M * 2 ^ n)).map fun x => .int .u64 (W64 x))) := Lib.hid (by
          rw [← he3, ← wL_xor hkN, ← wL_get hkN, hu, List.map_set]; exact ow_set hown k _)
        have HB2 : Hid (But g w (wq.setCell ⟨g, k, none⟩ (.int .u64 (W64 (u ^^^ cc))))) := Lib.hid (hbut.setCell (p := ⟨g, k, none⟩) rfl _)
        clear hown hbut he1 he2 he3 hZ hu hk hiM HC
        go_wp2
        go_end0
        exact ⟨rfl, HO2.out, HB2.out⟩
end Go.Proofs.YtfaobdmoifnglaaGreat
end
section
/- gf2: divide, Div, Mod, MulMod. -/
namespace Go.G2
set_option linter.unusedVariables false
theorem or_xor_bit (q n t : Nat) (h : q.testBit t = false) : BitVec.ofNat 64 (q / 2 ^ (64 * (t / 64))) ||| 1#64 <<< (t % 64) = BitVec.ofNat 64 (q / 2 ^ (64 * (t / 64))) ^^^ 1#64 <<< (t % 64) := by
  apply BitVec.eq_of_getLsbD_eq
  intro i hi
  rw [BitVec.getLsbD_or, BitVec.getLsbD_xor, BitVec.getLsbD_ofNat, Nat.testBit_div_two_pow, BitVec.getLsbD_shiftLeft, BitVec.getLsbD_one]
  by_cases e : i = t % 64
  · subst e
    rw [show t % 64 + 64 * (t / 64) = t by omega, h]; simp
  · have : (decide (i < 64) && !decide (i < t % 64) && (decide (0 < 64) && decide (i - t % 64 = 0))) = false := by
      by_cases h2 : i < t % 64
      · simp [h2]
      · simp [show ¬ i - t % 64 = 0 by omega]
    rw [this]; simp
theorem shl_one (t : Nat) (h : t < 64) : (1#64 <<< t).toNat = 2 ^ t := by
  rw [BitVec.toNat_shiftLeft, Nat.shiftLeft_eq]
  show 1 * 2 ^ t % 2 ^ 64 = _
  rw [Nat.one_mul, Nat.mod_eq_of_lt (Nat.pow_lt_pow_right (by decide) h)]
theorem low_bit {q t : Nat} (h : q % 2 ^ (t + 1) = 0) : q.testBit t = false := by
  have := Nat.testBit_mod_two_pow q (t + 1) t
  rw [h] at this
  simpa using this.symm
theorem low_next {q t : Nat} (h : q % 2 ^ (t + 1 + 1) = 0) (b : Bool) : (q ^^^ (if b then 2 ^ (t + 1) else 0)) % 2 ^ (t + 1) = 0 := by
  apply Nat.eq_of_testBit_eq
  intro i
  rw [Nat.testBit_mod_two_pow, Nat.testBit_xor, Nat.zero_testBit]
  by_cases hi : i < t + 1
  · have h1 := Nat.testBit_mod_two_pow q (t + 1 + 1) i
    rw [h] at h1
    have h2 : q.testBit i = false := by simpa [show i < t + 1 + 1 by omega] using h1.symm
    rw [h2]
    cases b
    · simp
    · rw [if_pos rfl, Nat.testBit_two_pow]; simp; omega
  · simp [hi]
end Go.G2
namespace Go.Bv
open Go Go.RowKit
set_option linter.unusedVariables false
theorem ow_but {w w' : World} {base size g n : Nat} {e : TypeId} {v : Value} {xs : List Value} (h : w.ownsRow base e size v n xs) (hb : But g w w') (hv : v.ownBlock ≠ some g) : w'.ownsRow base e size v n xs := by
  obtain ⟨hl, h | ⟨g', cap', cur, rfl, hbs, hc, h2⟩⟩ := h
  · exact ⟨hl, Or.inl h⟩
  · exact ⟨hl, Or.inr ⟨g', cap', cur, rfl, hbs, hb.keep (fun e => hv (by rw [← e]; rfl)) hc, h2⟩⟩
end Go.Bv
namespace Go.Proofs.YtfaobdmoifnglaaGreat
open Go Go.RowKit Go.Bv Go.G2
set_option linter.unusedVariables false
set_option maxRecDepth 100000 in
set_option maxHeartbeats 1000000 in
theorem divide_z (a b : Option Addr) (n c m c2 : Nat) (l2 : List (BitVec 64)) (w : World) (h2 : QRow w b m c2 l2) (hm : m ≤ 50000) (hz : vW l2 = 0) :
    Calls Tryz.prog 161 #[.slice a n c, .slice b m c2] w fun e w' => e = .returned (.tuple #[.slice none 0 0, .slice none 0 0, .bool false]) ∧ w' = w := by
  have HD := Lib.hid (deg_q b m c2 l2 w h2 (by omega))
  rw [hz] at HD
  clear h2 hz
  go_enter Tryz.func161, Tryz.ntmps161
  go_wp2_with fail
  refine HD.out.mono ?_
  rintro e w' ⟨rfl, hw⟩
  replace hw := hw.symm
  subst hw
  go_wp2
  go_ret3
  exact ⟨rfl, rfl⟩
theorem htm_of {t T n lo k : Nat} (h : 64 * T ≤ lo + 64) (h2 : lo + t = k) (h3 : k < 64 * n) : t / 64 + T ≤ n := by omega
theorem div_idx {t j s n : Nat} (hj : t / 64 = j) (hs : t % 64 = s) (ht : t < 64 * n) (hn : n ≤ 50000) : (t : Int) / 64 = (j : Int) ∧ (t : Int) % 64 = (s : Int) ∧ (t : Int).tdiv 64 = (j : Int) ∧ (t : Int).tmod 64 = (s : Int) ∧ wrap64 (t : Int) = (t : Int) ∧ IntKind.i64.wrap (t : Int) = (t : Int) ∧ wrap64 (j : Int) = (j : Int) ∧ IntKind.i64.wrap (j : Int) = (j : Int) ∧ wrap64 (s : Int) = (s : Int) ∧ IntKind.i64.wrap (s : Int) = (s : Int) ∧ (0 : Int) ≤ (j : Int) ∧ (j : Int) < (n : Int) ∧ (0 : Int) ≤ (s : Int) ∧ j < n := by
  have h1 : (t : Int) / 64 = (j : Int) := by omega
  have h2 : (t : Int) % 64 = (s : Int) := by omega
  refine ⟨h1, h2, by rw [Int.tdiv_eq_ediv_of_nonneg (by omega)]; exact h1, by rw [Int.tmod_eq_emod_of_nonneg (by omega)]; exact h2, wrap_64 (by omega) (by omega), wrap_i64 (by omega) (by omega), wrap_64 (by omega) (by omega), wrap_i64 (by omega) (by omega), wrap_64 (by omega) (by omega), wrap_i64 (by omega) (by omega), by omega, by omega, by omega, by omega⟩
set_option maxRecDepth 100000 in
set_option maxHeartbeats 4000000 in
theorem divide_q (a b : Option Addr) (n c m c2 : Nat) (l l2 : List (BitVec 64)) (w : World) (h : QRow w a n c l) (h2 : QRow w b m c2 l2) (hn : n ≤ 50000) (hm : m ≤ 50000) (hz : vW l2 ≠ 0) :
    Calls Tryz.prog 161 #[.slice a n c, .slice b m c2] w fun e w' => ∃ a1 c1 a3 c3, e = .returned (.tuple #[.slice a1 (tW (dvG (vW l) (vW l2)).1).length c1, .slice a3 (tW (rmG (vW l) (vW l2))).length c3, .bool true]) ∧ QRow w' a1 (tW (dvG (vW l) (vW l2)).1).length c1 (tW (dvG (vW l) (vW l2)).1) ∧ QRow w' a3 (tW (rmG (vW l) (vW l2))).length c3 (tW (rmG (vW l) (vW l2))) ∧ New w w' := by
  obtain ⟨lo, hlo, hlo2, hlo3⟩ := bl_pos hz
  have HD := Lib.hid (deg_q b m c2 l2 w h2 (by omega))
  rw [hlo, show ((lo + 1 : Nat) : Int) - 1 = (lo : Int) by omega] at HD
  have hT := us_le l2
  rw [h2.len_eq] at hT
  have HUS := Lib.hid (used_q b m c2 l2 w h2)
  have hr2 := h2.cut _ hT
  rw [us_take] at hr2
  have hTb : 64 * usN l2 ≤ lo + 64 := by unfold usN; omega
  have hc2 := Nat.le_trans hT h2.le
  obtain ⟨T, hTe⟩ : ∃ T, usN l2 = T := ⟨_, rfl⟩
  rw [hTe] at HUS hr2 hTb hT hc2
  have HCL := Lib.hid (clone_q a n c l w h)
  have HDA := Lib.hid (fun w' (hn' : New w w') => deg_q a n c l w' (h.stay hn') (by omega))
  have hA : vW l < 2 ^ (64 * n) := by have := vW_lt l; rwa [h.len_eq] at this
  have hlw : wL n (vW l) = l := by have := wL_vW l; rwa [h.len_eq] at this
  have hv2 : vW (tW (vW l2)) = vW l2 := vW_tW _
  obtain ⟨A, hAe⟩ : ∃ A, vW l = A := ⟨_, rfl⟩
  obtain ⟨M, hMe⟩ : ∃ M, vW l2 = M := ⟨_, rfl⟩
  rw [hAe] at HDA hA hlw ⊢
  rw [hMe] at hz hlo hlo2 hlo3 hr2 hv2 ⊢
  have HFIN : Hid (∀ q r, A = mulG q M ^^^ r → r < 2 ^ lo → dvG A M = (q, r) ∧ rmG A M = r) := Lib.hid (fun q r h1 h2 => by
    have h3 := dv_is hz h1 (by have := bl_le.2 h2; omega)
    exact ⟨h3, by unfold rmG; rw [h3]⟩)
  have HSTEP : Hid (∀ q r t, A = mulG q M ^^^ r → r < 2 ^ (lo + t + 1) → r.testBit (lo + t) = true → A = mulG (q ^^^ 2 ^ t) M ^^^ (r ^^^ M * 2 ^ t) ∧ r ^^^ M * 2 ^ t < 2 ^ (lo + t)) := Lib.hid (fun q r t h1 h3 h4 => by
    rw [Nat.mul_comm]; exact dv_step hlo2 hlo3 h1 h3 h4)
  have HMT : Hid (∀ t, lo + t < 64 * n → M * 2 ^ t < 2 ^ (64 * n)) := Lib.hid (fun t ht => by
    have := (shift_top (j := t) hlo2 hlo3).2
    rw [Nat.mul_comm]
    exact Nat.lt_of_lt_of_le this (Nat.pow_le_pow_right (by decide) (by omega)))
  have HBA : Hid (A < 2 ^ bl A) := Lib.hid (lt_bl A)
  have hbA : bl A ≤ 64 * n := bl_le.2 hA
  obtain ⟨B, hBe⟩ : ∃ B, bl A = B := ⟨_, rfl⟩
  rw [hBe] at HDA HBA hbA
  have HR2 := Lib.hid hr2
  have HV2 := Lib.hid hv2
  have HA := Lib.hid hA
  have HLW := Lib.hid hlw
  have HMK := Lib.hid (make_w64 n (by omega))
  have s1 : (0 : Int) ≤ (T : Int) := by omega
  have s2 : (T : Int) ≤ (c2 : Int) := by omega
  have hlo0 : (0 : Int) ≤ (lo : Int) := by omega
  have hlob : lo ≤ 10000000 := by
    have := bl_vW l2
    rw [hMe, h2.len_eq, hlo] at this
    omega
  have hTm : T ≤ 50000 := by omega
  clear h h2 hz hlo hlo2 hlo3 hr2 hA hlw hv2 hTe hAe hMe hBe
  go_enter Tryz.func161, Tryz.ntmps161
  go_wp2_with fail
  refine HD.out.mono ?_
  rintro e w' ⟨rfl, hw⟩
  replace hw := hw.symm
  subst hw
  clear HD
  go_wp2_with fail
  refine HUS.out.mono ?_
  rintro e w' ⟨rfl, hw⟩
  replace hw := hw.symm
  subst hw
  clear HUS
  go_wp2_with fail
  refine HCL.out.mono ?_
  rintro e w1 ⟨v, rfl, how, hn1⟩
  have HG : Hid (∀ g cap, v = .slice (some ⟨g, 0, none⟩) n cap → g ≠ w1.heap.size ∧ w.heap.size ≤ g) := Lib.hid (fun g cap e => by
    subst e
    have := ow_in2 how
    exact ⟨by omega, this.1⟩)
  have hnz : New w (w1.alloc (.cells (madeCells #[.int .u64 0] n) 22)) := hn1.alloc _
  have hoz := ow_zeros w1 n (by omega)
  have HLE := Lib.hid hn1.le
  have hov := ow_new how ((New.refl w1).alloc (.cells (madeCells #[.int .u64 0] n) 22))
  obtain ⟨W2, hW2⟩ : ∃ z, w1.alloc (.cells (madeCells #[.int .u64 0] n) 22) = z := ⟨_, rfl⟩
  rw [hW2] at hnz hoz hov
  rw [← HLW.out] at hov
  have HO1 := Lib.hid hov
  have HO2 := Lib.hid (ow_base hoz hn1.le)
  have HN := Lib.hid hnz
  have HW2 := Lib.hid hW2
  obtain ⟨g2, hg2⟩ : ∃ g2, w1.heap.size = g2 := ⟨_, rfl⟩
  rw [hg2] at HG HO2 HLE
  have HG2 := Lib.hid hg2
  replace HDA := Lib.hid (HDA.out W2 hnz)
  clear how hn1 hnz hoz hov hW2 hg2 HCL
  go_wp2_with fail
  rw [HMK.out _ _ rfl]
  rw [HW2.out, HG2.out]
  clear HW2 HG2 HMK
  go_wp2_with fail
  refine HDA.out.mono ?_
  rintro e w' ⟨rfl, hw⟩
  replace hw := hw.symm
  subst hw
  clear HDA
  go_wp2_with fail
  go_loopw [10] (fun nv wr => ∃ (z : Int) (q r : Nat), nv = .int .i64 z ∧ Hid (A = mulG q M ^^^ r ∧ q < 2 ^ (64 * n) ∧ r < 2 ^ (64 * n)) ∧ ((z < (lo : Int) ∧ -1 ≤ z ∧ Hid (r < 2 ^ lo)) ∨ ∃ t : Nat, z = ((lo + t : Nat) : Int) ∧ lo + t < 64 * n ∧ Hid (r < 2 ^ (lo + t + 1) ∧ q % 2 ^ (t + 1) = 0)) ∧ wr.ownsRow w.heap.size 22 1 v n ((wL n r).map fun x => .int .u64 (W64 x)) ∧ wr.ownsRow w.heap.size 22 1 (.slice (some ⟨g2, 0, none⟩) n n) n ((wL n q).map fun x => .int .u64 (W64 x)) ∧ New w wr) (fun nv _ => (intOf nv + 1).toNat)
  case atStart =>
    refine ⟨_, 0, A, rfl, Lib.hid ⟨by rw [mulG_zero, Nat.zero_xor], Nat.two_pow_pos _, HA.out⟩, ?_, HO1.out, HO2.out, HN.out⟩
    by_cases hB : B ≤ lo
    · exact .inl ⟨by omega, by omega, Lib.hid (Nat.lt_of_lt_of_le HBA.out (Nat.pow_le_pow_right (by decide) hB))⟩
    · exact .inr ⟨B - lo - 1, by omega, by omega, Lib.hid ⟨by rw [show lo + (B - lo - 1) + 1 = B by omega]; exact HBA.out, Nat.zero_mod _⟩⟩
  case round =>
    clear HO1 HO2 HN HBA
    obtain ⟨z, q, r, rfl, HQ, hz, ho1, ho2, hnew⟩ := hrel
    obtain ⟨wq, hwq⟩ : ∃ z, z = wr := ⟨_, rfl⟩
    rw [← hwq] at ho1 ho2 hnew ⊢
    clear hwq
    rcases hz with ⟨hz1, hz2, HRL⟩ | ⟨t, rfl, htn, HRT⟩
    · obtain ⟨hf1, hf2⟩ := HFIN.out q r HQ.out.1 HRL.out
      obtain ⟨a9, c9, he9, hq9⟩ := QRow.of_owns ho2 (by omega)
      cases he9
      obtain ⟨a8, c8, rfl, hq8⟩ := QRow.of_owns ho1 (by omega)
      have HT1 := Lib.hid (trim_q _ _ _ _ wq hq9)
      rw [vW_wL, Nat.mod_eq_of_lt HQ.out.2.1] at HT1
      have HT2 := Lib.hid (fun w' (hn' : New wq w') => trim_q a8 n c8 _ w' (hq8.stay hn'))
      rw [vW_wL, Nat.mod_eq_of_lt HQ.out.2.2] at HT2
      have HF := Lib.hid (And.intro hf1 hf2)
      have HN := Lib.hid hnew
      clear hf1 hf2 hq9 hq8 ho1 ho2 hnew HG
      go_wp2_with fail
      refine HT1.out.mono ?_
      rintro e w3 ⟨a1, c1, rfl, hq3, hn3⟩
      have HQ3 := Lib.hid hq3
      replace HN := Lib.hid (HN.out.trans hn3)
      replace HT2 := Lib.hid (HT2.out _ hn3)
      clear hq3 hn3 HT1
      go_wp2_with fail
      refine HT2.out.mono ?_
      rintro e w4 ⟨a3, c3, rfl, hq4, hn4⟩
      have HQ4 := Lib.hid hq4
      replace HQ3 := Lib.hid (HQ3.out.stay hn4)
      replace HN := Lib.hid (HN.out.trans hn4)
      clear hq4 hn4 HT2
      go_wp2
      go_ret3
      rw [HF.out.1, HF.out.2]
      exact ⟨_, _, _, _, rfl, HQ3.out, HQ4.out, HN.out⟩
    · obtain ⟨g, cap, rfl, hgb, _⟩ := ow_shape ho1 (by omega)
      obtain ⟨hgg, _⟩ := HG.out g cap rfl
      obtain ⟨a8, c8, he8, hq8⟩ := QRow.of_owns ho1 (by omega)
      cases he8
      have HC := Lib.hid (coef_q _ _ _ _ (lo + t) wq hq8 (by omega))
      rw [vW_wL, Nat.mod_eq_of_lt HQ.out.2.2] at HC
      obtain ⟨k, hk⟩ : ∃ k, lo + t = k := ⟨_, rfl⟩
      rw [hk] at HC htn ⊢
      have hkt : (k : Int) - (lo : Int) = (t : Int) := by omega
      have hkl : (lo : Int) ≤ (k : Int) := by omega
      have hk0 : (0 : Int) ≤ (k : Int) := by omega
      have hkb : k ≤ 10000000 := by omega
      have HO1 := Lib.hid ho1
      have HO2 := Lib.hid ho2
      have HN := Lib.hid hnew
      have HK := Lib.hid hk
      clear ho1 ho2 hnew hq8
      rcases hbit : r.testBit k with _ | _
      · rw [hbit] at HC
        have HZ2 : Hid (((k : Int) - 1 < (lo : Int) ∧ -1 ≤ (k : Int) - 1 ∧ Hid (r < 2 ^ lo)) ∨ ∃ t : Nat, (k : Int) - 1 = ((lo + t : Nat) : Int) ∧ lo + t < 64 * n ∧ Hid (r < 2 ^ (lo + t + 1) ∧ q % 2 ^ (t + 1) = 0)) := Lib.hid (by
          obtain ⟨h1, h2⟩ := HRT.out
          have h3 : r < 2 ^ (lo + t) := lt_less h1 (by rw [hk]; exact hbit)
          cases t with
          | zero => exact .inl ⟨by omega, by omega, Lib.hid h3⟩
          | succ t => exact .inr ⟨t, by omega, by omega, Lib.hid ⟨h3, by have := low_next h2 false; simpa using this⟩⟩)
        clear hbit hk HRT
        go_wp2_with fail
        refine HC.out.mono ?_
        rintro e w' ⟨rfl, hw⟩
        replace hw := hw.symm
        subst hw
        clear HC
        go_wp2
        exact ⟨⟨_, q, r, rfl, HQ, HZ2.out, HO1.out, HO2.out, HN.out⟩, by simp [intOf] <;> omega⟩
      · rw [hbit] at HC
        obtain ⟨hr1, hr2⟩ := HRT.out
        obtain ⟨hs1, hs2⟩ := HSTEP.out q r t HQ.out.1 hr1 (by rw [hk]; exact hbit)
        have hMt := HMT.out t (by omega)
        have hq2 : q ^^^ 2 ^ t < 2 ^ (64 * n) := Nat.xor_lt_two_pow HQ.out.2.1 (Nat.pow_lt_pow_right (by decide) (by omega))
        have hrr : r ^^^ M * 2 ^ t < 2 ^ (64 * n) := Nat.xor_lt_two_pow HQ.out.2.2 hMt
        have HZ2 : Hid (((k : Int) - 1 < (lo : Int) ∧ -1 ≤ (k : Int) - 1 ∧ Hid (r ^^^ M * 2 ^ t < 2 ^ lo)) ∨ ∃ t2 : Nat, (k : Int) - 1 = ((lo + t2 : Nat) : Int) ∧ lo + t2 < 64 * n ∧ Hid (r ^^^ M * 2 ^ t < 2 ^ (lo + t2 + 1) ∧ (q ^^^ 2 ^ t) % 2 ^ (t2 + 1) = 0)) := Lib.hid (by
          cases t with
          | zero => exact .inl ⟨by omega, by omega, Lib.hid hs2⟩
          | succ t => exact .inr ⟨t, by omega, by omega, Lib.hid ⟨hs2, by have := low_next hr2 true; simpa using this⟩⟩)
        have HQ2 : Hid (A = mulG (q ^^^ 2 ^ t) M ^^^ (r ^^^ M * 2 ^ t) ∧ q ^^^ 2 ^ t < 2 ^ (64 * n) ∧ r ^^^ M * 2 ^ t < 2 ^ (64 * n)) := Lib.hid ⟨hs1, hq2, hrr⟩
        obtain ⟨j, hj⟩ : ∃ j, t / 64 = j := ⟨_, rfl⟩
        obtain ⟨s, hs⟩ : ∃ s, t % 64 = s := ⟨_, rfl⟩
        have hOR := or_xor_bit q n t (low_bit hr2)
        have hs64 : s < 64 := by omega
        have htj : 2 ^ (64 * j) * (1#64 <<< s).toNat = 2 ^ t := by
          rw [shl_one s hs64, ← Nat.pow_add]; congr 1; omega
        rw [hj, hs] at hOR
        obtain ⟨e1, e2, e3, e4, e5, e6, e7, e8, e9, e10, e11, e12, e13, hjn⟩ := div_idx hj hs (show t < 64 * n by omega) hn
        obtain ⟨d1, f1⟩ := ow_w64 HO2.out (k := j) hjn
        have hset : (wL n q).set j ((wL n q).getD j 0 ||| 1#64 <<< s) = wL n (q ^^^ 2 ^ t) := by
          rw [wL_get hjn, hOR, wL_xor hjn, htj]
        obtain ⟨u, hu⟩ : ∃ u, (wL n q).getD j 0 = u := ⟨_, rfl⟩
        rw [hu] at d1 hset
        have HP2 : Hid (((wq.setCell ⟨g2, j, none⟩ (.int .u64 (W64 (u ||| 1#64 <<< s)))).drew).ownsRow w.heap.size 22 1 (.slice (some ⟨g2, 0, none⟩) n n) n ((wL n (q ^^^ 2 ^ t)).map fun x => .int .u64 (W64 x))) := Lib.hid (by
          rw [← hset, List.map_set]; exact ow_new (ow_set HO2.out j _) (New.refl _).drew)
        have HP1 : Hid (((wq.setCell ⟨g2, j, none⟩ (.int .u64 (W64 (u ||| 1#64 <<< s)))).drew).ownsRow w.heap.size 22 1 (.slice (some ⟨g, 0, none⟩) n cap) n ((wL n r).map fun x => .int .u64 (W64 x))) := Lib.hid (by
          have hv : (Value.slice (some ⟨g, 0, none⟩) n cap).ownBlock ≠ some g2 := by simp [Value.ownBlock]; exact hgg
          exact ow_new (ow_far HO1.out (a := ⟨g2, j, none⟩) hv _) (New.refl _).drew)
        have HPN : Hid (New w ((wq.setCell ⟨g2, j, none⟩ (.int .u64 (W64 (u ||| 1#64 <<< s)))).drew)) := Lib.hid (New.drew (HN.out.setCell (p := ⟨g2, j, none⟩) HLE.out _))
        have HGG : Hid (w.heap.size ≤ g ∧ g ≠ g2) := Lib.hid ⟨hgb, hgg⟩
        have hfar := HR2.out.far hgb
        have hn5 : n ≤ 100000 := by omega
        have htm : t / 64 + T ≤ n := htm_of hTb hk htn
        have HTB : Hid (t ≤ 10000000) := Lib.hid (Nat.le_trans (hk ▸ Nat.le_add_left t lo) hkb)
        have hMt2 : vW (tW M) * 2 ^ t < 2 ^ (64 * n) := by rw [HV2.out]; exact hMt
        have HASH := Lib.hid (fun w' (ho : w'.ownsRow w.heap.size 22 1 (.slice (some ⟨g, 0, none⟩) n cap) n ((wL n r).map fun x => .int .u64 (W64 x))) (hn' : New w w') => ash_q g n cap w.heap.size b T c2 (tW M) r t w' ho (HR2.out.stay hn') hfar hn5 htm hMt2)
        rw [HV2.out] at HASH
        clear hbit hk HRT hr1 hr2 hs1 hs2 hMt hq2 hrr hOR htj hset hu hj hs HO1 HO2 HN htm hMt2 hgb hgg hjn HQ hfar hn5
        go_wp2_with fail
        refine HC.out.mono ?_
        rintro e w' ⟨rfl, hw⟩
        replace hw := hw.symm
        subst hw
        clear HC
        go_wp2_with fail
        go_region
        clear d1 f1 e1 e2 e3 e4 e5 e6 e7 e8 e9 e10 e11 e12 e13
        have htb := HTB.out
        obtain ⟨W5, hW5⟩ : ∃ z, (wq.setCell ⟨g2, j, none⟩ (.int .u64 (W64 (u ||| 1#64 <<< s)))).drew = z := ⟨_, rfl⟩
        rw [hW5] at HP1 HP2 HPN ⊢
        clear hW5
        go_wp2_with fail
        refine (HASH.out _ HP1.out HPN.out).mono ?_
        rintro e w6 ⟨rfl, ho6, hb6⟩
        have hv : (Value.slice (some ⟨g2, 0, none⟩) n n).ownBlock ≠ some g := by simp [Value.ownBlock]; exact fun e => HGG.out.2 e.symm
        have HS2 := Lib.hid (ow_but HP2.out hb6 hv)
        have HS1 := Lib.hid ho6
        have HSN := Lib.hid (hb6.new w HPN.out HGG.out.1)
        clear ho6 hb6 hv HASH HP1 HP2 HPN
        go_wp2
        exact ⟨⟨_, _, _, rfl, HQ2, HZ2.out, HS1.out, HS2.out, HSN.out⟩, by simp [intOf] <;> omega⟩
end Go.Proofs.YtfaobdmoifnglaaGreat
end
