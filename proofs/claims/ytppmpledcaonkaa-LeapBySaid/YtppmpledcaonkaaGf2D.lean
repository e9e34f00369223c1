/- gf2: addShifted, divide, Div, Mod. -/
import Derived.Test.YtppmpledcaonkaaGf2C
namespace Go.G2
set_option linter.unusedVariables false
/-- what has been added, and the carry -/
theorem ash_step {A T c : Nat} (x : BitVec 64) {n wd bt i : Nat} (hn : n = 64 * wd + bt) (hb : bt < 64) (hT : T = A * 2 ^ n) (hA : A < 2 ^ (64 * i)) (hc : c = T / 2 ^ (64 * (wd + i))) :
    c < 2 ^ bt ∧ (A + 2 ^ (64 * i) * x.toNat) * 2 ^ n / 2 ^ (64 * (wd + i)) = c + 2 ^ bt * x.toNat ∧
    ((A + 2 ^ (64 * i) * x.toNat) * 2 ^ n) % 2 ^ (64 * (wd + i)) = T % 2 ^ (64 * (wd + i)) := by
  have e1 : 2 ^ n = 2 ^ (64 * wd) * 2 ^ bt := by rw [hn, Nat.pow_add]
  have e2 : 2 ^ (64 * (wd + i)) = 2 ^ (64 * wd) * 2 ^ (64 * i) := by rw [Nat.mul_add, Nat.pow_add]
  have e3 : 2 ^ (64 * i) * x.toNat * 2 ^ n = 2 ^ (64 * (wd + i)) * (2 ^ bt * x.toNat) := by
    rw [e1, e2]
    generalize 2 ^ (64 * i) = a; generalize 2 ^ (64 * wd) = b; generalize 2 ^ bt = d
    grind
  refine ⟨?_, ?_, ?_⟩
  · rw [hc, hT]
    apply Nat.div_lt_of_lt_mul
    rw [e1, e2]
    have h1 : A * (2 ^ (64 * wd) * 2 ^ bt) < 2 ^ (64 * i) * (2 ^ (64 * wd) * 2 ^ bt) := (Nat.mul_lt_mul_right (Nat.mul_pos (Nat.two_pow_pos _) (Nat.two_pow_pos _))).2 hA
    have h2 : 2 ^ (64 * i) * (2 ^ (64 * wd) * 2 ^ bt) = 2 ^ (64 * wd) * 2 ^ (64 * i) * 2 ^ bt := by
      generalize 2 ^ (64 * i) = a; generalize 2 ^ (64 * wd) = b; generalize 2 ^ bt = d
      grind
    omega
  · rw [Nat.add_mul, e3, ← hT, Nat.add_mul_div_left _ _ (Nat.two_pow_pos _), ← hc]
  · rw [Nat.add_mul, e3, ← hT, Nat.add_mul_mod_self_left]
/-- the carry and the shifted word, as one -/
theorem ash_word (x c : BitVec 64) {bt : Nat} (hb : bt < 64) (hc : c.toNat < 2 ^ bt) :
    BitVec.ofNat 64 (c.toNat + 2 ^ bt * x.toNat) = x <<< bt ||| c ∧ (c.toNat + 2 ^ bt * x.toNat) / 2 ^ 64 = (x >>> (64 - bt)).toNat := by
  have e : c.toNat + 2 ^ bt * x.toNat = c.toNat ^^^ 2 ^ bt * x.toNat := bits_split _ _ _ hc
  constructor
  · rw [e]
    apply BitVec.eq_of_getLsbD_eq
    intro i hi
    rw [BitVec.getLsbD_ofNat, Nat.testBit_xor, Nat.testBit_two_pow_mul, BitVec.getLsbD_or, BitVec.getLsbD_shiftLeft]
    by_cases h : i < bt
    · simp [hi, h, show ¬ bt ≤ i by omega]; rfl
    · have : c.toNat.testBit i = false := Nat.testBit_lt_two_pow (Nat.lt_of_lt_of_le hc (Nat.pow_le_pow_right (by decide) (by omega)))
      have h3 : c.getLsbD i = false := this
      rw [this, h3]
      simp [hi, h, show bt ≤ i by omega]; rfl
  · rw [BitVec.toNat_ushiftRight, Nat.shiftRight_eq_div_pow]
    have h64 : (2 : Nat) ^ 64 = 2 ^ bt * 2 ^ (64 - bt) := by rw [← Nat.pow_add]; congr 1; omega
    rw [h64, ← Nat.div_div_eq_div_mul, Nat.add_mul_div_left _ _ (Nat.two_pow_pos _), Nat.div_eq_of_lt hc, Nat.zero_add]
theorem vW_snoc (l : List (BitVec 64)) {i : Nat} (hi : i < l.length) : vW (l.take (i + 1)) = vW (l.take i) + 2 ^ (64 * i) * (l.getD i 0).toNat := by
  induction l generalizing i with
  | nil => simp at hi
  | cons y l ih =>
    cases i with
    | zero => simp [vW]
    | succ i =>
      have := ih (i := i) (by simpa using hi)
      rw [List.take_succ_cons, List.take_succ_cons]
      show y.toNat + 2 ^ 64 * vW (l.take (i + 1)) = y.toNat + 2 ^ 64 * vW (l.take i) + 2 ^ (64 * (i + 1)) * (l.getD i 0).toNat
      rw [this, Nat.mul_add (2 ^ 64), show 64 * (i + 1) = 64 + 64 * i by omega, Nat.pow_add, Nat.mul_assoc]; omega
theorem vW_take_lt (l : List (BitVec 64)) (i : Nat) : vW (l.take i) < 2 ^ (64 * i) :=
  Nat.lt_of_lt_of_le (vW_lt _) (Nat.pow_le_pow_right (by decide) (by rw [List.length_take]; exact Nat.mul_le_mul_left _ (Nat.min_le_left _ _)))
theorem mod_next (T k : Nat) : T % 2 ^ (64 * (k + 1)) = T % 2 ^ (64 * k) ^^^ 2 ^ (64 * k) * (T / 2 ^ (64 * k) % 2 ^ 64) := by
  rw [mod_step, BitVec.toNat_ofNat]
theorem div_next (T k : Nat) : T / 2 ^ (64 * (k + 1)) = T / 2 ^ (64 * k) / 2 ^ 64 := by
  rw [Nat.div_div_eq_div_mul, ← Nat.pow_add, Nat.mul_add]
end Go.G2
namespace Go.Bv
open Go Go.RowKit
set_option linter.unusedVariables false
theorem QRow.but {w w' : World} {g : Nat} {a : Option Addr} {len cap : Nat} {l : List (BitVec 64)} (h : QRow w a len cap l) (hb : But g w w') (hg : ∀ x, a = some x → 0 < len → x.block ≠ g) : QRow w' a len cap l where
  len_eq := h.len_eq
  le := h.le
  most := h.most
  room := h.room
  none := h.none
  cell := fun b off e i hi => by
    have h1 := h.cell b off e i hi
    have h2 := hb.block b (by have := h.old _ e (by omega); exact this) (hg _ e (by omega))
    unfold World.cell? at h1 ⊢
    simp only [h2]
    exact h1
  spot := h.spot
  old := fun x e h0 => Nat.lt_of_lt_of_le (h.old x e h0) hb.size
theorem QRow.far {w : World} {a : Option Addr} {len cap : Nat} {l : List (BitVec 64)} (h : QRow w a len cap l) {g : Nat} (hg : w.heap.size ≤ g) : ∀ x, a = some x → 0 < len → x.block ≠ g := fun x e h0 => by
  have := h.old x e h0
  omega
end Go.Bv
namespace Go.Proofs.Ytppmpledcaonkaa
open Go Go.RowKit Go.Bv Go.G2
set_option linter.unusedVariables false
/-- the numbers of a round -/
theorem ash_idx {wd i k M N : Nat} (hk : wd + i = k) (hN : N ≤ 1000000) (hkN : k < N) : (wd : Int) + (i : Int) = (k : Int) ∧ wrap64 (k : Int) = (k : Int) ∧ IntKind.i64.wrap (k : Int) = (k : Int) ∧ (0 : Int) ≤ (k : Int) ∧ (k : Int) < (N : Int) :=
  ⟨by omega, wrap_64 (by omega) (by omega), wrap_i64 (by omega) (by omega), by omega, by omega⟩
set_option maxRecDepth 100000 in
set_option maxHeartbeats 4000000 in
theorem ash_q (g N cap base : Nat) (b : Option Addr) (M c2 : Nat) (lm : List (BitVec 64)) (V n : Nat) (w : World) (ho : w.ownsRow base 34 1 (.slice (some ⟨g, 0, none⟩) N cap) N ((wL N V).map fun x => .int .u64 (W64 x))) (hm : QRow w b M c2 lm) (hg : ∀ x, b = some x → 0 < M → x.block ≠ g) (hN : N ≤ 100000) (hf : n / 64 + M ≤ N) (hT : vW lm * 2 ^ n < 2 ^ (64 * N)) :
    Calls Try.prog 79 #[.slice (some ⟨g, 0, none⟩) N cap, .slice b M c2, .int .i64 (n : Int)] w fun e w' => e = .returned (.tuple #[]) ∧ w'.ownsRow base 34 1 (.slice (some ⟨g, 0, none⟩) N cap) N ((wL N (V ^^^ vW lm * 2 ^ n)).map fun x => .int .u64 (W64 x)) ∧ But g w w' := by
  have hml := hm.len_eq
  obtain ⟨wd, hwd⟩ : ∃ z, n / 64 = z := ⟨_, rfl⟩
  obtain ⟨bt, hbt⟩ : ∃ z, n % 64 = z := ⟨_, rfl⟩
  have hn : n = 64 * wd + bt := by omega
  have hb64 : bt < 64 := by omega
  have hji : (n : Int) / 64 = (wd : Int) := by omega
  have hri : (n : Int) % 64 = (bt : Int) := by omega
  have hjt : (n : Int).tdiv 64 = (wd : Int) := by rw [Int.tdiv_eq_ediv_of_nonneg (by omega)]; exact hji
  have hrt : (n : Int).tmod 64 = (bt : Int) := by rw [Int.tmod_eq_emod_of_nonneg (by omega)]; exact hri
  have hn0 : (0 : Int) ≤ (n : Int) := by omega
  have hb0 : (0 : Int) ≤ (bt : Int) := by omega
  obtain ⟨sb, hsb⟩ : ∃ z, 64 - bt = z := ⟨_, rfl⟩
  have hsbi : (64 : Int) - (bt : Int) = (sb : Int) := by omega
  have hsb0 : (0 : Int) ≤ (sb : Int) := by omega
  rw [hwd] at hf
  have hwN : wd ≤ 100000 := by omega
  have hMb : M ≤ 100000 := by omega
  obtain ⟨A, hA⟩ : ∃ A : Nat → Nat, (fun i => vW (lm.take i)) = A := ⟨_, rfl⟩
  have hA0 : A 0 = 0 := by rw [← hA]; rfl
  have hAM : A M = vW lm := by rw [← hA, ← hml]; show vW (lm.take lm.length) = _; rw [List.take_length]
  have hAs : ∀ i, i < M → A (i + 1) = A i + 2 ^ (64 * i) * (lm.getD i 0).toNat := fun i hi => by rw [← hA]; exact vW_snoc lm (by omega)
  have hAl : ∀ i, A i < 2 ^ (64 * i) := fun i => by rw [← hA]; exact vW_take_lt lm i
  rw [← hAM] at hT ⊢
  have HST : Hid (∀ i, i < M → ∀ x c : BitVec 64, lm.getD i 0 = x → c.toNat = A i * 2 ^ n / 2 ^ (64 * (wd + i)) → (x >>> sb).toNat = A (i + 1) * 2 ^ n / 2 ^ (64 * (wd + (i + 1))) ∧ V ^^^ A (i + 1) * 2 ^ n % 2 ^ (64 * (wd + (i + 1))) = (V ^^^ A i * 2 ^ n % 2 ^ (64 * (wd + i))) ^^^ 2 ^ (64 * (wd + i)) * (x <<< bt ||| c).toNat) := Lib.hid (fun i hi x c hx hc => by
    obtain ⟨h1, h2, h3⟩ := ash_step x (A := A i) hn hb64 rfl (hAl i) hc
    obtain ⟨h4, h5⟩ := ash_word x c hb64 h1
    rw [hAs i hi, hx, show wd + (i + 1) = wd + i + 1 by omega, div_next, h2, mod_next, h2, h3, h5, hsb, ← h4, BitVec.toNat_ofNat, Nat.xor_assoc]
    exact ⟨rfl, rfl⟩)
  have HT := Lib.hid hT
  have HA0 := Lib.hid hA0
  have HM := Lib.hid hm
  have HGG := Lib.hid hg
  have HO := Lib.hid ho
  have HNE : Hid (wL N V = wL N (V ^^^ A 0 * 2 ^ n % 2 ^ (64 * (wd + 0)))) := Lib.hid (by rw [hA0]; simp)
  have HC0 : Hid ((0#64).toNat = A 0 * 2 ^ n / 2 ^ (64 * (wd + 0))) := Lib.hid (by rw [hA0]; simp)
  have HWN : Hid (∀ i, i < M → wd + i < N) := Lib.hid (fun i hi => by omega)
  -- what is left over at the end
  have HEND : Hid (∀ c : BitVec 64, c.toNat = A M * 2 ^ n / 2 ^ (64 * (wd + M)) → (c = 0#64 → wL N (V ^^^ A M * 2 ^ n % 2 ^ (64 * (wd + M))) = wL N (V ^^^ A M * 2 ^ n)) ∧ (c ≠ 0#64 → wd + M < N ∧ (V ^^^ A M * 2 ^ n % 2 ^ (64 * (wd + M))) ^^^ 2 ^ (64 * (wd + M)) * c.toNat = V ^^^ A M * 2 ^ n)) := Lib.hid (fun c hc => by
    obtain ⟨T, hT'⟩ : ∃ T, A M * 2 ^ n = T := ⟨_, rfl⟩
    rw [hT'] at hc hT ⊢
    constructor
    · intro h0
      rw [h0] at hc
      have : T < 2 ^ (64 * (wd + M)) := by
        rcases Nat.lt_or_ge T (2 ^ (64 * (wd + M))) with h | h
        · exact h
        · have := Nat.div_pos h (Nat.two_pow_pos _)
          rw [← hc] at this
          simp at this
      rw [Nat.mod_eq_of_lt this]
    · intro h0
      refine ⟨?_, ?_⟩
      · rcases Nat.lt_or_ge (wd + M) N with h | h
        · exact h
        · exfalso
          have h2 : T < 2 ^ (64 * (wd + M)) := Nat.lt_of_lt_of_le hT (Nat.pow_le_pow_right (by decide) (by omega))
          rw [Nat.div_eq_of_lt h2] at hc
          exact h0 (BitVec.eq_of_toNat_eq (by rw [hc]; rfl))
      · rw [Nat.xor_assoc, hc, ← bits_split _ _ _ (Nat.mod_lt _ (Nat.two_pow_pos _)), Nat.mod_add_div])
  clear hm hg ho hml hwd hbt hn hA hA0 hAM hAs hAl hT hf hsb
  have hg9 := HO.out
  go_enter Try.func79, Try.ntmps79
  go_wp2_with fail
  clear hji hri hjt hrt hn0 hg9
  go_loopw [8, 17] (fun cv iv wr => ∃ (i : Nat) (c : BitVec 64), i ≤ M ∧ iv = .int .i64 (i : Int) ∧ cv = .int .u64 (W64 c) ∧ Hid (c.toNat = A i * 2 ^ n / 2 ^ (64 * (wd + i))) ∧ wr.ownsRow base 34 1 (.slice (some ⟨g, 0, none⟩) N cap) N ((wL N (V ^^^ A i * 2 ^ n % 2 ^ (64 * (wd + i)))).map fun x => .int .u64 (W64 x)) ∧ But g w wr) (fun _ iv _ => M - (intOf iv).toNat)
  case atStart => exact ⟨0, 0#64, Nat.zero_le _, rfl, rfl, HC0, by rw [← HNE.out]; exact HO.out, But.refl _ _⟩
  case round =>
    clear HO
    obtain ⟨i, cc, hi, rfl, rfl, HC, hown, hbut⟩ := hrel
    obtain ⟨wq, hwq⟩ : ∃ z, z = wr := ⟨_, rfl⟩
    rw [← hwq] at hown hbut ⊢
    clear hwq
    by_cases hlt : (i : Int) < (M : Int)
    · have hi0 : (0 : Int) ≤ (i : Int) := by omega
      obtain ⟨b1, off, rfl, hc⟩ := (HM.out.but hbut HGG.out).addr (by omega)
      have c1 := hc i (by omega)
      clear hc
      obtain ⟨x, hx⟩ : ∃ x, lm.getD i 0 = x := ⟨_, rfl⟩
      rw [hx] at c1
      obtain ⟨hs1, hs2⟩ := HST.out i (by omega) x cc hx HC.out
      have HS1 := Lib.hid hs1
      obtain ⟨k, hk⟩ : ∃ k, wd + i = k := ⟨_, rfl⟩
      have hkN : k < N := hk ▸ HWN.out i (by omega)
      obtain ⟨ha, hb, hc, hd, he⟩ := ash_idx hk (by omega) hkN (M := M)
      rw [hk] at hs2
      rw [hk] at hown
      obtain ⟨d1, f1⟩ := ow_w64 hown (k := k) hkN
      obtain ⟨Z, hZ⟩ : ∃ Z, V ^^^ A i * 2 ^ n % 2 ^ (64 * k) = Z := ⟨_, rfl⟩
      rw [hZ] at hown d1 hs2
      obtain ⟨u, hu⟩ : ∃ u, (wL N Z).getD k 0 = u := ⟨_, rfl⟩
      rw [hu] at d1
      have HO2 : Hid (((wq.setCell ⟨g, k, none⟩ (.int .u64 (W64 (u ^^^ (x <<< bt ||| cc))))).drew).ownsRow base 34 1 (.slice (some ⟨g, 0, none⟩) N cap) N ((wL N (V ^^^ A (i + 1) * 2 ^ n % 2 ^ (64 * (wd + (i + 1))))).map fun x => .int .u64 (W64 x))) := Lib.hid (by
        rw [hs2, ← wL_xor hkN, ← wL_get hkN, hu, List.map_set]; exact ow_new (ow_set hown k _) (New.refl _).drew)
      have HB2 : Hid (But g w ((wq.setCell ⟨g, k, none⟩ (.int .u64 (W64 (u ^^^ (x <<< bt ||| cc))))).drew)) := Lib.hid ((hbut.setCell (p := ⟨g, k, none⟩) rfl _).drew)
      clear hown hbut hs1 hs2 hx hZ hu hk HC
      go_wp2_with fail
      go_region
      clear c1 d1 f1
      obtain ⟨W2, hW2⟩ : ∃ z, (wq.setCell ⟨g, k, none⟩ (.int .u64 (W64 (u ^^^ (x <<< bt ||| cc))))).drew = z := ⟨_, rfl⟩
      rw [hW2] at HO2 HB2 ⊢
      clear hW2 ha hb hc hd he
      go_wp2
      exact ⟨⟨i + 1, x >>> sb, by omega, by go_num, rfl, HS1, HO2.out, HB2.out⟩, by simp [intOf]; omega⟩
    · have hiM : i = M := by omega
      rw [hiM] at hown HC
      obtain ⟨he1, he2⟩ := HEND.out cc HC.out
      rcases hce : (cc != 0#64) with _ | _
      · have hz := of_nbne hce
        rw [he1 hz] at hown
        have HO := Lib.hid hown
        have HBT := Lib.hid hbut
        clear hown hbut he1 he2 hz hiM HC
        go_wp2
        go_end0
        exact ⟨rfl, HO.out, HBT.out⟩
      · obtain ⟨hkN, he3⟩ := he2 (of_bne hce)
        obtain ⟨k, hk⟩ : ∃ k, wd + M = k := ⟨_, rfl⟩
        rw [hk] at hkN he3 hown
        obtain ⟨ha, hb, hc, hd, he⟩ := ash_idx hk (by omega) hkN (M := M)
        obtain ⟨d1, f1⟩ := ow_w64 hown (k := k) hkN
        obtain ⟨Z, hZ⟩ : ∃ Z, V ^^^ A M * 2 ^ n % 2 ^ (64 * k) = Z := ⟨_, rfl⟩
        rw [hZ] at hown d1 he3
        obtain ⟨u, hu⟩ : ∃ u, (wL N Z).getD k 0 = u := ⟨_, rfl⟩
        rw [hu] at d1
        have HO2 : Hid ((wq.setCell ⟨g, k, none⟩ (.int .u64 (W64 (u ^^^ cc)))).ownsRow base 34 1 (.slice (some ⟨g, 0, none⟩) N cap) N ((wL N (V ^^^ A M * 2 ^ n)).map fun x => .int .u64 (W64 x))) := Lib.hid (by
          rw [← he3, ← wL_xor hkN, ← wL_get hkN, hu, List.map_set]; exact ow_set hown k _)
        have HB2 : Hid (But g w (wq.setCell ⟨g, k, none⟩ (.int .u64 (W64 (u ^^^ cc))))) := Lib.hid (hbut.setCell (p := ⟨g, k, none⟩) rfl _)
        clear hown hbut he1 he2 he3 hZ hu hk hiM HC
        go_wp2
        go_end0
        exact ⟨rfl, HO2.out, HB2.out⟩
end Go.Proofs.Ytppmpledcaonkaa
