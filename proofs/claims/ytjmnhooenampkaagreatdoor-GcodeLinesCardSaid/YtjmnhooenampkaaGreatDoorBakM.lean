/- Layer 17: what is told is read back: the mathematics. -/
import Derived.Test.YtjmnhooenampkaaGreatDoorRdsI
import Derived.Test.YtjmnhooenampkaaGreatDoorHexC
import Derived.Lib.SplitLaws
namespace Go.Proofs.YtjmnhooenampkaaGreatDoor
open Go Go.RowKit Go.Bv
set_option linter.unusedVariables false
set_option maxRecDepth 100000
theorem hv_dig (d : BitVec 64) (h : d.toNat < 16) : hv (dig d).toNat = some d.toNat := by
  have hc : d.toNat = 0 ∨ d.toNat = 1 ∨ d.toNat = 2 ∨ d.toNat = 3 ∨ d.toNat = 4 ∨ d.toNat = 5 ∨ d.toNat = 6 ∨ d.toNat = 7 ∨ d.toNat = 8 ∨ d.toNat = 9 ∨ d.toNat = 10 ∨ d.toNat = 11 ∨ d.toNat = 12 ∨ d.toNat = 13 ∨ d.toNat = 14 ∨ d.toNat = 15 := by omega
  have e : ∀ k, d.toNat = k → d = BitVec.ofNat 64 k := fun k hk => by rw [← hk]; simp
  rcases hc with h | h | h | h | h | h | h | h | h | h | h | h | h | h | h | h <;> (have := e _ h; subst this; rfl)
theorem hex_byte (x : BitVec 64) (k : Nat) (hk : k < 16) : ((hexStr x).data.toList.getD k 0).toNat = (dig (x >>> (4 * (15 - k)) &&& 15#64)).toNat := by
  unfold hexStr
  have h := hexInts_at x k hk
  have hl : k < (hexInts x).length := by rw [hexInts_len]; exact hk
  rw [List.getD_eq_getElem?_getD, List.getElem?_eq_getElem hl] at h
  rw [strOfNums_data, List.getD_eq_getElem?_getD, List.getElem?_map, List.getElem?_eq_getElem hl]
  have h2 : (hexInts x)[k] = W8 (dig (x >>> (4 * (15 - k)) &&& 15#64)) := h
  rw [h2]
  have hb := (dig (x >>> (4 * (15 - k)) &&& 15#64)).isLt
  simp only [Option.map_some, Option.getD_some, W8, Int.toNat_natCast, UInt8.toNat_ofNat']
  omega
theorem nib_step (x : BitVec 64) (j : Nat) : x >>> (4 * (j + 1)) * 16#64 + (x >>> (4 * j) &&& 15#64) = x >>> (4 * j) := by
  rw [← shr4, ← mod16]
  apply BitVec.eq_of_toNat_eq
  have := (x >>> (4 * j)).isLt
  rw [BitVec.toNat_add, BitVec.toNat_mul, BitVec.toNat_udiv, BitVec.toNat_umod]
  simp only [BitVec.toNat_ofNat, Nat.reducePow, Nat.reduceMod]
  omega
theorem uhTo_hex (x : BitVec 64) : ∀ k, k ≤ 16 → uhTo (hexStr x) k = some (x >>> (4 * (16 - k)))
  | 0, _ => by
    simp only [uhTo]
    congr 1
    apply BitVec.eq_of_getLsbD_eq; intro i hi
    rw [BitVec.getLsbD_ushiftRight, BitVec.getLsbD_of_ge x _ (by omega)]; simp
  | k + 1, h => by
    have hd := hv_dig (x >>> (4 * (15 - k)) &&& 15#64) (low15 _)
    rw [← hex_byte x k (by omega)] at hd
    rw [uhTo_go _ k _ _ (uhTo_hex x k (by omega)) hd]
    congr 1
    have := nib_step x (15 - k)
    rw [show 15 - k + 1 = 16 - k by omega] at this
    rw [show 16 - (k + 1) = 15 - k by omega]
    refine Eq.trans ?_ this
    rw [BitVec.ofNat_toNat, BitVec.setWidth_eq]
theorem unhex_hex (x : BitVec 64) : unhex (hexStr x) = some x := by
  rw [unhex, if_pos (hexStr_size x), uhTo_hex x 16 (by omega)]; simp
theorem num_byt17 (x : BitVec 64) : num (byt x) 8 = x := by
  apply BitVec.eq_of_getLsbD_eq; intro i hi
  rw [num_bit _ _ i hi, byt_bit _ _ _ (by omega), show 8 * (i / 8) + i % 8 = i by omega]
  simp; omega
theorem rd_pre17 (a b : List (BitVec 8)) (k m : Nat) (h : k + m ≤ a.length) : rd (a ++ b) k m = rd a k m := by
  unfold rd
  exact num_congr m (fun i hi => by simp [List.getD_eq_getElem?_getD, List.getElem?_append_left (show k + i < a.length by omega)])
theorem bG_pre (k : Int) (q : W4) : ∀ n j, j ≤ n → ∃ r, bG k q n = bG k q j ++ r
  | 0, j, h => ⟨[], by obtain rfl : j = 0 := by omega
                       rw [List.append_nil]⟩
  | n + 1, j, h => by
    by_cases e : j = n + 1
    · subst e; exact ⟨[], by rw [List.append_nil]⟩
    · obtain ⟨r, hr⟩ := bG_pre k q n j (by omega)
      exact ⟨r ++ bytes (wAt q n) 8, by rw [bG, hr, List.append_assoc]⟩
theorem rd_bG (k : Int) (q : W4) (n i : Nat) (h : i < n) (r : List (BitVec 8)) : rd (bG k q n ++ r) (2 + 8 * i) 8 = wAt q i := by
  obtain ⟨t, ht⟩ := bG_pre k q n (i + 1) (by omega)
  rw [ht, List.append_assoc, rd_pre17 _ _ _ _ (by rw [bG_len]; omega), bG]
  have h2 := rd_beh16 (bG k q i) (wAt q i) 8
  rw [bG_len] at h2
  rw [h2, num_byt17]
theorem form_zero {k : Int} {q : W4} (h : chkK k q = 0) : ∀ i, nK k ≤ i → i < 4 → wAt q i = 0#64 := by
  have hk := chk_ok h
  unfold chkK at h
  rw [if_neg (by rw [hk]; decide)] at h
  cases hf : formK k q
  · intro i h1 h2
    unfold formK at hf
    rcases sz_cases hk with hs | hs | hs
    · have hn : nK k = 1 := by unfold nK; rw [hs]; rfl
      rw [if_neg (by omega), if_neg (by omega)] at hf
      simp at hf
      rcases (show i = 1 ∨ i = 2 ∨ i = 3 by omega) with rfl | rfl | rfl
      · exact hf.1
      · exact hf.2.1
      · exact hf.2.2
    · have hn : nK k = 2 := by unfold nK; rw [hs]; rfl
      rw [if_neg (by omega), if_pos hs] at hf
      simp at hf
      rcases (show i = 2 ∨ i = 3 by omega) with rfl | rfl
      · exact hf.1
      · exact hf.2
    · have hn : nK k = 4 := by unfold nK; rw [hs]; rfl
      omega
  · rw [hf, if_pos rfl] at h
    exact absurd h (by decide)
/-- what is sealed is read as it was -/
theorem rd_of17 {k : Int} {q : W4} (h : chkK k q = 0) : rdE17 (seal16 (bG k q (nK k))) = 0 ∧ kd17 (seal16 (bG k q (nK k))) = k ∧ qd17 (seal16 (bG k q (nK k))) (nK k) = q := by
  have hk := chk_ok h
  obtain ⟨z1, z2, z3, z4, z5⟩ := szK_n hk
  have hl : (seal16 (bG k q (nK k))).length = 6 + 8 * nK k := by rw [seal_len, bG_len]; omega
  obtain ⟨r, hr⟩ := bG_pre k q (nK k) 0 (Nat.zero_le _)
  have h0 : (seal16 (bG k q (nK k))).getD 0 0 = 103#8 := by unfold seal16; rw [hr]; rfl
  have h1 : (seal16 (bG k q (nK k))).getD 1 0 = BitVec.ofInt 8 k := by unfold seal16; rw [hr]; rfl
  have hd : kd17 (seal16 (bG k q (nK k))) = k := by
    unfold kd17
    rw [h1]
    rcases (show k = 1 ∨ k = 2 ∨ k = 3 ∨ k = 4 ∨ k = 5 ∨ k = 6 ∨ k = 7 ∨ k = 8 by omega) with rfl | rfl | rfl | rfl | rfl | rfl | rfl | rfl <;> rfl
  have hq : qd17 (seal16 (bG k q (nK k))) (nK k) = q := by
    have hw : ∀ i, i < 4 → wd17 (seal16 (bG k q (nK k))) (nK k) i = wAt q i := fun i hi => by
      unfold wd17
      by_cases e : i < nK k
      · rw [if_pos e]; exact rd_bG k q (nK k) i e _
      · rw [if_neg e, form_zero h i (by omega) hi]
    unfold qd17
    rw [hw 0 (by omega), hw 1 (by omega), hw 2 (by omega), hw 3 (by omega)]
    rfl
  refine ⟨?_, hd, hq⟩
  unfold rdE17
  rw [hd, hq, hl, if_neg (by omega), if_neg (by rw [h0]; simp), if_neg (by rw [hk]; decide), if_neg (by omega), if_neg (by omega), if_neg (by rw [seal_ok]; decide)]
  exact h
/-- a line's parts laid one behind the other -/
def lnJ (f : List UInt8) : List (List UInt8) → List UInt8
  | [] => f
  | g :: gs => f ++ 32 :: lnJ g gs
theorem idx_no : ∀ {l : List UInt8}, (∀ b ∈ l, b ≠ 32) → Lib.index l [32] = -1
  | [], _ => rfl
  | b :: l, h => by
    have hb : b ≠ 32 := h b (List.mem_cons_self ..)
    have ih := idx_no (l := l) (fun x hx => h x (List.mem_cons_of_mem _ hx))
    unfold Lib.index
    have hp : ([32] : List UInt8).isPrefixOf (b :: l) = false := by
      have : ((32 : UInt8) == b) = false := beq_eq_false_iff_ne.2 (fun e => hb e.symm)
      simp [List.isPrefixOf, this]
    rw [hp, ih]; rfl
theorem idx_hit : ∀ {l : List UInt8} (r : List UInt8), (∀ b ∈ l, b ≠ 32) → Lib.index (l ++ 32 :: r) [32] = (l.length : Int)
  | [], r, _ => by
    unfold Lib.index
    have hp : ([32] : List UInt8).isPrefixOf (32 :: r) = true := by simp [List.isPrefixOf]
    show (if _ then _ else _) = _
    rw [hp]; rfl
  | b :: l, r, h => by
    have hb : b ≠ 32 := h b (List.mem_cons_self ..)
    have ih := idx_hit (l := l) r (fun x hx => h x (List.mem_cons_of_mem _ hx))
    show Lib.index (b :: (l ++ 32 :: r)) [32] = _
    unfold Lib.index
    have hp : ([32] : List UInt8).isPrefixOf (b :: (l ++ 32 :: r)) = false := by
      have : ((32 : UInt8) == b) = false := beq_eq_false_iff_ne.2 (fun e => hb e.symm)
      simp [List.isPrefixOf, this]
    rw [hp, ih]
    have : ((l.length : Int) == -1) = false := beq_eq_false_iff_ne.2 (by omega)
    rw [this]
    simp
theorem cnt_lnJ : ∀ (f : List UInt8) (gs : List (List UInt8)), (∀ x ∈ f :: gs, ∀ b ∈ x, b ≠ 32) → Lib.count (lnJ f gs) [32] = gs.length
  | f, [], h => Lib.count_miss (idx_no (h f (List.mem_cons_self ..)))
  | f, g :: gs, h => by
    have hi := idx_hit (l := f) (lnJ g gs) (h f (List.mem_cons_self ..))
    show Lib.count (f ++ 32 :: lnJ g gs) [32] = _
    rw [Lib.count_hit (by simp) hi]
    have e : (f ++ 32 :: lnJ g gs).drop (f.length + ([32] : List UInt8).length) = lnJ g gs := by
      rw [← List.drop_drop, List.drop_left]; rfl
    rw [e, cnt_lnJ g gs (fun x hx => h x (List.mem_cons_of_mem _ hx)), List.length_cons]
    omega
theorem spl_lnJ : ∀ (f : List UInt8) (gs : List (List UInt8)), (∀ x ∈ f :: gs, ∀ b ∈ x, b ≠ 32) → Lib.splitK [32] 0 gs.length (lnJ f gs) = f :: gs
  | f, [], h => rfl
  | f, g :: gs, h => by
    have hi := idx_hit (l := f) (lnJ g gs) (h f (List.mem_cons_self ..))
    show Lib.splitK [32] 0 (gs.length + 1) (f ++ 32 :: lnJ g gs) = _
    unfold Lib.splitK
    rw [hi]
    have hb : ((f.length : Int) == -1) = false := beq_eq_false_iff_ne.2 (by omega)
    rw [hb]
    have e : (f ++ 32 :: lnJ g gs).drop ((f.length : Int).toNat + ([32] : List UInt8).length) = lnJ g gs := by
      rw [Int.toNat_natCast, ← List.drop_drop, List.drop_left]; rfl
    have e2 : (f ++ 32 :: lnJ g gs).take ((f.length : Int).toNat + 0) = f := by rw [Int.toNat_natCast, Nat.add_zero, List.take_left]
    rw [e, e2, spl_lnJ g gs (fun x hx => h x (List.mem_cons_of_mem _ hx))]
    rfl
theorem lnJ_snoc : ∀ (f : List UInt8) (gs : List (List UInt8)) (g : List UInt8), lnJ f (gs ++ [g]) = lnJ f gs ++ 32 :: g
  | f, [], g => rfl
  | f, x :: gs, g => by
    show f ++ 32 :: lnJ x (gs ++ [g]) = (f ++ 32 :: lnJ x gs) ++ 32 :: g
    rw [lnJ_snoc x gs g, List.append_assoc]; rfl
/-- a state's words as digits -/
def hxL (q : W4) (n : Nat) : List ByteArray := (List.range n).map fun i => hexStr (wAt q i)
theorem tG_ln (k : Int) (q : W4) : ∀ n, (tG k q n).data.toList = lnJ (nmK k).data.toList ((hxL q n).map fun s => s.data.toList)
  | 0 => rfl
  | n + 1 => by
    have e : hxL q (n + 1) = hxL q n ++ [hexStr (wAt q n)] := by unfold hxL; rw [List.range_succ, List.map_append]; rfl
    rw [tG, e, List.map_append, List.map_cons, List.map_nil, lnJ_snoc, ← tG_ln k q n, ByteArray.data_append, ByteArray.data_append]
    simp
theorem hex_no (x : BitVec 64) : ∀ b ∈ (hexStr x).data.toList, b ≠ 32 := by
  intro b hb e
  obtain ⟨i, hi, he⟩ := List.mem_iff_getElem.1 hb
  have hl : (hexStr x).data.toList.length = 16 := hexStr_size x
  have hn := unhex_bad (hexStr x) i (by omega) (hexStr_size x) (by
    rw [List.getD_eq_getElem?_getD, List.getElem?_eq_getElem hi, Option.getD_some, he, e]; rfl)
  rw [unhex_hex] at hn
  cases hn
theorem nm_no (k : Int) : ∀ b ∈ (nmK k).data.toList, b ≠ 32 := by
  unfold nmK
  repeat' split
  all_goals decide
/-- the parts of a state's line -/
theorem parts_tG (k : Int) (q : W4) (n : Nat) : Lib.countB (tG k q n) ⟨#[32]⟩ = n ∧ Lib.splitB ⟨#[32]⟩ 0 n (tG k q n) = nmK k :: hxL q n := by
  have hno : ∀ x ∈ (nmK k).data.toList :: ((hxL q n).map fun s => s.data.toList), ∀ b ∈ x, b ≠ 32 := by
    intro x hx
    rcases List.mem_cons.1 hx with rfl | hx
    · exact nm_no k
    · obtain ⟨s, hs, rfl⟩ := List.mem_map.1 hx
      obtain ⟨i, _, rfl⟩ := List.mem_map.1 hs
      exact hex_no _
  have hlen : ((hxL q n).map fun s => s.data.toList).length = n := by unfold hxL; simp
  have hc := cnt_lnJ _ _ hno
  have hs := spl_lnJ _ _ hno
  rw [hlen, ← tG_ln] at hc hs
  refine ⟨hc, ?_⟩
  have h2 := Lib.splitB_data ⟨#[32]⟩ 0 n (tG k q n)
  have h3 : (Lib.splitB ⟨#[32]⟩ 0 n (tG k q n)).map (fun s => s.data.toList) = (nmK k :: hxL q n).map (fun s => s.data.toList) := h2.trans hs
  refine (List.map_inj_right ?_).1 h3
  intro a b hab
  exact ByteArray.ext (Array.toList_inj.1 hab)
end Go.Proofs.YtjmnhooenampkaaGreatDoor
