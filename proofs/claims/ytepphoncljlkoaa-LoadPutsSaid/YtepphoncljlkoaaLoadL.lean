/- For every words, numbers and strings: words are turned, and their bytes are reversed, as the document says; digits are written and read back: the walks of the statements LoadTurns and LoadHexes. -/
import Derived.Test.YtepphoncljlkoaaHexC
import Derived.Test.YtepphoncljlkoaaLoadB
namespace Go.Proofs.Ytepphoncljlkoaa
open Go.RowKit Go.Bv
set_option linter.unusedVariables false
theorem hv_dig (d : BitVec 64) (h : d.toNat < 16) : hv (dig d).toNat = some d.toNat := by
  have hc : d.toNat = 0 ∨ d.toNat = 1 ∨ d.toNat = 2 ∨ d.toNat = 3 ∨ d.toNat = 4 ∨ d.toNat = 5 ∨ d.toNat = 6 ∨ d.toNat = 7 ∨ d.toNat = 8 ∨ d.toNat = 9 ∨ d.toNat = 10 ∨ d.toNat = 11 ∨ d.toNat = 12 ∨ d.toNat = 13 ∨ d.toNat = 14 ∨ d.toNat = 15 := by omega
  have e : ∀ k, d.toNat = k → d = BitVec.ofNat 64 k := fun k hk => by rw [← hk]; simp
  rcases hc with h | h | h | h | h | h | h | h | h | h | h | h | h | h | h | h <;> (have := e _ h; subst this; rfl)
theorem hex_byte (x : BitVec 64) (k : Nat) (hk : k < 16) : ((hexStr x).data.toList.getD k 0).toNat = (dig (x >>> (4 * (15 - k)) &&& 15#64)).toNat := by
  unfold hexStr
  have h := hexInts_at x k hk
  have hl : k < (hexInts x).length := by rw [hexInts_len]; exact hk
  rw [List.getD_eq_getElem?_getD, List.getElem?_eq_getElem hl] at h
  rw [strOfNums_data, List.getD_eq_getElem?_getD, List.getElem?_map, List.getElem?_eq_getElem hl]
  have h2 : (hexInts x)[k] = W8 (dig (x >>> (4 * (15 - k)) &&& 15#64)) := h
  rw [h2]
  have hb := (dig (x >>> (4 * (15 - k)) &&& 15#64)).isLt
  simp only [Option.map_some, Option.getD_some, W8, Int.toNat_natCast, UInt8.toNat_ofNat']
  omega
theorem hexStr_size (x : BitVec 64) : (hexStr x).size = 16 := by unfold hexStr; rw [strOfNums_size, hexInts_len]
theorem nib_step (x : BitVec 64) (j : Nat) : x >>> (4 * (j + 1)) * 16#64 + (x >>> (4 * j) &&& 15#64) = x >>> (4 * j) := by
  rw [← shr4, ← mod16]
  apply BitVec.eq_of_toNat_eq
  have := (x >>> (4 * j)).isLt
  rw [BitVec.toNat_add, BitVec.toNat_mul, BitVec.toNat_udiv, BitVec.toNat_umod]
  simp only [BitVec.toNat_ofNat, Nat.reducePow, Nat.reduceMod]
  omega
theorem uhTo_hex (x : BitVec 64) : ∀ k, k ≤ 16 → uhTo (hexStr x) k = some (x >>> (4 * (16 - k)))
  | 0, _ => by
    simp only [uhTo]
    congr 1
    apply BitVec.eq_of_getLsbD_eq; intro i hi
    rw [BitVec.getLsbD_ushiftRight, BitVec.getLsbD_of_ge x _ (by omega)]; simp
  | k + 1, h => by
    have hd := hv_dig (x >>> (4 * (15 - k)) &&& 15#64) (low15 _)
    rw [← hex_byte x k (by omega)] at hd
    rw [uhTo_go _ k _ _ (uhTo_hex x k (by omega)) hd]
    congr 1
    have := nib_step x (15 - k)
    rw [show 15 - k + 1 = 16 - k by omega] at this
    rw [show 16 - (k + 1) = 15 - k by omega]
    refine Eq.trans ?_ this
    rw [BitVec.ofNat_toNat, BitVec.setWidth_eq]
theorem unhex_hex (x : BitVec 64) : unhex (hexStr x) = some x := by
  rw [unhex, if_pos (hexStr_size x), uhTo_hex x 16 (by omega)]; simp
set_option maxHeartbeats 400000 in
theorem awake02 (W w : World) (hg : New W w) :
    Calls Try.prog 42 #[] w fun e w' => e = .returned (.bool true) ∧ New W w' := by
  have h3 : ((hexStr 10#64).toList == [48, 48, 48, 48, 48, 48, 48, 48, 48, 48, 48, 48, 48, 48, 48, 97]) = true := by decide +kernel
  go_enter Try.func42, Try.ntmps42
  go_wp2_with fail
  refine (tail_2 w.heap.size 0 2 1#8 2#8 _ (by rw [World.cell?_alloc_new]; rfl) (by rw [World.cell?_alloc_new]; rfl)).mono ?_
  rintro e w' ⟨rfl, rfl⟩
  go_wp2_with fail
  refine (rot32_any _ (by omega) _ _).mono ?_
  rintro e w' ⟨rfl, rfl⟩
  have h4 : ((BitVec.ofInt 32 1).rotateLeft ((-1 : Int) % 32).toNat == 2147483648#32) = true := by decide
  have h5 : ((1#32).rotateLeft ((-1 : Int) % 32).toNat == 2147483648#32) = true := by decide
  have h6 : ((1#32).rotateLeft 31 == 2147483648#32) = true := by decide
  go_wp2_with fail
  refine (hex_any _ (by omega) _ _ (hg.alloc _)).mono ?_
  rintro e w' ⟨rfl, hg⟩
  go_wp2_with fail
  go_ret
  exact ⟨rfl, hg⟩
theorem rot_back64 (x : BitVec 64) (n : Int) : (x.rotateLeft (n % 64).toNat).rotateLeft ((64 - n % 64) % 64).toNat = x := by
  have h1 := Int.emod_lt_of_pos n (show (0:Int) < 64 by omega)
  have h2 := Int.emod_nonneg n (show (64:Int) ≠ 0 by omega)
  by_cases h : n % 64 = 0
  · rw [h]; exact (congrArg (fun y : BitVec 64 => y.rotateLeft 0) (rot_zero x)).trans (rot_zero x)
  · rw [show ((64 - n % 64) % 64).toNat = 64 - (n % 64).toNat by omega]
    exact rot_back x _ (by omega)
set_option maxHeartbeats 1000000 in
theorem LoadTurns_walk (a0 : Int) (a1 : Int) (a2 : Int) (w0 : (Lit.int .u64 a0).wf = true) (w1 : (Lit.int .u32 a1).wf = true) (w2 : (Lit.int .i64 a2).wf = true) (w : World) :
    Calls Try.prog 9 #[.int .u64 a0, .int .u32 a1, .int .i64 a2] w fun e w' => e = .returned (.bool true) ∧ Below w.heap.size w w' := by
  obtain ⟨x, rfl⟩ := wf64 w0
  obtain ⟨y, rfl⟩ := wf32 w1
  have hn := wfi64 w2
  have h1 := Int.emod_lt_of_pos a2 (show (0:Int) < 64 by omega)
  have h2 := Int.emod_nonneg a2 (show (64:Int) ≠ 0 by omega)
  have h3 : ((x.rotateLeft (a2 % 64).toNat).rotateLeft (-(a2 % 64) % 64).toNat == x) = true := by
    rw [beq_iff_eq, show -(a2 % 64) % 64 = (64 - a2 % 64) % 64 by omega]; exact rot_back64 x a2
  have h4 : (rev8 (rev8 x) == x) = true := by rw [beq_iff_eq]; exact rev8_rev8 x
  have hg := New.refl w
  go_enter Try.func9, Try.ntmps9
  go_wp2_with (first | (go_at_call 42; refine (awake02 _ _ hg).mono ?_; clear hg; rintro e w' ⟨rfl, hg⟩) | (go_at_call 53; refine (rot64_any _ (b64 _) _ _).mono ?_; rintro e w' ⟨rfl, rfl⟩) | (go_at_call 54; refine (rot64_ref _ (b64 _) _ (by omega) _).mono ?_; rintro e w' ⟨rfl, rfl⟩) | (go_at_call 55; refine (rot32_any _ (b32 _) _ _).mono ?_; rintro e w' ⟨rfl, rfl⟩) | (go_at_call 56; refine (rot32_ref _ (b32 _) _ (by omega) _).mono ?_; rintro e w' ⟨rfl, rfl⟩) | (go_at_call 57; refine (left_any _ _ (by omega) (by omega) _).mono ?_; rintro e w' ⟨rfl, rfl⟩) | (go_at_call 58; refine (swap_any _ (b64 _) _).mono ?_; rintro e w' ⟨rfl, rfl⟩) | (go_at_call 59; refine (swap_ref _ (b64 _) _).mono ?_; rintro e w' ⟨rfl, rfl⟩))
  go_ret
  exact ⟨rfl, hg⟩
set_option maxHeartbeats 1000000 in
theorem LoadHexes_walk (a0 : Int) (a1 : ByteArray) (w0 : (Lit.int .u64 a0).wf = true) (w1 : a1.size ≤ maxLen) (w : World) :
    Calls Try.prog 10 #[.int .u64 a0, .string a1] w fun e w' => e = .returned (.bool true) ∧ Below w.heap.size w w' := by
  obtain ⟨x, rfl⟩ := wf64 w0
  have hs : a1.size ≤ 9223372036854775807 := w1
  have h1 := unhex_hex x
  have h2 := hexStr_size x
  have hg := New.refl w
  go_enter Try.func10, Try.ntmps10
  go_wp2_with (first | (go_at_call 42; refine (awake02 _ _ hg).mono ?_; clear hg; rintro e w' ⟨rfl, hg⟩) | (go_at_call 61; refine (hex_any _ (b64 _) _ _ hg).mono ?_; clear hg; rintro e w' ⟨rfl, hg⟩) | (go_at_call 63; refine (hex_ref _ (b64 _) _ _ hg).mono ?_; clear hg; rintro e w' ⟨rfl, hg⟩) | (go_at_call 60; refine (unhex_any _ (by omega) _).mono ?_; rintro e w' ⟨rfl, rfl⟩) | (go_at_call 62; refine (unhex_ref _ (by omega) _).mono ?_; rintro e w' ⟨rfl, rfl⟩))
  go_ret
  exact ⟨rfl, hg⟩
end Go.Proofs.Ytepphoncljlkoaa
