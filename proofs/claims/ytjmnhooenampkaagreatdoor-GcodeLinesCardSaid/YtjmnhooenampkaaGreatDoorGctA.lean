/- Layer 17: states as bytes and as lines of text. -/
import Derived.Test.YtjmnhooenampkaaGreatDoorGsF
import Derived.Test.YtjmnhooenampkaaGreatDoorSeaB
import Derived.Test.YtjmnhooenampkaaGreatDoorHexB
import Derived.Laws.OwnMore
namespace Go.Proofs.YtjmnhooenampkaaGreatDoor
open Go.RowKit Go.Bv
set_option linter.unusedVariables false
/-- a state's words -/
def wAt (q : W4) (i : Nat) : BitVec 64 := if i = 0 then q.a else if i = 1 then q.b else if i = 2 then q.c else q.d
/-- the mark, the kind and so many words, as bytes -/
def bG (k : Int) (q : W4) : Nat → List (BitVec 8)
  | 0 => [103#8, BitVec.ofInt 8 k]
  | n + 1 => bG k q n ++ bytes (wAt q n) 8
theorem bG_len (k : Int) (q : W4) (n : Nat) : (bG k q n).length = 2 + 8 * n := by
  induction n with
  | zero => rfl
  | succ n ih => rw [bG, List.length_append, ih, bytes_len]; omega
/-- the name and so many words, as text -/
def tG (k : Int) (q : W4) : Nat → ByteArray
  | 0 => nmK k
  | n + 1 => tG k q n ++ (⟨#[32]⟩ ++ hexStr (wAt q n))
theorem hexStr_size (x : BitVec 64) : (hexStr x).size = 16 := by unfold hexStr; rw [strOfNums_size, hexInts_len]
theorem nmK_size (k : Int) : (nmK k).size ≤ 6 := by
  unfold nmK
  repeat' split
  all_goals decide
theorem tG_size (k : Int) (q : W4) (n : Nat) : (tG k q n).size ≤ 6 + 17 * n := by
  induction n with
  | zero => exact nmK_size k
  | succ n ih =>
    rw [tG, ByteArray.size_append, ByteArray.size_append, hexStr_size]
    have e : (⟨#[32]⟩ : ByteArray).size = 1 := rfl
    omega
/-- how many words a kind has -/
def nK (k : Int) : Nat := (szK k).toNat
theorem szK_n {k : Int} (h : okK k = true) : szK k = (nK k : Int) ∧ 1 ≤ nK k ∧ nK k ≤ 4 ∧ 1 ≤ k ∧ k ≤ 8 := by
  unfold okK at h
  simp at h
  rcases (show k = 1 ∨ k = 2 ∨ k = 3 ∨ k = 4 ∨ k = 5 ∨ k = 6 ∨ k = 7 ∨ k = 8 by omega) with rfl | rfl | rfl | rfl | rfl | rfl | rfl | rfl <;> exact ⟨rfl, by decide, by decide, by omega, by omega⟩
theorem chk_ok {k : Int} {q : W4} (h : chkK k q = 0) : okK k = true := by
  cases e : okK k
  · unfold chkK at h
    rw [e] at h
    simp at h
  · rfl
theorem ok_row (k : Int) (q : W4) (T : TypeId) (w0 w' : World) (b : Nat) (h : w0.heap[b]? = some (.cells (stc k q) T (0, 0))) (hn : New w0 w') (i : Nat) (hi : i < 4) : w'.cell? ⟨b, 1 + i, none⟩ = some (.int .u64 (W64 (wAt q i))) := by
  have hb := (hn.block _ (lt_of_block h)).trans h
  have c1 := cell_of_row _ _ 1 _ _ _ hb
  have c2 := cell_of_row _ _ 2 _ _ _ hb
  have c3 := cell_of_row _ _ 3 _ _ _ hb
  have c4 := cell_of_row _ _ 4 _ _ _ hb
  rcases (show i = 0 ∨ i = 1 ∨ i = 2 ∨ i = 3 by omega) with rfl | rfl | rfl | rfl
  · exact c1
  · exact c2
  · exact c3
  · exact c4
theorem w64_rng (x : BitVec 64) : 0 ≤ W64 x ∧ W64 x < 18446744073709551616 := by unfold W64; have := x.isLt; omega
theorem two_row (k : Int) (w : World) : BRow (w.alloc (.cells #[.int .u8 103, .int .u8 (W8 (BitVec.ofInt 8 k))] 5)) (some ⟨w.heap.size, 0, none⟩) 2 2 [103#8, BitVec.ofInt 8 k] :=
  let ⟨a, c, e, h⟩ := BRow.of_owns (l := [103#8, BitVec.ofInt 8 k]) (World.ownsRow_lit (base := w.heap.size) (e := 5) (size := 1) w #[.int .u8 103, .int .u8 (W8 (BitVec.ofInt 8 k))] 2 (Nat.le_refl _) (by decide) rfl) (by omega)
  by cases e; exact h
set_option maxRecDepth 100000 in
set_option maxHeartbeats 4000000 in
theorem marshal_no (k : Int) (q : W4) (w : World) (hc : ¬ chkK k q = 0) : Calls Tryz.prog 9 #[.agg (stc k q)] w fun e w' => e = .returned (.tuple #[.slice none 0 0, .int .i64 (chkK k q)]) ∧ New w w' := by
  have HC := Lib.hid (fun w => check_any k q w)
  have hcb : (chkK k q != 0) = true := by rw [bne_iff_ne]; exact hc
  clear hc
  go_enter Tryz.func9, Tryz.ntmps9
  go_wp2_with fail
  refine (HC.out _).mono ?_
  rintro e w9 ⟨rfl, hn⟩
  have HN := Lib.hid (((New.refl w).alloc (.cells (stc k q) 27)).trans hn)
  clear hn HC
  go_wp2
  go_ret2
  exact ⟨rfl, HN.out⟩
set_option maxRecDepth 100000 in
set_option maxHeartbeats 4000000 in
theorem marshal_yes (k : Int) (q : W4) (w : World) (hc : chkK k q = 0) : Calls Tryz.prog 9 #[.agg (stc k q)] w fun e w' => (∃ a c, e = .returned (.tuple #[.slice a (6 + 8 * nK k : Nat) c, .int .i64 0]) ∧ BRow w' a (6 + 8 * nK k) c (seal16 (bG k q (nK k)))) ∧ New w w' := by
  have HC := Lib.hid (fun w => check_any k q w)
  rw [hc] at HC
  obtain ⟨hs, h1, h4, hk1, hk8⟩ := szK_n (chk_ok hc)
  have HS := Lib.hid (fun w => size_any k w)
  rw [hs] at HS
  have HR := Lib.hid (two_row k)
  have HW8 : Hid (W8 (BitVec.ofInt 8 k) = k) := Lib.hid (by unfold W8; rw [BitVec.toNat_ofInt]; omega)
  clear hs hc
  generalize nK k = n at *
  generalize hW : w.alloc (.cells (stc k q) 27) = w0
  have HB : Hid (w0.heap[w.heap.size]? = some (.cells (stc k q) 27 (0, 0))) := Lib.hid (by rw [← hW]; exact heap_alloc_new w _)
  have HN : Hid (New w w0) := Lib.hid (by rw [← hW]; exact (New.refl w).alloc _)
  have HCL := Lib.hid (fun (w' : World) (hn : New w0 w') (i : Nat) (hi : i < 4) => ok_row k q _ w0 w' w.heap.size HB.out hn i hi)
  go_enter Tryz.func9, Tryz.ntmps9
  have c0 := cell_of_row _ _ 0 _ _ _ HB.out
  have c1 := cell_of_row _ _ 1 _ _ _ HB.out
  have c2 := cell_of_row _ _ 2 _ _ _ HB.out
  have c3 := cell_of_row _ _ 3 _ _ _ HB.out
  have c4 := cell_of_row _ _ 4 _ _ _ HB.out
  go_wp2_with fail
  refine (HC.out _).mono ?_
  rintro e w1 ⟨rfl, hn1⟩
  have hb1 := (hn1.block _ (lt_of_block HB.out)).trans HB.out
  have HN1 := Lib.hid hn1
  clear hn1 c0 c1 c2 c3 c4 HC
  have d0 := cell_of_row _ _ 0 _ _ _ hb1
  have d0' := cell_of_row _ _ 0 _ _ _ (((New.refl w1).alloc (.cells #[.int .u8 103, .int .u8 k] 5)).block _ (lt_of_block hb1) |>.trans hb1)
  clear hb1
  have HBR : Hid (BRow (w1.alloc (.cells #[.int .u8 103, .int .u8 k] 5)) (some ⟨w1.heap.size, 0, none⟩) 2 2 (bG k q 0)) := Lib.hid (by
    have h := HR.out w1
    rw [HW8.out] at h
    exact h)
  have hw8 := HW8.out
  go_wp2_with fail
  refine (HS.out _).mono ?_
  rintro e w2 ⟨rfl, hn2⟩
  replace HN1 := Lib.hid ((HN1.out.alloc (.cells #[.int .u8 103, .int .u8 k] 5)).trans hn2)
  replace HBR := Lib.hid (HBR.out.stay hn2)
  clear hn2 hw8 HW8 HR HS d0 d0'
  have e1 : ¬ (n : Int) < 0 := by omega
  have e2 : ¬ 4 < (n : Int) := by omega
  go_wp2_with fail
  go_loopw [5, 23] (fun b c wr => ∃ (i : Nat) (a : Option Addr) (cp : Nat), i ≤ n ∧ c = .int .i64 (i : Int) ∧ b = .slice a (2 + 8 * i : Nat) cp ∧ Hid (BRow wr a (2 + 8 * i) cp (bG k q i)) ∧ Hid (New w0 wr)) (fun _ c _ => (n : Nat) - (intOf c).toNat)
  case atStart => exact ⟨0, _, _, Nat.zero_le _, rfl, rfl, HBR, HN1⟩
  case round =>
    obtain ⟨i, a, cp, hi, rfl, rfl, HBI, HNI⟩ := hrel
    by_cases hlt : (i : Int) < (n : Int)
    · have ci := HCL.out wr HNI.out i (by omega)
      have HP := Lib.hid (put64_any a (2 + 8 * i) cp (bG k q i) (W64 (wAt q i)) (w64_rng _) wr wr HBI.out (by omega) (New.refl _))
      have hkw : wrap64 ((i : Int) + 1) = (i : Int) + 1 := by unfold wrap64; omega
      rw [ofInt_W64] at HP
      have HI2 : Hid (i + 1 ≤ n) := Lib.hid (by omega)
      clear e1 e2 hlt hi
      go_wp2_with fail
      refine HP.out.mono ?_
      rintro e w9 ⟨a', cp', rfl, hr, hn9, _⟩
      have HRR : Hid (BRow w9 a' (2 + 8 * (i + 1)) cp' (bG k q (i + 1))) := Lib.hid (by
        rw [show 2 + 8 * (i + 1) = 2 + 8 * i + 8 by omega]; exact hr)
      have HNN := Lib.hid (HNI.out.trans hn9)
      have HE : Hid (2 + 8 * i + 8 = 2 + 8 * (i + 1)) := Lib.hid (by omega)
      clear hr hn9 HP
      go_wp2
      exact ⟨⟨i + 1, a', cp', HI2.out, by rw [Int.natCast_add]; rfl, by rw [HE.out], HRR, HNN⟩, by have := HI2.out; simp [intOf]; omega⟩
    · obtain rfl : i = n := by omega
      have HQ := Lib.hid (seal_16 a (2 + 8 * i) cp (bG k q i) wr HBI.out (by omega))
      have HE : Hid (2 + 8 * i + 4 = 6 + 8 * i) := Lib.hid (by omega)
      clear e1 e2 hlt hi
      go_wp2_with fail
      refine HQ.out.mono ?_
      rintro e w9 ⟨a', cp', rfl, hr, hn9⟩
      have HRR := Lib.hid hr
      have HNN := Lib.hid (HN.out.trans (HNI.out.trans hn9))
      clear hr hn9 HQ
      go_wp2
      go_ret2
      refine ⟨⟨a', cp', ?_, ?_⟩, HNN.out⟩
      · rw [← HE.out]; rfl
      · rw [← HE.out]; exact HRR.out
set_option maxRecDepth 100000 in
set_option maxHeartbeats 4000000 in
theorem line_no (k : Int) (q : W4) (w : World) (hc : ¬ chkK k q = 0) : Calls Tryz.prog 13 #[.agg (stc k q)] w fun e w' => e = .returned (.string ⟨#[]⟩) ∧ New w w' := by
  have HC := Lib.hid (fun w => check_any k q w)
  have hcb : (chkK k q != 0) = true := by rw [bne_iff_ne]; exact hc
  clear hc
  go_enter Tryz.func13, Tryz.ntmps13
  go_wp2_with fail
  refine (HC.out _).mono ?_
  rintro e w9 ⟨rfl, hn⟩
  have HN := Lib.hid (((New.refl w).alloc (.cells (stc k q) 27)).trans hn)
  clear hn HC
  go_wp2
  go_ret
  exact ⟨rfl, HN.out⟩
set_option maxRecDepth 100000 in
set_option maxHeartbeats 4000000 in
theorem line_yes (k : Int) (q : W4) (w : World) (hc : chkK k q = 0) : Calls Tryz.prog 13 #[.agg (stc k q)] w fun e w' => e = .returned (.string (tG k q (nK k))) ∧ New w w' := by
  have HC := Lib.hid (fun w => check_any k q w)
  rw [hc] at HC
  obtain ⟨hs, h1, h4, hk1, hk8⟩ := szK_n (chk_ok hc)
  have HS := Lib.hid (fun w => size_any k w)
  rw [hs] at HS
  have HNM := Lib.hid (fun w => name_any k w)
  clear hs hc
  generalize nK k = n at *
  generalize hW : w.alloc (.cells (stc k q) 27) = w0
  have HB : Hid (w0.heap[w.heap.size]? = some (.cells (stc k q) 27 (0, 0))) := Lib.hid (by rw [← hW]; exact heap_alloc_new w _)
  have HN : Hid (New w w0) := Lib.hid (by rw [← hW]; exact (New.refl w).alloc _)
  have HCL := Lib.hid (fun (w' : World) (hn : New w0 w') (i : Nat) (hi : i < 4) => ok_row k q _ w0 w' w.heap.size HB.out hn i hi)
  have HC0 := Lib.hid (fun (w' : World) (hn : New w0 w') => cell_of_row _ _ 0 _ _ _ ((hn.block _ (lt_of_block HB.out)).trans HB.out))
  go_enter Tryz.func13, Tryz.ntmps13
  have c0 := cell_of_row _ _ 0 _ _ _ HB.out
  have c1 := cell_of_row _ _ 1 _ _ _ HB.out
  have c2 := cell_of_row _ _ 2 _ _ _ HB.out
  have c3 := cell_of_row _ _ 3 _ _ _ HB.out
  have c4 := cell_of_row _ _ 4 _ _ _ HB.out
  go_wp2_with fail
  refine (HC.out _).mono ?_
  rintro e w1 ⟨rfl, hn1⟩
  have HN1 := Lib.hid hn1
  clear hn1 c0 c1 c2 c3 c4 HC
  have d0 := HC0.out w1 HN1.out
  go_wp2_with fail
  refine (HNM.out _).mono ?_
  rintro e w2 ⟨rfl, hn2⟩
  replace HN1 := Lib.hid (HN1.out.trans hn2)
  clear d0 hn2 HNM
  have d0 := HC0.out w2 HN1.out
  go_wp2_with fail
  refine (HS.out _).mono ?_
  rintro e w3 ⟨rfl, hn3⟩
  replace HN1 := Lib.hid (HN1.out.trans hn3)
  clear d0 hn3 HS
  have e1 : ¬ (n : Int) < 0 := by omega
  have e2 : ¬ 4 < (n : Int) := by omega
  go_wp2_with fail
  go_loopw [3, 18] (fun b c wr => ∃ i : Nat, i ≤ n ∧ c = .int .i64 (i : Int) ∧ b = .string (tG k q i) ∧ Hid (New w0 wr)) (fun _ c _ => (n : Nat) - (intOf c).toNat)
  case atStart => exact ⟨0, Nat.zero_le _, rfl, rfl, HN1⟩
  case round =>
    obtain ⟨i, hi, rfl, rfl, HNI⟩ := hrel
    by_cases hlt : (i : Int) < (n : Int)
    · have ci := HCL.out wr HNI.out i (by omega)
      have HP := Lib.hid (hex_any (W64 (wAt q i)) (w64_rng _) wr wr (New.refl _))
      have hkw : wrap64 ((i : Int) + 1) = (i : Int) + 1 := by unfold wrap64; omega
      rw [ofInt_W64] at HP
      have HI2 : Hid (i + 1 ≤ n) := Lib.hid (by omega)
      have hs1 : ¬ 9223372036854775807 < (⟨#[32]⟩ : ByteArray).size + (hexStr (wAt q i)).size := by
        rw [hexStr_size]
        have e : (⟨#[32]⟩ : ByteArray).size = 1 := rfl
        omega
      have hs2 : ¬ 9223372036854775807 < (tG k q i).size + ((⟨#[32]⟩ : ByteArray) ++ hexStr (wAt q i)).size := by
        have := tG_size k q i
        rw [ByteArray.size_append, hexStr_size]
        have e : (⟨#[32]⟩ : ByteArray).size = 1 := rfl
        omega
      clear e1 e2 hlt hi
      go_wp2_with fail
      refine HP.out.mono ?_
      rintro e w9 ⟨rfl, hn9⟩
      have HNN := Lib.hid (HNI.out.trans hn9)
      clear hn9 HP
      go_wp2
      exact ⟨⟨i + 1, HI2.out, by rw [Int.natCast_add]; rfl, by rw [tG], HNN⟩, by have := HI2.out; simp [intOf]; omega⟩
    · obtain rfl : i = n := by omega
      clear e1 e2 hlt hi
      go_wp2
      go_ret
      exact ⟨rfl, HN.out.trans HNI.out⟩
end Go.Proofs.YtjmnhooenampkaaGreatDoor
