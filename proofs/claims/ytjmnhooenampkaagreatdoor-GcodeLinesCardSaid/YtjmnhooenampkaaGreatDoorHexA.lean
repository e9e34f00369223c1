/- Contracts of load.Hex. -/
import Derived.Test.YtjmnhooenampkaaGreatDoorSwap
namespace Go.Proofs.YtjmnhooenampkaaGreatDoor
open Go.RowKit Go.Bv
set_option linter.unusedVariables false
/-- the digit of a number below 16 -/
def dig (d : BitVec 64) : BitVec 8 := if d.toNat < 10 then 48#8 + d.setWidth 8 else 87#8 + d.setWidth 8
theorem low15 (y : BitVec 64) : (y &&& 15#64).toNat < 16 := by
  rw [BitVec.toNat_and]; exact Nat.lt_of_le_of_lt Nat.and_le_right (by decide)
theorem small16 (y : BitVec 64) (h : y.toNat < 16) : y = 0#64 ∨ y = 1#64 ∨ y = 2#64 ∨ y = 3#64 ∨ y = 4#64 ∨ y = 5#64 ∨ y = 6#64 ∨ y = 7#64 ∨ y = 8#64 ∨ y = 9#64 ∨ y = 10#64 ∨ y = 11#64 ∨ y = 12#64 ∨ y = 13#64 ∨ y = 14#64 ∨ y = 15#64 := by
  have hc : y.toNat = 0 ∨ y.toNat = 1 ∨ y.toNat = 2 ∨ y.toNat = 3 ∨ y.toNat = 4 ∨ y.toNat = 5 ∨ y.toNat = 6 ∨ y.toNat = 7 ∨ y.toNat = 8 ∨ y.toNat = 9 ∨ y.toNat = 10 ∨ y.toNat = 11 ∨ y.toNat = 12 ∨ y.toNat = 13 ∨ y.toNat = 14 ∨ y.toNat = 15 := by omega
  have e : ∀ k, y.toNat = k → k < 16 → y = BitVec.ofNat 64 k := fun k hk _ => by rw [← hk]; simp
  rcases hc with h | h | h | h | h | h | h | h | h | h | h | h | h | h | h | h <;> (have := e _ h (by omega); subst this; simp)
set_option maxRecDepth 100000 in
theorem digit_at (y : BitVec 64) (w : World) :
    (Instr.index 9 (.string ⟨#[48, 49, 50, 51, 52, 53, 54, 55, 56, 57, 97, 98, 99, 100, 101, 102]⟩) (.int .u64 (W64 (y &&& 15#64)))).run Tryz.prog w = .ok (.int .u8 (W8 (dig (y &&& 15#64)))) w := by
  have h := small16 _ (low15 y)
  generalize y &&& 15#64 = z at h
  rcases h with rfl | rfl | rfl | rfl | rfl | rfl | rfl | rfl | rfl | rfl | rfl | rfl | rfl | rfl | rfl | rfl <;> rfl
/-- the sixteen digits of a word, as numbers -/
def hexInts (x : BitVec 64) : List Int := (List.range 16).map fun j => W8 (dig (x >>> (4 * (15 - j)) &&& 15#64))
theorem hexInts_len (x : BitVec 64) : (hexInts x).length = 16 := by simp [hexInts]
theorem hexInts_at (x : BitVec 64) (i : Nat) (hi : i < 16) : (hexInts x).getD i 0 = W8 (dig (x >>> (4 * (15 - i)) &&& 15#64)) := by
  unfold hexInts
  rw [List.getD_eq_getElem?_getD, List.getElem?_map, List.getElem?_range hi]; rfl
def hexStr (x : BitVec 64) : ByteArray := strOfNums (hexInts x)
set_option maxHeartbeats 400000 in
theorem hex_any (x : Int) (hx : 0 ≤ x ∧ x < 18446744073709551616) (W w : World) (hg : New W w) :
    Calls Tryz.prog 29 #[.int .u64 x] w fun e w' => e = .returned (.string (hexStr (BitVec.ofInt 64 x))) ∧ New W w' := by
  obtain ⟨x, rfl⟩ := ex64 x hx
  rw [ofInt_W64]
  have hd := fun y w => digit_at y w
  go_enter Tryz.func29, Tryz.ntmps29
  go_wp2
  go_loopw [5] (fun i wr => ∃ (k : Nat) (cs : Array Value), k ≤ 16 ∧ i = .int .i64 k ∧ wr = w.alloc (.cells cs 91) ∧ Hid (cs.size = 16 ∧ ∀ j, j < 16 → cs[j]? = some (.int .u8 (W8 (if 16 - k ≤ j then dig (x >>> (4 * (15 - j)) &&& 15#64) else 0#8))))) (fun i _ => 16 - (intOf i).toNat)
  case atStart => exact ⟨0, _, by omega, rfl, rfl, Lib.hid ⟨rfl, by intro j hj; have hc : j = 0 ∨ j = 1 ∨ j = 2 ∨ j = 3 ∨ j = 4 ∨ j = 5 ∨ j = 6 ∨ j = 7 ∨ j = 8 ∨ j = 9 ∨ j = 10 ∨ j = 11 ∨ j = 12 ∨ j = 13 ∨ j = 14 ∨ j = 15 := by omega
                                                                    rcases hc with rfl | rfl | rfl | rfl | rfl | rfl | rfl | rfl | rfl | rfl | rfl | rfl | rfl | rfl | rfl | rfl <;> rfl⟩⟩
  case round =>
    obtain ⟨k, cs, hk, rfl, rfl, H⟩ := hrel
    by_cases hlt : (k : Int) < 16
    · have hcell : (w.alloc (.cells cs 91)).cell? ⟨w.heap.size, 15 - k, none⟩ = some (.int .u8 (W8 (if 16 - k ≤ 15 - k then dig (x >>> (4 * (15 - (15 - k))) &&& 15#64) else 0#8))) := by
        rw [World.cell?_alloc_new]; exact H.out.2 (15 - k) (by omega)
      have hk16 : k < 16 := by omega
      go_wp2
      refine ⟨⟨k + 1, _, by omega, by go_num, rfl, Lib.hid ⟨by rw [Array.size_setIfInBounds]; exact H.out.1, ?_⟩⟩, by simp [intOf]; omega⟩
      intro j hj
      have hs := H.out.1
      rw [Array.getElem?_setIfInBounds]
      by_cases e : 15 - k = j
      · subst e
        rw [if_pos rfl, if_pos (by omega), if_pos (by omega)]
        refine congrArg (fun d => some (Value.int .u8 (W8 (dig (x >>> d &&& 15#64))))) ?_
        omega
      · rw [if_neg e, H.out.2 j hj]
        refine congrArg (fun d => some (Value.int .u8 (W8 d))) ?_
        by_cases e2 : 16 - k ≤ j
        · rw [if_pos e2, if_pos (by omega)]
        · rw [if_neg e2, if_neg (by omega)]
    · obtain rfl : k = 16 := by omega
      have hconv := run_convert_bytes_arg (P := Tryz.prog) (w.alloc (.cells cs 91)) 22 5 Tryz.underlying22 Tryz.underlying5 w.heap.size 0 16 16 (hexInts x) (hexInts_len x)
        (by intro i hi
            rw [World.cell?_alloc_new, Nat.zero_add, H.out.2 i hi, if_pos (by omega), hexInts_at x i hi]) 9 Tryz.underlying9
      go_wp2
      go_ret
      exact ⟨rfl, hg.alloc _⟩
end Go.Proofs.YtjmnhooenampkaaGreatDoor
