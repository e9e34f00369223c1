/- Layer 32: start, a block. -/
import Derived.Test.YtfeeecmcaakpkaaBlkX
import Derived.Test.YtfeeecmcaakpkaaTurn
import Derived.Test.YtfeeecmcaakpkaaGro3
import Derived.Test.YtfeeecmcaakpkaaLoadB
import Derived.Defers
import Derived.Recover
import Derived.Laws.Pointers
import Derived.Handy
import Derived.Laws.EntriesVeiled
import Derived.LoopN
namespace Go.Proofs.Ytfeeecmcaakpkaa
open Go.RowKit Go.Bv
set_option linter.unusedVariables false
def rnd32 (v k : BitVec 32) : BitVec 32 := (v + k * 2246822519#32).rotateLeft 13 * 2654435761#32
/-- a block -/
def stp32 (s : BitVec 32 × BitVec 32 × BitVec 32 × BitVec 32) (l : List (BitVec 8)) : BitVec 32 × BitVec 32 × BitVec 32 × BitVec 32 :=
  (rnd32 s.1 ((rd l 0 4).setWidth 32), rnd32 s.2.1 ((rd l 4 4).setWidth 32), rnd32 s.2.2.1 ((rd l 8 4).setWidth 32), rnd32 s.2.2.2 ((rd l 12 4).setWidth 32))
def start32 (sd : BitVec 32) : BitVec 32 × BitVec 32 × BitVec 32 × BitVec 32 := (sd + 2654435761#32 + 2246822519#32, sd + 2246822519#32, sd, sd - 2654435761#32)
def wst32 (h : BitVec 32) (l : List (BitVec 8)) : BitVec 32 := (h + (rd l 0 4).setWidth 32 * 3266489917#32).rotateLeft 17 * 668265263#32
def byt32 (h : BitVec 32) (c : BitVec 8) : BitVec 32 := (h + c.setWidth 32 * 374761393#32).rotateLeft 11 * 2654435761#32
def rest32 (h : BitVec 32) (l : List (BitVec 8)) : BitVec 32 := (bTail 4 l).foldl byt32 (bState 4 wst32 h l)
def mixa32 (h : BitVec 32) : BitVec 32 := (h ^^^ h >>> 15) * 2246822519#32
def mixb32 (h : BitVec 32) : BitVec 32 := (h ^^^ h >>> 13) * 3266489917#32
def last32 (h : BitVec 32) : BitVec 32 := mixb32 (mixa32 h) ^^^ mixb32 (mixa32 h) >>> 16
def sum32 (s : BitVec 32 × BitVec 32 × BitVec 32 × BitVec 32) : BitVec 32 := s.1.rotateLeft 1 + s.2.1.rotateLeft 7 + s.2.2.1.rotateLeft 12 + s.2.2.2.rotateLeft 18
def base32 (s : BitVec 32 × BitVec 32 × BitVec 32 × BitVec 32) (sd : BitVec 32) (lg : BitVec 64) : BitVec 32 := if 16 ≤ lg.toNat then sum32 s else sd + 374761393#32
def endr32 (sd : BitVec 32) (s : BitVec 32 × BitVec 32 × BitVec 32 × BitVec 32) (tl : List (BitVec 8)) (lg : BitVec 64) : BitVec 32 := last32 (rest32 (base32 s sd lg + lg.setWidth 32) tl)
def end32 (s : BitVec 32 × BitVec 32 × BitVec 32 × BitVec 32) (tl : List (BitVec 8)) (lg : BitVec 64) : BitVec 32 := endr32 s.2.2.1 s tl lg
/-- the hash -/
def hash32 (sd : BitVec 32) (l : List (BitVec 8)) : BitVec 32 := end32 (bState 16 stp32 (start32 sd) l) (bTail 16 l) (BitVec.ofNat 64 l.length)
theorem hash32_doc (sd : BitVec 32) (l : List (BitVec 8)) (h : l.length < 18446744073709551616) : hash32 sd l = endr32 sd (bState 16 stp32 (start32 sd) l) (bTail 16 l) (BitVec.ofNat 64 l.length) := by
  unfold hash32 end32 endr32 base32
  by_cases h16 : 16 ≤ (BitVec.ofNat 64 l.length).toNat
  · rw [if_pos h16, if_pos h16]
  · rw [if_neg h16, if_neg h16]
    rw [BitVec.toNat_ofNat, Nat.mod_eq_of_lt h] at h16
    rw [bState_short 16 stp32 (start32 sd) l (by omega)]
    rfl
theorem div_shift (h : BitVec 32) (k : Nat) (p : BitVec 32) (hp : p.toNat = 2 ^ k) : h / p = h >>> k := by
  apply BitVec.eq_of_toNat_eq
  rw [BitVec.toNat_udiv, BitVec.toNat_ushiftRight, hp, Nat.shiftRight_eq_div_pow]
theorem foldl_take {α β : Type} (f : α → β → α) (x : α) (l : List β) (d : β) (k : Nat) (h : k < l.length) : (l.take (k + 1)).foldl f x = f ((l.take k).foldl f x) (l.getD k d) := by
  rw [List.take_succ_eq_append_getElem h, List.foldl_append]
  simp [List.getD_eq_getElem?_getD, List.getElem?_eq_getElem h]
theorem rot32_n (y : BitVec 32) (n : Nat) (hn : n < 32) (w : World) : Calls Try.prog 71 #[.int .u32 (W32 y), .int .i64 n] w fun e w' => e = .returned (.int .u32 (W32 (y.rotateLeft n))) ∧ w' = w := by
  have h := rot32_any (W32 y) (b32 _) n w
  rw [ofInt_W32, show ((n : Int) % 32).toNat = n by omega] at h
  exact h
theorem rot32r_n (y : BitVec 32) (n : Nat) (hn : n < 32) (w : World) : Calls Try.prog 73 #[.int .u32 (W32 y), .int .i64 n] w fun e w' => e = .returned (.int .u32 (W32 (y.rotateLeft n))) ∧ w' = w := by
  have h := rot32_ref (W32 y) (b32 _) n (by omega) w
  rw [ofInt_W32, show ((n : Int) % 32).toNat = n by omega] at h
  exact h
theorem start_32 (sd : BitVec 32) (w : World) : Calls Try.prog 35 #[.int .u32 (W32 sd)] w fun e w' => e = .returned (.agg #[.int .u32 (W32 ((start32 sd).1)), .int .u32 (W32 ((start32 sd).2.1)), .int .u32 (W32 ((start32 sd).2.2.1)), .int .u32 (W32 ((start32 sd).2.2.2))]) ∧ New w w' := by
  unfold start32
  go_enter Try.func35, Try.ntmps35
  go_wp2
  go_returns
  exact ⟨rfl, (New.refl w).alloc _⟩
set_option maxRecDepth 100000 in
set_option maxHeartbeats 2000000 in
theorem step_32 (s : BitVec 32 × BitVec 32 × BitVec 32 × BitVec 32) (a : Option Addr) (cap : Nat) (l : List (BitVec 8)) (w : World) (h : BRow w a 16 cap l) :
    Calls Try.prog 36 #[.agg #[.int .u32 (W32 (s.1)), .int .u32 (W32 (s.2.1)), .int .u32 (W32 (s.2.2.1)), .int .u32 (W32 (s.2.2.2))], .slice a 16 cap] w fun e w' => e = .returned (.agg #[.int .u32 (W32 ((stp32 s l).1)), .int .u32 (W32 ((stp32 s l).2.1)), .int .u32 (W32 ((stp32 s l).2.2.1)), .int .u32 (W32 ((stp32 s l).2.2.2))]) ∧ New w w' := by
  obtain ⟨s0, s1, s2, s3⟩ := s
  obtain ⟨b, off, rfl, _⟩ := h.addr (by omega)
  unfold stp32 rnd32
  simp only
  have HL0 := Lib.hid (fun w' (hn : New w w') => le32_yes b off 16 cap 0 l w' (h.stay hn) (by omega))
  obtain ⟨k0, hk⟩ : ∃ z, (rd l 0 4).setWidth 32 = z := ⟨_, rfl⟩
  rw [hk] at HL0
  rw [hk]
  clear hk
  have HR0 := Lib.hid (rot32_n (s0 + k0 * 2246822519#32) 13 (by decide))
  obtain ⟨r0, hr⟩ : ∃ z, (s0 + k0 * 2246822519#32).rotateLeft 13 = z := ⟨_, rfl⟩
  rw [hr] at HR0
  rw [hr]
  clear hr
  obtain ⟨v0, hv⟩ : ∃ z, r0 * 2654435761#32 = z := ⟨_, rfl⟩
  have HV0 := Lib.hid hv
  rw [hv]
  clear hv
  have HL1 := Lib.hid (fun w' (hn : New w w') => le32_yes b off 16 cap 4 l w' (h.stay hn) (by omega))
  obtain ⟨k1, hk⟩ : ∃ z, (rd l 4 4).setWidth 32 = z := ⟨_, rfl⟩
  rw [hk] at HL1
  rw [hk]
  clear hk
  have HR1 := Lib.hid (rot32_n (s1 + k1 * 2246822519#32) 13 (by decide))
  obtain ⟨r1, hr⟩ : ∃ z, (s1 + k1 * 2246822519#32).rotateLeft 13 = z := ⟨_, rfl⟩
  rw [hr] at HR1
  rw [hr]
  clear hr
  obtain ⟨v1, hv⟩ : ∃ z, r1 * 2654435761#32 = z := ⟨_, rfl⟩
  have HV1 := Lib.hid hv
  rw [hv]
  clear hv
  have HL2 := Lib.hid (fun w' (hn : New w w') => le32_yes b off 16 cap 8 l w' (h.stay hn) (by omega))
  obtain ⟨k2, hk⟩ : ∃ z, (rd l 8 4).setWidth 32 = z := ⟨_, rfl⟩
  rw [hk] at HL2
  rw [hk]
  clear hk
  have HR2 := Lib.hid (rot32_n (s2 + k2 * 2246822519#32) 13 (by decide))
  obtain ⟨r2, hr⟩ : ∃ z, (s2 + k2 * 2246822519#32).rotateLeft 13 = z := ⟨_, rfl⟩
  rw [hr] at HR2
  rw [hr]
  clear hr
  obtain ⟨v2, hv⟩ : ∃ z, r2 * 2654435761#32 = z := ⟨_, rfl⟩
  have HV2 := Lib.hid hv
  rw [hv]
  clear hv
  have HL3 := Lib.hid (fun w' (hn : New w w') => le32_yes b off 16 cap 12 l w' (h.stay hn) (by omega))
  obtain ⟨k3, hk⟩ : ∃ z, (rd l 12 4).setWidth 32 = z := ⟨_, rfl⟩
  rw [hk] at HL3
  rw [hk]
  clear hk
  have HR3 := Lib.hid (rot32_n (s3 + k3 * 2246822519#32) 13 (by decide))
  obtain ⟨r3, hr⟩ : ∃ z, (s3 + k3 * 2246822519#32).rotateLeft 13 = z := ⟨_, rfl⟩
  rw [hr] at HR3
  rw [hr]
  clear hr
  obtain ⟨v3, hv⟩ : ∃ z, r3 * 2654435761#32 = z := ⟨_, rfl⟩
  have HV3 := Lib.hid hv
  rw [hv]
  clear hv
  clear h
  have HZ := Lib.hid (two_blocks w (.cells #[.int .u32 (W32 s0), .int .u32 (W32 s1), .int .u32 (W32 s2), .int .u32 (W32 s3)] 56) (.cells #[.int .u32 0, .int .u32 0, .int .u32 0, .int .u32 0] 56))
  have HA := Lib.hid HZ.out.1
  have HO := Lib.hid HZ.out.2.1
  have HN := Lib.hid HZ.out.2.2
  clear HZ
  go_enter Try.func36, Try.ntmps36
  go_wp2_with fail
  refine wp_loop_rounds 5 ?_
  generalize (w.alloc (.cells #[.int .u32 (W32 s0), .int .u32 (W32 s1), .int .u32 (W32 s2), .int .u32 (W32 s3)] 56)).alloc (.cells #[.int .u32 0, .int .u32 0, .int .u32 0, .int .u32 0] 56) = w0 at *
  rw [rounds_succ]
  go_wp2_with fail
  refine (HL0.out _ HN.out).mono ?_
  rintro e w9 ⟨rfl, hw9⟩
  replace hw9 := hw9.symm
  subst hw9
  have c0 := cell_of_row _ _ 0 _ _ _ HA.out
  have cf := fun i => frozen_of_row _ _ i _ _ HA.out
  go_wp2_with fail
  refine (HR0.out _).mono ?_
  rintro e w9 ⟨rfl, hw9⟩
  replace hw9 := hw9.symm
  subst hw9
  have hv := HV0.out
  go_wp2_with fail
  clear hv c0 cf
  have h0 := heap_setCell_same w0 w.heap.size 0 _ _ (.int .u32 (W32 v0)) HA.out
  have h1 := heap_setCell_other w0 ⟨w.heap.size, 0, none⟩ (w.heap.size + 1) (.int .u32 (W32 v0)) (by show w.heap.size + 1 ≠ w.heap.size; omega)
  have h2 := HN.out.setCell (p := ⟨w.heap.size, 0, none⟩) (Nat.le_refl _) (.int .u32 (W32 v0))
  replace HO := Lib.hid (h1.trans HO.out)
  clear HA HN h1
  generalize hw : World.setCell w0 ⟨w.heap.size, 0, none⟩ (.int .u32 (W32 v0)) = w1 at *
  have HA := Lib.hid (show w1.heap[w.heap.size]? = some (.cells #[.int .u32 (W32 v0), .int .u32 (W32 s1), .int .u32 (W32 s2), .int .u32 (W32 s3)] 56 (0, 0)) from h0)
  have HN := Lib.hid h2
  clear h0 h2 hw HL0 HR0 HV0
  rw [rounds_succ]
  go_wp2_with fail
  refine (HL1.out _ HN.out).mono ?_
  rintro e w9 ⟨rfl, hw9⟩
  replace hw9 := hw9.symm
  subst hw9
  have c1 := cell_of_row _ _ 1 _ _ _ HA.out
  have cf := fun i => frozen_of_row _ _ i _ _ HA.out
  go_wp2_with fail
  refine (HR1.out _).mono ?_
  rintro e w9 ⟨rfl, hw9⟩
  replace hw9 := hw9.symm
  subst hw9
  have hv := HV1.out
  go_wp2_with fail
  clear hv c1 cf
  have h0 := heap_setCell_same w1 w.heap.size 1 _ _ (.int .u32 (W32 v1)) HA.out
  have h1 := heap_setCell_other w1 ⟨w.heap.size, 1, none⟩ (w.heap.size + 1) (.int .u32 (W32 v1)) (by show w.heap.size + 1 ≠ w.heap.size; omega)
  have h2 := HN.out.setCell (p := ⟨w.heap.size, 1, none⟩) (Nat.le_refl _) (.int .u32 (W32 v1))
  replace HO := Lib.hid (h1.trans HO.out)
  clear HA HN h1
  generalize hw : World.setCell w1 ⟨w.heap.size, 1, none⟩ (.int .u32 (W32 v1)) = w2 at *
  have HA := Lib.hid (show w2.heap[w.heap.size]? = some (.cells #[.int .u32 (W32 v0), .int .u32 (W32 v1), .int .u32 (W32 s2), .int .u32 (W32 s3)] 56 (0, 0)) from h0)
  have HN := Lib.hid h2
  clear h0 h2 hw HL1 HR1 HV1
  rw [rounds_succ]
  go_wp2_with fail
  refine (HL2.out _ HN.out).mono ?_
  rintro e w9 ⟨rfl, hw9⟩
  replace hw9 := hw9.symm
  subst hw9
  have c2 := cell_of_row _ _ 2 _ _ _ HA.out
  have cf := fun i => frozen_of_row _ _ i _ _ HA.out
  go_wp2_with fail
  refine (HR2.out _).mono ?_
  rintro e w9 ⟨rfl, hw9⟩
  replace hw9 := hw9.symm
  subst hw9
  have hv := HV2.out
  go_wp2_with fail
  clear hv c2 cf
  have h0 := heap_setCell_same w2 w.heap.size 2 _ _ (.int .u32 (W32 v2)) HA.out
  have h1 := heap_setCell_other w2 ⟨w.heap.size, 2, none⟩ (w.heap.size + 1) (.int .u32 (W32 v2)) (by show w.heap.size + 1 ≠ w.heap.size; omega)
  have h2 := HN.out.setCell (p := ⟨w.heap.size, 2, none⟩) (Nat.le_refl _) (.int .u32 (W32 v2))
  replace HO := Lib.hid (h1.trans HO.out)
  clear HA HN h1
  generalize hw : World.setCell w2 ⟨w.heap.size, 2, none⟩ (.int .u32 (W32 v2)) = w3 at *
  have HA := Lib.hid (show w3.heap[w.heap.size]? = some (.cells #[.int .u32 (W32 v0), .int .u32 (W32 v1), .int .u32 (W32 v2), .int .u32 (W32 s3)] 56 (0, 0)) from h0)
  have HN := Lib.hid h2
  clear h0 h2 hw HL2 HR2 HV2
  rw [rounds_succ]
  go_wp2_with fail
  refine (HL3.out _ HN.out).mono ?_
  rintro e w9 ⟨rfl, hw9⟩
  replace hw9 := hw9.symm
  subst hw9
  have c3 := cell_of_row _ _ 3 _ _ _ HA.out
  have cf := fun i => frozen_of_row _ _ i _ _ HA.out
  go_wp2_with fail
  refine (HR3.out _).mono ?_
  rintro e w9 ⟨rfl, hw9⟩
  replace hw9 := hw9.symm
  subst hw9
  have hv := HV3.out
  go_wp2_with fail
  clear hv c3 cf
  have h0 := heap_setCell_same w3 w.heap.size 3 _ _ (.int .u32 (W32 v3)) HA.out
  have h1 := heap_setCell_other w3 ⟨w.heap.size, 3, none⟩ (w.heap.size + 1) (.int .u32 (W32 v3)) (by show w.heap.size + 1 ≠ w.heap.size; omega)
  have h2 := HN.out.setCell (p := ⟨w.heap.size, 3, none⟩) (Nat.le_refl _) (.int .u32 (W32 v3))
  replace HO := Lib.hid (h1.trans HO.out)
  clear HA HN h1
  generalize hw : World.setCell w3 ⟨w.heap.size, 3, none⟩ (.int .u32 (W32 v3)) = w4 at *
  have HA := Lib.hid (show w4.heap[w.heap.size]? = some (.cells #[.int .u32 (W32 v0), .int .u32 (W32 v1), .int .u32 (W32 v2), .int .u32 (W32 v3)] 56 (0, 0)) from h0)
  have HN := Lib.hid h2
  clear h0 h2 hw HL3 HR3 HV3
  rw [rounds_succ]
  have z0 := cell_of_row _ _ 0 _ _ _ HO.out
  have z1 := cell_of_row _ _ 1 _ _ _ HO.out
  have z2 := cell_of_row _ _ 2 _ _ _ HO.out
  have z3 := cell_of_row _ _ 3 _ _ _ HO.out
  have c0 := cell_of_row _ _ 0 _ _ _ HA.out
  have c1 := cell_of_row _ _ 1 _ _ _ HA.out
  have c2 := cell_of_row _ _ 2 _ _ _ HA.out
  have c3 := cell_of_row _ _ 3 _ _ _ HA.out
  have zf := fun i => frozen_of_row _ _ i _ _ HO.out
  go_wp2
  refine bodyPost_ret (by simp [results, Try.results36, go_sem, z0, z1, z2, z3]; try rfl) rfl ?_
  exact ⟨rfl, ((((HN.out.setCell (by show w.heap.size ≤ w.heap.size + 1; omega) _).setCell (by show w.heap.size ≤ w.heap.size + 1; omega) _).setCell (by show w.heap.size ≤ w.heap.size + 1; omega) _).setCell (by show w.heap.size ≤ w.heap.size + 1; omega) _)⟩
end Go.Proofs.Ytfeeecmcaakpkaa
