/- Layer 33: start, a block. -/
import Derived.Test.YtfeeecmcaakpkaaBlkX
import Derived.Test.YtfeeecmcaakpkaaTurn
import Derived.Test.YtfeeecmcaakpkaaGro3
import Derived.Test.YtfeeecmcaakpkaaLoadB
import Derived.Defers
import Derived.Recover
import Derived.Laws.Pointers
import Derived.Handy
import Derived.Laws.EntriesVeiled
import Derived.LoopN
namespace Go.Proofs.Ytfeeecmcaakpkaa
open Go.RowKit Go.Bv
set_option linter.unusedVariables false
def rnd33 (v k : BitVec 64) : BitVec 64 := (v + k * 14029467366897019727#64).rotateLeft 31 * 11400714785074694791#64
/-- a block -/
def stp33 (s : BitVec 64 × BitVec 64 × BitVec 64 × BitVec 64) (l : List (BitVec 8)) : BitVec 64 × BitVec 64 × BitVec 64 × BitVec 64 := (rnd33 s.1 (rd l 0 8), rnd33 s.2.1 (rd l 8 8), rnd33 s.2.2.1 (rd l 16 8), rnd33 s.2.2.2 (rd l 24 8))
def start33 (sd : BitVec 64) : BitVec 64 × BitVec 64 × BitVec 64 × BitVec 64 := (sd + 11400714785074694791#64 + 14029467366897019727#64, sd + 14029467366897019727#64, sd, sd - 11400714785074694791#64)
def w8_33 (h k : BitVec 64) : BitVec 64 := (h ^^^ rnd33 0#64 k).rotateLeft 27 * 11400714785074694791#64 + 9650029242287828579#64
def w4_33 (h k : BitVec 64) : BitVec 64 := (h ^^^ k * 11400714785074694791#64).rotateLeft 23 * 14029467366897019727#64 + 1609587929392839161#64
def byt33 (h : BitVec 64) (c : BitVec 8) : BitVec 64 := (h ^^^ c.setWidth 64 * 2870177450012600261#64).rotateLeft 11 * 11400714785074694791#64
def small33 (h : BitVec 64) (l : List (BitVec 8)) : BitVec 64 := if 4 ≤ l.length then (l.drop 4).foldl byt33 (w4_33 h (rd l 0 4)) else l.foldl byt33 h
def rest33 (h : BitVec 64) (l : List (BitVec 8)) : BitVec 64 := small33 (bState 8 (fun h l => w8_33 h (rd l 0 8)) h l) (bTail 8 l)
def mixa33 (h : BitVec 64) : BitVec 64 := (h ^^^ h >>> 33) * 14029467366897019727#64
def mixb33 (h : BitVec 64) : BitVec 64 := (h ^^^ h >>> 29) * 1609587929392839161#64
def last33 (h : BitVec 64) : BitVec 64 := mixb33 (mixa33 h) ^^^ mixb33 (mixa33 h) >>> 32
def mrg33 (h v : BitVec 64) : BitVec 64 := (h ^^^ rnd33 0#64 v) * 11400714785074694791#64 + 9650029242287828579#64
def sum33 (s : BitVec 64 × BitVec 64 × BitVec 64 × BitVec 64) : BitVec 64 := s.1.rotateLeft 1 + s.2.1.rotateLeft 7 + s.2.2.1.rotateLeft 12 + s.2.2.2.rotateLeft 18
def all33 (s : BitVec 64 × BitVec 64 × BitVec 64 × BitVec 64) : BitVec 64 := mrg33 (mrg33 (mrg33 (mrg33 (sum33 s) s.1) s.2.1) s.2.2.1) s.2.2.2
def base33 (s : BitVec 64 × BitVec 64 × BitVec 64 × BitVec 64) (sd : BitVec 64) (lg : BitVec 64) : BitVec 64 := if 32 ≤ lg.toNat then all33 s else sd + 2870177450012600261#64
def endr33 (sd : BitVec 64) (s : BitVec 64 × BitVec 64 × BitVec 64 × BitVec 64) (tl : List (BitVec 8)) (lg : BitVec 64) : BitVec 64 := last33 (rest33 (base33 s sd lg + lg) tl)
def end33 (s : BitVec 64 × BitVec 64 × BitVec 64 × BitVec 64) (tl : List (BitVec 8)) (lg : BitVec 64) : BitVec 64 := endr33 s.2.2.1 s tl lg
/-- the hash -/
def hash33 (sd : BitVec 64) (l : List (BitVec 8)) : BitVec 64 := end33 (bState 32 stp33 (start33 sd) l) (bTail 32 l) (BitVec.ofNat 64 l.length)
theorem hash33_doc (sd : BitVec 64) (l : List (BitVec 8)) (h : l.length < 18446744073709551616) : hash33 sd l = endr33 sd (bState 32 stp33 (start33 sd) l) (bTail 32 l) (BitVec.ofNat 64 l.length) := by
  unfold hash33 end33 endr33 base33
  by_cases h16 : 32 ≤ (BitVec.ofNat 64 l.length).toNat
  · rw [if_pos h16, if_pos h16]
  · rw [if_neg h16, if_neg h16]
    rw [BitVec.toNat_ofNat, Nat.mod_eq_of_lt h] at h16
    rw [bState_short 32 stp33 (start33 sd) l (by omega)]
    rfl
theorem div_shift64 (h : BitVec 64) (k : Nat) (p : BitVec 64) (hp : p.toNat = 2 ^ k) : h / p = h >>> k := by
  apply BitVec.eq_of_toNat_eq
  rw [BitVec.toNat_udiv, BitVec.toNat_ushiftRight, hp, Nat.shiftRight_eq_div_pow]
theorem foldl_take33 {α β : Type} (f : α → β → α) (x : α) (l : List β) (d : β) (k : Nat) (h : k < l.length) : (l.take (k + 1)).foldl f x = f ((l.take k).foldl f x) (l.getD k d) := by
  rw [List.take_succ_eq_append_getElem h, List.foldl_append]
  simp [List.getD_eq_getElem?_getD, List.getElem?_eq_getElem h]
theorem rd_take33 (l : List (BitVec 8)) (n k m : Nat) (h : k + m ≤ n) : rd (l.take n) k m = rd l k m := by
  unfold rd
  exact num_congr m (fun i hi => by simp [List.getD_eq_getElem?_getD, show k + i < n by omega])
theorem rest33_8 (h : BitVec 64) (l : List (BitVec 8)) (hl : 8 ≤ l.length) : rest33 h l = rest33 (w8_33 h (rd l 0 8)) (l.drop 8) := by
  conv => lhs; unfold rest33
  rw [bState_step 8 (by decide) _ h l hl, bTail_step 8 (by decide) l hl, rd_take33 l 8 0 8 (by omega)]
  rfl
theorem rest33_s (h : BitVec 64) (l : List (BitVec 8)) (hl : l.length < 8) : rest33 h l = small33 h l := by
  unfold rest33
  rw [bState_short 8 _ h l hl, bTail_short 8 l hl]
theorem rest33_b (h : BitVec 64) (l : List (BitVec 8)) (hl : l.length < 4) : rest33 h l = l.foldl byt33 h := by
  rw [rest33_s h l (by omega)]
  unfold small33
  rw [if_neg (by omega)]
theorem rest33_4 (h : BitVec 64) (l : List (BitVec 8)) (hl : l.length < 8) (h4 : 4 ≤ l.length) : rest33 h l = rest33 (w4_33 h (rd l 0 4)) (l.drop 4) := by
  rw [rest33_s h l hl, rest33_b _ _ (by rw [List.length_drop]; omega)]
  unfold small33
  rw [if_pos h4]
theorem rest33_1 (h : BitVec 64) (l : List (BitVec 8)) (hl : l.length < 4) (h1 : 0 < l.length) : rest33 h l = rest33 (byt33 h (l.getD 0 0)) (l.drop 1) := by
  rw [rest33_b h l hl, rest33_b _ _ (by rw [List.length_drop]; omega)]
  cases l with
  | nil => simp at h1
  | cons b t => simp
def lenOf33 : Value → Nat
  | .slice _ n _ => n
  | _ => 0
theorem rot64_n (y : BitVec 64) (n : Nat) (hn : n < 64) (w : World) : Calls Try.prog 80 #[.int .u64 (W64 y), .int .i64 n] w fun e w' => e = .returned (.int .u64 (W64 (y.rotateLeft n))) ∧ w' = w := by
  have h := rot64_any (W64 y) (b64 _) n w
  rw [ofInt_W64, show ((n : Int) % 64).toNat = n by omega] at h
  exact h
theorem rot64r_n (y : BitVec 64) (n : Nat) (hn : n < 64) (w : World) : Calls Try.prog 83 #[.int .u64 (W64 y), .int .i64 n] w fun e w' => e = .returned (.int .u64 (W64 (y.rotateLeft n))) ∧ w' = w := by
  have h := rot64_ref (W64 y) (b64 _) n (by omega) w
  rw [ofInt_W64, show ((n : Int) % 64).toNat = n by omega] at h
  exact h
theorem round_33 (v k : BitVec 64) (w : World) : Calls Try.prog 78 #[.int .u64 (W64 v), .int .u64 (W64 k)] w fun e w' => e = .returned (.int .u64 (W64 (rnd33 v k))) ∧ w' = w := by
  have HR := Lib.hid (rot64_n (v + k * 14029467366897019727#64) 31 (by decide))
  unfold rnd33
  go_enter Try.func78, Try.ntmps78
  go_wp2_with fail
  refine (HR.out _).mono ?_
  rintro e w' ⟨rfl, rfl⟩
  go_wp2
  go_ret
  exact ⟨rfl, rfl⟩
theorem roundr_33 (v k : BitVec 64) (w : World) : Calls Try.prog 84 #[.int .u64 (W64 v), .int .u64 (W64 k)] w fun e w' => e = .returned (.int .u64 (W64 (rnd33 v k))) ∧ w' = w := by
  have HR := Lib.hid (rot64r_n (v + k * 14029467366897019727#64) 31 (by decide))
  unfold rnd33
  go_enter Try.func84, Try.ntmps84
  go_wp2_with fail
  refine (HR.out _).mono ?_
  rintro e w' ⟨rfl, rfl⟩
  go_wp2
  go_ret
  exact ⟨rfl, rfl⟩
theorem alone_33 (k : BitVec 64) (w : World) : Calls Try.prog 81 #[.int .u64 (W64 k)] w fun e w' => e = .returned (.int .u64 (W64 (rnd33 0#64 k))) ∧ w' = w := by
  have hmf : ∀ (fn : Fn) (first cap : Array Value) (w : World), (Instr.makeFunc fn first cap).run Try.prog w = .ok (.func fn first cap) w := fun _ _ _ _ => rfl
  have HR := Lib.hid (round_33 0#64 k)
  rw [show W64 0#64 = 0 by decide] at HR
  obtain ⟨rr, hr⟩ : ∃ z, rnd33 0#64 k = z := ⟨_, rfl⟩
  rw [hr] at HR
  rw [hr]
  clear hr
  go_enter Try.func81, Try.ntmps81
  go_wp2_with fail
  refine (HR.out _).mono ?_
  rintro e w' ⟨rfl, rfl⟩
  go_wp2
  go_ret
  exact ⟨rfl, rfl⟩
theorem start_33 (sd : BitVec 64) (w : World) : Calls Try.prog 52 #[.int .u64 (W64 sd)] w fun e w' => e = .returned (.agg #[.int .u64 (W64 ((start33 sd).1)), .int .u64 (W64 ((start33 sd).2.1)), .int .u64 (W64 ((start33 sd).2.2.1)), .int .u64 (W64 ((start33 sd).2.2.2))]) ∧ New w w' := by
  unfold start33
  go_enter Try.func52, Try.ntmps52
  go_wp2
  go_returns
  exact ⟨rfl, (New.refl w).alloc _⟩
theorem three_all33 (w : World) (A B C : Obj) : (((w.alloc A).alloc B).alloc C).heap[w.heap.size]? = some A ∧ (((w.alloc A).alloc B).alloc C).heap[w.heap.size + 1]? = some B ∧ (((w.alloc A).alloc B).alloc C).heap[w.heap.size + 1 + 1]? = some C ∧ New w (((w.alloc A).alloc B).alloc C) := by
  have h := two_blocks w A B
  have e2 : ((w.alloc A).alloc B).heap.size = w.heap.size + 1 + 1 := by simp
  refine ⟨?_, ?_, ?_, h.2.2.alloc _⟩
  · rw [((New.refl ((w.alloc A).alloc B)).alloc C).block _ (by rw [e2]; omega)]; exact h.1
  · rw [((New.refl ((w.alloc A).alloc B)).alloc C).block _ (by rw [e2]; omega)]; exact h.2.1
  · rw [← e2]; exact heap_alloc_new _ _
set_option maxRecDepth 100000 in
set_option maxHeartbeats 2000000 in
theorem step_33 (s : BitVec 64 × BitVec 64 × BitVec 64 × BitVec 64) (a : Option Addr) (cap : Nat) (l : List (BitVec 8)) (w : World) (h : BRow w a 32 cap l) :
    Calls Try.prog 53 #[.agg #[.int .u64 (W64 (s.1)), .int .u64 (W64 (s.2.1)), .int .u64 (W64 (s.2.2.1)), .int .u64 (W64 (s.2.2.2))], .slice a 32 cap] w fun e w' => e = .returned (.agg #[.int .u64 (W64 ((stp33 s l).1)), .int .u64 (W64 ((stp33 s l).2.1)), .int .u64 (W64 ((stp33 s l).2.2.1)), .int .u64 (W64 ((stp33 s l).2.2.2))]) ∧ New w w' := by
  have hmf : ∀ (fn : Fn) (first cap : Array Value) (w : World), (Instr.makeFunc fn first cap).run Try.prog w = .ok (.func fn first cap) w := fun _ _ _ _ => rfl
  obtain ⟨s0, s1, s2, s3⟩ := s
  obtain ⟨b, off, rfl, _⟩ := h.addr (by omega)
  unfold stp33
  simp only
  have HL0 := Lib.hid (fun w' (hn : New w w') => le64_yes b off 32 cap 0 l w' (h.stay hn) (by omega))
  obtain ⟨k0, hk⟩ : ∃ z, rd l 0 8 = z := ⟨_, rfl⟩
  rw [hk] at HL0
  rw [hk]
  clear hk
  have HR0 := Lib.hid (round_33 s0 k0)
  obtain ⟨v0, hr⟩ : ∃ z, rnd33 s0 k0 = z := ⟨_, rfl⟩
  rw [hr] at HR0
  rw [hr]
  clear hr
  have HL1 := Lib.hid (fun w' (hn : New w w') => le64_yes b off 32 cap 8 l w' (h.stay hn) (by omega))
  obtain ⟨k1, hk⟩ : ∃ z, rd l 8 8 = z := ⟨_, rfl⟩
  rw [hk] at HL1
  rw [hk]
  clear hk
  have HR1 := Lib.hid (round_33 s1 k1)
  obtain ⟨v1, hr⟩ : ∃ z, rnd33 s1 k1 = z := ⟨_, rfl⟩
  rw [hr] at HR1
  rw [hr]
  clear hr
  have HL2 := Lib.hid (fun w' (hn : New w w') => le64_yes b off 32 cap 16 l w' (h.stay hn) (by omega))
  obtain ⟨k2, hk⟩ : ∃ z, rd l 16 8 = z := ⟨_, rfl⟩
  rw [hk] at HL2
  rw [hk]
  clear hk
  have HR2 := Lib.hid (round_33 s2 k2)
  obtain ⟨v2, hr⟩ : ∃ z, rnd33 s2 k2 = z := ⟨_, rfl⟩
  rw [hr] at HR2
  rw [hr]
  clear hr
  have HL3 := Lib.hid (fun w' (hn : New w w') => le64_yes b off 32 cap 24 l w' (h.stay hn) (by omega))
  obtain ⟨k3, hk⟩ : ∃ z, rd l 24 8 = z := ⟨_, rfl⟩
  rw [hk] at HL3
  rw [hk]
  clear hk
  have HR3 := Lib.hid (round_33 s3 k3)
  obtain ⟨v3, hr⟩ : ∃ z, rnd33 s3 k3 = z := ⟨_, rfl⟩
  rw [hr] at HR3
  rw [hr]
  clear hr
  clear h
  have HZ := Lib.hid (three_all33 w (.cells #[.int .u64 (W64 s0), .int .u64 (W64 s1), .int .u64 (W64 s2), .int .u64 (W64 s3)] 76) (.cells #[.int .u64 0, .int .u64 0, .int .u64 0, .int .u64 0] 76) (.cells #[.func (Fn.func 78) #[.int .u64 (W64 s0)] #[], .func (Fn.func 78) #[.int .u64 (W64 s1)] #[], .func (Fn.func 78) #[.int .u64 (W64 s2)] #[], .func (Fn.func 78) #[.int .u64 (W64 s3)] #[]] 102))
  have HA := Lib.hid HZ.out.1
  have HO := Lib.hid HZ.out.2.1
  have HN := Lib.hid HZ.out.2.2.2
  clear HZ
  have ix0 : ∀ w, (Instr.index 102 (.agg #[.func (Fn.func 78) #[.int .u64 (W64 s0)] #[], .func (Fn.func 78) #[.int .u64 (W64 s1)] #[], .func (Fn.func 78) #[.int .u64 (W64 s2)] #[], .func (Fn.func 78) #[.int .u64 (W64 s3)] #[]]) (.int .i64 0)).run Try.prog w = .ok (.func (Fn.func 78) #[.int .u64 (W64 s0)] #[]) w := fun _ => rfl
  have ix1 : ∀ w, (Instr.index 102 (.agg #[.func (Fn.func 78) #[.int .u64 (W64 s0)] #[], .func (Fn.func 78) #[.int .u64 (W64 s1)] #[], .func (Fn.func 78) #[.int .u64 (W64 s2)] #[], .func (Fn.func 78) #[.int .u64 (W64 s3)] #[]]) (.int .i64 1)).run Try.prog w = .ok (.func (Fn.func 78) #[.int .u64 (W64 s1)] #[]) w := fun _ => rfl
  have ix2 : ∀ w, (Instr.index 102 (.agg #[.func (Fn.func 78) #[.int .u64 (W64 s0)] #[], .func (Fn.func 78) #[.int .u64 (W64 s1)] #[], .func (Fn.func 78) #[.int .u64 (W64 s2)] #[], .func (Fn.func 78) #[.int .u64 (W64 s3)] #[]]) (.int .i64 2)).run Try.prog w = .ok (.func (Fn.func 78) #[.int .u64 (W64 s2)] #[]) w := fun _ => rfl
  have ix3 : ∀ w, (Instr.index 102 (.agg #[.func (Fn.func 78) #[.int .u64 (W64 s0)] #[], .func (Fn.func 78) #[.int .u64 (W64 s1)] #[], .func (Fn.func 78) #[.int .u64 (W64 s2)] #[], .func (Fn.func 78) #[.int .u64 (W64 s3)] #[]]) (.int .i64 3)).run Try.prog w = .ok (.func (Fn.func 78) #[.int .u64 (W64 s3)] #[]) w := fun _ => rfl
  go_enter Try.func53, Try.ntmps53
  go_wp2_with fail
  refine wp_loop_rounds 5 ?_
  generalize ((w.alloc (.cells #[.int .u64 (W64 s0), .int .u64 (W64 s1), .int .u64 (W64 s2), .int .u64 (W64 s3)] 76)).alloc (.cells #[.int .u64 0, .int .u64 0, .int .u64 0, .int .u64 0] 76)).alloc (.cells #[.func (Fn.func 78) #[.int .u64 (W64 s0)] #[], .func (Fn.func 78) #[.int .u64 (W64 s1)] #[], .func (Fn.func 78) #[.int .u64 (W64 s2)] #[], .func (Fn.func 78) #[.int .u64 (W64 s3)] #[]] 102) = w0 at *
  rw [rounds_succ]
  go_wp2_with fail
  refine (HL0.out _ HN.out).mono ?_
  rintro e w9 ⟨rfl, hw9⟩
  replace hw9 := hw9.symm
  subst hw9
  go_wp2_with fail
  refine (HR0.out _).mono ?_
  rintro e w9 ⟨rfl, hw9⟩
  replace hw9 := hw9.symm
  subst hw9
  have c0 := cell_of_row _ _ 0 _ _ _ HA.out
  have cf := fun i => frozen_of_row _ _ i _ _ HA.out
  go_wp2_with fail
  clear c0 cf
  have h0 := heap_setCell_same w0 w.heap.size 0 _ _ (.int .u64 (W64 v0)) HA.out
  have h1 := heap_setCell_other w0 ⟨w.heap.size, 0, none⟩ (w.heap.size + 1) (.int .u64 (W64 v0)) (by show w.heap.size + 1 ≠ w.heap.size; omega)
  have h2 := HN.out.setCell (p := ⟨w.heap.size, 0, none⟩) (Nat.le_refl _) (.int .u64 (W64 v0))
  replace HO := Lib.hid (h1.trans HO.out)
  clear HA HN h1
  generalize hw : World.setCell w0 ⟨w.heap.size, 0, none⟩ (.int .u64 (W64 v0)) = w1 at *
  have HA := Lib.hid (show w1.heap[w.heap.size]? = some (.cells #[.int .u64 (W64 v0), .int .u64 (W64 s1), .int .u64 (W64 s2), .int .u64 (W64 s3)] 76 (0, 0)) from h0)
  have HN := Lib.hid h2
  clear h0 h2 hw HL0 HR0
  rw [rounds_succ]
  go_wp2_with fail
  refine (HL1.out _ HN.out).mono ?_
  rintro e w9 ⟨rfl, hw9⟩
  replace hw9 := hw9.symm
  subst hw9
  go_wp2_with fail
  refine (HR1.out _).mono ?_
  rintro e w9 ⟨rfl, hw9⟩
  replace hw9 := hw9.symm
  subst hw9
  have c1 := cell_of_row _ _ 1 _ _ _ HA.out
  have cf := fun i => frozen_of_row _ _ i _ _ HA.out
  go_wp2_with fail
  clear c1 cf
  have h0 := heap_setCell_same w1 w.heap.size 1 _ _ (.int .u64 (W64 v1)) HA.out
  have h1 := heap_setCell_other w1 ⟨w.heap.size, 1, none⟩ (w.heap.size + 1) (.int .u64 (W64 v1)) (by show w.heap.size + 1 ≠ w.heap.size; omega)
  have h2 := HN.out.setCell (p := ⟨w.heap.size, 1, none⟩) (Nat.le_refl _) (.int .u64 (W64 v1))
  replace HO := Lib.hid (h1.trans HO.out)
  clear HA HN h1
  generalize hw : World.setCell w1 ⟨w.heap.size, 1, none⟩ (.int .u64 (W64 v1)) = w2 at *
  have HA := Lib.hid (show w2.heap[w.heap.size]? = some (.cells #[.int .u64 (W64 v0), .int .u64 (W64 v1), .int .u64 (W64 s2), .int .u64 (W64 s3)] 76 (0, 0)) from h0)
  have HN := Lib.hid h2
  clear h0 h2 hw HL1 HR1
  rw [rounds_succ]
  go_wp2_with fail
  refine (HL2.out _ HN.out).mono ?_
  rintro e w9 ⟨rfl, hw9⟩
  replace hw9 := hw9.symm
  subst hw9
  go_wp2_with fail
  refine (HR2.out _).mono ?_
  rintro e w9 ⟨rfl, hw9⟩
  replace hw9 := hw9.symm
  subst hw9
  have c2 := cell_of_row _ _ 2 _ _ _ HA.out
  have cf := fun i => frozen_of_row _ _ i _ _ HA.out
  go_wp2_with fail
  clear c2 cf
  have h0 := heap_setCell_same w2 w.heap.size 2 _ _ (.int .u64 (W64 v2)) HA.out
  have h1 := heap_setCell_other w2 ⟨w.heap.size, 2, none⟩ (w.heap.size + 1) (.int .u64 (W64 v2)) (by show w.heap.size + 1 ≠ w.heap.size; omega)
  have h2 := HN.out.setCell (p := ⟨w.heap.size, 2, none⟩) (Nat.le_refl _) (.int .u64 (W64 v2))
  replace HO := Lib.hid (h1.trans HO.out)
  clear HA HN h1
  generalize hw : World.setCell w2 ⟨w.heap.size, 2, none⟩ (.int .u64 (W64 v2)) = w3 at *
  have HA := Lib.hid (show w3.heap[w.heap.size]? = some (.cells #[.int .u64 (W64 v0), .int .u64 (W64 v1), .int .u64 (W64 v2), .int .u64 (W64 s3)] 76 (0, 0)) from h0)
  have HN := Lib.hid h2
  clear h0 h2 hw HL2 HR2
  rw [rounds_succ]
  go_wp2_with fail
  refine (HL3.out _ HN.out).mono ?_
  rintro e w9 ⟨rfl, hw9⟩
  replace hw9 := hw9.symm
  subst hw9
  go_wp2_with fail
  refine (HR3.out _).mono ?_
  rintro e w9 ⟨rfl, hw9⟩
  replace hw9 := hw9.symm
  subst hw9
  have c3 := cell_of_row _ _ 3 _ _ _ HA.out
  have cf := fun i => frozen_of_row _ _ i _ _ HA.out
  go_wp2_with fail
  clear c3 cf
  have h0 := heap_setCell_same w3 w.heap.size 3 _ _ (.int .u64 (W64 v3)) HA.out
  have h1 := heap_setCell_other w3 ⟨w.heap.size, 3, none⟩ (w.heap.size + 1) (.int .u64 (W64 v3)) (by show w.heap.size + 1 ≠ w.heap.size; omega)
  have h2 := HN.out.setCell (p := ⟨w.heap.size, 3, none⟩) (Nat.le_refl _) (.int .u64 (W64 v3))
  replace HO := Lib.hid (h1.trans HO.out)
  clear HA HN h1
  generalize hw : World.setCell w3 ⟨w.heap.size, 3, none⟩ (.int .u64 (W64 v3)) = w4 at *
  have HA := Lib.hid (show w4.heap[w.heap.size]? = some (.cells #[.int .u64 (W64 v0), .int .u64 (W64 v1), .int .u64 (W64 v2), .int .u64 (W64 v3)] 76 (0, 0)) from h0)
  have HN := Lib.hid h2
  clear h0 h2 hw HL3 HR3
  rw [rounds_succ]
  have z0 := cell_of_row _ _ 0 _ _ _ HO.out
  have z1 := cell_of_row _ _ 1 _ _ _ HO.out
  have z2 := cell_of_row _ _ 2 _ _ _ HO.out
  have z3 := cell_of_row _ _ 3 _ _ _ HO.out
  have c0 := cell_of_row _ _ 0 _ _ _ HA.out
  have c1 := cell_of_row _ _ 1 _ _ _ HA.out
  have c2 := cell_of_row _ _ 2 _ _ _ HA.out
  have c3 := cell_of_row _ _ 3 _ _ _ HA.out
  have zf := fun i => frozen_of_row _ _ i _ _ HO.out
  go_wp2
  refine bodyPost_ret (by simp [results, Try.results53, go_sem, z0, z1, z2, z3]; try rfl) rfl ?_
  exact ⟨rfl, ((((HN.out.setCell (by show w.heap.size ≤ w.heap.size + 1; omega) _).setCell (by show w.heap.size ≤ w.heap.size + 1; omega) _).setCell (by show w.heap.size ≤ w.heap.size + 1; omega) _).setCell (by show w.heap.size ≤ w.heap.size + 1; omega) _)⟩
end Go.Proofs.Ytfeeecmcaakpkaa
