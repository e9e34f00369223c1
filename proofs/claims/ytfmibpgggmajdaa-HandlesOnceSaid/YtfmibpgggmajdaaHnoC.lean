/- Layer 48: Put, find, Set, Drop of a table of n places. -/
import Derived.Test.YtfmibpgggmajdaaHnoB
namespace Go.Proofs.Ytfmibpgggmajdaa
open Go Go.RowKit Go.Bv Go.Hnd Go.Ali
set_option linter.unusedVariables false
set_option maxRecDepth 100000
/-- which place is free -/
def fr (P : Ps) : Nat → Bool := fun i => !P.tk i
/-- which place has a handle -/
def at48 (P : Ps) (h : BitVec 64) : Nat → Bool := fun i => P.tk i && (hd (P.sd i) i == h)
theorem put1_any (x : Int) (t : Bool) (s : BitVec 64) (i : Nat) (w : World) : Calls Try.prog 25 #[.int .i64 (i : Int), .agg #[.int .i64 x, .bool t, .int .u64 (W64 s)]] w fun e w' => e = .returned (.bool (!t)) ∧ New w w' := by
  go_enter Try.func25, Try.ntmps25
  go_wp2
  go_ret
  exact ⟨rfl, (New.refl _).alloc _⟩
set_option maxHeartbeats 2000000 in
theorem find1_any (g : Nat) (h : BitVec 64) (x : Int) (t : Bool) (s : BitVec 64) (i : Nat) (w : World) (hh : w.heap[g]? = some (.cells #[.int .u64 (W64 h)] 28 (0, 0))) : Calls Try.prog 29 #[.int .i64 (i : Int), .agg #[.int .i64 x, .bool t, .int .u64 (W64 s)], .pointer (some ⟨g, 0, none⟩)] w fun e w' => e = .returned (.bool (t && (hd s i == h))) ∧ New w w' := by
  have HD := Lib.hid (fun w => handle_any x true s i w)
  have hx0 := heap_alloc_new w (.cells #[.int .i64 x, .bool t, .int .u64 (W64 s)] 55)
  have hn0 := (New.refl w).alloc (.cells #[.int .i64 x, .bool t, .int .u64 (W64 s)] 55)
  obtain ⟨w0, hw0⟩ : ∃ w0, w.alloc (.cells #[.int .i64 x, .bool t, .int .u64 (W64 s)] 55) = w0 := ⟨_, rfl⟩
  rw [hw0] at hx0 hn0
  obtain ⟨q, hq⟩ : ∃ q, w.heap.size = q := ⟨_, rfl⟩
  rw [hq] at hx0
  have HX := Lib.hid hx0
  have HN := Lib.hid hn0
  have HH := Lib.hid ((hn0.block _ (lt_of_block hh)).trans hh)
  have HE := Lib.hid (show w.alloc (.cells #[.int .i64 x, .bool t, .int .u64 (W64 s)] 55) = w0 ∧ w.heap.size = q from ⟨hw0, hq⟩)
  clear hx0 hn0 hh hw0 hq
  obtain ⟨y, hy⟩ : ∃ y, hd s i = y := ⟨_, rfl⟩
  rw [hy] at HD ⊢
  have heq : (W64 y == W64 h) = (y == h) := by
    rw [Bool.eq_iff_iff, beq_iff_eq, beq_iff_eq]
    exact ⟨fun e => by unfold W64 at e; exact BitVec.eq_of_toNat_eq (by omega), fun e => by rw [e]⟩
  obtain ⟨r, hr⟩ : ∃ r, (y == h) = r := ⟨_, rfl⟩
  rw [hr] at heq ⊢
  clear hy hr
  rcases t with _ | _
  · have s0 := cell_of_row _ _ 1 _ _ _ HX.out
    go_enter Try.func29, Try.ntmps29
    go_wp2_with (rw [HE.out.1, HE.out.2])
    refine wp_region_class (fun w' => (w'.heap[q]? = some (.cells #[.int .i64 x, .bool false, .int .u64 (W64 s)] 55 (0, 0)) ∧ w'.heap[g]? = some (.cells #[.int .u64 (W64 h)] 28 (0, 0))) ∧ New w0 w') (by kernel_rfl) (by kernel_rfl) ⟨⟨((New.refl w0).drew.block _ (lt_of_block HX.out)).trans HX.out, ((New.refl w0).drew.block _ (lt_of_block HH.out)).trans HH.out⟩, (New.refl _).drew⟩ ?_
    intro I _ f hall hback
    have HALL := Lib.hid fun n => (hall n).2
    have s0 := fun n => cell_of_row _ _ 0 _ _ _ ((hall n).1.1)
    have s1 := fun n => cell_of_row _ _ 1 _ _ _ ((hall n).1.1)
    have s2 := fun n => cell_of_row _ _ 2 _ _ _ ((hall n).1.1)
    have s3 := fun n => cell_of_row _ _ 0 _ _ _ ((hall n).1.2)
    clear hall hback
    repeat (go_big_quiet_step (fail))
    refine wpQuiet_nil ?_
    rintro w9 ⟨n1, hw1⟩
    have hS := HALL.out n1
    rw [← hw1] at hS
    replace HN := Lib.hid (HN.out.trans hS)
    clear HALL hw1 hS s0 s1 s2 s3
    go_wp2
    go_ret
    exact ⟨rfl, HN.out⟩
  · go_enter Try.func29, Try.ntmps29
    go_wp2_with (rw [HE.out.1, HE.out.2])
    refine wp_region_class (fun w' => (w'.heap[q]? = some (.cells #[.int .i64 x, .bool true, .int .u64 (W64 s)] 55 (0, 0)) ∧ w'.heap[g]? = some (.cells #[.int .u64 (W64 h)] 28 (0, 0))) ∧ New w0 w') (by kernel_rfl) (by kernel_rfl) ⟨⟨((New.refl w0).drew.block _ (lt_of_block HX.out)).trans HX.out, ((New.refl w0).drew.block _ (lt_of_block HH.out)).trans HH.out⟩, (New.refl _).drew⟩ ?_
    intro I _ f hall hback
    have HSTEP : Hid (∀ n w', New (f n) w' → ∃ m, w' = f m) := Lib.hid fun n w' hn => hback w' ⟨⟨(hn.block _ (lt_of_block ((hall n).1.1))).trans ((hall n).1.1), (hn.block _ (lt_of_block ((hall n).1.2))).trans ((hall n).1.2)⟩, (hall n).2.trans hn⟩
    have HALL := Lib.hid fun n => (hall n).2
    have s0 := fun n => cell_of_row _ _ 0 _ _ _ ((hall n).1.1)
    have s1 := fun n => cell_of_row _ _ 1 _ _ _ ((hall n).1.1)
    have s2 := fun n => cell_of_row _ _ 2 _ _ _ ((hall n).1.1)
    have s3 := fun n => cell_of_row _ _ 0 _ _ _ ((hall n).1.2)
    clear hall hback
    repeat (go_big_quiet_step (first
      | (go_at_call 22; refine class_new HSTEP.out (HD.out _))))
    refine wpQuiet_nil ?_
    rintro w9 ⟨n1, hw1⟩
    have hS := HALL.out n1
    rw [← hw1] at hS
    replace HN := Lib.hid (HN.out.trans hS)
    clear HALL HSTEP hw1 hS s0 s1 s2 s3
    go_wp2
    go_ret
    exact ⟨by simp, HN.out⟩
set_option maxHeartbeats 4000000 in
theorem find_any (tb b n : Nat) (hn : 0 < n) (hn2 : n ≤ 1000) (P : Ps) (h : BitVec 64) (w : World) (ht : TM w tb b n P) :
    Calls Try.prog 26 #[.pointer (some ⟨tb, 0, none⟩), .int .u64 (W64 h)] w fun e w' => e = .returned (.tuple #[spV b (fnd (at48 P h) n), .int .i64 (if (fnd (at48 P h) n).isSome then 0 else 11)]) ∧ New w w' := by
  have hmf : ∀ (fn : Fn) (first cap : Array Value) (w : World), (Instr.makeFunc fn first cap).run Try.prog w = .ok (.func fn first cap) w := fun _ _ _ _ => rfl
  have hx0 := heap_alloc_new w (.cells #[.int .u64 (W64 h)] 28)
  have hn0 := (New.refl w).alloc (.cells #[.int .u64 (W64 h)] 28)
  have ht0 := ht.stay hn0
  obtain ⟨w0, hw0⟩ : ∃ w0, w.alloc (.cells #[.int .u64 (W64 h)] 28) = w0 := ⟨_, rfl⟩
  rw [hw0] at hx0 hn0 ht0
  obtain ⟨q, hq⟩ : ∃ q, w.heap.size = q := ⟨_, rfl⟩
  rw [hq] at hx0
  have HM := Lib.hid (made_any tb b n hn P w0 ht0)
  have hG : ∀ (x y : Value) (uw : World), (callFunc 29 (#[x, y] ++ #[.pointer (some ⟨q, 0, none⟩)])).run Try.prog uw = .ok (.enter 29 (#[x, y] ++ #[.pointer (some ⟨q, 0, none⟩)])) uw := fun x y uw => by kernel_rfl
  have HS := Lib.hid (search_any tb b n hn2 P 29 #[.pointer (some ⟨q, 0, none⟩)] (at48 P h) w0 ht0 hG (fun i w' hi hn' => find1_any q h (P.th i) (P.tk i) (P.sd i) i w' ((hn'.block _ (lt_of_block hx0)).trans hx0)))
  have HN := Lib.hid hn0
  have HE := Lib.hid (show w.alloc (.cells #[.int .u64 (W64 h)] 28) = w0 ∧ w.heap.size = q from ⟨hw0, hq⟩)
  obtain ⟨f, hf⟩ : ∃ f, fnd (at48 P h) n = f := ⟨_, rfl⟩
  rw [hf] at HS ⊢
  clear hx0 hn0 ht0 hw0 hq hG hf ht
  rcases f with _ | i
  · go_enter Try.func26, Try.ntmps26
    go_wp2_with (rw [HE.out.1, HE.out.2])
    refine (HM.out).mono ?_
    rintro e w1 ⟨rfl, rfl⟩
    go_wp2_with fail
    refine (HS.out).mono ?_
    rintro e w2 ⟨rfl, hn⟩
    have HN2 := Lib.hid (HN.out.trans hn)
    clear hn
    simp only [spV, Option.getD]
    go_wp2
    go_ret2
    exact ⟨rfl, HN2.out⟩
  · go_enter Try.func26, Try.ntmps26
    go_wp2_with (rw [HE.out.1, HE.out.2])
    refine (HM.out).mono ?_
    rintro e w1 ⟨rfl, rfl⟩
    go_wp2_with fail
    refine (HS.out).mono ?_
    rintro e w2 ⟨rfl, hn⟩
    have HN2 := Lib.hid (HN.out.trans hn)
    clear hn
    simp only [spV, Option.getD]
    go_wp2
    go_ret2
    exact ⟨rfl, HN2.out⟩
/-- what Put leaves -/
def PutP (tb b n : Nat) (P : Ps) (x : Int) (f : Option Nat) (w : World) (e : Ending) (w' : World) : Prop := (∃ i, f = some i ∧ e = .returned (.tuple #[.int .u64 (W64 (hd (P.sd i + 1#64) i)), .int .i64 0]) ∧ TM w' tb b n (putP P i x true (P.sd i + 1#64)) ∧ On b w w') ∨ (f = none ∧ e = .returned (.tuple #[.int .u64 0, .int .i64 12]) ∧ New w w')
/-- what Set and Drop leave -/
def SetP (tb b n : Nat) (P : Ps) (Q : Nat → Ps) (f : Option Nat) (w : World) (e : Ending) (w' : World) : Prop := (∃ i, f = some i ∧ e = .returned (.int .i64 0) ∧ TM w' tb b n (Q i) ∧ On b w w') ∨ (f = none ∧ e = .returned (.int .i64 11) ∧ New w w')
set_option maxHeartbeats 4000000 in
theorem put_any (tb b n : Nat) (hn : 0 < n) (hn2 : n ≤ 1000) (P : Ps) (x : Int) (w : World) (ht : TM w tb b n P) :
    Calls Try.prog 15 #[.pointer (some ⟨tb, 0, none⟩), .int .i64 x] w fun e w' => PutP tb b n P x (fnd (fr P) n) w e w' := by
  have HM := Lib.hid (made_any tb b n hn P w ht)
  have hG : ∀ (x y : Value) (uw : World), (callFunc 25 (#[x, y] ++ #[])).run Try.prog uw = .ok (.enter 25 (#[x, y] ++ #[])) uw := fun x y uw => by kernel_rfl
  have HS := Lib.hid (search_any tb b n hn2 P 25 #[] (fr P) w ht hG (fun i w' hi hn' => put1_any (P.th i) (P.tk i) (P.sd i) i w'))
  have HT := Lib.hid ht
  have HFS : Hid (∀ i, fnd (fr P) n = some i → i < n) := Lib.hid (fun i h => (fnd_some h).1)
  obtain ⟨f, hf⟩ : ∃ f, fnd (fr P) n = f := ⟨_, rfl⟩
  rw [hf] at HS HFS ⊢
  clear hG ht hf
  rcases f with _ | i
  · go_enter Try.func15, Try.ntmps15
    go_wp2_with fail
    refine (HM.out).mono ?_
    rintro e w1 ⟨rfl, rfl⟩
    go_wp2_with fail
    refine (HS.out).mono ?_
    rintro e w2 ⟨rfl, hn⟩
    have HN2 := Lib.hid hn
    clear hn
    simp only [spV, Option.getD]
    go_wp2
    go_ret2
    exact .inr ⟨rfl, rfl, HN2.out⟩
  · have hin := HFS.out i rfl
    have hone : (1 : Int) = W64 1#64 := (W64_lit 1 (by omega)).symm
    go_enter Try.func15, Try.ntmps15
    go_wp2_with fail
    refine (HM.out).mono ?_
    rintro e w1 ⟨rfl, rfl⟩
    go_wp2_with fail
    refine (HS.out).mono ?_
    rintro e w2 ⟨rfl, hn⟩
    have HT2 := Lib.hid (HT.out.stay hn)
    have HN2 := Lib.hid hn
    obtain ⟨c0, c1, c2⟩ := HT2.out.get hin
    have cf := HT2.out.free
    have HP2 := Lib.hid (HT2.out.put hin x true (P.sd i + 1#64))
    have HON : Hid (On b w1 (((w2.setCell ⟨b, i * 3, none⟩ (.int .i64 x)).setCell ⟨b, i * 3 + 1, none⟩ (.bool true)).setCell ⟨b, i * 3 + 2, none⟩ (.int .u64 (W64 (P.sd i + 1#64))))) := Lib.hid ((((On.of_new hn).setCell _ _).setCell _ _).setCell _ _)
    clear hn
    simp only [spV, Option.getD]
    go_wp2_with fail
    refine (handle_any x true (P.sd i + 1#64) i _).mono ?_
    rintro e w5 ⟨rfl, hn5⟩
    have HN5 := Lib.hid hn5
    clear hn5 c0 c1 c2 cf hone
    go_wp2
    go_ret2
    exact .inl ⟨i, rfl, rfl, HP2.out.stay HN5.out, HON.out.trans (On.of_new HN5.out)⟩
set_option maxHeartbeats 4000000 in
theorem set_any (tb b n : Nat) (hn : 0 < n) (hn2 : n ≤ 1000) (P : Ps) (h : BitVec 64) (x : Int) (w : World) (ht : TM w tb b n P) :
    Calls Try.prog 16 #[.pointer (some ⟨tb, 0, none⟩), .int .u64 (W64 h), .int .i64 x] w fun e w' => SetP tb b n P (fun i => putP P i x (P.tk i) (P.sd i)) (fnd (at48 P h) n) w e w' := by
  have HS := Lib.hid (find_any tb b n hn hn2 P h w ht)
  have HT := Lib.hid ht
  have HFS : Hid (∀ i, fnd (at48 P h) n = some i → i < n) := Lib.hid (fun i h => (fnd_some h).1)
  obtain ⟨f, hf⟩ : ∃ f, fnd (at48 P h) n = f := ⟨_, rfl⟩
  rw [hf] at HS HFS ⊢
  clear ht hf
  rcases f with _ | i
  · go_enter Try.func16, Try.ntmps16
    go_wp2_with fail
    refine (HS.out).mono ?_
    rintro e w2 ⟨rfl, hn⟩
    have HN2 := Lib.hid hn
    clear hn
    simp only [spV, Option.isSome]
    go_wp2
    go_ret
    exact .inr ⟨rfl, rfl, HN2.out⟩
  · have hin := HFS.out i rfl
    go_enter Try.func16, Try.ntmps16
    go_wp2_with fail
    refine (HS.out).mono ?_
    rintro e w2 ⟨rfl, hn⟩
    have HT2 := Lib.hid (HT.out.stay hn)
    obtain ⟨c0, c1, c2⟩ := HT2.out.get hin
    have cf := HT2.out.free
    have HP2 := Lib.hid (HT2.out.put0 hin x)
    have HON : Hid (On b w (w2.setCell ⟨b, i * 3, none⟩ (.int .i64 x))) := Lib.hid ((On.of_new hn).setCell _ _)
    clear hn
    simp only [spV, Option.isSome]
    go_wp2
    go_ret
    exact .inl ⟨i, rfl, rfl, HP2.out, HON.out⟩
set_option maxHeartbeats 4000000 in
theorem drop_any (tb b n : Nat) (hn : 0 < n) (hn2 : n ≤ 1000) (P : Ps) (h : BitVec 64) (w : World) (ht : TM w tb b n P) :
    Calls Try.prog 17 #[.pointer (some ⟨tb, 0, none⟩), .int .u64 (W64 h)] w fun e w' => SetP tb b n P (fun i => putP P i 0 false (P.sd i)) (fnd (at48 P h) n) w e w' := by
  have HS := Lib.hid (find_any tb b n hn hn2 P h w ht)
  have HT := Lib.hid ht
  have HFS : Hid (∀ i, fnd (at48 P h) n = some i → i < n) := Lib.hid (fun i h => (fnd_some h).1)
  obtain ⟨f, hf⟩ : ∃ f, fnd (at48 P h) n = f := ⟨_, rfl⟩
  rw [hf] at HS HFS ⊢
  clear ht hf
  rcases f with _ | i
  · go_enter Try.func17, Try.ntmps17
    go_wp2_with fail
    refine (HS.out).mono ?_
    rintro e w2 ⟨rfl, hn⟩
    have HN2 := Lib.hid hn
    clear hn
    simp only [spV, Option.isSome]
    go_wp2
    go_ret
    exact .inr ⟨rfl, rfl, HN2.out⟩
  · have hin := HFS.out i rfl
    go_enter Try.func17, Try.ntmps17
    go_wp2_with fail
    refine (HS.out).mono ?_
    rintro e w2 ⟨rfl, hn⟩
    have HT2 := Lib.hid (HT.out.stay hn)
    obtain ⟨c0, c1, c2⟩ := HT2.out.get hin
    have cf := HT2.out.free
    have HP2 := Lib.hid (HT2.out.put hin 0 false (P.sd i))
    have HON : Hid (On b w (((w2.setCell ⟨b, i * 3, none⟩ (.int .i64 0)).setCell ⟨b, i * 3 + 1, none⟩ (.bool false)).setCell ⟨b, i * 3 + 2, none⟩ (.int .u64 (W64 (P.sd i))))) := Lib.hid ((((On.of_new hn).setCell _ _).setCell _ _).setCell _ _)
    clear hn
    simp only [spV, Option.isSome]
    go_wp2
    go_ret
    exact .inl ⟨i, rfl, rfl, HP2.out, HON.out⟩
end Go.Proofs.Ytfmibpgggmajdaa
