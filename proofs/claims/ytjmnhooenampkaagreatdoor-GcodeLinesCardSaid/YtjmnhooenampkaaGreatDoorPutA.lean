/- Contracts of load.Put32, load.Put64 and of the document's own Bytes and Both: what each call returns, for all bytes. -/
import Derived.Test.YtjmnhooenampkaaGreatDoorLoadB
import Derived.Test.YtjmnhooenampkaaGreatDoorSwap
namespace Go.Proofs.YtjmnhooenampkaaGreatDoor
open Go.RowKit Go.Bv
set_option linter.unusedVariables false
/-- the first n bytes of a word, the lowest first -/
def bytes (x : BitVec 64) (n : Nat) : List (BitVec 8) := (List.range n).map (byt x)
theorem bytes_len (x : BitVec 64) (n : Nat) : (bytes x n).length = n := by simp [bytes]
theorem info_u8 : (Tryz.prog.info? 5).map (fun i => (i.zero, i.size, i.bytes)) = some (some (.int .u8 0), 1, 1) := by kernel_rfl
set_option maxHeartbeats 400000 in
theorem closed_any (a : Option Addr) (len cap : Nat) (l : List (BitVec 8)) (w : World) (h : BRow w a len cap l) :
    Calls Tryz.prog 39 #[.slice a len cap] w fun e w' => e = .returned (.slice a len len) ∧ w' = w := by
  have hm := h.most
  have hl := h.le
  have hr := h.room
  go_enter Tryz.func39, Tryz.ntmps39
  go_wp2
  go_ret
  exact ⟨rfl, rfl⟩
theorem new_cells (w : World) (cs : Array Value) (t : TypeId) : ∀ j u, cs.toList[j]? = some u → (w.alloc (.cells cs t)).cell? ((⟨w.heap.size, 0, none⟩ : Addr).add j) = some u := by
  intro j u h
  rw [add_plain, Nat.zero_add, World.cell?_alloc_new]
  simpa using h
theorem put8c (x : BitVec 64) : [Value.int .u8 (W8 (x.setWidth 8)), .int .u8 (W8 ((x >>> 8).setWidth 8)), .int .u8 (W8 ((x >>> 16).setWidth 8)), .int .u8 (W8 ((x >>> 24).setWidth 8)), .int .u8 (W8 ((x >>> 32).setWidth 8)), .int .u8 (W8 ((x >>> 40).setWidth 8)), .int .u8 (W8 ((x >>> 48).setWidth 8)), .int .u8 (W8 ((x >>> 56).setWidth 8))] = (bytes x 8).map fun y => Value.int .u8 (W8 y) := by
  have h0 : x >>> 0 = x := by simp
  conv => lhs; rw [← h0]
  rfl
set_option maxHeartbeats 1000000 in
theorem put64_any (a : Option Addr) (len cap : Nat) (l : List (BitVec 8)) (x : Int) (hx : 0 ≤ x ∧ x < 18446744073709551616) (W w : World) (h : BRow w a len cap l) (hb : len + 8 ≤ 140737488355328) (hg : New W w) :
    Calls Tryz.prog 22 #[.slice a len cap, .int .u64 x] w fun e w' =>
      ∃ a' cap', e = .returned (.slice a' (len + 8) cap') ∧ BRow w' a' (len + 8) cap' (l ++ bytes (BitVec.ofInt 64 x) 8) ∧ New w w' ∧ New W w' := by
  obtain ⟨x, rfl⟩ := ex64 x hx
  rw [ofInt_W64]
  obtain ⟨i0, hi, hz0, hz1, hz2⟩ := info_parts info_u8
  go_enter Tryz.func22, Tryz.ntmps22
  go_wp2_with fail
  refine (closed_any a len cap l w h).mono ?_
  rintro e w' ⟨rfl, rfl⟩
  have hn : New w' (w'.alloc (.cells #[.int .u8 (W8 (x.setWidth 8)), .int .u8 (W8 ((x >>> 8).setWidth 8)), .int .u8 (W8 ((x >>> 16).setWidth 8)), .int .u8 (W8 ((x >>> 24).setWidth 8)), .int .u8 (W8 ((x >>> 32).setWidth 8)), .int .u8 (W8 ((x >>> 40).setWidth 8)), .int .u8 (W8 ((x >>> 48).setWidth 8)), .int .u8 (W8 ((x >>> 56).setWidth 8))] 5)) := (New.refl w').alloc _
  have hb2 := h.stay hn
  go_wp2_with (at_builtin; refine wpList_append_grows _ rfl _ _ 22 rfl 5 i0 (.int .u8 0) 1 1 Tryz.underlying22 hi hz0 hz1 hz2 rfl (by decide) a len len (l.map fun y => .int .u8 (W8 y)) rfl ?c1 ?c2 ?c3 ⟨w'.heap.size, 0, none⟩ 8 8 ((bytes x 8).map fun y => .int .u8 (W8 y)) rfl ?c4 ?c5 ?c6 (by omega) ?c7 (by omega) ?c8)
  case c1 => exact fun e => ⟨(h.none e).1, (h.none e).1⟩
  case c2 => rw [List.length_map, h.len_eq, Nat.mul_one]
  case c3 => exact fun b e => hb2.olds b e
  case c4 => rw [List.length_map, bytes_len]
  case c5 => intro j u hj; rw [← put8c] at hj; exact new_cells w' _ _ j u hj
  case c6 => intro u hu; obtain ⟨y, _, rfl⟩ := List.mem_map.1 hu; rfl
  case c7 => unfold maxLen; omega
  case c8 =>
    intro v' w1 how hgr
    rw [← List.map_append] at how
    obtain ⟨a', cap', rfl, hrow⟩ := BRow.of_owns how (by omega)
    go_wp2
    go_ret
    exact ⟨a', cap', rfl, hrow, hn.grown hgr, (hg.trans hn).grown hgr⟩
theorem byt_up (x : BitVec 32) (j : Nat) (h : j < 4) : byt (x.setWidth 64) j = (x >>> (8 * j)).setWidth 8 := by
  apply BitVec.eq_of_getLsbD_eq; intro b hb
  rw [byt_bit _ _ _ hb]
  simp [hb]; omega
theorem put4 (x : BitVec 32) : [Value.int .u8 (W8 (x.setWidth 8)), .int .u8 (W8 ((x >>> 8).setWidth 8)), .int .u8 (W8 ((x >>> 16).setWidth 8)), .int .u8 (W8 ((x >>> 24).setWidth 8))] = (bytes (x.setWidth 64) 4).map fun y => Value.int .u8 (W8 y) := by
  have h0 : x >>> 0 = x := by simp
  have e : bytes (x.setWidth 64) 4 = [x.setWidth 8, (x >>> 8).setWidth 8, (x >>> 16).setWidth 8, (x >>> 24).setWidth 8] := by
    show [byt (x.setWidth 64) 0, byt (x.setWidth 64) 1, byt (x.setWidth 64) 2, byt (x.setWidth 64) 3] = _
    rw [byt_up x 0 (by omega), byt_up x 1 (by omega), byt_up x 2 (by omega), byt_up x 3 (by omega), Nat.mul_zero, h0]
  rw [e]; rfl
set_option maxHeartbeats 1000000 in
theorem put32_any (a : Option Addr) (len cap : Nat) (l : List (BitVec 8)) (x : Int) (hx : 0 ≤ x ∧ x < 4294967296) (W w : World) (h : BRow w a len cap l) (hb : len + 4 ≤ 140737488355328) (hg : New W w) :
    Calls Tryz.prog 40 #[.slice a len cap, .int .u32 x] w fun e w' =>
      ∃ a' cap', e = .returned (.slice a' (len + 4) cap') ∧ BRow w' a' (len + 4) cap' (l ++ bytes ((BitVec.ofInt 32 x).setWidth 64) 4) ∧ New w w' ∧ New W w' := by
  obtain ⟨x, rfl⟩ := ex32 x hx
  rw [ofInt_W32]
  obtain ⟨i0, hi, hz0, hz1, hz2⟩ := info_parts info_u8
  go_enter Tryz.func40, Tryz.ntmps40
  go_wp2_with fail
  refine (closed_any a len cap l w h).mono ?_
  rintro e w' ⟨rfl, rfl⟩
  have hn : New w' (w'.alloc (.cells #[.int .u8 (W8 (x.setWidth 8)), .int .u8 (W8 ((x >>> 8).setWidth 8)), .int .u8 (W8 ((x >>> 16).setWidth 8)), .int .u8 (W8 ((x >>> 24).setWidth 8))] 5)) := (New.refl w').alloc _
  have hb2 := h.stay hn
  go_wp2_with (at_builtin; refine wpList_append_grows _ rfl _ _ 22 rfl 5 i0 (.int .u8 0) 1 1 Tryz.underlying22 hi hz0 hz1 hz2 rfl (by decide) a len len (l.map fun y => .int .u8 (W8 y)) rfl ?c1 ?c2 ?c3 ⟨w'.heap.size, 0, none⟩ 4 4 ((bytes (x.setWidth 64) 4).map fun y => .int .u8 (W8 y)) rfl ?c4 ?c5 ?c6 (by omega) ?c7 (by omega) ?c8)
  case c1 => exact fun e => ⟨(h.none e).1, (h.none e).1⟩
  case c2 => rw [List.length_map, h.len_eq, Nat.mul_one]
  case c3 => exact fun b e => hb2.olds b e
  case c4 => rw [List.length_map, bytes_len]
  case c5 => intro j u hj; rw [← put4] at hj; exact new_cells w' _ _ j u hj
  case c6 => intro u hu; obtain ⟨y, _, rfl⟩ := List.mem_map.1 hu; rfl
  case c7 => unfold maxLen; omega
  case c8 =>
    intro v' w1 how hgr
    rw [← List.map_append] at how
    obtain ⟨a', cap', rfl, hrow⟩ := BRow.of_owns how (by omega)
    go_wp2
    go_ret
    exact ⟨a', cap', rfl, hrow, hn.grown hgr, (hg.trans hn).grown hgr⟩
theorem low_byte (x : BitVec 64) (k : Nat) : (x >>> (8 * k) % 256#64).setWidth 8 = byt x k := by
  rw [mod256]; apply BitVec.eq_of_getLsbD_eq; intro i hi; simp [hi]
theorem bytes_succ (x : BitVec 64) (k : Nat) : bytes x (k + 1) = bytes x k ++ [byt x k] := by
  unfold bytes; rw [List.range_succ, List.map_append]; rfl
set_option maxHeartbeats 1000000 in
theorem bytes_ref (x : Int) (hx : 0 ≤ x ∧ x < 18446744073709551616) (n : Nat) (hn : n ≤ 8) (W w : World) (hg : New W w) :
    Calls Tryz.prog 51 #[.int .u64 x, .int .i64 n] w fun e w' =>
      ∃ a' cap', e = .returned (.slice a' n cap') ∧ BRow w' a' n cap' (bytes (BitVec.ofInt 64 x) n) ∧ New w w' ∧ New W w' := by
  obtain ⟨x, rfl⟩ := ex64 x hx
  rw [ofInt_W64]
  obtain ⟨i0, hi, hz0, hz1, hz2⟩ := info_parts info_u8
  go_enter Tryz.func51, Tryz.ntmps51
  go_wp2
  go_loopw [0, 5, 6] (fun t v i wr => ∃ k : Nat, k ≤ n ∧ i = .int .i64 k ∧ t = .int .u64 (W64 (x >>> (8 * k))) ∧ wr.ownsRow w.heap.size 5 1 v k ((bytes x k).map fun y => .int .u8 (W8 y)) ∧ New w wr) (fun _ _ i _ => n - (intOf i).toNat)
  case atStart => exact ⟨0, by omega, rfl, by simp, World.ownsRow_nil w _ _ 1, New.refl w⟩
  case round =>
    obtain ⟨k, hk, rfl, rfl, hown, hnew⟩ := hrel
    by_cases hlt : (k : Int) < n
    · go_wp2_with (at_builtin; refine wpList_append_own _ rfl _ _ 22 rfl w.heap.size 5 i0 (.int .u8 0) 1 1 Tryz.underlying22 hi hz0 hz1 hz2 rfl (by decide) _ k _ rfl (hown.alloc _) ⟨wr.heap.size, 0, none⟩ 1 1 [.int .u8 (W8 ((x >>> (8 * k) % 256#64).setWidth 8))] rfl rfl ?c1 ?c2 ?c3 ?c4 ?c5 ?_)
      case c1 => exact new_cells wr _ _
      case c2 => intro u hu; simp at hu; subst hu; rfl
      case c3 => unfold maxLen; omega
      case c4 => omega
      case c5 => simp; have := hnew.le; omega
      intro v' w1 how hgr _
      have how2 : w1.ownsRow w.heap.size 5 1 v' (k + 1) ((bytes x (k + 1)).map fun y => .int .u8 (W8 y)) := by
        rw [bytes_succ, List.map_append, ← low_byte]; exact how
      have hn1 : New w w1 := (hnew.alloc _).grown' hgr (own_base hown)
      have hdv : x >>> (8 * k) / 256#64 = x >>> (8 * (k + 1)) := div256 x k
      have HD := Lib.hid hdv
      clear how hgr hdv
      go_wp2
      exact ⟨⟨k + 1, by omega, by go_num, by rw [HD.out], how2, hn1⟩, by simp [intOf]; omega⟩
    · obtain rfl : k = n := by omega
      obtain ⟨a', cap', rfl, hrow⟩ := BRow.of_owns hown (by omega)
      go_wp2
      go_ret
      exact ⟨a', cap', rfl, hrow, hnew, hg.trans hnew⟩
end Go.Proofs.YtjmnhooenampkaaGreatDoor
