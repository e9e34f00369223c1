import Derived.Test.YtebcfbcfipmahaaGreatYTabB
import Derived.Test.YtebcfbcfipmahaaGreatYTwiA
import Derived.Deep.RegionLaw
section
/- Contracts of tabs.Chars and of the document's own Letters as rows of their own; of mixed.Row and of the document's own Row: for all words, all keys. -/
namespace Go.Proofs.YtebcfbcfipmahaaGreat
open Go.RowKit Go.Bv
set_option linter.unusedVariables false
set_option maxRecDepth 100000
theorem own_stay {w w' : World} {base : Nat} {e : TypeId} {size : Nat} {v : Value} {n : Nat} {xs : List Value} (h : w.ownsRow base e size v n xs) (hn : New w w') : w'.ownsRow base e size v n xs := by
  obtain ⟨hl, h⟩ := h
  refine ⟨hl, ?_⟩
  rcases h with h | ⟨g, cap, cur, hv, hb, hc, h2⟩
  · exact Or.inl h
  · exact Or.inr ⟨g, cap, cur, hv, hb, by rw [hn.block _ (lt_of_block hc)]; exact hc, h2⟩
set_option maxHeartbeats 1000000 in
theorem chars_own (x : BitVec 64) (n : Int) (m : Nat) (hm : m ≤ 16) (hnm : min (max n 0) 16 = (m : Int)) (w : World) :
    Calls Tryz.prog 93 #[.int .u64 (W64 x), .int .i64 n] w fun e w' =>
      ∃ v, e = .returned v ∧ w'.ownsRow w.heap.size 3 1 v m ((lets x m).map fun y => .int .i64 y) ∧ New w w' := by
  obtain ⟨i0, hi, hz0, hz1, hz2⟩ := info_parts info_i64
  have hmk := run_make_row (P := Tryz.prog) 55 3 i0 (.int .i64 0) Tryz.underlying55 hi hz0 hz1 rfl .i64 .i64 m (by rw [hz2]; omega) (by omega) w
  have HM := Lib.hid (made_i m (fun i => (lets x m).getD i 0))
  have h0 : ¬ (m : Int) < 0 := by omega
  have hmk1 : Hid (∀ t : Int, t = (m : Int) → (Instr.makeSlice 55 (.int .i64 t) (.int .i64 t)).run Tryz.prog w = .ok (.slice (some ⟨w.heap.size, 0, none⟩) m m) (w.alloc (.cells (madeCells #[.int .i64 0] m) 3))) := Lib.hid (by rintro t rfl; exact hmk)
  clear hmk
  have h16 : ∀ k : Nat, k < m → wrap64 (4 * (k : Int)) = 4 * (k : Int) := by intro k hk; unfold wrap64; omega
  have H16 := Lib.hid h16
  clear h16
  go_enter Tryz.func93, Tryz.ntmps93
  go_wp2
  all_goals (
    rw [hmk1.out _ (by omega)]
    go_wp2
    go_loopw [13] (fun i wr => ∃ (k : Nat) (cs : Array Value), k ≤ m ∧ i = .int .i64 k ∧ wr.heap[w.heap.size]? = some (.cells cs 3 (0, 0)) ∧ Hid (cs.size = m ∧ ∀ j, j < m → cs[j]? = some (.int .i64 (if j < k then (lets x m).getD j 0 else 0))) ∧ New w wr) (fun i _ => m - (intOf i).toNat)
    case atStart => exact ⟨0, _, by omega, rfl, heap_alloc_new _ _, HM, (New.refl w).alloc _⟩
    case round =>
      obtain ⟨k, cs, hk, rfl, hb1, H, hn⟩ := hrel
      by_cases hlt : (k : Int) < m
      · first
        | (exfalso; omega)
        | (
          have hcell : wr.cell? ⟨w.heap.size, k, none⟩ = some (.int .i64 (if k < k then (lets x m).getD k 0 else 0)) := by
            rw [cell_of_row _ _ _ _ _ _ hb1]; exact H.out.2 k (by omega)
          have hfree := frozen_of_row wr w.heap.size k cs _ hb1
          have hd := heap_setCell_same wr w.heap.size k cs _ (.int .i64 (lat x k)) hb1
          have HD := Lib.hid hd
          clear hd
          have e4 := H16.out k (by omega)
          have e5 : (4 * (k : Int)).toNat = 4 * k := by omega
          have e6 : wrap64 (W64 (x >>> (4 * k) % 16#64)) = lat x k := by have := lat_lt x k; unfold lat at *; unfold wrap64; omega
          go_wp2
          refine ⟨⟨k + 1, _, by omega, by go_num, HD.out, Lib.hid ⟨by rw [Array.size_setIfInBounds]; exact H.out.1, ?_⟩, hn.setCell (Nat.le_refl _) _⟩, by simp [intOf]; omega⟩
          intro j hj
          have hs := H.out.1
          rw [Array.getElem?_setIfInBounds]
          by_cases e : k = j
          · subst e
            rw [if_pos rfl, if_pos (by omega), if_pos (by omega), lets_at _ _ _ hj]
          · rw [if_neg e, H.out.2 j hj]
            refine congrArg (fun d => some (Value.int .i64 d)) ?_
            by_cases e2 : j < k
            · rw [if_pos e2, if_pos (by omega)]
            · rw [if_neg e2, if_neg (by omega)])
      · obtain rfl : k = m := by omega
        go_wp2
        go_ret
        refine ⟨_, rfl, ⟨by simp [lets_len], Or.inr ⟨w.heap.size, k, cs, rfl, Nat.le_refl _, hb1, Nat.le_refl _, by unfold maxLen; omega, by rw [H.out.1, Nat.mul_one], ?_⟩⟩, hn⟩
        apply List.ext_getElem?
        intro j
        rw [Nat.mul_one, List.getElem?_take]
        by_cases hj : j < k
        · rw [if_pos hj, Array.getElem?_toList, H.out.2 j hj, if_pos hj, List.getElem?_map, List.getD_eq_getElem?_getD, List.getElem?_eq_getElem (by rw [lets_len]; exact hj)]
          rfl
        · rw [if_neg hj, List.getElem?_eq_none (by rw [List.length_map, lets_len]; omega)])
set_option maxHeartbeats 1000000 in
theorem letters_own (x : BitVec 64) (n : Int) (m : Nat) (hm : m ≤ 16) (hnm : min (max n 0) 16 = (m : Int)) (w : World) :
    Calls Tryz.prog 64 #[.int .u64 (W64 x), .int .i64 n] w fun e w' =>
      ∃ v, e = .returned v ∧ w'.ownsRow w.heap.size 3 1 v m ((lets x m).map fun y => .int .i64 y) ∧ New w w' := by
  obtain ⟨i0, hi, hz0, hz1, hz2⟩ := info_parts info_i64
  have hx0 : x >>> (4 * 0) = x := by simp
  have hstart : W64 x = W64 (x >>> (4 * 0)) := by rw [hx0]
  have HS := Lib.hid hstart
  clear hstart hx0
  go_enter Tryz.func64, Tryz.ntmps64
  go_wp2
  go_loopw [0, 5, 6] (fun xv v i wr => ∃ k : Nat, k ≤ m ∧ i = .int .i64 k ∧ xv = .int .u64 (W64 (x >>> (4 * k))) ∧ wr.ownsRow w.heap.size 3 1 v k ((lets x k).map fun y => .int .i64 y) ∧ New w wr) (fun _ _ i _ => m - (intOf i).toNat)
  case atStart => exact ⟨0, by omega, rfl, congrArg (Value.int .u64) HS.out, World.ownsRow_nil w _ _ 1, New.refl w⟩
  case round =>
    obtain ⟨k, hk, rfl, rfl, hown, hnew⟩ := hrel
    by_cases hlt : k < m
    · have hlt1 : (k : Int) < n := by omega
      have hlt2 : (k : Int) < 16 := by omega
      have e6 : wrap64 (W64 (x >>> (4 * k) % 16#64)) = lat x k := by have := lat_lt x k; unfold lat at *; unfold wrap64; omega
      have e7 := lat_next x k
      go_wp2_with (at_builtin; refine wpList_append_own _ rfl _ _ 55 rfl w.heap.size 3 i0 (.int .i64 0) 1 8 Tryz.underlying55 hi hz0 hz1 hz2 rfl (by decide) _ k _ rfl (hown.alloc _) ⟨wr.heap.size, 0, none⟩ 1 1 [.int .i64 (lat x k)] rfl rfl ?c1 ?c2 ?c3 ?c4 ?c5 ?_)
      case c1 => exact new_cells_i wr _ _
      case c2 => intro u hu; simp at hu; subst hu; rfl
      case c3 => unfold maxLen; omega
      case c4 => omega
      case c5 => simp; have := hnew.le; omega
      intro v' w1 how hgr _
      have how2 : w1.ownsRow w.heap.size 3 1 v' (k + 1) ((lets x (k + 1)).map fun y => .int .i64 y) := by
        rw [lets_succ, List.map_append]; exact how
      have hn1 : New w w1 := (hnew.alloc _).grown' hgr (own_base hown)
      clear how hgr
      go_wp2
      exact ⟨⟨k + 1, by omega, by go_num, rfl, how2, hn1⟩, by simp [intOf]; omega⟩
    · obtain rfl : k = m := by omega
      by_cases hk16 : k = 16
      · have hlt2 : ¬ (k : Int) < 16 := by omega
        by_cases hlt1 : (k : Int) < n
        · go_wp2
          go_ret
          exact ⟨_, rfl, hk16 ▸ hown, hnew⟩
        · go_wp2
          go_ret
          exact ⟨_, rfl, hk16 ▸ hown, hnew⟩
      · have hlt1 : ¬ (k : Int) < n := by omega
        go_wp2
        go_ret
        exact ⟨_, rfl, hown, hnew⟩
/-- the word from which letters are derived, by the first letters -/
def dwx (l : List (BitVec 64)) (x : BitVec 64) : Nat → BitVec 64
  | 0 => 0#64
  | k + 1 => dwx l x k ^^^ l.getD (192 + 16 * k + (lat x k).toNat) 0
theorem dwx_xs (l : List (BitVec 64)) (x : BitVec 64) : ∀ k, k ≤ 8 → xs ((l.drop 192).take 128) (lets x 8) k = dwx l x k
  | 0, _ => rfl
  | k + 1, h => by
    have hl := lat_lt x k
    show xs ((l.drop 192).take 128) (lets x 8) k ^^^ ((l.drop 192).take 128).getD (16 * k + ((lets x 8).getD k 0).toNat) 0 = dwx l x k ^^^ l.getD (192 + 16 * k + (lat x k).toNat) 0
    rw [dwx_xs l x k (by omega), lets_at _ _ _ (by omega), getD_part _ _ _ _ (by omega), Nat.add_assoc]
def rowM (l : List (BitVec 64)) (x : BitVec 64) : List Int := lets x 8 ++ lets (dwx l x 8) 4
theorem rowM_len (l : List (BitVec 64)) (x : BitVec 64) : (rowM l x).length = 12 := by unfold rowM; rw [List.length_append, lets_len, lets_len]
theorem rowM_mem (l : List (BitVec 64)) (x : BitVec 64) : ∀ n ∈ rowM l x, 0 ≤ n ∧ n < 16 := by
  intro n hn
  unfold rowM at hn
  rcases List.mem_append.1 hn with h | h
  · exact lets_mem _ _ _ h
  · exact lets_mem _ _ _ h
theorem rowM_wf (l : List (BitVec 64)) (x : BitVec 64) : ∀ n ∈ rowM l x, In64 n := by
  intro n hn; have := rowM_mem l x n hn; unfold In64; omega
set_option maxHeartbeats 1000000 in
theorem rowing1_any (x : BitVec 64) (g b off : Nat) (l : List (BitVec 64)) (w : World) (hL : l.length = 320) (hg : w.cell? ⟨g, 0, none⟩ = some (.slice (some ⟨b, off, none⟩) 128 128)) (hq : QRow w (some ⟨b, off, none⟩) 128 128 ((l.drop 192).take 128)) :
    Calls Tryz.prog 139 #[.int .u64 (W64 x), .pointer (some ⟨g, 0, none⟩)] w fun e w' => ∃ a cap, e = .returned (.slice a 12 cap) ∧ ZRow w' a 12 cap (rowM l x) ∧ New w w' := by
  obtain ⟨i0, hi, hz0, hz1, hz2⟩ := info_parts info_i64
  have hsv : sv ((l.drop 192).take 128) (lets x 8) = dwx l x 8 := by
    rw [sv_lets _ _ 8 (by rw [List.length_take, List.length_drop, hL]; omega), dwx_xs l x 8 (by omega)]
  have HSV := Lib.hid hsv
  clear hsv
  have HR : Hid (lets x 8 ++ lets (dwx l x 8) 4 = rowM l x) := Lib.hid rfl
  go_enter Tryz.func139, Tryz.ntmps139
  go_wp2_with fail
  refine (chars_own x 8 8 (by omega) (by decide) _).mono ?_
  rintro e w1 ⟨v, rfl, hown, hn1⟩
  obtain ⟨a1, c1, rfl, hz⟩ := ZRow.of_owns hown (by omega) (lets_wf _ _)
  have g1 : w1.cell? ⟨g, 0, none⟩ = some (.slice (some ⟨b, off, none⟩) 128 128) := by
    rw [hn1.cell (a := ⟨g, 0, none⟩) (World.block_lt_of_cell? _ _ hg)]; exact hg
  go_wp2_with fail
  refine (sum_any _ _ _ _ _ _ _ _ _ (hq.stay hn1) hz).mono ?_
  rintro e w2 ⟨rfl, hn2⟩
  rw [HSV.out]
  go_wp2_with fail
  refine (chars_any (dwx l x 8) 4 4 (by omega) (by decide) _).mono ?_
  rintro e w3 ⟨a3, c3, rfl, hz3, hn3⟩
  have hown3 := own_stay hown (hn2.trans hn3)
  obtain ⟨b3, o3, rfl, _⟩ := hz3.addr (by omega)
  have hn13 := hn1.trans (hn2.trans hn3)
  clear g1 hn2 hn3 hown hz hn1
  go_wp2_with (at_builtin; refine wpList_append_own _ rfl _ _ 55 rfl w.heap.size 3 i0 (.int .i64 0) 1 8 Tryz.underlying55 hi hz0 hz1 hz2 rfl (by decide) _ 8 _ rfl hown3 ⟨b3, o3, none⟩ 4 c3 ((lets (dwx l x 8) 4).map fun y => .int .i64 y) rfl (by simp [lets_len]) ?c1 ?c2 ?c3 ?c4 ?c5 ?_)
  case c1 => exact hz3.olds _ rfl
  case c2 => intro u hu; obtain ⟨y, _, rfl⟩ := List.mem_map.1 hu; rfl
  case c3 => unfold maxLen; omega
  case c4 => omega
  case c5 => exact hn13.le
  intro v' w4 how hgr _
  rw [← List.map_append, HR.out] at how
  have hn4 : New w w4 := hn13.grown' hgr (own_base hown3)
  obtain ⟨a5, c5, rfl, hz5⟩ := ZRow.of_owns how (by omega) (rowM_wf l x)
  clear how hgr
  go_wp2
  go_ret
  exact ⟨_, _, rfl, hz5, hn4⟩
end Go.Proofs.YtebcfbcfipmahaaGreat
end
section
/- Contracts of mixed.Check, mixed.Row and of the document's own Row; the example of mixed (awake); the walk of the statement MixedRows: for all words, all keys. -/
namespace Go.Proofs.YtebcfbcfipmahaaGreat
open Go.RowKit Go.Bv
set_option linter.unusedVariables false
set_option maxRecDepth 100000
set_option maxHeartbeats 1000000 in
theorem checkm_any (a : Option Addr) (n c : Nat) (bits : Int) (w : World) (hn : n ≤ 17592186044416) :
    Calls Tryz.prog 101 #[.slice a n c, .int .i64 bits] w fun e w' => e = .returned (.int .i64 (chk bits n 320)) ∧ w' = w := by
  by_cases h1 : bits < 1
  · have h : chk bits n 320 = 1 := by unfold chk; rw [if_pos (Or.inl h1)]
    have H := Lib.hid h
    clear h
    go_enter Tryz.func101, Tryz.ntmps101
    go_wp2
    go_ret
    rw [H.out]; exact ⟨rfl, rfl⟩
  · by_cases h2 : 64 < bits
    · have h : chk bits n 320 = 1 := by unfold chk; rw [if_pos (Or.inr h2)]
      have H := Lib.hid h
      clear h
      go_enter Tryz.func101, Tryz.ntmps101
      go_wp2
      go_ret
      rw [H.out]; exact ⟨rfl, rfl⟩
    · by_cases h3 : (n : Int) = 320
      · have h : chk bits n 320 = 0 := by unfold chk; rw [if_neg (by omega), if_neg (by omega)]
        have H := Lib.hid h
        have hb : ((n : Int) != 320) = false := by rw [bne_eq_false_iff_eq]; exact h3
        clear h h3
        go_enter Tryz.func101, Tryz.ntmps101
        go_wp2
        go_ret
        rw [H.out]; exact ⟨rfl, rfl⟩
      · have h : chk bits n 320 = 13 := by unfold chk; rw [if_neg (by omega), if_pos h3]
        have H := Lib.hid h
        have hb : ((n : Int) != 320) = true := by rw [bne_iff_ne]; exact h3
        clear h h3
        go_enter Tryz.func101, Tryz.ntmps101
        go_wp2
        go_ret
        rw [H.out]; exact ⟨rfl, rfl⟩
set_option maxHeartbeats 1000000 in
theorem partsm_any (b off c : Nat) (hc : 320 ≤ c) (hcc : c ≤ 9223372036854775807) (w : World) :
    Calls Tryz.prog 103 #[.slice (some ⟨b, off, none⟩) 320 c] w fun e w' => e = .returned (.tuple #[.slice (some ⟨b, off, none⟩) 192 192, .slice (some ⟨b, off + 192, none⟩) 128 128]) ∧ New w w' := by
  go_enter Tryz.func103, Tryz.ntmps103
  go_wp2
  go_quiet (fail)
  go_wp2
  go_ret2
  exact ⟨rfl, (New.refl w).drewN nq⟩
set_option maxHeartbeats 1000000 in
theorem rowing_any (b off c : Nat) (hc : 320 ≤ c) (hcc : c ≤ 9223372036854775807) (w : World) :
    Calls Tryz.prog 104 #[.slice (some ⟨b, off, none⟩) 320 c] w fun e w' => ∃ g, e = .returned (.func (.func 139) #[] #[.pointer (some ⟨g, 0, none⟩)]) ∧ w'.cell? ⟨g, 0, none⟩ = some (.slice (some ⟨b, off + 192, none⟩) 128 128) ∧ New w w' := by
  go_enter Tryz.func104, Tryz.ntmps104
  go_wp2_with fail
  refine (partsm_any b off c hc hcc _).mono ?_
  rintro e w1 ⟨rfl, hn⟩
  go_wp2
  go_ret
  exact ⟨_, rfl, by rw [World.cell?_alloc_new]; rfl, hn.alloc _⟩
def roM (l : List (BitVec 64)) (x : BitVec 64) : List Int := if evE 64 l.length 320 x = 0 then rowM l x else []
set_option maxHeartbeats 1000000 in
theorem rowm_any (a : Option Addr) (n c : Nat) (l : List (BitVec 64)) (x : BitVec 64) (w : World) (ha : QRow w a n c l) :
    Calls Tryz.prog 102 #[.slice a n c, .int .u64 (W64 x)] w fun e w' => ∃ a' n' c', e = .returned (.tuple #[.slice a' n' c', .int .i64 (evE 64 l.length 320 x)]) ∧ ZRow w' a' n' c' (roM l x) ∧ New w w' := by
  have hm := ha.most
  have hle := ha.le
  have hrm := ha.room
  have hck : ∀ w, Calls Tryz.prog 101 #[.slice a n c, .int .i64 64] w fun e w' => e = .returned (.int .i64 (chk 64 l.length 320)) ∧ w' = w := by
    rw [ha.len_eq]; exact fun w => checkm_any a n c 64 w hm
  have HCK := Lib.hid hck
  clear hck
  have hL := ha.len_eq
  have hnil : ∀ w : World, ZRow w none 0 0 [] := fun w => ⟨rfl, Nat.le_refl _, by omega, by omega, fun _ => ⟨rfl, rfl⟩, (fun _ _ e => by cases e), (fun _ e => by cases e), (fun _ e => by cases e), (fun _ e => by cases e)⟩
  have HN := Lib.hid hnil
  clear hnil
  rcases badE l.length 320 x with ⟨h1, h2, h3⟩ | ⟨h1, h2, h3⟩ | ⟨h1, h2, h3⟩
  · obtain ⟨b1, b2, b3⟩ := chk_good h1
    have hV : roM l x = rowM l x := by unfold roM; rw [if_pos h3]
    have HV := Lib.hid hV
    have H3 := Lib.hid h3
    have hx : decide (4294967295 < W64 x) = false := decide_eq_false (by unfold W64; omega)
    rw [h1] at HCK
    obtain rfl : n = 320 := by omega
    obtain ⟨b, off, rfl, _⟩ := ha.addr (by omega)
    have HL := Lib.hid hL
    clear hV h1 h2 h3 b3 b1 b2 hL
    go_enter Tryz.func102, Tryz.ntmps102
    go_wp2_with fail
    refine (HCK.out _).mono ?_
    rintro e w' ⟨rfl, rfl⟩
    go_wp2_with fail
    refine (rowing_any b off c hle hrm _).mono ?_
    rintro e w1 ⟨g, rfl, hcell, hn1⟩
    have hq1 := (ha.stay hn1).slice 192 128 128 (by omega) (by omega) (by omega)
    go_wp2_with fail
    refine (rowing1_any x g b (off + 192) l _ HL.out hcell hq1).mono ?_
    rintro e w2 ⟨a2, c2, rfl, hz, hn2⟩
    go_wp2
    go_ret2
    rw [H3.out, HV.out]
    exact ⟨_, _, _, rfl, hz, hn1.trans hn2⟩
  · have hV : roM l x = [] := by unfold roM; rw [if_neg (by rw [h3]; decide)]
    have HV := Lib.hid hV
    have H3 := Lib.hid h3
    have hx : decide (4294967295 < W64 x) = true := decide_eq_true (by unfold W64; omega)
    rw [h1] at HCK
    clear hV h1 h2 h3
    go_enter Tryz.func102, Tryz.ntmps102
    go_wp2_with fail
    refine (HCK.out _).mono ?_
    rintro e w' ⟨rfl, rfl⟩
    go_wp2
    go_ret2
    rw [H3.out, HV.out]
    exact ⟨_, _, _, rfl, HN.out _, New.refl _⟩
  · have hV : roM l x = [] := by unfold roM; rw [if_neg (by rw [h3]; rw [bne_iff_ne] at h2; exact h2)]
    have HV := Lib.hid hV
    have H3 := Lib.hid h3
    clear hV h1 h3
    generalize chk 64 l.length 320 = q at *
    go_enter Tryz.func102, Tryz.ntmps102
    go_wp2_with fail
    refine (HCK.out _).mono ?_
    rintro e w' ⟨rfl, rfl⟩
    go_wp2
    go_ret2
    rw [H3.out, HV.out]
    exact ⟨_, _, _, rfl, HN.out _, New.refl _⟩
set_option maxHeartbeats 1000000 in
theorem rowm_ref (a : Option Addr) (n c : Nat) (l : List (BitVec 64)) (x : BitVec 64) (w : World) (ha : QRow w a n c l) (h320 : n = 320) :
    Calls Tryz.prog 66 #[.slice a n c, .int .u64 (W64 x)] w fun e w' => ∃ a' c', e = .returned (.slice a' 12 c') ∧ ZRow w' a' 12 c' (rowM l x) ∧ New w w' := by
  subst h320
  obtain ⟨i0, hi, hz0, hz1, hz2⟩ := info_parts info_i64
  obtain ⟨b, off, rfl, _⟩ := ha.addr (by omega)
  have HR : Hid (lets x 8 ++ lets (dwx l x 8) 4 = rowM l x) := Lib.hid rfl
  go_enter Tryz.func66, Tryz.ntmps66
  go_wp2_with fail
  refine (letters_own x 8 8 (by omega) (by decide) _).mono ?_
  rintro e w1 ⟨v, rfl, hown, hn1⟩
  obtain ⟨a1, c1, rfl, hz⟩ := ZRow.of_owns hown (by omega) (lets_wf _ _)
  have HOWN := Lib.hid hown
  have HZ := Lib.hid hz
  clear hown hz
  go_wp2_with fail
  go_loopw [6, 13] (fun s i wr => ∃ k : Nat, k ≤ 8 ∧ i = .int .i64 k ∧ s = .int .u64 (W64 (dwx l x k)) ∧ New w wr ∧ New w1 wr) (fun _ i _ => 8 - (intOf i).toNat)
  case atStart => exact ⟨0, by omega, rfl, congrArg (Value.int .u64) (W64_lit 0 (by omega)).symm, hn1, New.refl w1⟩
  case round =>
    obtain ⟨k, hk, rfl, rfl, hn, hnr⟩ := hrel
    by_cases hlt : (k : Int) < 8
    · obtain ⟨b2, o2, rfl, hc2⟩ := (HZ.out.stay hnr).addr (by omega)
      have c2 := hc2 k (by omega)
      clear hc2
      rw [lets_at _ _ _ (by omega)] at c2
      have hl := lat_lt x k
      obtain ⟨c, hc⟩ : ∃ c : Nat, lat x k = (c : Int) := ⟨(lat x k).toNat, by omega⟩
      rw [hc] at c2
      have c1' := (ha.stay hn).cell b off rfl (192 + 16 * k + c) (by omega)
      have hw1 : wrap64 (16 * (k : Int)) = 16 * (k : Int) := by unfold wrap64; omega
      have hw2 : wrap64 (192 + 16 * (k : Int)) = 192 + 16 * (k : Int) := by unfold wrap64; omega
      have hw3 : wrap64 (192 + 16 * (k : Int) + (c : Int)) = 192 + 16 * (k : Int) + (c : Int) := by unfold wrap64; omega
      have ht : (192 + 16 * (k : Int) + (c : Int)).toNat = 192 + 16 * k + c := by omega
      have hlen : 192 + 16 * (k : Int) + (c : Int) < 320 := by omega
      have hx : dwx l x k ^^^ l.getD (192 + 16 * k + c) 0 = dwx l x (k + 1) := by
        show _ = dwx l x k ^^^ l.getD (192 + 16 * k + (lat x k).toNat) 0
        rw [hc]; rfl
      have HX := Lib.hid hx
      clear hx hc hl
      generalize l.getD (192 + 16 * k + c) 0 = y at c1' HX
      go_wp2
      exact ⟨⟨k + 1, by omega, by go_num, by rw [HX.out], hn, hnr⟩, by simp [intOf]; omega⟩
    · obtain rfl : k = 8 := by omega
      go_wp2_with fail
      refine (letters_ref (dwx l x 8) 4 4 (by omega) (by decide) _).mono ?_
      rintro e w3 ⟨a3, c3, rfl, hz3, hn3⟩
      have hown3 := own_stay HOWN.out (hnr.trans hn3)
      obtain ⟨b3, o3, rfl, _⟩ := hz3.addr (by omega)
      have hn13 := hn.trans hn3
      clear hn3 hn hnr
      go_wp2_with (at_builtin; refine wpList_append_own _ rfl _ _ 55 rfl w.heap.size 3 i0 (.int .i64 0) 1 8 Tryz.underlying55 hi hz0 hz1 hz2 rfl (by decide) _ 8 _ rfl hown3 ⟨b3, o3, none⟩ 4 c3 ((lets (dwx l x 8) 4).map fun y => .int .i64 y) rfl (by simp [lets_len]) ?c1 ?c2 ?c3 ?c4 ?c5 ?_)
      case c1 => exact hz3.olds _ rfl
      case c2 => intro u hu; obtain ⟨y, _, rfl⟩ := List.mem_map.1 hu; rfl
      case c3 => unfold maxLen; omega
      case c4 => omega
      case c5 => exact hn13.le
      intro v' w4 how hgr _
      rw [← List.map_append, HR.out] at how
      have hn4 : New w w4 := hn13.grown' hgr (own_base hown3)
      obtain ⟨a5, c5, rfl, hz5⟩ := ZRow.of_owns how (by omega) (rowM_wf l x)
      clear how hgr
      go_wp2
      go_ret
      exact ⟨_, _, rfl, hz5, hn4⟩
end Go.Proofs.YtebcfbcfipmahaaGreat
end
section
/- Unlike keys have unlike rows; the example of mixed (awake); the walk of the statement MixedRows: for all words, all keys. -/
namespace Go.Proofs.YtebcfbcfipmahaaGreat
open Go.RowKit Go.Bv
set_option linter.unusedVariables false
set_option maxRecDepth 100000
theorem rowM_at (l : List (BitVec 64)) (x : BitVec 64) (i : Nat) (hi : i < 8) : (rowM l x).getD i 0 = lat x i := by
  unfold rowM
  rw [List.getD_eq_getElem?_getD, List.getElem?_append_left (by rw [lets_len]; exact hi), ← List.getD_eq_getElem?_getD, lets_at _ _ _ hi]
theorem rowM_inj (l : List (BitVec 64)) (x y : BitVec 64) (hx : x.toNat < 4294967296) (hy : y.toNat < 4294967296) : (rowM l x == rowM l y) = (x == y) := by
  rw [Bool.eq_iff_iff, beq_iff_eq, beq_iff_eq]
  constructor
  · intro h
    have h2 : ∀ i, i < 8 → x >>> (4 * i) % 16#64 = y >>> (4 * i) % 16#64 := by
      intro i hi
      have := congrArg (fun r => r.getD i 0) h
      simp only [rowM_at _ _ _ hi] at this
      exact W64_inj.1 this
    apply BitVec.eq_of_getLsbD_eq
    intro p hp
    by_cases h3 : p < 32
    · have e := h2 (p / 4) (by omega)
      have e2 := congrArg (fun z => z.getLsbD (p % 4)) e
      rw [getLsb_mod16 _ _ _ (by omega) (by omega), getLsb_mod16 _ _ _ (by omega) (by omega), show 4 * (p / 4) + p % 4 = p by omega] at e2
      exact e2
    · have hb : ∀ z : BitVec 64, z.toNat < 4294967296 → z.getLsbD p = false := by
        intro z hz
        rw [← BitVec.testBit_toNat]
        apply Nat.testBit_lt_two_pow
        exact Nat.lt_of_lt_of_le hz (Nat.le_trans (show 4294967296 ≤ 2 ^ 32 by decide) (Nat.pow_le_pow_right (by omega) (by omega)))
      rw [hb x hx, hb y hy]
  · intro h; rw [h]
end Go.Proofs.YtebcfbcfipmahaaGreat
end
section
/- Contracts of mixed.Eval and of the document's own Eval; the walk of the statement MixedEvals: for all words, all keys. -/
namespace Go.Proofs.YtebcfbcfipmahaaGreat
open Go.RowKit Go.Bv
set_option linter.unusedVariables false
set_option maxRecDepth 100000
def meV (l : List (BitVec 64)) (bits : Int) (x : BitVec 64) : BitVec 64 := if evE bits l.length 320 x = 0 then lowN (xs (l.take 192) (rowM l x) 12) bits.toNat else 0#64
theorem rowM_all (l : List (BitVec 64)) (x : BitVec 64) : (rowM l x).all okc = true := by
  rw [List.all_eq_true]; intro c hc; exact okc_true (rowM_mem l x c hc)
theorem fit_rowM (l r : List (BitVec 64)) (x : BitVec 64) (h : r.length = 192) : fitE r.length (rowM l x) = 0 := by
  unfold fitE; rw [if_neg (by rw [rowM_len, h]; simp), rowM_all]; rfl
theorem sv_rowM (l r : List (BitVec 64)) (x : BitVec 64) (h : r.length = 192) : sv r (rowM l x) = xs r (rowM l x) 12 := by
  unfold sv; rw [if_pos (fit_rowM l r x h), rowM_len]
theorem badE2 (bits : Int) (n : Nat) (N : Int) (x : BitVec 64) : (chk bits n N = 0 ∧ x.toNat < 4294967296 ∧ evE bits n N x = 0) ∨ (chk bits n N = 0 ∧ ¬ x.toNat < 4294967296 ∧ evE bits n N x = 2) ∨ (chk bits n N ≠ 0 ∧ (chk bits n N != 0) = true ∧ evE bits n N x = chk bits n N) := by
  by_cases h1 : chk bits n N = 0
  · by_cases h2 : x.toNat < 4294967296
    · exact Or.inl ⟨h1, h2, by unfold evE; rw [if_neg (by rw [h1]; simp), if_pos h2]⟩
    · exact Or.inr (Or.inl ⟨h1, h2, by unfold evE; rw [if_neg (by rw [h1]; simp), if_neg h2]⟩)
  · exact Or.inr (Or.inr ⟨h1, by rw [bne_iff_ne]; exact h1, by unfold evE; rw [if_pos h1]⟩)
set_option maxHeartbeats 1000000 in
theorem evalm_any (a : Option Addr) (n c : Nat) (l : List (BitVec 64)) (bits : Int) (x : BitVec 64) (w : World) (ha : QRow w a n c l) :
    Calls Tryz.prog 52 #[.slice a n c, .int .i64 bits, .int .u64 (W64 x)] w fun e w' => e = .returned (.tuple #[.int .u64 (W64 (meV l bits x)), .int .i64 (evE bits l.length 320 x)]) ∧ New w w' := by
  have hm := ha.most
  have hle := ha.le
  have hrm := ha.room
  have hck : ∀ w, Calls Tryz.prog 101 #[.slice a n c, .int .i64 bits] w fun e w' => e = .returned (.int .i64 (chk bits l.length 320)) ∧ w' = w := by
    rw [ha.len_eq]; exact fun w => checkm_any a n c bits w hm
  have HCK := Lib.hid hck
  clear hck
  have hL := ha.len_eq
  rcases badE2 bits l.length 320 x with ⟨h1, h2, h3⟩ | ⟨h1, h2, h3⟩ | ⟨h1, h2, h3⟩
  · obtain ⟨b1, b2, b3⟩ := chk_good h1
    have hV : meV l bits x = lowN (xs (l.take 192) (rowM l x) 12) bits.toNat := by unfold meV; rw [if_pos h3]
    have hT : evE 64 l.length 320 x = 0 := tuE h3
    have hrow := fun w => rowm_any a n c l x w
    rw [hT, show roM l x = rowM l x by unfold roM; rw [if_pos hT]] at hrow
    have h192 : (l.take 192).length = 192 := by rw [List.length_take]; omega
    have hsv := sv_rowM l (l.take 192) x h192
    have hfit := fit_rowM l (l.take 192) x h192
    have hshr := fun y : BitVec 64 => lowN_shift y bits.toNat (by omega)
    have e1 : wrap64 (64 - bits) = 64 - bits := by unfold wrap64; omega
    have e2 : 0 ≤ 64 - bits := by omega
    have e3 : (64 - bits).toNat = 64 - bits.toNat := by omega
    have HE := Lib.hid h3
    have HV := Lib.hid hV
    have HROW := Lib.hid hrow
    have HSV := Lib.hid hsv
    have HFIT := Lib.hid hfit
    have HSHR := Lib.hid hshr
    rw [h1] at HCK
    obtain rfl : n = 320 := by omega
    obtain ⟨b, off, rfl, _⟩ := ha.addr (by omega)
    clear hV hT hrow h192 hsv hfit h1 h2 h3 b3 b1 b2 hL hshr
    go_enter Tryz.func52, Tryz.ntmps52
    go_wp2_with fail
    refine (HCK.out _).mono ?_
    rintro e w' ⟨rfl, rfl⟩
    go_wp2_with fail
    refine (HROW.out _ ha).mono ?_
    rintro e w1 ⟨a1, n1, c1, rfl, hz1, hn1⟩
    go_wp2_with fail
    refine (partsm_any b off c hle hrm _).mono ?_
    rintro e w2 ⟨rfl, hn2⟩
    have hn12 := hn1.trans hn2
    have hq1 := (ha.stay hn12).slice 0 192 192 (by omega) (by omega) (by omega)
    rw [List.drop_zero] at hq1
    have hq2 : QRow w2 (some ⟨b, off, none⟩) 192 192 (l.take 192) := hq1
    clear hq1
    go_wp2_with fail
    refine (sum_any _ _ _ _ _ _ _ _ _ hq2 (hz1.stay hn2)).mono ?_
    rintro e w3 ⟨rfl, hn3⟩
    rw [HFIT.out, HSV.out]
    go_wp2
    go_ret2
    rw [HV.out, HE.out, ← HSHR.out]
    exact ⟨rfl, hn12.trans hn3⟩
  · have hV : W64 (meV l bits x) = 0 := by unfold meV; rw [if_neg (by rw [h3]; decide)]; exact W64_lit 0 (by omega)
    have hT : evE 64 l.length 320 x = 2 := tuE2 h1 h2
    have hrow := fun w => rowm_any a n c l x w
    rw [hT] at hrow
    have HE := Lib.hid h3
    have HV := Lib.hid hV
    have HROW := Lib.hid hrow
    rw [h1] at HCK
    clear hV hT hrow h1 h2 h3
    go_enter Tryz.func52, Tryz.ntmps52
    go_wp2_with fail
    refine (HCK.out _).mono ?_
    rintro e w' ⟨rfl, rfl⟩
    go_wp2_with fail
    refine (HROW.out _ ha).mono ?_
    rintro e w1 ⟨a1, n1, c1, rfl, hz1, hn1⟩
    go_wp2
    go_ret2
    rw [HV.out, HE.out]
    exact ⟨rfl, hn1⟩
  · have hV : W64 (meV l bits x) = 0 := by unfold meV; rw [h3, if_neg h1]; exact W64_lit 0 (by omega)
    have HE := Lib.hid h3
    have HV := Lib.hid hV
    clear hV h1 h3
    generalize chk bits l.length 320 = q at *
    go_enter Tryz.func52, Tryz.ntmps52
    go_wp2_with fail
    refine (HCK.out _).mono ?_
    rintro e w' ⟨rfl, rfl⟩
    go_wp2
    go_ret2
    rw [HV.out, HE.out]
    exact ⟨rfl, New.refl _⟩
set_option maxHeartbeats 2000000 in
theorem evalm_ref (a : Option Addr) (n c : Nat) (l : List (BitVec 64)) (bits : Int) (x : BitVec 64) (w : World) (ha : QRow w a n c l) :
    Calls Tryz.prog 36 #[.slice a n c, .int .i64 bits, .int .u64 (W64 x)] w fun e w' => e = .returned (.tuple #[.int .u64 (W64 (meV l bits x)), .int .i64 (evE bits l.length 320 x)]) ∧ New w w' := by
  have hm := ha.most
  have hle := ha.le
  have hrm := ha.room
  have hck : ∀ w, Calls Tryz.prog 61 #[.slice a n c, .int .i64 bits, .int .i64 320] w fun e w' => e = .returned (.int .i64 (chk bits l.length 320)) ∧ w' = w := by
    rw [ha.len_eq]; exact fun w => check_ref a n c bits 320 w hm
  have HCK := Lib.hid hck
  clear hck
  have hL := ha.len_eq
  rcases badE2 bits l.length 320 x with ⟨h1, h2, h3⟩ | ⟨h1, h2, h3⟩ | ⟨h1, h2, h3⟩
  · obtain ⟨b1, b2, b3⟩ := chk_good h1
    have hV : meV l bits x = lowN (xs (l.take 192) (rowM l x) 12) bits.toNat := by unfold meV; rw [if_pos h3]
    have hrow := fun w h => rowm_ref a n c l x w h (by omega)
    have h192 : (l.take 192).length = 192 := by rw [List.length_take]; omega
    have hfit := fit_rowM l (l.take 192) x h192
    have hlow := fun (y : BitVec 64) w => low_ref y bits bits.toNat (by omega) (by omega) w
    have hx : decide (4294967296 ≤ W64 x) = false := decide_eq_false (by unfold W64; omega)
    have HE := Lib.hid h3
    have HV := Lib.hid hV
    have HROW := Lib.hid hrow
    have HFIT := Lib.hid hfit
    have HLOW := Lib.hid hlow
    have HLEN := Lib.hid (rowM_len l x)
    rw [h1] at HCK
    obtain rfl : n = 320 := by omega
    obtain ⟨b, off, rfl, _⟩ := ha.addr (by omega)
    have hq0 : QRow w (some ⟨b, off, none⟩) 192 c (l.take 192) := by
      have h := ha.slice 0 192 c (by omega) (by omega) (by omega)
      rw [List.drop_zero] at h
      exact h
    have HA := Lib.hid ha
    have HQ := Lib.hid hq0
    have hc192 : (192 : Int) ≤ (c : Int) := by omega
    clear hV hrow h192 hfit h1 h2 h3 b3 b1 b2 hL hlow ha hq0
    go_enter Tryz.func36, Tryz.ntmps36
    go_wp2_with fail
    refine (HCK.out _).mono ?_
    rintro e w' ⟨rfl, rfl⟩
    go_wp2_with fail
    go_region_law (first
      | (go_simp
         go_at_call 66
         refine (HROW.out _ (HA.out.stay (New.refl _).drew)).mono ?_
         rintro e w1 ⟨a1, c1, rfl, hz1, hn1⟩
         have hd1 : New w' w1 := (New.refl w').drew.trans hn1)
      | (go_simp
         go_at_call 63
         refine (sum_ref _ _ _ _ _ _ _ _ _ (HQ.out.stay hd1) hz1 HFIT.out).mono ?_
         rintro e w2 ⟨rfl, hn2⟩
         rw [HLEN.out]
         have hd2 : New w' w2 := hd1.trans hn2)
      | (go_simp
         go_at_call 62
         refine (HLOW.out _ _).mono ?_
         rintro e w3 ⟨rfl, rfl⟩))
    all_goals (
      go_wp2
      go_ret2
      rw [HE.out, HV.out]
      exact ⟨rfl, hd2⟩)
  · have hV : W64 (meV l bits x) = 0 := by unfold meV; rw [if_neg (by rw [h3]; decide)]; exact W64_lit 0 (by omega)
    have hx : decide (4294967296 ≤ W64 x) = true := decide_eq_true (by unfold W64; omega)
    have HE := Lib.hid h3
    have HV := Lib.hid hV
    rw [h1] at HCK
    clear hV h1 h2 h3
    go_enter Tryz.func36, Tryz.ntmps36
    go_wp2_with fail
    refine (HCK.out _).mono ?_
    rintro e w' ⟨rfl, rfl⟩
    go_wp2
    go_ret2
    rw [HV.out, HE.out]
    exact ⟨rfl, New.refl _⟩
  · have hV : W64 (meV l bits x) = 0 := by unfold meV; rw [h3, if_neg h1]; exact W64_lit 0 (by omega)
    have HE := Lib.hid h3
    have HV := Lib.hid hV
    clear hV h1 h3
    generalize chk bits l.length 320 = q at *
    go_enter Tryz.func36, Tryz.ntmps36
    go_wp2_with fail
    refine (HCK.out _).mono ?_
    rintro e w' ⟨rfl, rfl⟩
    go_wp2
    go_ret2
    rw [HV.out, HE.out]
    exact ⟨rfl, New.refl _⟩
end Go.Proofs.YtebcfbcfipmahaaGreat
end
