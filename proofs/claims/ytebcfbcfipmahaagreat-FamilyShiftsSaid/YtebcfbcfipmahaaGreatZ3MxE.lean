import Derived.Test.YtebcfbcfipmahaaGreatZ3FamL
import Derived.Test.YtebcfbcfipmahaaGreatZ3MxD
/- Layer 24: Shift. -/
namespace Go.Proofs.YtebcfbcfipmahaaGreat
open Go Go.RowKit Go.Bv Go.Tab
set_option linter.unusedVariables false
set_option maxRecDepth 100000
set_option maxHeartbeats 1000000 in
theorem rowing1_own (x : BitVec 64) (g b off : Nat) (l : List (BitVec 64)) (w : World) (hL : l.length = 320) (hg : w.cell? ⟨g, 0, none⟩ = some (.slice (some ⟨b, off, none⟩) 128 128)) (hq : QRow w (some ⟨b, off, none⟩) 128 128 ((l.drop 192).take 128)) :
    Calls Tryz.prog 139 #[.int .u64 (W64 x), .pointer (some ⟨g, 0, none⟩)] w fun e w' => ∃ v, e = .returned v ∧ w'.ownsRow w.heap.size 3 1 v 12 ((rowM l x).map fun y => .int .i64 y) ∧ New w w' := by
  obtain ⟨i0, hi, hz0, hz1, hz2⟩ := info_parts info_i64
  have hsv : sv ((l.drop 192).take 128) (lets x 8) = dwx l x 8 := by
    rw [sv_lets _ _ 8 (by rw [List.length_take, List.length_drop, hL]; omega), dwx_xs l x 8 (by omega)]
  have HSV := Lib.hid hsv
  clear hsv
  have HR : Hid (lets x 8 ++ lets (dwx l x 8) 4 = rowM l x) := Lib.hid rfl
  go_enter Tryz.func139, Tryz.ntmps139
  go_wp2_with fail
  refine (chars_own x 8 8 (by omega) (by decide) _).mono ?_
  rintro e w1 ⟨v, rfl, hown, hn1⟩
  obtain ⟨a1, c1, rfl, hz⟩ := ZRow.of_owns hown (by omega) (lets_wf _ _)
  have g1 : w1.cell? ⟨g, 0, none⟩ = some (.slice (some ⟨b, off, none⟩) 128 128) := by
    rw [hn1.cell (a := ⟨g, 0, none⟩) (World.block_lt_of_cell? _ _ hg)]; exact hg
  go_wp2_with fail
  refine (sum_any _ _ _ _ _ _ _ _ _ (hq.stay hn1) hz).mono ?_
  rintro e w2 ⟨rfl, hn2⟩
  rw [HSV.out]
  go_wp2_with fail
  refine (chars_any (dwx l x 8) 4 4 (by omega) (by decide) _).mono ?_
  rintro e w3 ⟨a3, c3, rfl, hz3, hn3⟩
  have hown3 := own_stay hown (hn2.trans hn3)
  obtain ⟨b3, o3, rfl, _⟩ := hz3.addr (by omega)
  have hn13 := hn1.trans (hn2.trans hn3)
  clear g1 hn2 hn3 hown hz hn1
  go_wp2_with (at_builtin; refine wpList_append_own _ rfl _ _ 55 rfl w.heap.size 3 i0 (.int .i64 0) 1 8 Tryz.underlying55 hi hz0 hz1 hz2 rfl (by decide) _ 8 _ rfl hown3 ⟨b3, o3, none⟩ 4 c3 ((lets (dwx l x 8) 4).map fun y => .int .i64 y) rfl (by simp [lets_len]) ?c1 ?c2 ?c3 ?c4 ?c5 ?_)
  case c1 => exact hz3.olds _ rfl
  case c2 => intro u hu; obtain ⟨y, _, rfl⟩ := List.mem_map.1 hu; rfl
  case c3 => unfold maxLen; omega
  case c4 => omega
  case c5 => exact hn13.le
  intro v' w4 how hgr _
  rw [← List.map_append, HR.out] at how
  have hn4 : New w w4 := hn13.grown' hgr (own_base hown3)
  have HOW := Lib.hid how
  clear how hgr
  go_wp2
  refine bodyPost_ret (by simp [results, Tryz.results139, go_sem]; try rfl) rfl ?_
  exact ⟨_, rfl, HOW.out, hn4⟩
set_option maxHeartbeats 1000000 in
theorem rowing_blk (b off c : Nat) (hc : 320 ≤ c) (hcc : c ≤ 9223372036854775807) (w : World) :
    Calls Tryz.prog 104 #[.slice (some ⟨b, off, none⟩) 320 c] w fun e w' => ∃ g, e = .returned (.func (.func 139) #[] #[.pointer (some ⟨g, 0, none⟩)]) ∧ w'.heap[g]? = some (.cells #[.slice (some ⟨b, off + 192, none⟩) 128 128] 28 (0, 0)) ∧ New w w' := by
  go_enter Tryz.func104, Tryz.ntmps104
  go_wp2_with fail
  refine (partsm_any b off c hc hcc _).mono ?_
  rintro e w1 ⟨rfl, hn⟩
  go_wp2
  go_ret
  exact ⟨_, rfl, heap_alloc_new _ _, hn.alloc _⟩
theorem zblk {w w' : World} {g : Nat} {o : Obj} (h : w.heap[g]? = some o) (hn : New w w') : w'.heap[g]? = some o := (hn.block _ (lt_of_block h)).trans h
theorem ShI2.base {w q wr : World} {gr gb n m : Nat} {R : Nat → List Int} {B : Nat → BitVec 64} {k : Nat} (h : ShI2 q wr gr gb n m R B k) (hn : New w q) : ShI2 w wr gr gb n m R B k := ⟨hn.trans h.new, h.rows, h.by_⟩
abbrev ZR (n : Nat) : Obj := .cells (madeCells #[.slice none 0 0] n) 55
theorem oneR {u q : World} (n m : Nat) (R : Nat → List Int) (B : Nat → BitVec 64) (h0 : New (u.alloc (ZR n)).drew q) : ShI2 u (q.alloc (ZW n)) u.heap.size q.heap.size n m R B 0 ∧ u.heap.size < q.heap.size ∧ New u q :=
  have h := zB h0
  ⟨⟨(((New.refl u).alloc _).trans h).alloc _, ⟨_, ((h.alloc _).block _ (lt_of_block (heap_alloc_new u _))).trans (heap_alloc_new u _), size_madeCells _ _, fun i hi => absurd hi (by omega)⟩, (cr_made q n).congr (fun j _ => by rw [if_neg (by omega)])⟩, Nat.lt_of_lt_of_le (by simp) h.le, ((New.refl u).alloc _).trans h⟩
theorem oneB {u q : World} (n m : Nat) (R : Nat → List Int) (B : Nat → BitVec 64) (h0 : New (u.alloc (ZW n)).drew q) : ShI2 u (q.alloc (ZR n)) q.heap.size u.heap.size n m R B 0 ∧ u.heap.size < q.heap.size ∧ New u q :=
  have h := zB h0
  ⟨⟨(((New.refl u).alloc _).trans h).alloc _, ⟨_, heap_alloc_new q _, size_madeCells _ _, fun i hi => absurd hi (by omega)⟩, ((cr_made u n).stay (h.alloc _)).congr (fun j _ => by rw [if_neg (by omega)])⟩, Nat.lt_of_lt_of_le (by simp) h.le, ((New.refl u).alloc _).trans h⟩
theorem twoRB {u q : World} (n m : Nat) (R : Nat → List Int) (B : Nat → BitVec 64) (h : New ((u.alloc (ZR n)).alloc (ZW n)).drew q) : ShI2 u q u.heap.size (u.heap.size + 1) n m R B 0 := (two_made u n m R B).1.stay (zB h)
theorem twoBR {u q : World} (n m : Nat) (R : Nat → List Int) (B : Nat → BitVec 64) (h : New ((u.alloc (ZW n)).alloc (ZR n)).drew q) : ShI2 u q (u.heap.size + 1) u.heap.size n m R B 0 := (two_made u n m R B).2.stay (zB h)
/-- changes, the seed -/
def byM (l : List (BitVec 64)) (bits : Int) (xl yl : List (BitVec 64)) : Nat → BitVec 64 := fun i => meV l bits (xl.getD i 0) ^^^ yl.getD i 0
def miR (l xl : List (BitVec 64)) : Nat → List Int := fun i => rowM l (xl.getD i 0)
def miL (l : List (BitVec 64)) (bits : Int) (xl yl : List (BitVec 64)) : List (BitVec 64) := aimL (l.take 192) xl.length 12 (miR l xl) ((List.range xl.length).map (byM l bits xl yl)) ++ (l.drop 192).take 128
set_option maxHeartbeats 8000000 in
theorem mshift_no (a : Option Addr) (na ca : Nat) (l : List (BitVec 64)) (bits : Int) (x : Option Addr) (nx cx : Nat) (xl : List (BitVec 64)) (y : Option Addr) (ny cy : Nat) (yl : List (BitVec 64)) (w : World) (ha : QRow w a na ca l) (hx : QRow w x nx cx xl) (hy : QRow w y ny cy yl) (hne : csN bits l.length 320 xl yl ≠ 0) :
    Calls Tryz.prog 53 #[.slice a na ca, .int .i64 bits, .slice x nx cx, .slice y ny cy] w fun e w' => e = .returned (.tuple #[.slice none 0 0, .int .i64 (csN bits l.length 320 xl yl)]) ∧ New w w' := by
  have hm := ha.most
  have hle := ha.le
  have hrm := ha.room
  have hck : ∀ w, Calls Tryz.prog 101 #[.slice a na ca, .int .i64 bits] w fun e w' => e = .returned (.int .i64 (chk bits l.length 320)) ∧ w' = w := by
    rw [ha.len_eq]; exact fun w => checkm_any a na ca bits w hm
  have HCK := Lib.hid hck
  clear hck
  by_cases h1 : chk bits l.length 320 = 0
  · have he : csN bits l.length 320 xl yl = tgE bits.toNat xl yl := by unfold csN; rw [if_neg (by rw [h1]; simp)]
    rw [he] at hne ⊢
    obtain ⟨b1, b2, b3⟩ := chk_good h1
    have hL := ha.len_eq
    obtain rfl : na = 320 := by omega
    obtain ⟨b, off, rfl, _⟩ := ha.addr (by omega)
    have hS := fun w' (hw : New w w') => shift_no (some ⟨b, off, none⟩) 128 128 (l.take 128) bits x nx cx xl y ny cy yl w' ((ha.stay hw).slice 0 128 128 (by omega) (by omega) (by omega)) (hx.stay hw) (hy.stay hw) (by rw [cs_sub h1 (by omega)]; exact hne)
    rw [cs_sub h1 (by omega)] at hS
    have HS := Lib.hid hS
    have hb : (tgE bits.toNat xl yl != 0) = true := by rw [bne_iff_ne]; exact hne
    rw [h1] at HCK
    clear hS h1 he hne b1 b2 b3 hx hy hL ha
    generalize tgE bits.toNat xl yl = E at HS hb ⊢
    go_enter Tryz.func53, Tryz.ntmps53
    go_wp2_with fail
    refine (HCK.out _).mono ?_
    rintro e w0 ⟨rfl, rfl⟩
    go_wp2_with fail
    refine (HS.out _ (New.refl _)).mono ?_
    rintro e w2 ⟨rfl, n2⟩
    go_wp2
    go_ret2
    exact ⟨rfl, n2⟩
  · have he : csN bits l.length 320 xl yl = chk bits l.length 320 := by unfold csN; rw [if_pos h1]
    rw [he]
    have hb : (chk bits l.length 320 != 0) = true := by rw [bne_iff_ne]; exact h1
    clear he hne h1 ha hx hy
    generalize chk bits l.length 320 = E at HCK hb ⊢
    go_enter Tryz.func53, Tryz.ntmps53
    go_wp2_with fail
    refine (HCK.out _).mono ?_
    rintro e w' ⟨rfl, rfl⟩
    go_wp2
    go_ret2
    exact ⟨rfl, New.refl _⟩
set_option maxHeartbeats 8000000 in
theorem mshift_ok (a : Option Addr) (ca : Nat) (l : List (BitVec 64)) (bits : Int) (x : Option Addr) (nx cx : Nat) (xl : List (BitVec 64)) (y : Option Addr) (cy : Nat) (yl : List (BitVec 64)) (w : World) (ha : QRow w a 320 ca l) (hx : QRow w x nx cx xl) (hy : QRow w y nx cy yl) (h0 : csN bits l.length 320 xl yl = 0) :
    Calls Tryz.prog 53 #[.slice a 320 ca, .int .i64 bits, .slice x nx cx, .slice y nx cy] w fun e w' => ∃ v, e = .returned (.tuple #[v, .int .i64 0]) ∧ w'.ownsRow w.heap.size 31 1 v 320 ((miL l bits xl yl).map fun x => .int .u64 (W64 x)) ∧ New w w' := by
  obtain ⟨i0, hi, hz0, hz1, hz2⟩ := info_parts info_u64t
  have hm := ha.most
  have hle := ha.le
  have hrm := ha.room
  have hck : ∀ w, Calls Tryz.prog 101 #[.slice a 320 ca, .int .i64 bits] w fun e w' => e = .returned (.int .i64 (chk bits l.length 320)) ∧ w' = w := by
    rw [ha.len_eq]; exact fun w => checkm_any a 320 ca bits w hm
  have HCK := Lib.hid hck
  clear hck
  have h1 : chk bits l.length 320 = 0 := by
    unfold csN at h0
    by_cases e : chk bits l.length 320 = 0
    · exact e
    · rw [if_pos e] at h0; exact absurd h0 e
  have htg : tgE bits.toNat xl yl = 0 := by unfold csN at h0; rwa [if_neg (by rw [h1]; simp)] at h0
  obtain ⟨t1, t2, t3, t4, t5⟩ := tg_zero htg
  have hlx := hx.len_eq
  have hl320 := ha.len_eq
  obtain ⟨b, off, rfl, _⟩ := ha.addr (by omega)
  have ht192 : (l.take 192).length = 192 := by rw [List.length_take, hl320]; rfl
  have HS1 := Lib.hid (fun w' (hw : New w w') => shift_ok (some ⟨b, off, none⟩) 128 128 (l.take 128) bits x nx cx xl y cy yl w' ((ha.stay hw).slice 0 128 128 (by omega) (by omega) (by omega)) (hx.stay hw) (hy.stay hw) (by rw [cs_sub h1 (by omega)]; exact htg))
  have HAIM := Lib.hid (fun (gr gb : Nat) w' (hw : New w w') (hr : Rws w' gr 0 nx 12 (miR l xl)) (hb : QRow w' (some ⟨gb, 0, none⟩) nx nx ((List.range nx).map (byM l bits xl yl))) =>
    aim_ok (some ⟨b, off, none⟩) 192 192 (l.take 192) gr 0 nx nx 12 (Nat.le_refl _) (by omega) (by omega) (by omega) (by omega) (miR l xl) (fun i hi => fit_rowM l (l.take 192) _ ht192) (fun i hi => rowM_len _ _) (fun i j hi hj hij he => t5 i j (by omega) (by omega) hij (by
      have := rowM_inj l (xl.getD i 0) (xl.getD j 0) (small_of (t4 i (by omega)).1) (small_of (t4 j (by omega)).1)
      rw [show rowM l (xl.getD i 0) = rowM l (xl.getD j 0) from he, beq_self_eq_true] at this
      exact beq_iff_eq.1 this.symm)) (some ⟨gb, 0, none⟩) nx _ w' ((ha.stay hw).slice 0 192 192 (by omega) (by omega) (by omega)) hr hb)
  have hmk1 : ∀ W : World, (Instr.makeSlice 107 (.int .i64 (nx : Int)) (.int .i64 (nx : Int))).run Tryz.prog W = .ok (.slice (some ⟨W.heap.size, 0, none⟩) nx nx) (W.alloc (ZR nx)) := fun W => make_rows nx (by omega) _ W rfl
  have hmk2 : ∀ W : World, (Instr.makeSlice 28 (.int .i64 (nx : Int)) (.int .i64 (nx : Int))).run Tryz.prog W = .ok (.slice (some ⟨W.heap.size, 0, none⟩) nx nx) (W.alloc (ZW nx)) := fun W => make_w22 nx (by omega) _ W rfl
  have HTU := Lib.hid (fun w' => rowing_blk b off ca hle hrm w')
  have HT1 := Lib.hid (fun g xv w' (hw : New w w') (hc : w'.heap[g]? = some (.cells #[.slice (some ⟨b, off + 192, none⟩) 128 128] 28 (0, 0))) => rowing1_own xv g b (off + 192) l w' hl320 (cell_of_row _ _ 0 _ _ _ hc) ((ha.stay hw).slice 192 128 128 (by omega) (by omega) (by omega)))
  have HEV := Lib.hid (fun k w' (hw : New w w') => evalm_any (some ⟨b, off, none⟩) 320 ca l bits (xl.getD k 0) w' (ha.stay hw))
  have HEE : Hid (∀ k, k < nx → evE bits l.length 320 (xl.getD k 0) = 0) := Lib.hid (fun k hk => by
    unfold evE
    rw [if_neg (by rw [h1]; simp), if_pos (small_of (t4 k (by omega)).1)])
  have HTW := Lib.hid (fun w' (hw : New w w') => (ha.stay hw).slice 192 128 128 (by omega) (by omega) (by omega))
  have HMIL : Hid (miL l bits xl yl = aimL (l.take 192) nx 12 (miR l xl) ((List.range nx).map (byM l bits xl yl)) ++ (l.drop 192).take 128) := Lib.hid (by unfold miL; rw [hlx])
  have hnx0 : 0 < nx := by omega
  have hnx3 : nx ≤ 3 := by omega
  obtain ⟨p1, o1, e1, _⟩ := hx.addr hnx0
  subst e1
  obtain ⟨p2, o2, e2, _⟩ := hy.addr hnx0
  subst e2
  have HX := Lib.hid hx
  have HY := Lib.hid hy
  rw [h1] at HCK
  have HL320 := Lib.hid hl320
  clear ha hx hy h0 h1 htg t1 t2 t3 t4 t5 hlx hl320 ht192
  go_enter Tryz.func53, Tryz.ntmps53
  go_wp2_with fail
  refine (HCK.out _).mono ?_
  rintro e w0 ⟨rfl, rfl⟩
  go_wp2_with fail
  refine (HS1.out _ (New.refl _)).mono ?_
  rintro e w1 ⟨v1, rfl, ho1, n1⟩
  obtain ⟨a1, c1, rfl, _⟩ := QRow.of_owns ho1 (by omega)
  have HN1 := Lib.hid n1
  clear n1 ho1 HS1 HCK
  go_wp2_with fail
  refine (partsm_any b off ca hle hrm _).mono ?_
  rintro e w2 ⟨rfl, n2⟩
  have HN2 := Lib.hid (HN1.out.trans n2)
  clear n2 HN1
  go_wp2_with fail
  go_cut [15, 16, 17] (fun f c d wx => ∃ g gr gb, f = .func (Fn.func 139) #[] #[.pointer (some ⟨g, 0, none⟩)] ∧ c = .slice (some ⟨gr, 0, none⟩) nx nx ∧ d = .slice (some ⟨gb, 0, none⟩) nx nx ∧ wx.heap[g]? = some (.cells #[.slice (some ⟨b, off + 192, none⟩) 128 128] 28 (0, 0)) ∧ ShI2 w2 wx gr gb nx 12 (miR l xl) (byM l bits xl yl) 0 ∧ w2.heap.size ≤ gr ∧ w2.heap.size ≤ gb ∧ gr ≠ gb)
  case first =>
    go_region_held3 (fun w' => New w2 w')
      (repeat (first | with_reducible assumption | with_reducible exact New.refl _ | with_reducible apply New.drew | with_reducible refine New.alloc ?_ _))
      (first
        | (go_at_call 104
           refine (HTU.out _).mono ?_
           rintro e q0 ⟨g, rfl, hc, hn⟩
           first
             | (have hA := twoRB (u := w2) nx 12 (miR l xl) (byM l bits xl yl) hn
                have hgw : New w2 q0 := hA.new)
             | (have hA := twoBR (u := w2) nx 12 (miR l xl) (byM l bits xl yl) hn
                have hgw : New w2 q0 := hA.new)
             | (have hA := oneR (u := w2) nx 12 (miR l xl) (byM l bits xl yl) hn
                have hgw : New w2 q0 := hA.2.2)
             | (have hA := oneB (u := w2) nx 12 (miR l xl) (byM l bits xl yl) hn
                have hgw : New w2 q0 := hA.2.2)
             | (have hgw : New w2 q0 := by with_reducible exact zB hn)
           clear hn))
    all_goals (
      go_wp2_with fail
      go_meet
      case rel =>
        first
          | exact ⟨g, _, _, rfl, rfl, rfl, hc, hA, Nat.le_refl _, Nat.le_succ _, Nat.ne_of_lt (Nat.lt_succ_self _)⟩
          | exact ⟨g, _, _, rfl, rfl, rfl, hc, hA, Nat.le_succ _, Nat.le_refl _, Ne.symm (Nat.ne_of_lt (Nat.lt_succ_self _))⟩
          | exact ⟨g, _, _, rfl, rfl, rfl, zblk hc ((New.refl q0).alloc _), hA.1, Nat.le_refl _, Nat.le_of_lt hA.2.1, Nat.ne_of_lt hA.2.1⟩
          | exact ⟨g, _, _, rfl, rfl, rfl, zblk hc ((New.refl q0).alloc _), hA.1, Nat.le_of_lt hA.2.1, Nat.le_refl _, Ne.symm (Nat.ne_of_lt hA.2.1)⟩
          | exact ⟨g, _, _, rfl, rfl, rfl, zblk hc (((New.refl q0).alloc _).alloc _), (two_made q0 nx 12 _ _).1.base hgw, hgw.le, Nat.le_trans hgw.le (Nat.le_succ _), Nat.ne_of_lt (Nat.lt_succ_self _)⟩
          | exact ⟨g, _, _, rfl, rfl, rfl, zblk hc (((New.refl q0).alloc _).alloc _), (two_made q0 nx 12 _ _).2.base hgw, Nat.le_trans hgw.le (Nat.le_succ _), hgw.le, Ne.symm (Nat.ne_of_lt (Nat.lt_succ_self _))⟩)
  case rest =>
    obtain ⟨g, gr, gb, rfl, rfl, rfl, hc, hst, hgr, hgb, hne⟩ := hcut
    have HNE := Lib.hid hne
    have HG1 := Lib.hid hgr
    have HG2 := Lib.hid hgb
    have HGR : Hid (w0.heap.size ≤ gr) := Lib.hid (Nat.le_trans HN2.out.le hgr)
    have HGB : Hid (w0.heap.size ≤ gb) := Lib.hid (Nat.le_trans HN2.out.le hgb)
    have hgn : g ≠ gr ∧ g ≠ gb := by
      constructor
      · intro e
        subst e
        obtain ⟨cs, h1, _⟩ := hst.rows
        rw [hc] at h1
        cases h1
      · intro e
        subst e
        obtain ⟨cs, h1, _⟩ := hst.by_
        rw [hc] at h1
        cases h1
    have HGN := Lib.hid hgn
    have HST : Hid (wc.heap[g]? = some (.cells #[.slice (some ⟨b, off + 192, none⟩) 128 128] 28 (0, 0)) ∧ ShI2 w2 wc gr gb nx 12 (miR l xl) (byM l bits xl yl) 0) := Lib.hid ⟨hc, hst⟩
    clear hmk1 hmk2 hc hst hgr hgb hne hgn HTU
    go_wp2
    go_loopw [57] (fun iv wr => ∃ k : Nat, k ≤ nx ∧ iv = .int .i64 (k : Int) ∧ Hid (wr.heap[g]? = some (.cells #[.slice (some ⟨b, off + 192, none⟩) 128 128] 28 (0, 0)) ∧ ShI2 w2 wr gr gb nx 12 (miR l xl) (byM l bits xl yl) k)) (fun iv _ => nx - (intOf iv).toNat)
    case atStart => exact ⟨0, Nat.zero_le _, rfl, HST⟩
    case round =>
      clear HST
      obtain ⟨k, hk, rfl, HI⟩ := hrel
      by_cases hlt : (k : Int) < (nx : Int)
      · have hk0 : (0 : Int) ≤ (k : Int) := by omega
        have hkn : k < nx := by omega
        have HW := Lib.hid (HN2.out.trans HI.out.2.new)
        have d1 := (HX.out.stay HW.out).cell p1 o1 rfl k hkn
        have HE := Lib.hid (HEV.out k _ HW.out)
        rw [HEE.out k hkn] at HE
        have HB : Hid (byM l bits xl yl k = meV l bits (xl.getD k 0) ^^^ yl.getD k 0) := Lib.hid rfl
        have HYC : Hid (∀ w', New w0 w' → w'.cell? ⟨p2, o2 + k, none⟩ = some (.int .u64 (W64 (yl.getD k 0)))) := Lib.hid (fun w' hn => (HY.out.stay hn).cell p2 o2 rfl k hkn)
        have HR : Hid (miR l xl k = rowM l (xl.getD k 0)) := Lib.hid rfl
        obtain ⟨xv, hxv⟩ : ∃ xv, xl.getD k 0 = xv := ⟨_, rfl⟩
        obtain ⟨yv, hyv⟩ : ∃ yv, yl.getD k 0 = yv := ⟨_, rfl⟩
        rw [hxv] at d1 HE HB HR
        rw [hyv] at HB HYC
        obtain ⟨ev, hev⟩ : ∃ ev, meV l bits xv = ev := ⟨_, rfl⟩
        rw [hev] at HE HB
        clear hxv hyv hev
        go_wp2_with fail
        refine HE.out.mono ?_
        rintro e w5 ⟨rfl, n5⟩
        have HI5 : Hid (w5.heap[g]? = some (.cells #[.slice (some ⟨b, off + 192, none⟩) 128 128] 28 (0, 0)) ∧ ShI2 w2 w5 gr gb nx 12 (miR l xl) (byM l bits xl yl) k) := Lib.hid ⟨zblk HI.out.1 n5, HI.out.2.stay n5⟩
        have HW5 := Lib.hid (HN2.out.trans HI5.out.2.new)
        have HC1 := Lib.hid (fun w' (hn : New w5 w') => HT1.out g xv w' (HW5.out.trans hn) (zblk HI5.out.1 hn))
        have HFAR : Hid (∀ b, w5.heap.size ≤ b → b ≠ gr ∧ b ≠ gb) := Lib.hid (fun b hb => by
          obtain ⟨cs, h1, _⟩ := HI5.out.2.rows
          have h2 := lt_of_block h1
          have h3 := HI5.out.2.by_.lt
          omega)
        clear HI HW HE d1 n5
        go_wp2_with fail
        have SK : Hid (∀ w', New w0 w' → New w0 w' ∧ w'.cell? ⟨p2, o2 + k, none⟩ = some (.int .u64 (W64 yv))) := Lib.hid (fun w' hn => ⟨hn, HYC.out w' hn⟩)
        have hw0 := HW5.out
        obtain ⟨_, ce⟩ := SK.out w5 hw0
        have HLE1 : Hid (w0.heap.size ≤ (⟨gr, k, none⟩ : Addr).block) := HGR
        have HLE2 : Hid (w0.heap.size ≤ (⟨gb, k, none⟩ : Addr).block) := HGB
        go_region_held3 (fun w' => New w0 w' ∧ w'.cell? ⟨p2, o2 + k, none⟩ = some (.int .u64 (W64 yv)))
          ((refine SK.out _ ?_; repeat (first | with_reducible assumption | with_reducible exact New.refl _ | with_reducible refine New.drew ?_ | (with_reducible refine New.setCell ?_ HLE1.out _) | (with_reducible refine New.setCell ?_ HLE2.out _))))
          (first
            | (go_at_call 139
               first
                 | refine (HC1.out _ (by with_reducible exact New.refl _)).mono ?_
                 | refine (HC1.out _ (by with_reducible exact (New.refl _).drew)).mono ?_
               rintro e q0 ⟨v, rfl, hv, hc0⟩
               have hg0 : New w5 q0 := by first | with_reducible exact (New.refl w5).drew.trans hc0 | with_reducible exact hc0
               have hgw : New w0 q0 := HW5.out.trans hg0
               obtain ⟨a4, c4, rfl, hz4, hf4⟩ := ZRow.of_owns2 hv (by omega) (rowM_wf l xv)
               obtain ⟨⟨v0, dv0⟩, dvf, de0, def0⟩ := (HI5.out.2.stay hg0).spots hkn HNE.out
               have HQ := Lib.hid hg0
               have HZ := Lib.hid hz4
               have HF4 := Lib.hid hf4
               clear hv hc0 hz4 hf4))
        all_goals (
          go_wp2
          refine ⟨⟨k + 1, by omega, by go_num, Lib.hid ⟨?_, (HI5.out.2.stay HQ.out).next hkn HG1.out HG2.out HNE.out (by rw [HR.out]; exact HZ.out) (fun x e => HFAR.out _ (HF4.out x e)) _ HB.out.symm⟩⟩, by simp [intOf]; omega⟩
          exact (heap_setCell_other _ _ _ _ HGN.out.2).trans ((heap_setCell_other _ _ _ _ HGN.out.1).trans (zblk HI5.out.1 HQ.out)))
      · obtain rfl : k = nx := by omega
        obtain ⟨hrw, hby⟩ := HI.out.2.done (by omega)
        have HA := Lib.hid (HAIM.out gr gb _ (HN2.out.trans HI.out.2.new) hrw hby)
        have HNW := Lib.hid (HN2.out.trans HI.out.2.new)
        clear hrw hby HI HNE HGR HGB HG1 HG2 HAIM HGN
        go_wp2_with fail
        refine HA.out.mono ?_
        rintro e w8 ⟨v8, rfl, ho8, n8⟩
        have HN8 := Lib.hid (HNW.out.trans n8)
        have ho := ow_lower ho8 HNW.out.le
        have hrow := HTW.out _ HN8.out
        have HLN : Hid ((((l.drop 192).take 128).map fun x => Value.int .u64 (W64 x)).length = 128) := Lib.hid (by rw [List.length_map, List.length_take, List.length_drop, HL320.out]; omega)
        have HTWR : Hid ((miL l bits xl yl).map (fun x => Value.int .u64 (W64 x)) = ((aimL (l.take 192) k 12 (miR l xl) ((List.range k).map (byM l bits xl yl))).map fun x => .int .u64 (W64 x)) ++ ((l.drop 192).take 128).map fun x => .int .u64 (W64 x)) := Lib.hid (by rw [HMIL.out, List.map_append])
        have HCELL : Hid (∀ (j : Nat) (u : Value), (((l.drop 192).take 128).map fun x => Value.int .u64 (W64 x))[j]? = some u → w8.cell? ((⟨b, off + 192, none⟩ : Addr).add j) = some u) := Lib.hid (fun j u h => by
          have hj : j < 128 := by
            have := (List.getElem?_eq_some_iff.1 h).1
            rw [HLN.out] at this; exact this
          have h2 := hrow.cell b (off + 192) rfl j hj
          rw [add_plain, h2]
          rw [List.getElem?_map, List.getElem?_eq_getElem (by rw [List.length_take, List.length_drop, HL320.out]; omega)] at h
          rw [List.getD_eq_getElem?_getD, List.getElem?_eq_getElem (by rw [List.length_take, List.length_drop, HL320.out]; omega)]
          exact h)
        obtain ⟨ys, hys⟩ : ∃ ys, (((l.drop 192).take 128).map fun x => Value.int .u64 (W64 x)) = ys := ⟨_, rfl⟩
        obtain ⟨zs, hzs⟩ : ∃ zs, ((aimL (l.take 192) k 12 (miR l xl) ((List.range k).map (byM l bits xl yl))).map fun x => Value.int .u64 (W64 x)) = zs := ⟨_, rfl⟩
        have HONE : Hid (∀ v ∈ ys, v.oneCell' = true) := Lib.hid (by rw [← hys]; intro v hv; obtain ⟨x, _, rfl⟩ := List.mem_map.1 hv; rfl)
        rw [hys] at HLN HTWR HCELL
        rw [hzs] at HTWR ho
        clear n8 ho8 hrow hys hzs HA
        go_wp2_with (at_builtin; refine wpList_append_own _ rfl _ _ 28 rfl w0.heap.size 31 i0 (.int .u64 0) 1 8 Tryz.underlying28 hi hz0 hz1 hz2 rfl (by decide) _ 192 _ rfl ho ⟨b, off + 192, none⟩ 128 128 ys rfl (by rw [HLN.out]) ?c1 ?c2 ?c3 ?c4 ?c5 ?_)
        case c1 => exact HCELL.out
        case c2 => exact HONE.out
        case c3 => decide
        case c4 => decide
        case c5 => exact HN8.out.le
        intro v' w9 how hgr _
        have HN9 := Lib.hid (HN8.out.grown' hgr (own_base ho))
        have HOW := Lib.hid how
        clear how hgr ho
        go_wp2
        refine bodyPost_ret (by simp [results, Tryz.results53, go_sem]; try rfl) rfl ?_
        rw [HTWR.out]
        exact ⟨_, rfl, HOW.out, HN9.out⟩
end Go.Proofs.YtebcfbcfipmahaaGreat
