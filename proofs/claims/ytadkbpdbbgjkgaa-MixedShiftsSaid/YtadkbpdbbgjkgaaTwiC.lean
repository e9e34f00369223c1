/- Layer 23: Shift. -/
import Derived.Test.YtadkbpdbbgjkgaaTabI
import Derived.Test.YtadkbpdbbgjkgaaTwiB
namespace Go.Proofs.Ytadkbpdbbgjkgaa
open Go Go.RowKit Go.Bv Go.Tab
set_option linter.unusedVariables false
set_option maxRecDepth 100000
theorem zcell {w w' : World} {a : Addr} {v : Value} (h : w.cell? a = some v) (hn : New w w') : w'.cell? a = some v := by
  rw [hn.cell (cell_block h)]; exact h
abbrev ZW (n : Nat) : Obj := .cells (madeCells #[.int .u64 0] n) 24
theorem zA {w q : World} (n : Nat) (h : New (w.alloc (ZW n)) q) : New w q ∧ CR q w.heap.size n (fun _ => 0#64) := ⟨((New.refl w).alloc _).trans h, (cr_made w n).stay h⟩
theorem zAd {w q : World} (n : Nat) (h : New (w.alloc (ZW n)).drew q) : New w q ∧ CR q w.heap.size n (fun _ => 0#64) := ⟨((New.refl w).alloc _).drew.trans h, ((cr_made w n).stay (New.refl _).drew).stay h⟩
theorem zdA {w q : World} (n : Nat) (h : New (w.drew.alloc (ZW n)) q) : New w q ∧ CR q w.heap.size n (fun _ => 0#64) := ⟨((New.refl w).drew.alloc _).trans h, (cr_made w.drew n).stay h⟩
theorem zB {w q : World} (h : New w.drew q) : New w q := (New.refl w).drew.trans h
/-- turned keys -/
def tuL (l xl : List (BitVec 64)) : List (BitVec 64) := (List.range xl.length).map fun i => turnV l (xl.getD i 0)
/-- the seed that Shift makes -/
def twL (l : List (BitVec 64)) (bits : Int) (xl yl : List (BitVec 64)) : List (BitVec 64) := shL (l.take 128) bits (tuL l xl) yl ++ (l.drop 128).take 112
theorem tuL_len (l xl : List (BitVec 64)) : (tuL l xl).length = xl.length := by simp [tuL]
theorem tuL_at (l xl : List (BitVec 64)) (i : Nat) (hi : i < xl.length) : (tuL l xl).getD i 0 = turnV l (xl.getD i 0) := map_at _ hi
theorem small_of {x : BitVec 64} (h : x >>> 32 = 0#64) : x.toNat < 4294967296 := by
  have := shr_nat x 32
  rw [h] at this
  simpa using this.symm
theorem of_small {x : BitVec 64} (h : x.toNat < 4294967296) : x >>> 32 = 0#64 := by
  have := shr_nat x 32
  rw [decide_eq_true (by omega), beq_iff_eq] at this
  exact this
theorem tuL_tg {l xl yl : List (BitVec 64)} {b : Nat} (h : tgE b xl yl = 0) : tgE b (tuL l xl) yl = 0 := by
  obtain ⟨t1, t2, t3, t4, t5⟩ := tg_zero h
  have hl := tuL_len l xl
  refine tg_ok (by omega) (fun j hj => ?_) (fun j hj => same2_no fun k hk => ?_)
  · unfold bad2
    rw [tuL_at l xl j (by omega), (t4 j (by omega)).2, of_small (turn_small l _ (small_of (t4 j (by omega)).1))]
    rfl
  · rw [tuL_at l xl j (by omega), tuL_at l xl k (by omega)]
    intro he
    have := turn_inj l (xl.getD j 0) (xl.getD k 0)
    rw [he, beq_self_eq_true] at this
    exact t5 k j (by omega) (by omega) (by omega) (beq_iff_eq.1 this.symm).symm
/-- what is wrong -/
def csN (bits : Int) (n : Nat) (N : Int) (xl yl : List (BitVec 64)) : Int := if chk bits n N ≠ 0 then chk bits n N else tgE bits.toNat xl yl
theorem cs_sub {l : List (BitVec 64)} {bits : Int} {N : Int} {xl yl : List (BitVec 64)} (h : chk bits l.length N = 0) (hN : 128 ≤ N) : csE bits (l.take 128).length 128 xl yl = tgE bits.toNat xl yl := by
  obtain ⟨b1, b2, b3⟩ := chk_good h
  have hl : (l.take 128).length = 128 := by rw [List.length_take]; omega
  have hc : chk bits (l.take 128).length 128 = 0 := by unfold chk; rw [if_neg (by omega), hl, if_neg (by simp)]
  unfold csE
  rw [if_neg (by rw [hc]; simp)]
set_option maxHeartbeats 8000000 in
theorem tshift_no (a : Option Addr) (na ca : Nat) (l : List (BitVec 64)) (bits : Int) (x : Option Addr) (nx cx : Nat) (xl : List (BitVec 64)) (y : Option Addr) (ny cy : Nat) (yl : List (BitVec 64)) (w : World) (ha : QRow w a na ca l) (hx : QRow w x nx cx xl) (hy : QRow w y ny cy yl) (hne : csN bits l.length 240 xl yl ≠ 0) :
    Calls Try.prog 37 #[.slice a na ca, .int .i64 bits, .slice x nx cx, .slice y ny cy] w fun e w' => e = .returned (.tuple #[.slice none 0 0, .int .i64 (csN bits l.length 240 xl yl)]) ∧ New w w' := by
  have hm := ha.most
  have hle := ha.le
  have hrm := ha.room
  have hck : ∀ w, Calls Try.prog 36 #[.slice a na ca, .int .i64 bits] w fun e w' => e = .returned (.int .i64 (chk bits l.length 240)) ∧ w' = w := by
    rw [ha.len_eq]; exact fun w => checkt_any a na ca bits w hm
  have HCK := Lib.hid hck
  clear hck
  by_cases h1 : chk bits l.length 240 = 0
  · have he : csN bits l.length 240 xl yl = tgE bits.toNat xl yl := by unfold csN; rw [if_neg (by rw [h1]; simp)]
    rw [he] at hne ⊢
    obtain ⟨b1, b2, b3⟩ := chk_good h1
    have hL := ha.len_eq
    obtain rfl : na = 240 := by omega
    obtain ⟨b, off, rfl, _⟩ := ha.addr (by omega)
    have hS := fun w' (hw : New w w') => shift_no (some ⟨b, off, none⟩) 128 128 (l.take 128) bits x nx cx xl y ny cy yl w' ((ha.stay hw).slice 0 128 128 (by omega) (by omega) (by omega)) (hx.stay hw) (hy.stay hw) (by rw [cs_sub h1 (by omega)]; exact hne)
    rw [cs_sub h1 (by omega)] at hS
    have HS := Lib.hid hS
    have hb : (tgE bits.toNat xl yl != 0) = true := by rw [bne_iff_ne]; exact hne
    rw [h1] at HCK
    clear hS h1 he hne b1 b2 b3 hx hy hL ha
    generalize tgE bits.toNat xl yl = E at HS hb ⊢
    go_enter Try.func37, Try.ntmps37
    go_wp2_with fail
    refine (HCK.out _).mono ?_
    rintro e w' ⟨rfl, rfl⟩
    go_wp2_with fail
    refine (partst_any b off ca hle hrm _).mono ?_
    rintro e w1 ⟨rfl, n1⟩
    go_wp2_with fail
    refine (HS.out _ n1).mono ?_
    rintro e w2 ⟨rfl, n2⟩
    go_wp2
    go_ret2
    exact ⟨rfl, n1.trans n2⟩
  · have he : csN bits l.length 240 xl yl = chk bits l.length 240 := by unfold csN; rw [if_pos h1]
    rw [he]
    have hb : (chk bits l.length 240 != 0) = true := by rw [bne_iff_ne]; exact h1
    clear he hne h1 ha hx hy
    generalize chk bits l.length 240 = E at HCK hb ⊢
    go_enter Try.func37, Try.ntmps37
    go_wp2_with fail
    refine (HCK.out _).mono ?_
    rintro e w' ⟨rfl, rfl⟩
    go_wp2
    go_ret2
    exact ⟨rfl, New.refl _⟩
set_option maxHeartbeats 8000000 in
theorem tshift_ok (a : Option Addr) (ca : Nat) (l : List (BitVec 64)) (bits : Int) (x : Option Addr) (nx cx : Nat) (xl : List (BitVec 64)) (y : Option Addr) (cy : Nat) (yl : List (BitVec 64)) (w : World) (ha : QRow w a 240 ca l) (hx : QRow w x nx cx xl) (hy : QRow w y nx cy yl) (h0 : csN bits l.length 240 xl yl = 0) :
    Calls Try.prog 37 #[.slice a 240 ca, .int .i64 bits, .slice x nx cx, .slice y nx cy] w fun e w' => ∃ v, e = .returned (.tuple #[v, .int .i64 0]) ∧ w'.ownsRow w.heap.size 24 1 v 240 ((twL l bits xl yl).map fun x => .int .u64 (W64 x)) ∧ New w w' := by
  obtain ⟨i0, hi, hz0, hz1, hz2⟩ := info_parts info_u64t
  have hm := ha.most
  have hle := ha.le
  have hrm := ha.room
  have hck : ∀ w, Calls Try.prog 36 #[.slice a 240 ca, .int .i64 bits] w fun e w' => e = .returned (.int .i64 (chk bits l.length 240)) ∧ w' = w := by
    rw [ha.len_eq]; exact fun w => checkt_any a 240 ca bits w hm
  have HCK := Lib.hid hck
  clear hck
  have h1 : chk bits l.length 240 = 0 := by
    unfold csN at h0
    by_cases e : chk bits l.length 240 = 0
    · exact e
    · rw [if_pos e] at h0; exact absurd h0 e
  have htg : tgE bits.toNat xl yl = 0 := by unfold csN at h0; rwa [if_neg (by rw [h1]; simp)] at h0
  obtain ⟨t1, t2, t3, t4, t5⟩ := tg_zero htg
  have hlx := hx.len_eq
  obtain ⟨b, off, rfl, _⟩ := ha.addr (by omega)
  have HS1 := Lib.hid (fun w' (hw : New w w') => shift_ok (some ⟨b, off, none⟩) 128 128 (l.take 128) bits x nx cx xl y cy yl w' ((ha.stay hw).slice 0 128 128 (by omega) (by omega) (by omega)) (hx.stay hw) (hy.stay hw) (by rw [cs_sub h1 (by omega)]; exact htg))
  have HS2 := Lib.hid (fun gt w' (hw : New w w') (ht : QRow w' (some ⟨gt, 0, none⟩) nx nx (tuL l xl)) => shift_ok (some ⟨b, off, none⟩) 128 128 (l.take 128) bits (some ⟨gt, 0, none⟩) nx nx (tuL l xl) y cy yl w' ((ha.stay hw).slice 0 128 128 (by omega) (by omega) (by omega)) ht (hy.stay hw) (by rw [cs_sub h1 (by omega)]; exact tuL_tg htg))
  have hmk : ∀ W : World, (Instr.makeSlice 22 (.int .i64 (nx : Int)) (.int .i64 (nx : Int))).run Try.prog W = .ok (.slice (some ⟨W.heap.size, 0, none⟩) nx nx) (W.alloc (ZW nx)) := fun W => make_w22 nx (by omega) _ W rfl
  have HTU := Lib.hid (fun w' => turning_any b off ca hle hrm w')
  have HT1 := Lib.hid (fun g xv w' (hw : New w w') (hc : w'.cell? ⟨g, 0, none⟩ = some (.slice (some ⟨b, off + 128, none⟩) 112 112)) => turning1_any xv g b (off + 128) ((l.drop 128).take 112) w' hc ((ha.stay hw).slice 128 112 112 (by omega) (by omega) (by omega)))
  have HTV : Hid (∀ xv, xv ^^^ (twy ((l.drop 128).take 112) xv 7) <<< 28 = turnV l xv) := Lib.hid (fun xv => by rw [twy_twx l xv 7 (by omega)]; rfl)
  have HTW := Lib.hid (fun w' (hw : New w w') => (ha.stay hw).slice 128 112 112 (by omega) (by omega) (by omega))
  have HTL : Hid (tuL l xl = (List.range nx).map fun i => turnV l (xl.getD i 0)) := Lib.hid (by unfold tuL; rw [hlx])
  have HTWL : Hid (twL l bits xl yl = shL (l.take 128) bits (tuL l xl) yl ++ (l.drop 128).take 112) := Lib.hid rfl
  have hnx0 : 0 < nx := by omega
  have hnx3 : nx ≤ 3 := by omega
  obtain ⟨p1, o1, e1, _⟩ := hx.addr hnx0
  subst e1
  have HX := Lib.hid hx
  rw [h1] at HCK
  have HL240 : Hid (l.length = 240) := Lib.hid ha.len_eq
  clear ha hx hy h0 h1 htg t1 t2 t3 t4 t5 hlx
  go_enter Try.func37, Try.ntmps37
  go_wp2_with fail
  refine (HCK.out _).mono ?_
  rintro e w0 ⟨rfl, rfl⟩
  go_wp2_with fail
  refine (partst_any b off ca hle hrm _).mono ?_
  rintro e w1 ⟨rfl, n1⟩
  have HN1 := Lib.hid n1
  clear n1 HCK
  go_wp2_with fail
  refine (HS1.out _ HN1.out).mono ?_
  rintro e w2 ⟨v2, rfl, ho2, n2⟩
  obtain ⟨a2, c2, rfl, _⟩ := QRow.of_owns ho2 (by omega)
  have HN2 := Lib.hid (HN1.out.trans n2)
  clear n2 ho2 HS1 HN1
  go_wp2_with fail
  go_cut [15, 16] (fun f d wx => ∃ g gt, f = .func (Fn.func 59) #[] #[.pointer (some ⟨g, 0, none⟩)] ∧ d = .slice (some ⟨gt, 0, none⟩) nx nx ∧ wx.cell? ⟨g, 0, none⟩ = some (.slice (some ⟨b, off + 128, none⟩) 112 112) ∧ CR wx gt nx (fun _ => 0#64) ∧ w2.heap.size ≤ gt ∧ New w2 wx)
  case first =>
    go_region_held3 (fun w' => New w2 w')
      (repeat (first | with_reducible assumption | with_reducible exact New.refl _ | with_reducible apply New.drew | with_reducible refine New.alloc ?_ _))
      (first
        | (go_at_call 53
           refine (HTU.out _).mono ?_
           rintro e q0 ⟨g, rfl, hc, hn⟩
           first
             | (have hA := zAd nx hn
                have hg0 : New w2 q0 := hA.1)
             | (have hA := zdA nx hn
                have hg0 : New w2 q0 := hA.1)
             | (have hA := zA nx hn
                have hg0 : New w2 q0 := hA.1)
             | (have hg0 : New w2 q0 := by with_reducible exact zB hn)
             | (have hg0 : New w2 q0 := by with_reducible exact hn)
           clear hn))
    all_goals (
      go_wp2_with fail
      go_meet
      case rel =>
        first
          | exact ⟨g, _, rfl, rfl, hc, hA.2, Nat.le_refl _, hg0⟩
          | exact ⟨g, _, rfl, rfl, zcell hc ((New.refl q0).alloc _), cr_made q0 nx, hg0.le, hg0.alloc _⟩)
  case rest =>
    obtain ⟨g, gt, rfl, rfl, hc, hcr, hgt, hn3⟩ := hcut
    have HN3 := Lib.hid (HN2.out.trans hn3)
    have HGT : Hid (w0.heap.size ≤ gt) := Lib.hid (Nat.le_trans HN2.out.le hgt)
    have hne : g ≠ gt := by
      intro e
      subst e
      have h1 := (hcr.get hnx0).1
      rw [hc] at h1
      cases h1
    have HNE := Lib.hid hne
    have hst : New w0 wc ∧ wc.cell? ⟨g, 0, none⟩ = some (.slice (some ⟨b, off + 128, none⟩) 112 112) ∧ CR wc gt nx (fun j => if j < 0 then turnV l (xl.getD j 0) else 0#64) := ⟨HN3.out, hc, hcr.congr (fun j _ => by rw [if_neg (by omega)])⟩
    have HST := Lib.hid hst
    clear hmk hc hcr hgt hn3 hne hst HTU
    go_wp2
    go_loopw [50] (fun iv wr => ∃ k : Nat, k ≤ nx ∧ iv = .int .i64 (k : Int) ∧ Hid (New w0 wr ∧ wr.cell? ⟨g, 0, none⟩ = some (.slice (some ⟨b, off + 128, none⟩) 112 112) ∧ CR wr gt nx (fun j => if j < k then turnV l (xl.getD j 0) else 0#64))) (fun iv _ => nx - (intOf iv).toNat)
    case atStart => exact ⟨0, Nat.zero_le _, rfl, HST⟩
    case round =>
      clear HST
      obtain ⟨k, hk, rfl, HI⟩ := hrel
      by_cases hlt : (k : Int) < (nx : Int)
      · have hk0 : (0 : Int) ≤ (k : Int) := by omega
        have hkn : k < nx := by omega
        have d1 := (HX.out.stay HI.out.1).cell p1 o1 rfl k hkn
        have hcall := HT1.out g (xl.getD k 0) _ HI.out.1 HI.out.2.1
        rw [HTV.out] at hcall
        have HP : Hid (∀ q, New wr q → New w0 (q.setCell ⟨gt, k, none⟩ (.int .u64 (W64 (turnV l (xl.getD k 0))))) ∧ (q.setCell ⟨gt, k, none⟩ (.int .u64 (W64 (turnV l (xl.getD k 0))))).cell? ⟨g, 0, none⟩ = some (.slice (some ⟨b, off + 128, none⟩) 112 112) ∧ CR (q.setCell ⟨gt, k, none⟩ (.int .u64 (W64 (turnV l (xl.getD k 0))))) gt nx (fun j => if j < k + 1 then turnV l (xl.getD j 0) else 0#64)) := Lib.hid (fun q hq => by
          refine ⟨(HI.out.1.trans hq).setCell (p := ⟨gt, k, none⟩) HGT.out _, ?_, (HI.out.2.2.stay hq).put hkn _ (by rw [if_pos (by omega)]) (fun j hj hjk => ?_)⟩
          · have h1 := zcell HI.out.2.1 hq
            have h2 : (q.setCell ⟨gt, k, none⟩ (.int .u64 (W64 (turnV l (xl.getD k 0))))).heap[g]? = q.heap[g]? := heap_setCell_other _ _ _ _ HNE.out
            unfold World.cell? at h1 ⊢
            simp only at h1 ⊢
            rw [h2]; exact h1
          · by_cases e : j < k
            · rw [if_pos e, if_pos (by omega)]
            · rw [if_neg e, if_neg (by omega)])
        have HSP : Hid (∀ q, New wr q → q.cell? ⟨gt, k, none⟩ = some (.int .u64 (W64 (if k < k then turnV l (xl.getD k 0) else 0#64))) ∧ q.frozen? ⟨gt, k, none⟩ = false) := Lib.hid (fun q hq => (HI.out.2.2.stay hq).get hkn)
        obtain ⟨xv, hxv⟩ : ∃ xv, xl.getD k 0 = xv := ⟨_, rfl⟩
        rw [hxv] at d1 hcall HP HSP
        obtain ⟨tv, htv⟩ : ∃ tv, turnV l xv = tv := ⟨_, rfl⟩
        rw [htv] at hcall HP HSP
        have HC := Lib.hid hcall
        clear hcall hxv htv
        go_wp2_with fail
        refine HC.out.mono ?_
        rintro e w6 ⟨rfl, n6⟩
        obtain ⟨e1, e2⟩ := HSP.out _ n6
        have HP6 := Lib.hid (HP.out _ n6)
        clear n6 HP HSP HC d1
        go_wp2
        exact ⟨⟨k + 1, by omega, by go_num, HP6⟩, by simp [intOf]; omega⟩
      · obtain rfl : k = nx := by omega
        have hq := (HI.out.2.2.congr (l' := fun j => turnV l (xl.getD j 0)) (fun j hj => by rw [if_pos hj])).row (by omega) (Nat.le_refl _) (by omega)
        have HQ2 := HS2.out gt _ HI.out.1 (by rw [HTL.out]; exact hq)
        have HQ3 := Lib.hid HQ2
        have HNW := Lib.hid HI.out.1
        clear hq HQ2 HI
        go_wp2_with fail
        refine HQ3.out.mono ?_
        rintro e w8 ⟨v8, rfl, ho8, n8⟩
        have HN8 := Lib.hid (HNW.out.trans n8)
        have ho := ow_lower ho8 HNW.out.le
        have hrow := HTW.out _ HN8.out
        have HLN : Hid ((((l.drop 128).take 112).map fun x => Value.int .u64 (W64 x)).length = 112) := Lib.hid (by rw [List.length_map, List.length_take, List.length_drop, HL240.out]; omega)
        have HTWR : Hid ((twL l bits xl yl).map (fun x => Value.int .u64 (W64 x)) = ((shL (l.take 128) bits (tuL l xl) yl).map fun x => .int .u64 (W64 x)) ++ ((l.drop 128).take 112).map fun x => .int .u64 (W64 x)) := Lib.hid (by rw [HTWL.out, List.map_append])
        have HCELL : Hid (∀ (j : Nat) (u : Value), (((l.drop 128).take 112).map fun x => Value.int .u64 (W64 x))[j]? = some u → w8.cell? ((⟨b, off + 128, none⟩ : Addr).add j) = some u) := Lib.hid (fun j u h => by
          have hj : j < 112 := by
            have := (List.getElem?_eq_some_iff.1 h).1
            rw [HLN.out] at this; exact this
          have h2 := hrow.cell b (off + 128) rfl j hj
          rw [add_plain, h2]
          rw [List.getElem?_map, List.getElem?_eq_getElem (by rw [List.length_take, List.length_drop, HL240.out]; omega)] at h
          rw [List.getD_eq_getElem?_getD, List.getElem?_eq_getElem (by rw [List.length_take, List.length_drop, HL240.out]; omega)]
          exact h)
        obtain ⟨ys, hys⟩ : ∃ ys, (((l.drop 128).take 112).map fun x => Value.int .u64 (W64 x)) = ys := ⟨_, rfl⟩
        obtain ⟨zs, hzs⟩ : ∃ zs, ((shL (l.take 128) bits (tuL l xl) yl).map fun x => Value.int .u64 (W64 x)) = zs := ⟨_, rfl⟩
        have HONE : Hid (∀ v ∈ ys, v.oneCell' = true) := Lib.hid (by rw [← hys]; intro v hv; obtain ⟨x, _, rfl⟩ := List.mem_map.1 hv; rfl)
        rw [hys] at HLN HTWR HCELL
        rw [hzs] at HTWR ho
        clear n8 ho8 hrow hys hzs HQ3
        go_wp2_with (at_builtin; refine wpList_append_own _ rfl _ _ 22 rfl w0.heap.size 24 i0 (.int .u64 0) 1 8 Try.underlying22 hi hz0 hz1 hz2 rfl (by decide) _ 128 _ rfl ho ⟨b, off + 128, none⟩ 112 112 ys rfl (by rw [HLN.out]) ?c1 ?c2 ?c3 ?c4 ?c5 ?_)
        case c1 => exact HCELL.out
        case c2 => exact HONE.out
        case c3 => decide
        case c4 => decide
        case c5 => exact HN8.out.le
        intro v' w9 how hgr _
        have HN9 := Lib.hid (HN8.out.grown' hgr (own_base ho))
        have HOW := Lib.hid how
        clear how hgr ho
        go_wp2
        refine bodyPost_ret (by simp [results, Try.results37, go_sem]; try rfl) rfl ?_
        rw [HTWR.out]
        exact ⟨_, rfl, HOW.out, HN9.out⟩
end Go.Proofs.Ytadkbpdbbgjkgaa
