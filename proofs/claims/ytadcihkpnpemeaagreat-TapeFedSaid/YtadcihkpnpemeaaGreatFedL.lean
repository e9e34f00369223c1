/- The statement TapeFed: for every state and every number. -/
import Derived.Test.YtadcihkpnpemeaaGreatFedQ
import Derived.Test.YtadcihkpnpemeaaGreatTapF
namespace Go.Proofs.YtadcihkpnpemeaaGreat
open Go.RowKit Go.Bv
set_option linter.unusedVariables false
set_option maxRecDepth 100000
/-- the loop's memory -/
structure TakF (w wr : World) (b g : Nat) (a : Option Addr) (cap : Nat) (kd : Int) (q : W4) (m k : Nat) : Prop where
  tape : Fed wr b g kd q m k
  new : New w wr
  gb : w.heap.size ≤ g
  row : QRow wr a m cap (wlK kd q m)
  ne : ∀ x, a = some x → 0 < m → x.block ≠ b ∧ x.block ≠ g
theorem wl_len (kd : Int) (q : W4) (m : Nat) : (wlK kd q m).length = m := by simp [wlK]
theorem wl_at (kd : Int) (q : W4) {m k : Nat} (h : k < m) : (wlK kd q m).getD k 0 = wdK kd q k := by
  unfold wlK
  rw [List.getD_eq_getElem?_getD, List.getElem?_map, List.getElem?_range h]; rfl
theorem wl_take (kd : Int) (q : W4) {m k : Nat} (h : k ≤ m) : (wlK kd q m).take k = wlK kd q k := by
  unfold wlK
  rw [← List.map_take, List.take_range, Nat.min_eq_left h]
set_option maxHeartbeats 1000000 in
theorem taken_f37 (b : Nat) (a : Option Addr) (cap : Nat) (kd : Int) (q : W4) (m : Nat) (W w : World) (ht : Fed w b b kd q m 0) (hq : QRow w a m cap (wlK kd q m)) (hne : ∀ x, a = some x → 0 < m → x.block ≠ b) (hw : New W w) (hb : W.heap.size ≤ b) :
    Calls Tryz.prog 9 #[.pointer (some ⟨b, 0, none⟩), .slice a m cap] w fun e w' => e = .returned (.bool true) ∧ New W w' := by
  have hle := hq.le
  have hmost := hq.most
  have hroom := hq.room
  have HS0 := Lib.hid (show TakF W w b b a cap kd q m 0 from ⟨ht, hw, hb, hq, fun x e h0 => ⟨hne x e h0, hne x e h0⟩⟩)
  clear ht hq hw hne
  go_enter Tryz.func9, Tryz.ntmps9
  go_wp2_with fail
  go_loopw [13] (fun i wr => ∃ k g : Nat, k ≤ m ∧ i = .int .i64 k ∧ TakF W wr b g a cap kd q m k) (fun i _ => m - (intOf i).toNat)
  case atStart => exact ⟨0, b, by omega, rfl, HS0.out⟩
  case round =>
    obtain ⟨k, g, hk, rfl, hst⟩ := hrel
    by_cases hlt : (k : Int) < (m : Int)
    · obtain ⟨p, off, rfl, hcell⟩ := hst.row.addr (by omega)
      have hck := hcell k (by omega)
      have HROW := Lib.hid (fun w1 (hn : New wr w1) => QRow.take (hst.row.stay hn) k (by omega))
      rw [wl_take kd q (show k ≤ m by omega)] at HROW
      have HNX := Lib.hid (next_some_f b g kd q m k (by omega))
      rw [wl_at kd q (show k < m by omega)] at hck
      obtain ⟨z, hz⟩ : ∃ z, wdK kd q k = z := ⟨_, rfl⟩
      rw [hz] at hck HNX
      have HU := Lib.hid (fun w1 (hn : New wr w1) => used_f b g kd q m k w1 (hst.tape.stay hn))
      have HL := Lib.hid (fun w1 (hn : New wr w1) => left_f b g kd q m k w1 (hst.tape.stay hn))
      have HTK := Lib.hid (fun w1 (hn : New wr w1) => taken_f b g kd q m k w1 (hst.tape.stay hn))
      have hwr : IntKind.i64.wrap ((m : Int) - (k : Int)) = (m : Int) - (k : Int) := wrap_sub _ _ hk hmost
      have hsub : (((m - k : Nat) : Int) != IntKind.i64.wrap ((m : Int) - (k : Int))) = false := by rw [hwr, bne_eq_false_iff_eq]; omega
      clear hwr
      have hkc : (k : Int) ≤ (cap : Int) := by omega
      have hk0 : (0 : Int) ≤ (k : Int) := by omega
      have HST := Lib.hid hst
      clear hcell hz hst
      obtain ⟨d, hd⟩ : ∃ d : Int, ((m - k : Nat) : Int) = d := ⟨_, rfl⟩
      rw [hd] at HL hsub
      clear hd
      have HBACK : Hid (New wr wr.drew) := Lib.hid (New.refl _).drew
      go_wp2_with fail
      go_cut [39] (fun x wx => x = .bool false ∧ New wr wx)
      case first =>
        go_region_held3 (fun w1 => New wr w1)
          ((first | with_reducible assumption | with_reducible exact (New.refl _).drew | with_reducible exact New.drew (by assumption)))
          (first
          | (go_at_call 13
             refine (HU.out _ (by first | with_reducible exact (New.refl _).drew | with_reducible assumption)).mono ?_
             rintro e w2 ⟨rfl, rfl⟩)
          | (go_at_call 17
             refine (HL.out _ (by first | with_reducible exact (New.refl _).drew | with_reducible assumption)).mono ?_
             rintro e w2 ⟨rfl, rfl⟩)
          | (go_at_call 15
             refine (HTK.out _ (by first | with_reducible exact (New.refl _).drew | with_reducible assumption)).mono ?_
             rintro e w2 ⟨a3, cap3, rfl, hq3, hn2⟩
             have HQ3 := Lib.hid hq3
             have hn3 : New wr w2 := by with_reducible exact drew_add hn2
             clear hq3 hn2)
          | (go_at_call 14
             refine (words_ref _ _ _ _ _ _ _ _ wr _ HQ3.out (HROW.out _ hn3) hn3).mono ?_
             rintro e w3 ⟨rfl, _, hn4⟩
             rw [beq_self_eq_true]))
        go_wp2_with fail
        go_meet
        case rel => exact ⟨rfl, hn4⟩
      case rest =>
        obtain ⟨rfl, hn⟩ := hcut
        have HTP := Lib.hid (HST.out.tape.stay hn)
        have HNW := Lib.hid (HST.out.new.trans hn)
        have hgb := HST.out.gb
        have HRW := Lib.hid (HST.out.row.stay hn)
        have HNE := Lib.hid HST.out.ne
        clear hn HU HL HTK HROW HBACK HST HS0 hck
        go_wp2_with fail
        refine (HNX.out _ HTP.out).mono ?_
        rintro e w5 ⟨rfl, g2, ht2, hbut, hg2⟩
        have HS5 := Lib.hid (show TakF W w5 b g2 (some ⟨p, off, none⟩) cap kd q m (k + 1) from ⟨ht2, hbut.new W HNW.out hb hgb, by have := HNW.out.le; omega, QRow.held HRW.out hbut.size (fun x e h0 => hbut.block _ (HRW.out.old x e h0) (HNE.out x e h0).1 (HNE.out x e h0).2), fun x e h0 => ⟨(HNE.out x e h0).1, (by rcases hg2 with e2 | e2; (rw [e2]; exact (HNE.out x e h0).2); (have := HRW.out.old x e h0; omega))⟩⟩)
        clear ht2 hbut hg2
        go_wp2
        exact ⟨⟨k + 1, g2, by omega, by go_num, HS5.out⟩, by simp [intOf]; omega⟩
    · obtain rfl : m = k := by omega
      have HNX := Lib.hid (next_none_f b g kd q m wr hst.tape)
      have HU := Lib.hid (fun w1 (hn : New wr w1) => used_f b g kd q m m w1 (hst.tape.stay hn))
      have HL := Lib.hid (fun w1 (hn : New wr w1) => left_f b g kd q m m w1 (hst.tape.stay hn))
      have HTK := Lib.hid (fun w1 (hn : New wr w1) => taken_f b g kd q m m w1 (hst.tape.stay hn))
      rw [Nat.sub_self] at HL
      have HNW := Lib.hid hst.new
      have HRW := Lib.hid hst.row
      clear hst HS0
      go_wp2_with fail
      refine HNX.out.mono ?_
      rintro e w2 ⟨rfl, rfl⟩
      go_wp2_with fail
      refine (HU.out _ (New.refl _)).mono ?_
      rintro e w2 ⟨rfl, rfl⟩
      go_wp2_with fail
      refine (HL.out _ (New.refl _)).mono ?_
      rintro e w2 ⟨rfl, rfl⟩
      go_wp2_with fail
      refine (HTK.out _ (New.refl _)).mono ?_
      rintro e w3 ⟨a3, cap3, rfl, hq3, hn3⟩
      have HQ3 := Lib.hid hq3
      have HN3 := Lib.hid (HNW.out.trans hn3)
      have HRW3 := Lib.hid (HRW.out.stay hn3)
      clear hq3 hn3
      go_wp2_with fail
      refine (words_ref _ _ _ _ _ _ _ _ W _ HQ3.out HRW3.out HN3.out).mono ?_
      rintro e w4 ⟨rfl, _, hn4⟩
      rw [beq_self_eq_true]
      have HN4 := Lib.hid hn4
      clear hn4
      go_wp2
      go_ret
      exact ⟨rfl, HN4.out⟩
set_option maxHeartbeats 1000000 in
theorem fed_bad (kd : Int) (q : W4) (n : Int) (hk : ¬ chkK kd q = 0) (w : World) : Calls Tryz.prog 6 #[.agg (stc kd q), .int .i64 n] w fun e w' => e = .returned (.tuple #[.pointer none, .int .i64 (chkK kd q)]) ∧ New w w' := by
  have HCK := Lib.hid (fun w => check_any kd q w)
  obtain ⟨c, hc⟩ : ∃ c, chkK kd q = c := ⟨_, rfl⟩
  rw [hc] at HCK hk ⊢
  have hcz : (c != 0) = true := by simpa using hk
  have HN0 := Lib.hid ((New.refl w).alloc (.cells (stc kd q) 25))
  clear hc hk
  go_enter Tryz.func6, Tryz.ntmps6
  go_wp2_with fail
  refine (HCK.out _).mono ?_
  rintro e w1 ⟨rfl, n1⟩
  have HN := Lib.hid (HN0.out.trans n1)
  clear n1
  go_wp2
  go_ret2
  exact ⟨rfl, HN.out⟩
set_option maxHeartbeats 2000000 in
theorem fed_ok (kd : Int) (q : W4) (n : Int) (m : Nat) (hnm : (n < 0 ∧ m = 0) ∨ n = (m : Int)) (hm : m ≤ 4096) (hk : chkK kd q = 0) (w : World) :
    Calls Tryz.prog 6 #[.agg (stc kd q), .int .i64 n] w fun e w' => ∃ b, e = .returned (.tuple #[.pointer (some ⟨b, 0, none⟩), .int .i64 0]) ∧ w.heap.size ≤ b ∧ Fed w' b b kd q m 0 ∧ New w w' := by
  have hmf : ∀ (fn : Fn) (first cap : Array Value) (w : World), (Instr.makeFunc fn first cap).run Tryz.prog w = .ok (.func fn first cap) w := fun _ _ _ _ => rfl
  have HCK := Lib.hid (fun w => check_any kd q w)
  rw [hk] at HCK
  have hcm : min (max n 0) 4096 = (m : Int) := by
    rcases hnm with ⟨h1, h2⟩ | h1 <;> omega
  have HB0 := Lib.hid (heap_alloc_new w (.cells (stc kd q) 25))
  have HN0 := Lib.hid ((New.refl w).alloc (.cells (stc kd q) 25))
  have HK := Lib.hid hk
  have HM := Lib.hid hm
  clear hk hnm hm
  go_enter Tryz.func6, Tryz.ntmps6
  go_wp2_with fail
  refine (HCK.out _).mono ?_
  rintro e w1 ⟨rfl, n1⟩
  have hb := (n1.block _ (lt_of_block HB0.out)).trans HB0.out
  have x0 := cell_of_row _ _ 0 _ _ _ hb
  have x1 := cell_of_row _ _ 1 _ _ _ hb
  have x2 := cell_of_row _ _ 2 _ _ _ hb
  have x3 := cell_of_row _ _ 3 _ _ _ hb
  have x4 := cell_of_row _ _ 4 _ _ _ hb
  have HN := Lib.hid (HN0.out.trans n1)
  clear hb n1
  go_wp2
  go_ret2
  refine ⟨w1.heap.size, rfl, by have := HN.out.le; omega, ⟨.slice none 0 0, ?_⟩, HN.out.alloc _⟩
  refine ⟨?_, Nat.zero_le _, HM.out, HK.out, World.ownsRow_nil _ _ _ _, (fun g' e => by cases e), fun _ => rfl⟩
  rw [Nat.sub_zero]
  exact heap_alloc_new w1 _
set_option maxHeartbeats 2000000 in
theorem TapeFed_walk (W : World) (x0_0 : Int) (b0_0 : -9223372036854775808 ≤ x0_0 ∧ x0_0 ≤ 9223372036854775807) (x0_1 : BitVec 64) (x0_2 : BitVec 64) (x0_3 : BitVec 64) (x0_4 : BitVec 64) (a1 : Int) (w1 : (Lit.int .i64 a1).wf = true) :
    Calls Tryz.prog 3 #[.agg #[.int .i64 x0_0, .int .u64 (W64 x0_1), .int .u64 (W64 x0_2), .int .u64 (W64 x0_3), .int .u64 (W64 x0_4)], .int .i64 a1] W fun e w' => e = .returned (.bool true) ∧ Below W.heap.size W w' := by
  obtain ⟨q, hq⟩ : ∃ q : W4, q = ⟨x0_1, x0_2, x0_3, x0_4⟩ := ⟨_, rfl⟩
  have hcells : #[Value.int .i64 x0_0, .int .u64 (W64 x0_1), .int .u64 (W64 x0_2), .int .u64 (W64 x0_3), .int .u64 (W64 x0_4)] = stc x0_0 q := by rw [hq]
  rw [hcells]
  clear hcells hq w1 b0_0
  have HB0 := Lib.hid (heap_alloc_new W (.cells (stc x0_0 q) 25))
  have HN0 := Lib.hid ((New.refl W).alloc (.cells (stc x0_0 q) 25))
  by_cases h100 : 100 < a1
  · go_enter Tryz.func3, Tryz.ntmps3
    go_wp2_with fail
    refine (awake_37 _).mono ?_
    rintro e w1 ⟨rfl, n1⟩
    have HN := Lib.hid (HN0.out.trans n1)
    clear n1
    go_wp2
    go_ret
    exact ⟨rfl, HN.out⟩
  · have HRC := Lib.hid (fun w => rcheck_any x0_0 q w)
    by_cases hk : chkK x0_0 q = 0
    · obtain ⟨m, hm, hnm⟩ : ∃ m : Nat, m ≤ 4096 ∧ ((a1 < 0 ∧ m = 0) ∨ a1 = (m : Int)) := by
        by_cases h : a1 < 0
        · exact ⟨0, by omega, Or.inl ⟨h, rfl⟩⟩
        · exact ⟨a1.toNat, by omega, Or.inr (by omega)⟩
      have HF := Lib.hid (fun w => fed_ok x0_0 q a1 m hnm hm hk w)
      have HRW := Lib.hid (fun w => rwords_of x0_0 q hk a1 m hnm hm w)
      rw [hk] at HRC
      clear hnm hk
      go_enter Tryz.func3, Tryz.ntmps3
      go_wp2_with fail
      refine (awake_37 _).mono ?_
      rintro e w1 ⟨rfl, n1⟩
      have hb := (n1.block _ (lt_of_block HB0.out)).trans HB0.out
      have x0 := cell_of_row _ _ 0 _ _ _ hb
      have x1 := cell_of_row _ _ 1 _ _ _ hb
      have x2 := cell_of_row _ _ 2 _ _ _ hb
      have x3 := cell_of_row _ _ 3 _ _ _ hb
      have x4 := cell_of_row _ _ 4 _ _ _ hb
      have HB1 := Lib.hid hb
      have HN1 := Lib.hid (HN0.out.trans n1)
      clear hb n1
      go_wp2_with fail
      refine (HF.out _).mono ?_
      rintro e w2 ⟨b, rfl, hbl, hfed, n2⟩
      have hb := (n2.block _ (lt_of_block HB1.out)).trans HB1.out
      have x0 := cell_of_row _ _ 0 _ _ _ hb
      have x1 := cell_of_row _ _ 1 _ _ _ hb
      have x2 := cell_of_row _ _ 2 _ _ _ hb
      have x3 := cell_of_row _ _ 3 _ _ _ hb
      have x4 := cell_of_row _ _ 4 _ _ _ hb
      have HB2 := Lib.hid hb
      have HFD := Lib.hid hfed
      have HBL : Hid (W.heap.size ≤ b) := Lib.hid (by have := HN1.out.le; omega)
      have HN2 := Lib.hid (HN1.out.trans n2)
      clear hb n2 hfed hbl
      go_wp2_with fail
      refine (HRC.out _).mono ?_
      rintro e w3 ⟨rfl, n3⟩
      have hb := (n3.block _ (lt_of_block HB2.out)).trans HB2.out
      have x0 := cell_of_row _ _ 0 _ _ _ hb
      have x1 := cell_of_row _ _ 1 _ _ _ hb
      have x2 := cell_of_row _ _ 2 _ _ _ hb
      have x3 := cell_of_row _ _ 3 _ _ _ hb
      have x4 := cell_of_row _ _ 4 _ _ _ hb
      have HFD3 := Lib.hid (HFD.out.stay n3)
      have HN3 := Lib.hid (HN2.out.trans n3)
      clear hb n3
      go_wp2_with fail
      refine (HRW.out _).mono ?_
      rintro e w4 ⟨a, c, rfl, hrow, hfar, n4⟩
      have hapart : Fed w3 b b x0_0 q m 0 → ∀ x, a = some x → 0 < m → x.block ≠ b := fun hf x e h0 => by have h1 := hfar x e; obtain ⟨v, hv⟩ := hf; have h2 := lt_of_block hv.box; omega
      have n5 := (New.refl w4).alloc (.cells (stc x0_0 (wsK x0_0 q m)) 25)
      have HRW4 := Lib.hid (hrow.stay n5)
      have HFD4 := Lib.hid (HFD3.out.stay (n4.trans n5))
      have HN4 := Lib.hid (HN3.out.trans (n4.trans n5))
      have HNE4 : Hid (∀ x, a = some x → 0 < m → x.block ≠ b) := Lib.hid (hapart HFD3.out)
      clear hrow n4 n5 x0 x1 x2 x3 x4
      go_wp2_with fail
      refine (taken_f37 b a c x0_0 q m W _ HFD4.out HRW4.out HNE4.out HN4.out HBL.out).mono ?_
      rintro e w5 ⟨rfl, hn5⟩
      have HN5 := Lib.hid hn5
      clear hn5
      go_wp2
      go_ret
      exact ⟨rfl, HN5.out⟩
    · have HF := Lib.hid (fun w => fed_bad x0_0 q a1 hk w)
      obtain ⟨c, hc⟩ : ∃ c, chkK x0_0 q = c := ⟨_, rfl⟩
      rw [hc] at HF HRC hk
      have hcz : (c != 0) = true := by simpa using hk
      have hcc : (c == c) = true := by simp
      clear hk hc
      go_enter Tryz.func3, Tryz.ntmps3
      go_wp2_with fail
      refine (awake_37 _).mono ?_
      rintro e w1 ⟨rfl, n1⟩
      have hb := (n1.block _ (lt_of_block HB0.out)).trans HB0.out
      have x0 := cell_of_row _ _ 0 _ _ _ hb
      have x1 := cell_of_row _ _ 1 _ _ _ hb
      have x2 := cell_of_row _ _ 2 _ _ _ hb
      have x3 := cell_of_row _ _ 3 _ _ _ hb
      have x4 := cell_of_row _ _ 4 _ _ _ hb
      have HB1 := Lib.hid hb
      have HN1 := Lib.hid (HN0.out.trans n1)
      clear hb n1
      go_wp2_with fail
      refine (HF.out _).mono ?_
      rintro e w2 ⟨rfl, n2⟩
      have hb := (n2.block _ (lt_of_block HB1.out)).trans HB1.out
      have x0 := cell_of_row _ _ 0 _ _ _ hb
      have x1 := cell_of_row _ _ 1 _ _ _ hb
      have x2 := cell_of_row _ _ 2 _ _ _ hb
      have x3 := cell_of_row _ _ 3 _ _ _ hb
      have x4 := cell_of_row _ _ 4 _ _ _ hb
      have HN2 := Lib.hid (HN1.out.trans n2)
      clear hb n2
      go_wp2_with fail
      refine (HRC.out _).mono ?_
      rintro e w3 ⟨rfl, n3⟩
      have HN3 := Lib.hid (HN2.out.trans n3)
      clear n3
      go_wp2
      go_ret
      exact ⟨rfl, HN3.out⟩
end Go.Proofs.YtadcihkpnpemeaaGreat
