import Derived.Test.YtdjlbpgjbgepdaaGreatYSdsF
import Derived.Deep.Cut
import Derived.Deep.DeepCutAuto
import Derived.Deep.RegionHeld3
/- Layer 44: the document's Take. -/
namespace Go.Proofs.YtdjlbpgjbgepdaaGreat
open Go Go.RowKit Go.Bv
set_option linter.unusedVariables false
set_option maxRecDepth 100000
theorem ow_apart {w : World} {b1 b2 : Nat} {e1 e2 : TypeId} {s1 s2 : Nat} {v1 v2 : Value} {n1 n2 : Nat} {xs1 xs2 : List Value} (h1 : w.ownsRow b1 e1 s1 v1 n1 xs1) (h2 : w.ownsRow b2 e2 s2 v2 n2 xs2) (he : e1 ≠ e2) : ∀ x, v1.ownBlock = some x → v2.ownBlock ≠ some x := by
  intro x hx1 hx2
  rcases h1.2 with ⟨hv, _⟩ | ⟨g, cap, cur, hv, _, hc, _⟩
  · rw [hv] at hx1; cases hx1
  · rcases h2.2 with ⟨hv2, _⟩ | ⟨g2, cap2, cur2, hv2, _, hc2, _⟩
    · rw [hv2] at hx2; cases hx2
    · rw [hv] at hx1
      rw [hv2] at hx2
      have i1 : g = x := by simpa [Value.ownBlock] using hx1
      have i2 : g2 = x := by simpa [Value.ownBlock] using hx2
      subst i1; subst i2
      rw [hc] at hc2
      have h3 := Option.some.inj hc2
      injection h3 with _ h4 _
      exact he h4
theorem own_in44 {w : World} {base g : Nat} {e : TypeId} {s n cap : Nat} {xs : List Value} {a : Option Addr} (h : w.ownsRow base e s (.slice a n cap) n xs) (hg : (Value.slice a n cap).ownBlock = some g) : base ≤ g ∧ g < w.heap.size := ow_lt h g hg
theorem rtk_some44 {l : List (BitVec 64)} {k k' : Nat} {d : Drw} (hk : k ≤ l.length) (h : stp 0 l k = some (d, k')) (a : Option Addr) (n c : Nat) (w : World) (hq : QRow w a n c (l.drop k)) :
    Calls Tryz.prog 31 #[.slice a n c, .int .u64 2305843009213693951] w fun e w' => e = .returned (.tuple #[.agg #[.int .u64 (W64 d.1), .int .u64 (W64 d.2.1), .int .i64 (d.2.2 : Int)], .bool true]) ∧ New w w' := by
  have hC := rtake_l a n c (l.drop k) PPw PPw_ne w hq
  rw [PPw_lit] at hC
  refine hC.mono ?_
  rintro e w' ⟨⟨j, h1, h2, h3, rfl⟩ | ⟨h2, rfl⟩, hn⟩
  · rw [List.length_drop] at h1
    rw [drop_get] at h3 ⊢
    have hy := stp_yes (l := l) (k := k) (j := k + j) (by omega) (by omega) (fun i hi1 hi2 => by
      have := h2 (i - k) (by omega)
      rw [drop_get, show k + (i - k) = i by omega] at this
      exact this) h3
    rw [hy] at h
    cases h
    refine ⟨?_, hn⟩
    unfold drw
    rw [show ((k + j + 1 - k : Nat) : Int) = (j : Int) + 1 by omega]
  · have hno := stp_no (l := l) hk (fun i hi1 hi2 => by
      have := h2 (i - k) (by rw [List.length_drop]; omega)
      rw [drop_get, show k + (i - k) = i by omega] at this
      exact this)
    rw [hno] at h; cases h
theorem rtk_none44 {l : List (BitVec 64)} {k : Nat} (hk : k ≤ l.length) (h : stp 0 l k = none) (a : Option Addr) (n c : Nat) (w : World) (hq : QRow w a n c (l.drop k)) :
    Calls Tryz.prog 31 #[.slice a n c, .int .u64 2305843009213693951] w fun e w' => e = .returned (.tuple #[.agg #[.int .u64 0, .int .u64 0, .int .i64 0], .bool false]) ∧ New w w' := by
  have hC := rtake_l a n c (l.drop k) PPw PPw_ne w hq
  rw [PPw_lit] at hC
  refine hC.mono ?_
  rintro e w' ⟨⟨j, h1, h2, h3, rfl⟩ | ⟨h2, rfl⟩, hn⟩
  · rw [List.length_drop] at h1
    rw [drop_get] at h3 ⊢
    have hy := stp_yes (l := l) (k := k) (j := k + j) (by omega) (by omega) (fun i hi1 hi2 => by
      have := h2 (i - k) (by omega)
      rw [drop_get, show k + (i - k) = i by omega] at this
      exact this) h3
    rw [hy] at h; cases h
  · exact ⟨rfl, hn⟩
/-- all blocks of old but one are as they were -/
def Kb44 (W : World) (r : Nat) (w : World) : Prop := W.heap.size ≤ w.heap.size ∧ ∀ j, j < W.heap.size → j ≠ r → w.heap[j]? = W.heap[j]?
theorem Kb44.refl (W : World) (r : Nat) : Kb44 W r W := ⟨Nat.le_refl _, fun _ _ _ => rfl⟩
theorem Kb44.drew {W w : World} {r : Nat} (h : Kb44 W r w) : Kb44 W r w.drew := h
theorem Kb44.new {W w w' : World} {r : Nat} (h : Kb44 W r w) (hn : New w w') : Kb44 W r w' := ⟨Nat.le_trans h.1 hn.le, fun j hj hr => (hn.block j (Nat.lt_of_lt_of_le hj h.1)).trans (h.2 j hj hr)⟩
theorem Kb44.set {W w : World} {r : Nat} (h : Kb44 W r w) (i : Nat) (v : Value) : Kb44 W r (w.setCell ⟨r, i, none⟩ v) := ⟨by simpa using h.1, fun j hj hr => (heap_setCell_other _ _ _ _ hr).trans (h.2 j hj hr)⟩
set_option maxHeartbeats 8000000 in
theorem rtake_144 (k0 bi : Int) (n : Nat) (hn : 1 ≤ n ∧ n ≤ 320) (hwk : wkK k0 = 1) (hlm : W64 (lmW k0) = 2) (bl ol nl cl : Nat) (l : List (BitVec 64)) (hnl : nl ≤ 400) (w : World) (hl : QRow w (some ⟨bl, ol, none⟩) nl cl l) (hnl0 : 0 < nl) : Calls Tryz.prog 17 #[.slice (some ⟨bl, ol, none⟩) nl cl, .int .i64 k0, .int .i64 bi, .int .i64 (n : Int)] w fun e w' =>
    ((∃ ds k a1 c1 a2 c2, sdS 1 l n = some (ds, k) ∧ e = .returned (.tuple #[.agg (sdc k0 bi a1 n c1), .slice a2 n c2, .int .i64 (k : Int), .bool true]) ∧ QRow w' a1 n c1 (ds.map fun d => d.1) ∧ KRow w' a2 n c2 ds) ∨ (sdS 1 l n = none ∧ e = .returned (.tuple #[.agg zSd, .slice none 0 0, .int .i64 (nl : Int), .bool false]))) ∧ New w w' := by
  obtain ⟨iq, hiq, jq0, jq1, jq2⟩ := info_parts info_u64q
  obtain ⟨id, hid, hd0, hd1, hd2⟩ := info_parts info_drw
  have hlc := hl.le
  have hlr := hl.room
  have HLE := Lib.hid hl.len_eq
  have HL := Lib.hid hl
  have HLI := Lib.hid (fun w => rlimit_44 k0 w)
  rw [hlm] at HLI
  obtain ⟨h1, h2, h3⟩ := two_blocks44 w (.cells zSd 37) (.cells (sdc k0 bi none 0 0) 37)
  have HR0 := Lib.hid h1
  have HS0 := Lib.hid h2
  have HN0 := Lib.hid h3
  have hsz : (w.alloc (.cells zSd 37)).heap.size = w.heap.size + 1 := by simp
  have hsz2 : ((w.alloc (.cells zSd 37)).alloc (.cells (sdc k0 bi none 0 0) 37)).heap.size = w.heap.size + 2 := by simp
  clear h1 h2 h3 hl hwk hlm
  go_enter Tryz.func17, Tryz.ntmps17
  go_wp2_with fail
  generalize (w.alloc (.cells zSd 37)).alloc (.cells (sdc k0 bi none 0 0) 37) = w0 at HR0 HS0 HN0 hsz2 ⊢
  have HZ0 := Lib.hid hsz2
  clear hsz2
  try rw [hsz]
  clear hsz
  go_loopw [13, 14, 15] (fun ov uv iv wr => ∃ (q k : Nat) (ds : List Drw) (a1 : Option Addr) (c1 : Nat) (a2 : Option Addr) (c2 : Nat), q ≤ n ∧ iv = .int .i64 (q : Int) ∧ uv = .int .i64 (k : Int) ∧ ov = .slice a2 q c2 ∧ Hid (sdS 1 l q = some (ds, k) ∧ k ≤ nl) ∧ Hid (wr.heap[w.heap.size]? = some (.cells zSd 37 (0, 0))) ∧ Hid (wr.heap[w.heap.size + 1]? = some (.cells (sdc k0 bi a1 q c1) 37 (0, 0))) ∧ wr.ownsRow (w.heap.size + 2) 23 1 (.slice a1 q c1) q ((ds.map fun d => d.1).map fun x => .int .u64 (W64 x)) ∧ wr.ownsRow (w.heap.size + 2) 53 3 (.slice a2 q c2) q (drCs ds) ∧ Hid (New w wr)) (fun _ _ iv _ => n - (intOf iv).toNat)
  case atStart => exact ⟨0, 0, [], none, 0, none, 0, Nat.zero_le _, rfl, rfl, rfl, Lib.hid ⟨rfl, Nat.zero_le _⟩, HR0, HS0, World.ownsRow_nil _ _ _ 1, World.ownsRow_nil _ _ _ 3, HN0⟩
  case round =>
    obtain ⟨q, k, ds, a1, c1, a2, c2, hq, rfl, rfl, rfl, HS, HRB, HSB, ho1, ho2, HN⟩ := hrel
    clear HR0 HS0 HN0 HZ0
    have HO1 := Lib.hid ho1
    have HO2 := Lib.hid ho2
    obtain ⟨wq, hwq⟩ : ∃ z, z = wr := ⟨_, rfl⟩
    rw [← hwq] at HO1 HO2 HRB HSB HN ⊢
    clear ho1 ho2 hwq
    have hk0 : (0 : Int) ≤ (k : Int) := by omega
    have hkl : (k : Int) ≤ (nl : Int) := by have := HS.out.2; omega
    by_cases hlt : (q : Int) < (n : Int)
    · have hq0 : (0 : Int) ≤ (q : Int) := by omega
      have HLQ := Lib.hid (HL.out.stay HN.out)
      go_wp2_with fail
      refine (HLI.out _).mono ?_
      rintro e w9 ⟨rfl, rfl⟩
      go_upto_if 33 with fail
      go_cut [17] (fun is wx => (∃ (x y : BitVec 64) (u k' : Nat), Hid (stp 1 l k = some ((x, y, u), k') ∧ k' = k + u ∧ k' ≤ nl) ∧ is = .bool true ∧ Hid (wx.heap[wq.heap.size]? = some (.cells #[.int .u64 (W64 x), .int .u64 (W64 y), .int .i64 (u : Int)] 53 (0, 0))) ∧ Hid (New wq wx)) ∨ (Hid (stp 1 l k = none) ∧ is = .bool false ∧ Hid (New wq wx)))
      case first =>
        by_cases hkn : (k : Int) < (nl : Int)
        · have hd : decide (k < nl) = true := decide_eq_true (by omega)
          have cl0 := fun o : Obj => (HLQ.out.stay ((New.refl wq).alloc o)).cell bl ol rfl k (by omega)
          have HST := Lib.hid (stp_word (c := 1) (by decide) (l := l) (k := k) (by rw [HLE.out]; omega))
          generalize l.getD k 0 = x at *
          obtain ⟨hev, hod⟩ := odd44_bit x
          by_cases hp : x % 2#64 = 0#64
          · have hpb : (x % 2#64 == 0#64) = true := by rw [hp]; rfl
            obtain ⟨e1, e2⟩ := hev hp
            have HE := Lib.hid (And.intro e1 e2)
            clear hev hod e1 e2 hp
            go_wp2_with fail
            refine (HLI.out _).mono ?_
            rintro e w9 ⟨rfl, rfl⟩
            go_wp2_with fail
            go_meet
            case rel =>
              refine .inl ⟨x ||| 1#64, x &&& 1#64, 1, k + 1, Lib.hid ⟨HST.out, rfl, by omega⟩, rfl, Lib.hid ?_, Lib.hid ((New.refl wq).alloc _)⟩
              rw [HE.out.1, HE.out.2]
              exact heap_alloc_new _ _
          · have hpb : (x % 2#64 == 0#64) = false := beq_eq_false_iff_ne.2 hp
            obtain ⟨e1, e2⟩ := hod hp
            have HE := Lib.hid (And.intro e1 e2)
            clear hev hod e1 e2 hp
            go_wp2_with fail
            refine (HLI.out _).mono ?_
            rintro e w9 ⟨rfl, rfl⟩
            go_wp2_with fail
            refine (HLI.out _).mono ?_
            rintro e w9 ⟨rfl, rfl⟩
            go_wp2_with fail
            go_meet
            case rel =>
              refine .inl ⟨x ||| 1#64, x &&& 1#64, 1, k + 1, Lib.hid ⟨HST.out, rfl, by omega⟩, rfl, Lib.hid ?_, Lib.hid ((New.refl wq).alloc _)⟩
              rw [HE.out.1, HE.out.2]
              exact heap_alloc_new _ _
        · have hd : decide (k < nl) = false := decide_eq_false (by omega)
          have HST : Hid (stp 1 l k = none) := Lib.hid (by have e : k = l.length := by have := HLE.out; omega
                                                           rw [e]; exact stp_few (by decide))
          go_wp2_with fail
          go_meet
          case rel => exact .inr ⟨HST, rfl, Lib.hid ((New.refl wq).alloc _)⟩
      case rest =>
        rcases hcut with ⟨x, y, u, k', HST, rfl, HDB, HNX⟩ | ⟨HST, rfl, HNX⟩
        · have HD := Lib.hid (sdS_next HS.out.1 HST.out.1)
          have hds := sdS_len HS.out.1
          have hkk := HST.out.2
          have hsb := (HNX.out.block _ (lt_of_block HSB.out)).trans HSB.out
          have hrb := (HNX.out.block _ (lt_of_block HRB.out)).trans HRB.out
          have o1 := ow_new HO1.out HNX.out
          have o2 := ow_new HO2.out HNX.out
          have s2 := cell_of_row _ _ 2 _ _ _ hsb
          have d0 := cell_of_row _ _ 0 _ _ _ HDB.out
          have hwk := HN.out.le
          have hwx := HNX.out.le
          have hltD := lt_of_block HDB.out
          have hltS := lt_of_block hsb
          have hltR := lt_of_block hrb
          have hltq := lt_of_block HSB.out
          have HRX := Lib.hid hrb
          have HSX := Lib.hid hsb
          have HO1X := Lib.hid o1
          have HO2X := Lib.hid o2
          have HLT1 : Hid (∀ g, (Value.slice a1 q c1).ownBlock = some g → w.heap.size + 2 ≤ g ∧ g < wq.heap.size) := Lib.hid (fun g hg => ow_lt HO1.out g hg)
          have HLT2 : Hid (∀ g, (Value.slice a2 q c2).ownBlock = some g → w.heap.size + 2 ≤ g ∧ g < wq.heap.size) := Lib.hid (fun g hg => ow_lt HO2.out g hg)
          have HSZ : Hid (w.heap.size + 1 < wq.heap.size ∧ wq.heap.size ≤ wc.heap.size ∧ True) := Lib.hid ⟨hltq, hwx, trivial⟩
          have hds2 := hds
          clear hsb hrb o2 hwk hwx hltD hltS hltR hltq
          clear HO1 HO2 HRB HSB
          have HKK := Lib.hid hkk
          have HQN : Hid (q < n) := Lib.hid (by omega)
          clear hkk hds hds2
          go_wp2_with (at_builtin; refine wpList_append_own _ rfl (.tmp 72) (.tmp 75) 28 rfl (w.heap.size + 2) 23 iq (.int .u64 0) 1 8 Tryz.underlying28 hiq jq0 jq1 jq2 rfl (by decide) _ q _ rfl (o1.alloc _) ⟨wc.heap.size, 0, none⟩ 1 1 [.int .u64 (W64 x)] rfl rfl ?c1 ?c2 ?c3 ?c4 ?c5 ?_)
          try (case c1 => exact new_cells_t wc _ _)
          try (case c2 => intro z hz; simp at hz; subst hz; rfl)
          try (case c3 => unfold maxLen; have := HQN.out; omega)
          try (case c4 => have := HQN.out; omega)
          try (case c5 => have := HSZ.out; simp; omega)
          intro v1 w1 how1 hgr1 _
          have hw1' : w1.ownsRow (w.heap.size + 2) 23 1 v1 (q + 1) (((ds ++ [(x, y, u)]).map fun d => d.1).map fun x => .int .u64 (W64 x)) := by
            rw [List.map_append, List.map_append, List.map_map]; exact how1
          obtain ⟨b1, p1, rfl, _⟩ := own_len hw1'
          have hlt1 : wc.heap.size ≤ (wc.alloc (.cells #[.int .u64 (W64 x)] 23)).heap.size := by simp
          have HD1 : Hid (w1.heap[wq.heap.size]? = some (.cells #[.int .u64 (W64 x), .int .u64 (W64 y), .int .i64 (u : Int)] 53 (0, 0))) := Lib.hid ((hgr1.block _ (Nat.lt_of_lt_of_le (lt_of_block HDB.out) hlt1) (fun e => by have := HLT1.out _ e.symm; omega)).trans ((((New.refl wc).alloc _).block _ (lt_of_block HDB.out)).trans HDB.out))
          have HS1 : Hid (w1.heap[w.heap.size + 1]? = some (.cells (sdc k0 bi a1 q c1) 37 (0, 0))) := Lib.hid ((hgr1.block _ (Nat.lt_of_lt_of_le (lt_of_block HSX.out) hlt1) (fun e => by have := HLT1.out _ e.symm; omega)).trans ((((New.refl wc).alloc _).block _ (lt_of_block HSX.out)).trans HSX.out))
          have HR1 : Hid (w1.heap[w.heap.size]? = some (.cells zSd 37 (0, 0))) := Lib.hid ((hgr1.block _ (Nat.lt_of_lt_of_le (lt_of_block HRX.out) hlt1) (fun e => by have := HLT1.out _ e.symm; omega)).trans ((((New.refl wc).alloc _).block _ (lt_of_block HRX.out)).trans HRX.out))
          have HO21 : Hid (w1.ownsRow (w.heap.size + 2) 53 3 (.slice a2 q c2) q (drCs ds)) := Lib.hid (ow_blk (ow_new HO2X.out ((New.refl wc).alloc _)) (fun z hz => hgr1.block z (by have := HLT2.out z hz; have := HSZ.out; omega) (fun e => ow_apart HO1X.out HO2X.out (by decide) z e.symm hz)))
          have HN1 : Hid (New w w1) := Lib.hid (((HN.out.trans HNX.out).alloc _).grown' hgr1 (fun z e => by have := HLT1.out z e; omega))
          have HO11 := Lib.hid hw1'
          have HZ1 : Hid (wq.heap.size ≤ w1.heap.size) := Lib.hid (by have := hgr1.size; have := HSZ.out; omega)
          have f2 := frozen_of_row _ _ 2 _ _ HS1.out
          have t2 := cell_of_row _ _ 2 _ _ _ HS1.out
          clear how1 hgr1 hw1' hlt1 o1 s2 d0 HO1X HO2X HSX HRX
          go_upto_region 20 with fail
          have HSW := Lib.hid (heap_setCell_same _ _ 2 _ _ (.slice b1 (q + 1) p1) HS1.out)
          have HDW := Lib.hid ((heap_setCell_other w1 ⟨w.heap.size + 1, 2, none⟩ wq.heap.size (.slice b1 (q + 1) p1) (by show wq.heap.size ≠ w.heap.size + 1; have := HSZ.out; omega)).trans HD1.out)
          have HRW := Lib.hid ((heap_setCell_other w1 ⟨w.heap.size + 1, 2, none⟩ w.heap.size (.slice b1 (q + 1) p1) (by show w.heap.size ≠ w.heap.size + 1; omega)).trans HR1.out)
          have HO1W := Lib.hid (ow_far3 HO11.out (a := ⟨w.heap.size + 1, 2, none⟩) (fun e => absurd (ow_lt HO11.out _ e).1 (by show ¬ (w.heap.size + 2 ≤ w.heap.size + 1); omega)) (.slice b1 (q + 1) p1))
          have HO2W := Lib.hid (ow_far3 HO21.out (a := ⟨w.heap.size + 1, 2, none⟩) (fun e => absurd (ow_lt HO21.out _ e).1 (by show ¬ (w.heap.size + 2 ≤ w.heap.size + 1); omega)) (.slice b1 (q + 1) p1))
          have HNW := Lib.hid (HN1.out.setCell (p := ⟨w.heap.size + 1, 2, none⟩) (by show w.heap.size ≤ w.heap.size + 1; omega) (.slice b1 (q + 1) p1))
          have HZW : Hid (wq.heap.size ≤ (w1.setCell ⟨w.heap.size + 1, 2, none⟩ (.slice b1 (q + 1) p1)).heap.size) := Lib.hid (by rw [size_set]; exact HZ1.out)
          generalize w1.setCell ⟨w.heap.size + 1, 2, none⟩ (.slice b1 (q + 1) p1) = W2 at *
          clear HS1 HD1 HR1 HO11 HO21 HN1 HZ1 f2 t2
          have e0 := cell_of_row _ _ 0 _ _ _ HDW.out
          have e1 := cell_of_row _ _ 1 _ _ _ HDW.out
          have e2 := cell_of_row _ _ 2 _ _ _ HDW.out
          have o2 := HO2W.out
          go_wp2_with (at_builtin; refine wpList_append_own _ rfl (.tmp 78) (.tmp 80) 38 rfl (w.heap.size + 2) 53 id (.agg #[.int .u64 0, .int .u64 0, .int .i64 0]) 3 24 Tryz.underlying38 hid hd0 hd1 hd2 rfl (by decide) _ q _ rfl (o2.alloc _) ⟨W2.heap.size, 0, none⟩ 1 1 (drC (x, y, u)) rfl rfl ?c1 ?c2 ?c3 ?c4 ?c5 ?_)
          try (case c1 => exact drw_cells W2 x y u 53)
          try (case c2 => exact drw_one x y u)
          try (case c3 => unfold maxLen; have := HQN.out; omega)
          try (case c4 => have := HQN.out; omega)
          try (case c5 => have := HZW.out; have := HSZ.out; simp; omega)
          intro v2 w2 how2 hgr2 _
          have hw2' : w2.ownsRow (w.heap.size + 2) 53 3 v2 (q + 1) (drCs (ds ++ [(x, y, u)])) := by
            rw [drCs_snoc]; exact how2
          obtain ⟨b2, p2, rfl, _⟩ := KRow.of_owns hw2' (by have := HQN.out; omega)
          have hlt2 : W2.heap.size ≤ (W2.alloc (.cells #[.int .u64 (W64 x), .int .u64 (W64 y), .int .i64 (u : Int)] 53)).heap.size := by simp
          have HD2 : Hid (w2.heap[wq.heap.size]? = some (.cells #[.int .u64 (W64 x), .int .u64 (W64 y), .int .i64 (u : Int)] 53 (0, 0))) := Lib.hid ((hgr2.block _ (Nat.lt_of_lt_of_le (lt_of_block HDW.out) hlt2) (fun e => by have := HLT2.out _ e.symm; omega)).trans ((((New.refl W2).alloc _).block _ (lt_of_block HDW.out)).trans HDW.out))
          have HS2 : Hid (w2.heap[w.heap.size + 1]? = some (.cells (sdc k0 bi b1 (q + 1) p1) 37 (0, 0))) := Lib.hid ((hgr2.block _ (Nat.lt_of_lt_of_le (lt_of_block HSW.out) hlt2) (fun e => by have := HLT2.out _ e.symm; omega)).trans ((((New.refl W2).alloc _).block _ (lt_of_block HSW.out)).trans HSW.out))
          have HR2 : Hid (w2.heap[w.heap.size]? = some (.cells zSd 37 (0, 0))) := Lib.hid ((hgr2.block _ (Nat.lt_of_lt_of_le (lt_of_block HRW.out) hlt2) (fun e => by have := HLT2.out _ e.symm; omega)).trans ((((New.refl W2).alloc _).block _ (lt_of_block HRW.out)).trans HRW.out))
          have HO12 : Hid (w2.ownsRow (w.heap.size + 2) 23 1 (.slice b1 (q + 1) p1) (q + 1) (((ds ++ [(x, y, u)]).map fun d => d.1).map fun x => .int .u64 (W64 x))) := Lib.hid (ow_blk (ow_new HO1W.out ((New.refl W2).alloc _)) (fun z hz => hgr2.block z (by have := (ow_lt HO1W.out z hz).2; omega) (fun e => ow_apart HO1W.out HO2W.out (by decide) z hz e.symm)))
          have HN2 : Hid (New w w2) := Lib.hid ((HNW.out.alloc _).grown' hgr2 (fun z e => by have := HLT2.out z e; omega))
          have HO22 := Lib.hid hw2'
          have g2 := cell_of_row _ _ 2 _ _ _ HD2.out
          have hw1 : wrap64 ((k : Int) + (u : Int)) = ((k + u : Nat) : Int) := by have := HKK.out; unfold wrap64; omega
          clear how2 hgr2 hw2' hlt2 o2 e0 e1 e2 HO1W HO2W HSW HRW HDW HNW
          go_wp2
          exact ⟨⟨q + 1, k', _, b1, p1, b2, p2, by have := HQN.out; omega, by go_num, by rw [hw1, HKK.out.1], rfl, Lib.hid ⟨HD.out, HKK.out.2⟩, HR2, HS2, HO12.out, HO22.out, HN2⟩, by have := HQN.out; simp [intOf]; omega⟩
        · have HD := Lib.hid (sdS_few HS.out.1 HST.out)
          have HNO : Hid (sdS 1 l n = none) := Lib.hid (by
            have := sdS_none HD.out (n - (q + 1))
            rw [show q + 1 + (n - (q + 1)) = n by omega] at this
            exact this)
          have hrb := (HNX.out.block _ (lt_of_block HRB.out)).trans HRB.out
          have r0 := cell_of_row _ _ 0 _ _ _ hrb
          have r1 := cell_of_row _ _ 1 _ _ _ hrb
          have r2 := cell_of_row _ _ 2 _ _ _ hrb
          have rf := fun i => frozen_of_row _ _ i _ _ hrb
          have HNF := Lib.hid (HN.out.trans HNX.out)
          clear hrb HRB HSB HO1 HO2
          go_wp2_with fail
          refine bodyPost_ret (by simp [results, Tryz.results17, go_sem, r0, r1, r2]; try rfl) rfl ?_
          exact ⟨.inr ⟨HNO.out, rfl⟩, ((HNF.out.setCell (by exact Nat.le_refl _) _).setCell (by exact Nat.le_refl _) _).setCell (by exact Nat.le_refl _) _⟩
    · obtain rfl : q = n := by omega
      have r0 := cell_of_row _ _ 0 _ _ _ HRB.out
      have r1 := cell_of_row _ _ 1 _ _ _ HRB.out
      have r2 := cell_of_row _ _ 2 _ _ _ HRB.out
      have rf := fun i => frozen_of_row _ _ i _ _ HRB.out
      have s0 := cell_of_row _ _ 0 _ _ _ HSB.out
      have s1 := cell_of_row _ _ 1 _ _ _ HSB.out
      have s2 := cell_of_row _ _ 2 _ _ _ HSB.out
      have hR : ∀ (i x : Nat), (((wq.setCell ⟨w.heap.size, 0, none⟩ (.int .i64 k0)).setCell ⟨w.heap.size, 1, none⟩ (.int .i64 bi)).setCell ⟨w.heap.size, 2, none⟩ (.slice a1 q c1)).ownsRow (w.heap.size + 2) 23 1 (.slice a1 q c1) q ((ds.map fun d => d.1).map fun x => .int .u64 (W64 x)) := fun i x =>
        ow_far3 (ow_far3 (ow_far3 HO1.out (a := ⟨w.heap.size, 0, none⟩) (fun e => absurd (ow_lt HO1.out _ e).1 (by show ¬ (w.heap.size + 2 ≤ w.heap.size); omega)) _) (a := ⟨w.heap.size, 1, none⟩) (fun e => absurd (ow_lt HO1.out _ e).1 (by show ¬ (w.heap.size + 2 ≤ w.heap.size); omega)) _) (a := ⟨w.heap.size, 2, none⟩) (fun e => absurd (ow_lt HO1.out _ e).1 (by show ¬ (w.heap.size + 2 ≤ w.heap.size); omega)) _
      have hK : ∀ (i x : Nat), (((wq.setCell ⟨w.heap.size, 0, none⟩ (.int .i64 k0)).setCell ⟨w.heap.size, 1, none⟩ (.int .i64 bi)).setCell ⟨w.heap.size, 2, none⟩ (.slice a1 q c1)).ownsRow (w.heap.size + 2) 53 3 (.slice a2 q c2) q (drCs ds) := fun i x =>
        ow_far3 (ow_far3 (ow_far3 HO2.out (a := ⟨w.heap.size, 0, none⟩) (fun e => absurd (ow_lt HO2.out _ e).1 (by show ¬ (w.heap.size + 2 ≤ w.heap.size); omega)) _) (a := ⟨w.heap.size, 1, none⟩) (fun e => absurd (ow_lt HO2.out _ e).1 (by show ¬ (w.heap.size + 2 ≤ w.heap.size); omega)) _) (a := ⟨w.heap.size, 2, none⟩) (fun e => absurd (ow_lt HO2.out _ e).1 (by show ¬ (w.heap.size + 2 ≤ w.heap.size); omega)) _
      obtain ⟨x1, y1, z1, hq1⟩ := QRow.of_owns (hR 0 0) (by omega)
      cases z1
      obtain ⟨x2, y2, z2, hq2⟩ := KRow.of_owns (hK 0 0) (by omega)
      cases z2
      have HQ1 := Lib.hid hq1
      have HQ2 := Lib.hid hq2
      have HNF := Lib.hid (((HN.out.setCell (p := ⟨w.heap.size, 0, none⟩) (by exact Nat.le_refl _) (.int .i64 k0)).setCell (p := ⟨w.heap.size, 1, none⟩) (by exact Nat.le_refl _) (.int .i64 bi)).setCell (p := ⟨w.heap.size, 2, none⟩) (by exact Nat.le_refl _) (.slice a1 q c1))
      clear hq1 hq2 hR hK HO1 HO2 HRB HSB
      go_wp2_with fail
      refine bodyPost_ret (by simp [results, Tryz.results17, go_sem, r0, r1, r2]; try rfl) rfl ?_
      first | exact ⟨.inl ⟨ds, k, a1, c1, a2, c2, HS.out.1, rfl, HQ1.out, HQ2.out⟩, HNF.out⟩ | exact ⟨.inl ⟨ds, k, HS.out.1, a1, c1, a2, c2, rfl, HQ1.out, HQ2.out⟩, HNF.out⟩
set_option maxHeartbeats 8000000 in
theorem rtake_244 (k0 bi : Int) (n : Nat) (hn : 1 ≤ n ∧ n ≤ 320) (hwk : wkK k0 = 2) (hlm : W64 (lmW k0) = 0) (bl ol nl cl : Nat) (l : List (BitVec 64)) (hnl : nl ≤ 400) (w : World) (hl : QRow w (some ⟨bl, ol, none⟩) nl cl l) (hnl0 : 0 < nl) : Calls Tryz.prog 17 #[.slice (some ⟨bl, ol, none⟩) nl cl, .int .i64 k0, .int .i64 bi, .int .i64 (n : Int)] w fun e w' =>
    ((∃ ds k a1 c1 a2 c2, sdS 2 l n = some (ds, k) ∧ e = .returned (.tuple #[.agg (sdc k0 bi a1 n c1), .slice a2 n c2, .int .i64 (k : Int), .bool true]) ∧ QRow w' a1 n c1 (ds.map fun d => d.1) ∧ KRow w' a2 n c2 ds) ∨ (sdS 2 l n = none ∧ e = .returned (.tuple #[.agg zSd, .slice none 0 0, .int .i64 (nl : Int), .bool false]))) ∧ New w w' := by
  obtain ⟨iq, hiq, jq0, jq1, jq2⟩ := info_parts info_u64q
  obtain ⟨id, hid, hd0, hd1, hd2⟩ := info_parts info_drw
  have hlc := hl.le
  have hlr := hl.room
  have HLE := Lib.hid hl.len_eq
  have HL := Lib.hid hl
  have HLI := Lib.hid (fun w => rlimit_44 k0 w)
  rw [hlm] at HLI
  obtain ⟨h1, h2, h3⟩ := two_blocks44 w (.cells zSd 37) (.cells (sdc k0 bi none 0 0) 37)
  have HR0 := Lib.hid h1
  have HS0 := Lib.hid h2
  have HN0 := Lib.hid h3
  have hsz : (w.alloc (.cells zSd 37)).heap.size = w.heap.size + 1 := by simp
  have hsz2 : ((w.alloc (.cells zSd 37)).alloc (.cells (sdc k0 bi none 0 0) 37)).heap.size = w.heap.size + 2 := by simp
  clear h1 h2 h3 hl hwk hlm
  go_enter Tryz.func17, Tryz.ntmps17
  go_wp2_with fail
  generalize (w.alloc (.cells zSd 37)).alloc (.cells (sdc k0 bi none 0 0) 37) = w0 at HR0 HS0 HN0 hsz2 ⊢
  have HZ0 := Lib.hid hsz2
  clear hsz2
  try rw [hsz]
  clear hsz
  go_loopw [13, 14, 15] (fun ov uv iv wr => ∃ (q k : Nat) (ds : List Drw) (a1 : Option Addr) (c1 : Nat) (a2 : Option Addr) (c2 : Nat), q ≤ n ∧ iv = .int .i64 (q : Int) ∧ uv = .int .i64 (k : Int) ∧ ov = .slice a2 q c2 ∧ Hid (sdS 2 l q = some (ds, k) ∧ k ≤ nl) ∧ Hid (wr.heap[w.heap.size]? = some (.cells zSd 37 (0, 0))) ∧ Hid (wr.heap[w.heap.size + 1]? = some (.cells (sdc k0 bi a1 q c1) 37 (0, 0))) ∧ wr.ownsRow (w.heap.size + 2) 23 1 (.slice a1 q c1) q ((ds.map fun d => d.1).map fun x => .int .u64 (W64 x)) ∧ wr.ownsRow (w.heap.size + 2) 53 3 (.slice a2 q c2) q (drCs ds) ∧ Hid (New w wr)) (fun _ _ iv _ => n - (intOf iv).toNat)
  case atStart => exact ⟨0, 0, [], none, 0, none, 0, Nat.zero_le _, rfl, rfl, rfl, Lib.hid ⟨rfl, Nat.zero_le _⟩, HR0, HS0, World.ownsRow_nil _ _ _ 1, World.ownsRow_nil _ _ _ 3, HN0⟩
  case round =>
    obtain ⟨q, k, ds, a1, c1, a2, c2, hq, rfl, rfl, rfl, HS, HRB, HSB, ho1, ho2, HN⟩ := hrel
    clear HR0 HS0 HN0 HZ0
    have HO1 := Lib.hid ho1
    have HO2 := Lib.hid ho2
    obtain ⟨wq, hwq⟩ : ∃ z, z = wr := ⟨_, rfl⟩
    rw [← hwq] at HO1 HO2 HRB HSB HN ⊢
    clear ho1 ho2 hwq
    have hk0 : (0 : Int) ≤ (k : Int) := by omega
    have hkl : (k : Int) ≤ (nl : Int) := by have := HS.out.2; omega
    by_cases hlt : (q : Int) < (n : Int)
    · have hq0 : (0 : Int) ≤ (q : Int) := by omega
      have HLQ := Lib.hid (HL.out.stay HN.out)
      go_wp2_with fail
      refine (HLI.out _).mono ?_
      rintro e w9 ⟨rfl, rfl⟩
      go_upto_if 33 with fail
      go_cut [17] (fun is wx => (∃ (x y : BitVec 64) (u k' : Nat), Hid (stp 2 l k = some ((x, y, u), k') ∧ k' = k + u ∧ k' ≤ nl) ∧ is = .bool true ∧ Hid (wx.heap[wq.heap.size]? = some (.cells #[.int .u64 (W64 x), .int .u64 (W64 y), .int .i64 (u : Int)] 53 (0, 0))) ∧ Hid (New wq wx)) ∨ (Hid (stp 2 l k = none) ∧ is = .bool false ∧ Hid (New wq wx)))
      case first =>
        by_cases hkn : (k : Int) < (nl : Int)
        · have hd : decide (k < nl) = true := decide_eq_true (by omega)
          have cl0 := fun o : Obj => (HLQ.out.stay ((New.refl wq).alloc o)).cell bl ol rfl k (by omega)
          have HST := Lib.hid (stp_word (c := 2) (by decide) (l := l) (k := k) (by rw [HLE.out]; omega))
          generalize l.getD k 0 = x at *
          go_wp2_with fail
          refine (HLI.out _).mono ?_
          rintro e w9 ⟨rfl, rfl⟩
          go_wp2_with fail
          refine (HLI.out _).mono ?_
          rintro e w9 ⟨rfl, rfl⟩
          go_wp2_with fail
          go_meet
          case rel =>
            refine .inl ⟨x, 0#64, 1, k + 1, Lib.hid ⟨HST.out, rfl, by omega⟩, rfl, Lib.hid ?_, Lib.hid ((New.refl wq).alloc _)⟩
            exact heap_alloc_new _ _
        · have hd : decide (k < nl) = false := decide_eq_false (by omega)
          have HST : Hid (stp 2 l k = none) := Lib.hid (by have e : k = l.length := by have := HLE.out; omega
                                                           rw [e]; exact stp_few (by decide))
          go_wp2_with fail
          go_meet
          case rel => exact .inr ⟨HST, rfl, Lib.hid ((New.refl wq).alloc _)⟩
      case rest =>
        rcases hcut with ⟨x, y, u, k', HST, rfl, HDB, HNX⟩ | ⟨HST, rfl, HNX⟩
        · have HD := Lib.hid (sdS_next HS.out.1 HST.out.1)
          have hds := sdS_len HS.out.1
          have hkk := HST.out.2
          have hsb := (HNX.out.block _ (lt_of_block HSB.out)).trans HSB.out
          have hrb := (HNX.out.block _ (lt_of_block HRB.out)).trans HRB.out
          have o1 := ow_new HO1.out HNX.out
          have o2 := ow_new HO2.out HNX.out
          have s2 := cell_of_row _ _ 2 _ _ _ hsb
          have d0 := cell_of_row _ _ 0 _ _ _ HDB.out
          have hwk := HN.out.le
          have hwx := HNX.out.le
          have hltD := lt_of_block HDB.out
          have hltS := lt_of_block hsb
          have hltR := lt_of_block hrb
          have hltq := lt_of_block HSB.out
          have HRX := Lib.hid hrb
          have HSX := Lib.hid hsb
          have HO1X := Lib.hid o1
          have HO2X := Lib.hid o2
          have HLT1 : Hid (∀ g, (Value.slice a1 q c1).ownBlock = some g → w.heap.size + 2 ≤ g ∧ g < wq.heap.size) := Lib.hid (fun g hg => ow_lt HO1.out g hg)
          have HLT2 : Hid (∀ g, (Value.slice a2 q c2).ownBlock = some g → w.heap.size + 2 ≤ g ∧ g < wq.heap.size) := Lib.hid (fun g hg => ow_lt HO2.out g hg)
          have HSZ : Hid (w.heap.size + 1 < wq.heap.size ∧ wq.heap.size ≤ wc.heap.size ∧ True) := Lib.hid ⟨hltq, hwx, trivial⟩
          have hds2 := hds
          clear hsb hrb o2 hwk hwx hltD hltS hltR hltq
          clear HO1 HO2 HRB HSB
          have HKK := Lib.hid hkk
          have HQN : Hid (q < n) := Lib.hid (by omega)
          clear hkk hds hds2
          go_wp2_with (at_builtin; refine wpList_append_own _ rfl (.tmp 72) (.tmp 75) 28 rfl (w.heap.size + 2) 23 iq (.int .u64 0) 1 8 Tryz.underlying28 hiq jq0 jq1 jq2 rfl (by decide) _ q _ rfl (o1.alloc _) ⟨wc.heap.size, 0, none⟩ 1 1 [.int .u64 (W64 x)] rfl rfl ?c1 ?c2 ?c3 ?c4 ?c5 ?_)
          try (case c1 => exact new_cells_t wc _ _)
          try (case c2 => intro z hz; simp at hz; subst hz; rfl)
          try (case c3 => unfold maxLen; have := HQN.out; omega)
          try (case c4 => have := HQN.out; omega)
          try (case c5 => have := HSZ.out; simp; omega)
          intro v1 w1 how1 hgr1 _
          have hw1' : w1.ownsRow (w.heap.size + 2) 23 1 v1 (q + 1) (((ds ++ [(x, y, u)]).map fun d => d.1).map fun x => .int .u64 (W64 x)) := by
            rw [List.map_append, List.map_append, List.map_map]; exact how1
          obtain ⟨b1, p1, rfl, _⟩ := own_len hw1'
          have hlt1 : wc.heap.size ≤ (wc.alloc (.cells #[.int .u64 (W64 x)] 23)).heap.size := by simp
          have HD1 : Hid (w1.heap[wq.heap.size]? = some (.cells #[.int .u64 (W64 x), .int .u64 (W64 y), .int .i64 (u : Int)] 53 (0, 0))) := Lib.hid ((hgr1.block _ (Nat.lt_of_lt_of_le (lt_of_block HDB.out) hlt1) (fun e => by have := HLT1.out _ e.symm; omega)).trans ((((New.refl wc).alloc _).block _ (lt_of_block HDB.out)).trans HDB.out))
          have HS1 : Hid (w1.heap[w.heap.size + 1]? = some (.cells (sdc k0 bi a1 q c1) 37 (0, 0))) := Lib.hid ((hgr1.block _ (Nat.lt_of_lt_of_le (lt_of_block HSX.out) hlt1) (fun e => by have := HLT1.out _ e.symm; omega)).trans ((((New.refl wc).alloc _).block _ (lt_of_block HSX.out)).trans HSX.out))
          have HR1 : Hid (w1.heap[w.heap.size]? = some (.cells zSd 37 (0, 0))) := Lib.hid ((hgr1.block _ (Nat.lt_of_lt_of_le (lt_of_block HRX.out) hlt1) (fun e => by have := HLT1.out _ e.symm; omega)).trans ((((New.refl wc).alloc _).block _ (lt_of_block HRX.out)).trans HRX.out))
          have HO21 : Hid (w1.ownsRow (w.heap.size + 2) 53 3 (.slice a2 q c2) q (drCs ds)) := Lib.hid (ow_blk (ow_new HO2X.out ((New.refl wc).alloc _)) (fun z hz => hgr1.block z (by have := HLT2.out z hz; have := HSZ.out; omega) (fun e => ow_apart HO1X.out HO2X.out (by decide) z e.symm hz)))
          have HN1 : Hid (New w w1) := Lib.hid (((HN.out.trans HNX.out).alloc _).grown' hgr1 (fun z e => by have := HLT1.out z e; omega))
          have HO11 := Lib.hid hw1'
          have HZ1 : Hid (wq.heap.size ≤ w1.heap.size) := Lib.hid (by have := hgr1.size; have := HSZ.out; omega)
          have f2 := frozen_of_row _ _ 2 _ _ HS1.out
          have t2 := cell_of_row _ _ 2 _ _ _ HS1.out
          clear how1 hgr1 hw1' hlt1 o1 s2 d0 HO1X HO2X HSX HRX
          go_upto_region 20 with fail
          have HSW := Lib.hid (heap_setCell_same _ _ 2 _ _ (.slice b1 (q + 1) p1) HS1.out)
          have HDW := Lib.hid ((heap_setCell_other w1 ⟨w.heap.size + 1, 2, none⟩ wq.heap.size (.slice b1 (q + 1) p1) (by show wq.heap.size ≠ w.heap.size + 1; have := HSZ.out; omega)).trans HD1.out)
          have HRW := Lib.hid ((heap_setCell_other w1 ⟨w.heap.size + 1, 2, none⟩ w.heap.size (.slice b1 (q + 1) p1) (by show w.heap.size ≠ w.heap.size + 1; omega)).trans HR1.out)
          have HO1W := Lib.hid (ow_far3 HO11.out (a := ⟨w.heap.size + 1, 2, none⟩) (fun e => absurd (ow_lt HO11.out _ e).1 (by show ¬ (w.heap.size + 2 ≤ w.heap.size + 1); omega)) (.slice b1 (q + 1) p1))
          have HO2W := Lib.hid (ow_far3 HO21.out (a := ⟨w.heap.size + 1, 2, none⟩) (fun e => absurd (ow_lt HO21.out _ e).1 (by show ¬ (w.heap.size + 2 ≤ w.heap.size + 1); omega)) (.slice b1 (q + 1) p1))
          have HNW := Lib.hid (HN1.out.setCell (p := ⟨w.heap.size + 1, 2, none⟩) (by show w.heap.size ≤ w.heap.size + 1; omega) (.slice b1 (q + 1) p1))
          have HZW : Hid (wq.heap.size ≤ (w1.setCell ⟨w.heap.size + 1, 2, none⟩ (.slice b1 (q + 1) p1)).heap.size) := Lib.hid (by rw [size_set]; exact HZ1.out)
          generalize w1.setCell ⟨w.heap.size + 1, 2, none⟩ (.slice b1 (q + 1) p1) = W2 at *
          clear HS1 HD1 HR1 HO11 HO21 HN1 HZ1 f2 t2
          have e0 := cell_of_row _ _ 0 _ _ _ HDW.out
          have e1 := cell_of_row _ _ 1 _ _ _ HDW.out
          have e2 := cell_of_row _ _ 2 _ _ _ HDW.out
          have o2 := HO2W.out
          go_wp2_with (at_builtin; refine wpList_append_own _ rfl (.tmp 78) (.tmp 80) 38 rfl (w.heap.size + 2) 53 id (.agg #[.int .u64 0, .int .u64 0, .int .i64 0]) 3 24 Tryz.underlying38 hid hd0 hd1 hd2 rfl (by decide) _ q _ rfl (o2.alloc _) ⟨W2.heap.size, 0, none⟩ 1 1 (drC (x, y, u)) rfl rfl ?c1 ?c2 ?c3 ?c4 ?c5 ?_)
          try (case c1 => exact drw_cells W2 x y u 53)
          try (case c2 => exact drw_one x y u)
          try (case c3 => unfold maxLen; have := HQN.out; omega)
          try (case c4 => have := HQN.out; omega)
          try (case c5 => have := HZW.out; have := HSZ.out; simp; omega)
          intro v2 w2 how2 hgr2 _
          have hw2' : w2.ownsRow (w.heap.size + 2) 53 3 v2 (q + 1) (drCs (ds ++ [(x, y, u)])) := by
            rw [drCs_snoc]; exact how2
          obtain ⟨b2, p2, rfl, _⟩ := KRow.of_owns hw2' (by have := HQN.out; omega)
          have hlt2 : W2.heap.size ≤ (W2.alloc (.cells #[.int .u64 (W64 x), .int .u64 (W64 y), .int .i64 (u : Int)] 53)).heap.size := by simp
          have HD2 : Hid (w2.heap[wq.heap.size]? = some (.cells #[.int .u64 (W64 x), .int .u64 (W64 y), .int .i64 (u : Int)] 53 (0, 0))) := Lib.hid ((hgr2.block _ (Nat.lt_of_lt_of_le (lt_of_block HDW.out) hlt2) (fun e => by have := HLT2.out _ e.symm; omega)).trans ((((New.refl W2).alloc _).block _ (lt_of_block HDW.out)).trans HDW.out))
          have HS2 : Hid (w2.heap[w.heap.size + 1]? = some (.cells (sdc k0 bi b1 (q + 1) p1) 37 (0, 0))) := Lib.hid ((hgr2.block _ (Nat.lt_of_lt_of_le (lt_of_block HSW.out) hlt2) (fun e => by have := HLT2.out _ e.symm; omega)).trans ((((New.refl W2).alloc _).block _ (lt_of_block HSW.out)).trans HSW.out))
          have HR2 : Hid (w2.heap[w.heap.size]? = some (.cells zSd 37 (0, 0))) := Lib.hid ((hgr2.block _ (Nat.lt_of_lt_of_le (lt_of_block HRW.out) hlt2) (fun e => by have := HLT2.out _ e.symm; omega)).trans ((((New.refl W2).alloc _).block _ (lt_of_block HRW.out)).trans HRW.out))
          have HO12 : Hid (w2.ownsRow (w.heap.size + 2) 23 1 (.slice b1 (q + 1) p1) (q + 1) (((ds ++ [(x, y, u)]).map fun d => d.1).map fun x => .int .u64 (W64 x))) := Lib.hid (ow_blk (ow_new HO1W.out ((New.refl W2).alloc _)) (fun z hz => hgr2.block z (by have := (ow_lt HO1W.out z hz).2; omega) (fun e => ow_apart HO1W.out HO2W.out (by decide) z hz e.symm)))
          have HN2 : Hid (New w w2) := Lib.hid ((HNW.out.alloc _).grown' hgr2 (fun z e => by have := HLT2.out z e; omega))
          have HO22 := Lib.hid hw2'
          have g2 := cell_of_row _ _ 2 _ _ _ HD2.out
          have hw1 : wrap64 ((k : Int) + (u : Int)) = ((k + u : Nat) : Int) := by have := HKK.out; unfold wrap64; omega
          clear how2 hgr2 hw2' hlt2 o2 e0 e1 e2 HO1W HO2W HSW HRW HDW HNW
          go_wp2
          exact ⟨⟨q + 1, k', _, b1, p1, b2, p2, by have := HQN.out; omega, by go_num, by rw [hw1, HKK.out.1], rfl, Lib.hid ⟨HD.out, HKK.out.2⟩, HR2, HS2, HO12.out, HO22.out, HN2⟩, by have := HQN.out; simp [intOf]; omega⟩
        · have HD := Lib.hid (sdS_few HS.out.1 HST.out)
          have HNO : Hid (sdS 2 l n = none) := Lib.hid (by
            have := sdS_none HD.out (n - (q + 1))
            rw [show q + 1 + (n - (q + 1)) = n by omega] at this
            exact this)
          have hrb := (HNX.out.block _ (lt_of_block HRB.out)).trans HRB.out
          have r0 := cell_of_row _ _ 0 _ _ _ hrb
          have r1 := cell_of_row _ _ 1 _ _ _ hrb
          have r2 := cell_of_row _ _ 2 _ _ _ hrb
          have rf := fun i => frozen_of_row _ _ i _ _ hrb
          have HNF := Lib.hid (HN.out.trans HNX.out)
          clear hrb HRB HSB HO1 HO2
          go_wp2_with fail
          refine bodyPost_ret (by simp [results, Tryz.results17, go_sem, r0, r1, r2]; try rfl) rfl ?_
          exact ⟨.inr ⟨HNO.out, rfl⟩, ((HNF.out.setCell (by exact Nat.le_refl _) _).setCell (by exact Nat.le_refl _) _).setCell (by exact Nat.le_refl _) _⟩
    · obtain rfl : q = n := by omega
      have r0 := cell_of_row _ _ 0 _ _ _ HRB.out
      have r1 := cell_of_row _ _ 1 _ _ _ HRB.out
      have r2 := cell_of_row _ _ 2 _ _ _ HRB.out
      have rf := fun i => frozen_of_row _ _ i _ _ HRB.out
      have s0 := cell_of_row _ _ 0 _ _ _ HSB.out
      have s1 := cell_of_row _ _ 1 _ _ _ HSB.out
      have s2 := cell_of_row _ _ 2 _ _ _ HSB.out
      have hR : ∀ (i x : Nat), (((wq.setCell ⟨w.heap.size, 0, none⟩ (.int .i64 k0)).setCell ⟨w.heap.size, 1, none⟩ (.int .i64 bi)).setCell ⟨w.heap.size, 2, none⟩ (.slice a1 q c1)).ownsRow (w.heap.size + 2) 23 1 (.slice a1 q c1) q ((ds.map fun d => d.1).map fun x => .int .u64 (W64 x)) := fun i x =>
        ow_far3 (ow_far3 (ow_far3 HO1.out (a := ⟨w.heap.size, 0, none⟩) (fun e => absurd (ow_lt HO1.out _ e).1 (by show ¬ (w.heap.size + 2 ≤ w.heap.size); omega)) _) (a := ⟨w.heap.size, 1, none⟩) (fun e => absurd (ow_lt HO1.out _ e).1 (by show ¬ (w.heap.size + 2 ≤ w.heap.size); omega)) _) (a := ⟨w.heap.size, 2, none⟩) (fun e => absurd (ow_lt HO1.out _ e).1 (by show ¬ (w.heap.size + 2 ≤ w.heap.size); omega)) _
      have hK : ∀ (i x : Nat), (((wq.setCell ⟨w.heap.size, 0, none⟩ (.int .i64 k0)).setCell ⟨w.heap.size, 1, none⟩ (.int .i64 bi)).setCell ⟨w.heap.size, 2, none⟩ (.slice a1 q c1)).ownsRow (w.heap.size + 2) 53 3 (.slice a2 q c2) q (drCs ds) := fun i x =>
        ow_far3 (ow_far3 (ow_far3 HO2.out (a := ⟨w.heap.size, 0, none⟩) (fun e => absurd (ow_lt HO2.out _ e).1 (by show ¬ (w.heap.size + 2 ≤ w.heap.size); omega)) _) (a := ⟨w.heap.size, 1, none⟩) (fun e => absurd (ow_lt HO2.out _ e).1 (by show ¬ (w.heap.size + 2 ≤ w.heap.size); omega)) _) (a := ⟨w.heap.size, 2, none⟩) (fun e => absurd (ow_lt HO2.out _ e).1 (by show ¬ (w.heap.size + 2 ≤ w.heap.size); omega)) _
      obtain ⟨x1, y1, z1, hq1⟩ := QRow.of_owns (hR 0 0) (by omega)
      cases z1
      obtain ⟨x2, y2, z2, hq2⟩ := KRow.of_owns (hK 0 0) (by omega)
      cases z2
      have HQ1 := Lib.hid hq1
      have HQ2 := Lib.hid hq2
      have HNF := Lib.hid (((HN.out.setCell (p := ⟨w.heap.size, 0, none⟩) (by exact Nat.le_refl _) (.int .i64 k0)).setCell (p := ⟨w.heap.size, 1, none⟩) (by exact Nat.le_refl _) (.int .i64 bi)).setCell (p := ⟨w.heap.size, 2, none⟩) (by exact Nat.le_refl _) (.slice a1 q c1))
      clear hq1 hq2 hR hK HO1 HO2 HRB HSB
      go_wp2_with fail
      refine bodyPost_ret (by simp [results, Tryz.results17, go_sem, r0, r1, r2]; try rfl) rfl ?_
      first | exact ⟨.inl ⟨ds, k, a1, c1, a2, c2, HS.out.1, rfl, HQ1.out, HQ2.out⟩, HNF.out⟩ | exact ⟨.inl ⟨ds, k, HS.out.1, a1, c1, a2, c2, rfl, HQ1.out, HQ2.out⟩, HNF.out⟩
end Go.Proofs.YtdjlbpgjbgepdaaGreat
