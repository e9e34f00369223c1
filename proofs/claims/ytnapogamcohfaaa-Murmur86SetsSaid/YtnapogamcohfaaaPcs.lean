/- Contract of layer 28: the document's own Pieces: a row of slices whose bytes, one behind the other, are all of them. -/
import Derived.Test.YtnapogamcohfaaaCat
import Derived.Test.YtnapogamcohfaaaBlkM
import Derived.Test.YtnapogamcohfaaaRowI
namespace Go.Bv
open Go Go.RowKit
/-- a piece: a slice, and its bytes -/
structure Pc where
  a : Option Addr
  n : Nat
  c : Nat
  l : List (BitVec 8)
def Pc.v (p : Pc) : Value := .slice p.a p.n p.c
def Pc.ok (w : World) (p : Pc) : Prop := BRow w p.a p.n p.c p.l
theorem row_front {w : World} {a : Option Addr} {n c j : Nat} {m : List (BitVec 8)} (h : BRow w a n c m) (hj : j ≤ n) : BRow w a j c (m.take j) where
  len_eq := by have := h.len_eq; simp; omega
  le := Nat.le_trans hj h.le
  most := Nat.le_trans hj h.most
  room := h.room
  none := fun e => ⟨by have := (h.none e).1; omega, (h.none e).2⟩
  cell := fun b off e i hi => by
    rw [h.cell b off e i (by omega)]
    simp [List.getD_eq_getElem?_getD, hi]
  spot := fun x e h0 => h.spot x e (by omega)
  old := fun x e h0 => h.old x e (by omega)
theorem row_end' {w : World} {a : Option Addr} {n c j : Nat} {l : List (BitVec 8)} (h : BRow w a n c l) (hn : n = j) (hc : c = j) : BRow w a 0 0 (l.drop j) := by
  subst hn; subst hc; exact row_end h
theorem pcs_step (w : World) (ps : List Pc) (q : Pc) (m : List (BitVec 8)) (j : Nat) (l : List (BitVec 8)) (hq : q.l = m.take j) (hr : Pc.ok w q) (hall : ∀ p ∈ ps, Pc.ok w p) (hfl : (ps.map Pc.l).flatten ++ m = l) :
    (∀ p ∈ ps ++ [q], Pc.ok w p) ∧ ((ps ++ [q]).map Pc.l).flatten ++ m.drop j = l := by
  refine ⟨fun p hp => ?_, ?_⟩
  · rcases List.mem_append.1 hp with h | h
    · exact hall p h
    · simp at h; subst h; exact hr
  · rw [List.map_append, List.flatten_append, List.append_assoc]
    simp only [List.map_cons, List.map_nil, List.flatten_cons, List.flatten_nil, List.append_nil]
    rw [hq, List.take_append_drop]; exact hfl
end Go.Bv
namespace Go.Proofs.Ytnapogamcohfaaa
open Go.RowKit Go.Bv
set_option linter.unusedVariables false
theorem info_row : (Try.prog.info? 23).map (fun i => (i.zero, i.size, i.bytes)) = some (some (.slice none 0 0), 1, 24) := by kernel_rfl
theorem World.alloc_size (w : World) (o : Obj) : (w.alloc o).heap.size = w.heap.size + 1 := by simp
set_option maxRecDepth 100000 in
set_option maxHeartbeats 4000000 in
theorem pieces_ref (a : Option Addr) (n c : Nat) (l : List (BitVec 8)) (za : Option Addr) (nz cz : Nat) (zs : List Int) (w : World) (h : BRow w a n c l) (hz : ZRow w za nz cz zs) (hcut : nz ≤ 1000) :
    Calls Try.prog 12 #[.slice a n c, .slice za nz cz] w fun e w' => ∃ (v : Value) (ps : List Pc), e = .returned v ∧ w'.ownsRow w.heap.size 23 1 v (nz + 1) (ps.map Pc.v) ∧ (∀ p ∈ ps, Pc.ok w p) ∧ (ps.map Pc.l).flatten = l ∧ New w w' := by
  obtain ⟨i0, hi, hz0, hz1, hz2⟩ := info_parts info_row
  have hzl := hz.le
  have hzr := hz.room
  have HZ := Lib.hid hz
  have H := Lib.hid h
  clear hz h
  go_enter Try.func12, Try.ntmps12
  go_wp2
  go_loopw [0, 5, 11] (fun s o i wr => ∃ (k : Nat) (ps : List Pc) (a2 : Option Addr) (n2 c2 : Nat) (m : List (BitVec 8)), k ≤ nz ∧ i = .int .i64 (k : Int) ∧ s = .slice a2 n2 c2 ∧ BRow w a2 n2 c2 m ∧ wr.ownsRow w.heap.size 23 1 o k (ps.map Pc.v) ∧ (∀ p ∈ ps, Pc.ok w p) ∧ (ps.map Pc.l).flatten ++ m = l ∧ New w wr) (fun _ _ i _ => nz - (intOf i).toNat)
  case atStart => exact ⟨0, [], a, n, c, l, Nat.zero_le _, rfl, rfl, H.out, World.ownsRow_nil w _ _ 1, (fun p hp => by cases hp), rfl, New.refl w⟩
  case round =>
    obtain ⟨k, ps, a2, n2, c2, m, hk, rfl, rfl, hrow, hown, hall, hfl, hnew⟩ := hrel
    have HROW := Lib.hid hrow
    have HOWN := Lib.hid hown
    have HALL := Lib.hid hall
    have HFL := Lib.hid hfl
    have HNEW := Lib.hid hnew
    have hmost := hrow.most
    have hle := hrow.le
    have hroom := hrow.room
    have hmlen := hrow.len_eq
    clear hrow hown hall hfl hnew
    by_cases hlt : (k : Int) < (nz : Int)
    · obtain ⟨zb, zoff, rfl, hcell⟩ := (HZ.out.stay HNEW.out).addr (by omega)
      have hck := hcell k (by omega)
      have hkc : (k : Int) ≤ (cz : Int) := by omega
      have hk0 : (0 : Int) ≤ (k : Int) := by omega
      obtain ⟨z, hzz⟩ : ∃ z, zs.getD k 0 = z := ⟨_, rfl⟩
      rw [hzz] at hck
      clear hcell hzz
      by_cases hA : z < 0
      · cases a2 with
        | none =>
          obtain ⟨rfl, rfl, rfl⟩ := brow_nil HROW.out
          have hi0 : (0 : Int) ≤ 0 := by omega
          have hj2 : (0 : Int) ≤ (0 : Int) := by omega
          have hjn : (0 : Int) ≤ (0 : Int) := by omega
          have hjc : (0 : Int) ≤ (0 : Int) := by omega
          have HST := Lib.hid (pcs_step w ps ⟨none, 0, 0, ([] : List (BitVec 8)).take (0)⟩ ([] : List (BitVec 8)) (0) l rfl (row_front HROW.out (show 0 ≤ 0 by omega)) HALL.out HFL.out)
          have HNX := Lib.hid ((HROW.out))
          have HK1 : Hid (k + 1 ≤ nz) := Lib.hid (by omega)
          go_wp2_with (at_builtin; refine wpList_append_own _ rfl _ _ 34 rfl w.heap.size 23 i0 (.slice none 0 0) 1 24 Try.underlying34 hi hz0 hz1 hz2 rfl (by decide) _ k _ rfl (HOWN.out.alloc _) ⟨wr.heap.size, 0, none⟩ 1 1 [.slice (none) (0) (0)] rfl rfl ?d1_1 ?d1_2 ?d1_3 ?d1_4 ?d1_5 ?_)
          try (case d1_1 => exact new_cells wr _ _)
          case d1_2 => first | rfl | (intro u hu; simp at hu; subst hu; rfl) | simp
          case d1_3 => unfold maxLen; omega
          case d1_4 => omega
          case d1_5 => have := HNEW.out.le; simp; omega
          intro v' w1 how hgr _
          have hn1 : New w w1 := (HNEW.out.alloc _).grown' hgr (own_base HOWN.out)
          have HOW := Lib.hid how
          have HN1 := Lib.hid hn1
          clear how hgr hn1 hi0 hj2 hjc hjn
          go_wp2
          exact ⟨⟨k + 1, ps ++ [⟨none, 0, 0, ([] : List (BitVec 8)).take (0)⟩], _, _, _, ([] : List (BitVec 8)).drop (0), HK1.out, by go_num, rfl, by simpa using HNX.out, by rw [List.map_append]; exact HOW.out, HST.out.1, HST.out.2, HN1.out⟩, by have := HK1.out; simp [intOf]; omega⟩
        | some y =>
          obtain ⟨bk, off, sp⟩ := y
          have hi0 : (0 : Int) ≤ 0 := by omega
          have hj2 : (0 : Int) ≤ (n2 : Int) := by omega
          have hjn : (n2 : Int) ≤ (c2 : Int) := by omega
          have hjc : (0 : Int) ≤ (c2 : Int) := by omega
          have HST := Lib.hid (pcs_step w ps ⟨some ⟨bk, off, sp⟩, 0, c2, m.take (0)⟩ m (0) l rfl (row_front HROW.out (show 0 ≤ n2 by omega)) HALL.out HFL.out)
          have HNX := Lib.hid (HROW.out)
          have HK1 : Hid (k + 1 ≤ nz) := Lib.hid (by omega)
          go_wp2_with (at_builtin; refine wpList_append_own _ rfl _ _ 34 rfl w.heap.size 23 i0 (.slice none 0 0) 1 24 Try.underlying34 hi hz0 hz1 hz2 rfl (by decide) _ k _ rfl (HOWN.out.alloc _) ⟨wr.heap.size, 0, none⟩ 1 1 [.slice (some ⟨bk, off, sp⟩) (0) (c2)] rfl rfl ?d2_1 ?d2_2 ?d2_3 ?d2_4 ?d2_5 ?_)
          try (case d2_1 => exact new_cells wr _ _)
          case d2_2 => first | rfl | (intro u hu; simp at hu; subst hu; rfl) | simp
          case d2_3 => unfold maxLen; omega
          case d2_4 => omega
          case d2_5 => have := HNEW.out.le; simp; omega
          intro v' w1 how hgr _
          have hn1 : New w w1 := (HNEW.out.alloc _).grown' hgr (own_base HOWN.out)
          have HOW := Lib.hid how
          have HN1 := Lib.hid hn1
          clear how hgr hn1 hi0 hj2 hjc hjn
          go_wp2
          exact ⟨⟨k + 1, ps ++ [⟨some ⟨bk, off, sp⟩, 0, c2, m.take (0)⟩], _, _, _, m.drop (0), HK1.out, by go_num, rfl, by simpa using HNX.out, by rw [List.map_append]; exact HOW.out, HST.out.1, HST.out.2, HN1.out⟩, by have := HK1.out; simp [intOf]; omega⟩
      · by_cases hC : (n2 : Int) < z
        · cases a2 with
          | none =>
            obtain ⟨rfl, rfl, rfl⟩ := brow_nil HROW.out
            have hi0 : (0 : Int) ≤ 0 := by omega
            have hj2 : (0 : Int) ≤ (0 : Int) := by omega
            have hjn : (0 : Int) ≤ (0 : Int) := by omega
            have hjc : (0 : Int) ≤ (0 : Int) := by omega
            have HST := Lib.hid (pcs_step w ps ⟨none, 0, 0, ([] : List (BitVec 8)).take (0)⟩ ([] : List (BitVec 8)) (0) l rfl (row_front HROW.out (show 0 ≤ 0 by omega)) HALL.out HFL.out)
            have HNX := Lib.hid ((HROW.out))
            have HK1 : Hid (k + 1 ≤ nz) := Lib.hid (by omega)
            go_wp2_with (at_builtin; refine wpList_append_own _ rfl _ _ 34 rfl w.heap.size 23 i0 (.slice none 0 0) 1 24 Try.underlying34 hi hz0 hz1 hz2 rfl (by decide) _ k _ rfl (HOWN.out.alloc _) ⟨wr.heap.size, 0, none⟩ 1 1 [.slice (none) (0) (0)] rfl rfl ?d3_1 ?d3_2 ?d3_3 ?d3_4 ?d3_5 ?_)
            try (case d3_1 => exact new_cells wr _ _)
            case d3_2 => first | rfl | (intro u hu; simp at hu; subst hu; rfl) | simp
            case d3_3 => unfold maxLen; omega
            case d3_4 => omega
            case d3_5 => have := HNEW.out.le; simp; omega
            intro v' w1 how hgr _
            have hn1 : New w w1 := (HNEW.out.alloc _).grown' hgr (own_base HOWN.out)
            have HOW := Lib.hid how
            have HN1 := Lib.hid hn1
            clear how hgr hn1 hi0 hj2 hjc hjn
            go_wp2
            exact ⟨⟨k + 1, ps ++ [⟨none, 0, 0, ([] : List (BitVec 8)).take (0)⟩], _, _, _, ([] : List (BitVec 8)).drop (0), HK1.out, by go_num, rfl, by simpa using HNX.out, by rw [List.map_append]; exact HOW.out, HST.out.1, HST.out.2, HN1.out⟩, by have := HK1.out; simp [intOf]; omega⟩
          | some y =>
            obtain ⟨bk, off, sp⟩ := y
            by_cases hcj : c2 = n2
            · have hrow0 : BRow w (some ⟨bk, off, sp⟩) 0 0 (m.drop c2) := row_end' HROW.out (by omega) rfl
              subst hcj
              have HR0 := Lib.hid hrow0
              clear hrow0
              have hi0 : (0 : Int) ≤ (c2 : Int) := by omega
              have hj2 : ((c2 : Int) : Int) ≤ (c2 : Int) := by omega
              have hjn : (c2 : Int) ≤ (c2 : Int) := by omega
              have hjc : ((c2 : Int) : Int) ≤ (c2 : Int) := by omega
              have HST := Lib.hid (pcs_step w ps ⟨some ⟨bk, off, sp⟩, c2, c2, m.take (c2)⟩ m (c2) l rfl (row_front HROW.out (show c2 ≤ c2 by omega)) HALL.out HFL.out)
              have HNX := Lib.hid (HR0.out)
              have HK1 : Hid (k + 1 ≤ nz) := Lib.hid (by omega)
              go_wp2_with (at_builtin; refine wpList_append_own _ rfl _ _ 34 rfl w.heap.size 23 i0 (.slice none 0 0) 1 24 Try.underlying34 hi hz0 hz1 hz2 rfl (by decide) _ k _ rfl (HOWN.out.alloc _) ⟨wr.heap.size, 0, none⟩ 1 1 [.slice (some ⟨bk, off, sp⟩) (c2) (c2)] rfl rfl ?d4_1 ?d4_2 ?d4_3 ?d4_4 ?d4_5 ?_)
              try (case d4_1 => exact new_cells wr _ _)
              case d4_2 => first | rfl | (intro u hu; simp at hu; subst hu; rfl) | simp
              case d4_3 => unfold maxLen; omega
              case d4_4 => omega
              case d4_5 => have := HNEW.out.le; simp; omega
              intro v' w1 how hgr _
              have hn1 : New w w1 := (HNEW.out.alloc _).grown' hgr (own_base HOWN.out)
              have HOW := Lib.hid how
              have HN1 := Lib.hid hn1
              clear how hgr hn1 hi0 hj2 hjc hjn
              go_wp2
              exact ⟨⟨k + 1, ps ++ [⟨some ⟨bk, off, sp⟩, c2, c2, m.take (c2)⟩], _, _, _, m.drop (c2), HK1.out, by go_num, rfl, by simpa using HNX.out, by rw [List.map_append]; exact HOW.out, HST.out.1, HST.out.2, HN1.out⟩, by have := HK1.out; simp [intOf]; omega⟩
            · obtain ⟨sp2, hadd, hrow2⟩ := row_rest HROW.out (show n2 ≤ n2 by omega)
              have HR2 := Lib.hid hrow2
              clear hrow2
              have hi0 : (0 : Int) ≤ (n2 : Int) := by omega
              have hj2 : ((n2 : Int) : Int) ≤ (n2 : Int) := by omega
              have hjn : (n2 : Int) ≤ (c2 : Int) := by omega
              have hjc : ((n2 : Int) : Int) ≤ (c2 : Int) := by omega
              have HST := Lib.hid (pcs_step w ps ⟨some ⟨bk, off, sp⟩, n2, c2, m.take (n2)⟩ m (n2) l rfl (row_front HROW.out (show n2 ≤ n2 by omega)) HALL.out HFL.out)
              have HNX := Lib.hid (HR2.out)
              have HK1 : Hid (k + 1 ≤ nz) := Lib.hid (by omega)
              go_wp2_with (at_builtin; refine wpList_append_own _ rfl _ _ 34 rfl w.heap.size 23 i0 (.slice none 0 0) 1 24 Try.underlying34 hi hz0 hz1 hz2 rfl (by decide) _ k _ rfl (HOWN.out.alloc _) ⟨wr.heap.size, 0, none⟩ 1 1 [.slice (some ⟨bk, off, sp⟩) (n2) (c2)] rfl rfl ?d5_1 ?d5_2 ?d5_3 ?d5_4 ?d5_5 ?_)
              try (case d5_1 => exact new_cells wr _ _)
              case d5_2 => first | rfl | (intro u hu; simp at hu; subst hu; rfl) | simp
              case d5_3 => unfold maxLen; omega
              case d5_4 => omega
              case d5_5 => have := HNEW.out.le; simp; omega
              intro v' w1 how hgr _
              have hn1 : New w w1 := (HNEW.out.alloc _).grown' hgr (own_base HOWN.out)
              have HOW := Lib.hid how
              have HN1 := Lib.hid hn1
              clear how hgr hn1 hi0 hj2 hjc hjn
              go_wp2
              exact ⟨⟨k + 1, ps ++ [⟨some ⟨bk, off, sp⟩, n2, c2, m.take (n2)⟩], _, _, _, m.drop (n2), HK1.out, by go_num, rfl, by simpa using HNX.out, by rw [List.map_append]; exact HOW.out, HST.out.1, HST.out.2, HN1.out⟩, by have := HK1.out; simp [intOf]; omega⟩
        · obtain ⟨j, rfl⟩ : ∃ j : Nat, z = (j : Int) := ⟨z.toNat, by omega⟩
          cases a2 with
          | none =>
            obtain ⟨rfl, rfl, rfl⟩ := brow_nil HROW.out
            obtain rfl : j = 0 := by omega
            have hi0 : (0 : Int) ≤ 0 := by omega
            have hj2 : (0 : Int) ≤ (0 : Int) := by omega
            have hjn : (0 : Int) ≤ (0 : Int) := by omega
            have hjc : (0 : Int) ≤ (0 : Int) := by omega
            have HST := Lib.hid (pcs_step w ps ⟨none, 0, 0, ([] : List (BitVec 8)).take (0)⟩ ([] : List (BitVec 8)) (0) l rfl (row_front HROW.out (show 0 ≤ 0 by omega)) HALL.out HFL.out)
            have HNX := Lib.hid ((HROW.out))
            have HK1 : Hid (k + 1 ≤ nz) := Lib.hid (by omega)
            go_wp2_with (at_builtin; refine wpList_append_own _ rfl _ _ 34 rfl w.heap.size 23 i0 (.slice none 0 0) 1 24 Try.underlying34 hi hz0 hz1 hz2 rfl (by decide) _ k _ rfl (HOWN.out.alloc _) ⟨wr.heap.size, 0, none⟩ 1 1 [.slice (none) (0) (0)] rfl rfl ?d6_1 ?d6_2 ?d6_3 ?d6_4 ?d6_5 ?_)
            try (case d6_1 => exact new_cells wr _ _)
            case d6_2 => first | rfl | (intro u hu; simp at hu; subst hu; rfl) | simp
            case d6_3 => unfold maxLen; omega
            case d6_4 => omega
            case d6_5 => have := HNEW.out.le; simp; omega
            intro v' w1 how hgr _
            have hn1 : New w w1 := (HNEW.out.alloc _).grown' hgr (own_base HOWN.out)
            have HOW := Lib.hid how
            have HN1 := Lib.hid hn1
            clear how hgr hn1 hi0 hj2 hjc hjn
            go_wp2
            exact ⟨⟨k + 1, ps ++ [⟨none, 0, 0, ([] : List (BitVec 8)).take (0)⟩], _, _, _, ([] : List (BitVec 8)).drop (0), HK1.out, by go_num, rfl, by simpa using HNX.out, by rw [List.map_append]; exact HOW.out, HST.out.1, HST.out.2, HN1.out⟩, by have := HK1.out; simp [intOf]; omega⟩
          | some y =>
            obtain ⟨bk, off, sp⟩ := y
            by_cases hcj : c2 = j
            · have hrow0 : BRow w (some ⟨bk, off, sp⟩) 0 0 (m.drop c2) := row_end' HROW.out (by omega) rfl
              obtain rfl : n2 = j := by omega
              subst hcj
              have HR0 := Lib.hid hrow0
              clear hrow0
              have hi0 : (0 : Int) ≤ (c2 : Int) := by omega
              have hj2 : ((c2 : Int) : Int) ≤ (c2 : Int) := by omega
              have hjn : (c2 : Int) ≤ (c2 : Int) := by omega
              have hjc : ((c2 : Int) : Int) ≤ (c2 : Int) := by omega
              have HST := Lib.hid (pcs_step w ps ⟨some ⟨bk, off, sp⟩, c2, c2, m.take (c2)⟩ m (c2) l rfl (row_front HROW.out (show c2 ≤ c2 by omega)) HALL.out HFL.out)
              have HNX := Lib.hid (HR0.out)
              have HK1 : Hid (k + 1 ≤ nz) := Lib.hid (by omega)
              go_wp2_with (at_builtin; refine wpList_append_own _ rfl _ _ 34 rfl w.heap.size 23 i0 (.slice none 0 0) 1 24 Try.underlying34 hi hz0 hz1 hz2 rfl (by decide) _ k _ rfl (HOWN.out.alloc _) ⟨wr.heap.size, 0, none⟩ 1 1 [.slice (some ⟨bk, off, sp⟩) (c2) (c2)] rfl rfl ?d7_1 ?d7_2 ?d7_3 ?d7_4 ?d7_5 ?_)
              try (case d7_1 => exact new_cells wr _ _)
              case d7_2 => first | rfl | (intro u hu; simp at hu; subst hu; rfl) | simp
              case d7_3 => unfold maxLen; omega
              case d7_4 => omega
              case d7_5 => have := HNEW.out.le; simp; omega
              intro v' w1 how hgr _
              have hn1 : New w w1 := (HNEW.out.alloc _).grown' hgr (own_base HOWN.out)
              have HOW := Lib.hid how
              have HN1 := Lib.hid hn1
              clear how hgr hn1 hi0 hj2 hjc hjn
              go_wp2
              exact ⟨⟨k + 1, ps ++ [⟨some ⟨bk, off, sp⟩, c2, c2, m.take (c2)⟩], _, _, _, m.drop (c2), HK1.out, by go_num, rfl, by simpa using HNX.out, by rw [List.map_append]; exact HOW.out, HST.out.1, HST.out.2, HN1.out⟩, by have := HK1.out; simp [intOf]; omega⟩
            · obtain ⟨sp2, hadd, hrow2⟩ := row_rest HROW.out (show j ≤ n2 by omega)
              have HR2 := Lib.hid hrow2
              clear hrow2
              have hi0 : (0 : Int) ≤ (j : Int) := by omega
              have hj2 : ((j : Int) : Int) ≤ (n2 : Int) := by omega
              have hjn : (n2 : Int) ≤ (c2 : Int) := by omega
              have hjc : ((j : Int) : Int) ≤ (c2 : Int) := by omega
              have HST := Lib.hid (pcs_step w ps ⟨some ⟨bk, off, sp⟩, j, c2, m.take (j)⟩ m (j) l rfl (row_front HROW.out (show j ≤ n2 by omega)) HALL.out HFL.out)
              have HNX := Lib.hid (HR2.out)
              have HK1 : Hid (k + 1 ≤ nz) := Lib.hid (by omega)
              go_wp2_with (at_builtin; refine wpList_append_own _ rfl _ _ 34 rfl w.heap.size 23 i0 (.slice none 0 0) 1 24 Try.underlying34 hi hz0 hz1 hz2 rfl (by decide) _ k _ rfl (HOWN.out.alloc _) ⟨wr.heap.size, 0, none⟩ 1 1 [.slice (some ⟨bk, off, sp⟩) (j) (c2)] rfl rfl ?d8_1 ?d8_2 ?d8_3 ?d8_4 ?d8_5 ?_)
              try (case d8_1 => exact new_cells wr _ _)
              case d8_2 => first | rfl | (intro u hu; simp at hu; subst hu; rfl) | simp
              case d8_3 => unfold maxLen; omega
              case d8_4 => omega
              case d8_5 => have := HNEW.out.le; simp; omega
              intro v' w1 how hgr _
              have hn1 : New w w1 := (HNEW.out.alloc _).grown' hgr (own_base HOWN.out)
              have HOW := Lib.hid how
              have HN1 := Lib.hid hn1
              clear how hgr hn1 hi0 hj2 hjc hjn
              go_wp2
              exact ⟨⟨k + 1, ps ++ [⟨some ⟨bk, off, sp⟩, j, c2, m.take (j)⟩], _, _, _, m.drop (j), HK1.out, by go_num, rfl, by simpa using HNX.out, by rw [List.map_append]; exact HOW.out, HST.out.1, HST.out.2, HN1.out⟩, by have := HK1.out; simp [intOf]; omega⟩
    · obtain rfl : k = nz := by omega
      have hfit := HOWN.out
      have hall2 := pcs_step w ps ⟨a2, n2, c2, m⟩ m m.length l (List.take_length).symm HROW.out HALL.out HFL.out
      rw [List.drop_length, List.append_nil] at hall2
      have HST := Lib.hid hall2
      clear hfit hall2
      go_wp2_with (at_builtin; refine wpList_append_own _ rfl _ _ 34 rfl w.heap.size 23 i0 (.slice none 0 0) 1 24 Try.underlying34 hi hz0 hz1 hz2 rfl (by decide) _ k _ rfl (HOWN.out.alloc _) ⟨wr.heap.size, 0, none⟩ 1 1 [.slice a2 n2 c2] rfl rfl ?c1 ?c2 ?c3 ?c4 ?c5 ?_)
      try (case c1 => exact new_cells wr _ _)
      case c2 => first | rfl | (intro u hu; simp at hu; subst hu; rfl) | simp
      case c3 => unfold maxLen; omega
      case c4 => omega
      case c5 => have := HNEW.out.le; simp; omega
      intro v' w1 how hgr _
      have hn1 : New w w1 := (HNEW.out.alloc _).grown' hgr (own_base HOWN.out)
      have HOW := Lib.hid how
      have HN1 := Lib.hid hn1
      clear how hgr hn1
      go_wp2
      go_ret
      exact ⟨_, ps ++ [⟨a2, n2, c2, m⟩], rfl, by rw [List.map_append]; exact HOW.out, HST.out.1, HST.out.2, HN1.out⟩
end Go.Proofs.Ytnapogamcohfaaa
