/- Contracts of the document's own Both and Same: for all bytes. -/
import Derived.Test.YtjmnhooenampkaaGreatDoorPutA
import Derived.Laws.AppendOwnNone
namespace Go.Proofs.YtjmnhooenampkaaGreatDoor
open Go.RowKit Go.Bv
set_option linter.unusedVariables false
/-- bytes as a string -/
def bstr (l : List (BitVec 8)) : ByteArray := strOfNums (l.map W8)
theorem bstr_size (l : List (BitVec 8)) : (bstr l).size = l.length := by unfold bstr; rw [strOfNums_size, List.length_map]
theorem u8_of (x : BitVec 8) : UInt8.ofNat (W8 x).toNat = ⟨x⟩ := by
  rw [toNat_W8]; unfold N8; apply UInt8.toNat_inj.1
  have := x.isLt
  simp
theorem bstr_toList (l : List (BitVec 8)) : (bstr l).data.toList = l.map fun x => (⟨x⟩ : UInt8) := by
  unfold bstr; rw [strOfNums_data, List.map_map]; exact List.map_congr_left (fun x _ => u8_of x)
theorem bstr_inj {a b : List (BitVec 8)} (h : (bstr a).data.toList = (bstr b).data.toList) : a = b := by
  rw [bstr_toList, bstr_toList] at h
  have := congrArg (List.map UInt8.toBitVec) h
  simpa [List.map_map, Function.comp_def] using this
/-- the conversion of a slice of bytes into a string -/
theorem conv_row {w : World} {a : Option Addr} {len cap : Nat} {l : List (BitVec 8)} (h : BRow w a len cap l) :
    (convert 22 9 (.slice a len cap)).run Tryz.prog w = .ok (.string (bstr l)) w := by
  cases a with
  | none =>
    have h0 := (h.none rfl).1
    have hl : l = [] := List.eq_nil_of_length_eq_zero (by rw [h.len_eq, h0])
    rw [run_convert_bytes_nil (P := Tryz.prog) w 22 5 Tryz.underlying22 Tryz.underlying5 len cap 9 Tryz.underlying9, hl]; rfl
  | some x =>
    obtain ⟨b, off, sp⟩ := x
    by_cases h0 : 0 < len
    · obtain rfl : sp = Option.none := h.spot _ rfl h0
      exact run_convert_bytes_arg (P := Tryz.prog) w 22 5 Tryz.underlying22 Tryz.underlying5 b off len cap (l.map W8) (by rw [List.length_map, h.len_eq])
        (fun i hi => by
          rw [h.cell b off rfl i hi]
          have hl : i < l.length := by rw [h.len_eq]; exact hi
          rw [List.getD_eq_getElem?_getD, List.getD_eq_getElem?_getD, List.getElem?_map, List.getElem?_eq_getElem hl]; rfl) 9 Tryz.underlying9
    · obtain rfl : len = 0 := by omega
      have hl : l = [] := List.eq_nil_of_length_eq_zero h.len_eq
      subst hl
      rw [run_convert_bytes_string (P := Tryz.prog) w 22 9 5 _ 0 cap Tryz.underlying22 Tryz.underlying5 Tryz.underlying9, run_bytesToString (P := Tryz.prog) w ⟨b, off, sp⟩ 0 cap [] (by kernel_rfl)]
      rfl
set_option maxHeartbeats 1000000 in
theorem same_any (a b : Option Addr) (na ca nb cb : Nat) (la lb : List (BitVec 8)) (w : World) (ha : BRow w a na ca la) (hb : BRow w b nb cb lb) :
    Calls Tryz.prog 10 #[.slice a na ca, .slice b nb cb] w fun e w' => e = .returned (.bool (la == lb)) ∧ w' = w := by
  have h1 := conv_row ha
  have h2 := conv_row hb
  go_enter Tryz.func10, Tryz.ntmps10
  go_wp2
  go_ret
  refine ⟨retB ?_, rfl⟩
  rw [Bool.eq_iff_iff, beq_iff_eq, beq_iff_eq]
  exact ⟨fun h => bstr_inj (by rw [← Lib.toList_data, ← Lib.toList_data]; exact h), fun h => by rw [h]⟩
theorem row_one (l : List (BitVec 8)) : ∀ u ∈ l.map (fun y => Value.int .u8 (W8 y)), u.oneCell' = true := by
  intro u hu; obtain ⟨y, _, rfl⟩ := List.mem_map.1 hu; rfl
theorem row_len {w : World} {a : Option Addr} {n c : Nat} {l : List (BitVec 8)} (h : BRow w a n c l) : (l.map fun y => Value.int .u8 (W8 y)).length = n * 1 := by
  rw [List.length_map, h.len_eq, Nat.mul_one]
theorem brow_nil {w : World} {n c : Nat} {l : List (BitVec 8)} (h : BRow w none n c l) : n = 0 ∧ c = 0 ∧ l = [] :=
  ⟨(h.none rfl).1, (h.none rfl).2, List.eq_nil_of_length_eq_zero (by rw [h.len_eq]; exact (h.none rfl).1)⟩
set_option maxHeartbeats 1000000 in
theorem both_ref (a b : Option Addr) (na ca nb cb : Nat) (la lb : List (BitVec 8)) (W w : World) (ha : BRow w a na ca la) (hb : BRow w b nb cb lb) (hs : na + nb ≤ 140737488355328) (hg : New W w) :
    Calls Tryz.prog 50 #[.slice a na ca, .slice b nb cb] w fun e w' =>
      ∃ r cap, e = .returned (.slice r (na + nb) cap) ∧ BRow w' r (na + nb) cap (la ++ lb) ∧ New w w' ∧ New W w' := by
  obtain ⟨i0, hi, hz0, hz1, hz2⟩ := info_parts info_u8
  cases a with
  | none =>
    obtain ⟨rfl, rfl, rfl⟩ := brow_nil ha
    cases b with
    | none =>
      obtain ⟨rfl, rfl, rfl⟩ := brow_nil hb
      go_enter Tryz.func50, Tryz.ntmps50
      go_wp2_with (first | (at_builtin; refine wpList_append_own_none rfl (.tmp 6) (.tmp 7) 22 rfl w.heap.size 5 i0 1 Tryz.underlying22 hi _ 0 [] rfl (World.ownsRow_nil w _ _ 1) rfl ?_) | (at_builtin; refine wpList_append_own_none rfl (.tmp 9) (.tmp 10) 22 rfl w.heap.size 5 i0 1 Tryz.underlying22 hi _ 0 [] rfl (World.ownsRow_nil w _ _ 1) rfl ?_))
      go_ret
      exact ⟨none, 0, rfl, ha, New.refl w, hg⟩
    | some y =>
      go_enter Tryz.func50, Tryz.ntmps50
      go_wp2_with (first | (at_builtin; refine wpList_append_own_none rfl (.tmp 6) (.tmp 7) 22 rfl w.heap.size 5 i0 1 Tryz.underlying22 hi _ 0 [] rfl (World.ownsRow_nil w _ _ 1) rfl ?_) | (at_builtin; refine wpList_append_own _ rfl (.tmp 9) (.tmp 10) 22 rfl w.heap.size 5 i0 (.int .u8 0) 1 1 Tryz.underlying22 hi hz0 hz1 hz2 rfl (by decide) _ 0 [] rfl (World.ownsRow_nil w _ _ 1) y nb cb (lb.map fun y => .int .u8 (W8 y)) rfl (row_len hb) (hb.olds y rfl) (row_one lb) (by unfold maxLen; omega) (by omega) (Nat.le_refl _) ?_; intro v2 w2 how2 hgr2 _))
      obtain ⟨r, cap, rfl, hrow⟩ := BRow.of_owns (l := lb) (by simpa using how2) (by omega)
      go_ret
      exact ⟨r, cap, by rw [Nat.zero_add]; rfl, by rw [Nat.zero_add]; exact hrow, (New.refl w).grown hgr2, hg.grown hgr2⟩
  | some x =>
    cases b with
    | none =>
      obtain ⟨rfl, rfl, rfl⟩ := brow_nil hb
      go_enter Tryz.func50, Tryz.ntmps50
      go_wp2_with (first | (at_builtin; refine wpList_append_own _ rfl (.tmp 6) (.tmp 7) 22 rfl w.heap.size 5 i0 (.int .u8 0) 1 1 Tryz.underlying22 hi hz0 hz1 hz2 rfl (by decide) _ 0 [] rfl (World.ownsRow_nil w _ _ 1) x na ca (la.map fun y => .int .u8 (W8 y)) rfl (row_len ha) (ha.olds x rfl) (row_one la) (by unfold maxLen; omega) (by omega) (Nat.le_refl _) ?_; intro v1 w1 how1 hgr1 _) | (at_builtin; refine wpList_append_own_none rfl (.tmp 9) (.tmp 10) 22 rfl w.heap.size 5 i0 1 Tryz.underlying22 hi _ _ _ rfl how1 rfl ?_))
      obtain ⟨r, cap, rfl, hrow⟩ := BRow.of_owns (l := la) (by simpa using how1) (by omega)
      go_ret
      exact ⟨r, cap, rfl, by rw [List.append_nil]; exact hrow, (New.refl w).grown hgr1, hg.grown hgr1⟩
    | some y =>
      go_enter Tryz.func50, Tryz.ntmps50
      go_wp2_with (first | (at_builtin; refine wpList_append_own _ rfl (.tmp 6) (.tmp 7) 22 rfl w.heap.size 5 i0 (.int .u8 0) 1 1 Tryz.underlying22 hi hz0 hz1 hz2 rfl (by decide) _ 0 [] rfl (World.ownsRow_nil w _ _ 1) x na ca (la.map fun y => .int .u8 (W8 y)) rfl (row_len ha) (ha.olds x rfl) (row_one la) (by unfold maxLen; omega) (by omega) (Nat.le_refl _) ?_; intro v1 w1 how1 hgr1 _; have hn1 : New w w1 := (New.refl w).grown hgr1; have hb1 := hb.stay hn1; have hle1 := hn1.le) | (at_builtin; refine wpList_append_own _ rfl (.tmp 9) (.tmp 10) 22 rfl w.heap.size 5 i0 (.int .u8 0) 1 1 Tryz.underlying22 hi hz0 hz1 hz2 rfl (by decide) _ _ _ rfl how1 y nb cb (lb.map fun y => .int .u8 (W8 y)) rfl (row_len hb) (hb1.olds y rfl) (row_one lb) (by unfold maxLen; omega) (by omega) hle1 ?_; intro v2 w2 how2 hgr2 _))
      have hn2 : New w w2 := hn1.grown' hgr2 (own_base how1)
      obtain ⟨r, cap, rfl, hrow⟩ := BRow.of_owns (l := la ++ lb) (by rw [List.map_append]; simpa using how2) (by omega)
      go_ret
      exact ⟨r, cap, by simp, by simpa using hrow, hn2, hg.trans hn2⟩
end Go.Proofs.YtjmnhooenampkaaGreatDoor
