/- The law TapeTells: what its loop finds. -/
import Derived.Test.YtadcihkpnpemeaaGreatTapQ
namespace Go.Proofs.YtadcihkpnpemeaaGreat
open Go.RowKit Go.Bv
set_option linter.unusedVariables false
/-- the loop's memory -/
structure TakS (w wr : World) (b g : Nat) (a : Option Addr) (len cap : Nat) (l : List (BitVec 64)) (k : Nat) : Prop where
  tape : Tape wr b g l k
  new : New w wr
  gb : w.heap.size ≤ g
theorem wrap_sub (n k : Nat) (h : k ≤ n) (hn : n ≤ 17592186044416) : IntKind.i64.wrap ((n : Int) - (k : Int)) = (n : Int) - (k : Int) := by
  rw [show ((n : Int) - (k : Int)) = ((n - k : Nat) : Int) by omega]
  have h2 : n - k ≤ 17592186044416 := by omega
  generalize n - k = m at *
  simp [IntKind.wrap, IntKind.signed, IntKind.bits]
  omega
theorem drew_add {W w : World} (h : New W.drew w) : New W w := (New.refl W).drew.trans h
set_option maxHeartbeats 1000000 in
theorem taken_37 (b : Nat) (a : Option Addr) (len cap : Nat) (l : List (BitVec 64)) (W w : World) (ht : Tape w b b l 0) (hq : QRow W a len cap l) (hw : New W w) (hb : W.heap.size ≤ b) :
    Calls Tryz.prog 9 #[.pointer (some ⟨b, 0, none⟩), .slice a len cap] w fun e w' => e = .returned (.bool true) ∧ New W w' := by
  have hle := hq.le
  have hmost := hq.most
  have hroom := hq.room
  obtain rfl := hq.len_eq
  have HS0 := Lib.hid (show TakS W w b b a l.length cap l 0 from ⟨ht, hw, hb⟩)
  have HQ := Lib.hid hq
  clear ht hq hw
  go_enter Tryz.func9, Tryz.ntmps9
  go_wp2_with fail
  go_loopw [13] (fun i wr => ∃ k g : Nat, k ≤ l.length ∧ i = .int .i64 k ∧ TakS W wr b g a l.length cap l k) (fun i _ => l.length - (intOf i).toNat)
  case atStart => exact ⟨0, b, by omega, rfl, HS0.out⟩
  case round =>
    obtain ⟨k, g, hk, rfl, hst⟩ := hrel
    by_cases hlt : (k : Int) < (l.length : Int)
    · obtain ⟨p, off, rfl, hcell⟩ := (HQ.out.stay hst.new).addr (by omega)
      have hck := hcell k (by omega)
      have HROW := Lib.hid (fun w1 (hn : New wr w1) => QRow.take (HQ.out.stay (hst.new.trans hn)) k (by omega))
      have HNX := Lib.hid (next_some b g l k (by omega))
      obtain ⟨z, hz⟩ : ∃ z, l.getD k 0 = z := ⟨_, rfl⟩
      rw [hz] at hck HNX
      have HU := Lib.hid (fun w1 (hn : New wr w1) => used_t b g l k w1 (hst.tape.stay hn))
      have HL := Lib.hid (fun w1 (hn : New wr w1) => left_t b g l k w1 (hst.tape.stay hn))
      have HTK := Lib.hid (fun w1 (hn : New wr w1) => taken_t b g l k w1 (hst.tape.stay hn))
      have hwr : IntKind.i64.wrap ((l.length : Int) - (k : Int)) = (l.length : Int) - (k : Int) := wrap_sub _ _ hk hmost
      have hsub : (((l.length - k : Nat) : Int) != IntKind.i64.wrap ((l.length : Int) - (k : Int))) = false := by rw [hwr, bne_eq_false_iff_eq]; omega
      clear hwr
      have hkc : (k : Int) ≤ (cap : Int) := by omega
      have hk0 : (0 : Int) ≤ (k : Int) := by omega
      have HST := Lib.hid hst
      clear hcell hz hst
      obtain ⟨d, hd⟩ : ∃ d : Int, ((l.length - k : Nat) : Int) = d := ⟨_, rfl⟩
      rw [hd] at HL hsub
      clear hd
      have HBACK : Hid (New wr wr.drew) := Lib.hid (New.refl _).drew
      go_wp2_with fail
      go_cut [39] (fun x wx => x = .bool false ∧ New wr wx)
      case first =>
        go_region_held3 (fun w1 => New wr w1)
          ((first | with_reducible assumption | with_reducible exact (New.refl _).drew | with_reducible exact New.drew (by assumption)))
          (first
          | (go_at_call 13
             refine (HU.out _ (by first | with_reducible exact (New.refl _).drew | with_reducible assumption)).mono ?_
             rintro e w2 ⟨rfl, rfl⟩)
          | (go_at_call 17
             refine (HL.out _ (by first | with_reducible exact (New.refl _).drew | with_reducible assumption)).mono ?_
             rintro e w2 ⟨rfl, rfl⟩)
          | (go_at_call 15
             refine (HTK.out _ (by first | with_reducible exact (New.refl _).drew | with_reducible assumption)).mono ?_
             rintro e w2 ⟨a3, cap3, rfl, hq3, hn2⟩
             have HQ3 := Lib.hid hq3
             have hn3 : New wr w2 := by with_reducible exact drew_add hn2
             clear hq3 hn2)
          | (go_at_call 14
             refine (words_ref _ _ _ _ _ _ _ _ wr _ HQ3.out (HROW.out _ hn3) hn3).mono ?_
             rintro e w3 ⟨rfl, _, hn4⟩
             rw [beq_self_eq_true]))
        go_wp2_with fail
        go_meet
        case rel => exact ⟨rfl, hn4⟩
      case rest =>
        obtain ⟨rfl, hn⟩ := hcut
        have HTP := Lib.hid (HST.out.tape.stay hn)
        have HNW := Lib.hid (HST.out.new.trans hn)
        have hgb := HST.out.gb
        clear hn HU HL HTK HROW HBACK HST HS0 hck
        go_wp2_with fail
        refine (HNX.out _ HTP.out).mono ?_
        rintro e w5 ⟨rfl, g2, ht2, hbut, hg2⟩
        have HS5 := Lib.hid (show TakS W w5 b g2 (some ⟨p, off, none⟩) l.length cap l (k + 1) from ⟨ht2, hbut.new W HNW.out hb hgb, by have := HNW.out.le; omega⟩)
        clear ht2 hbut hg2
        go_wp2
        exact ⟨⟨k + 1, g2, by omega, by go_num, HS5.out⟩, by simp [intOf]; omega⟩
    · obtain rfl : k = l.length := by omega
      have HNX := Lib.hid (next_none b g l wr hst.tape)
      have HU := Lib.hid (fun w1 (hn : New wr w1) => used_t b g l l.length w1 (hst.tape.stay hn))
      have HL := Lib.hid (fun w1 (hn : New wr w1) => left_t b g l l.length w1 (hst.tape.stay hn))
      have HTK := Lib.hid (fun w1 (hn : New wr w1) => taken_t b g l l.length w1 (hst.tape.stay hn))
      rw [List.take_length] at HTK
      rw [Nat.sub_self] at HL
      have HNW := Lib.hid hst.new
      clear hst HS0
      go_wp2_with fail
      refine HNX.out.mono ?_
      rintro e w2 ⟨rfl, rfl⟩
      go_wp2_with fail
      refine (HU.out _ (New.refl _)).mono ?_
      rintro e w2 ⟨rfl, rfl⟩
      go_wp2_with fail
      refine (HL.out _ (New.refl _)).mono ?_
      rintro e w2 ⟨rfl, rfl⟩
      go_wp2_with fail
      refine (HTK.out _ (New.refl _)).mono ?_
      rintro e w3 ⟨a3, cap3, rfl, hq3, hn3⟩
      have HQ3 := Lib.hid hq3
      have HN3 := Lib.hid (HNW.out.trans hn3)
      clear hq3 hn3
      go_wp2_with fail
      refine (words_ref _ _ _ _ _ _ _ _ W _ HQ3.out (HQ.out.stay HN3.out) HN3.out).mono ?_
      rintro e w4 ⟨rfl, _, hn4⟩
      rw [beq_self_eq_true]
      have HN4 := Lib.hid hn4
      clear hn4
      go_wp2
      go_ret
      exact ⟨rfl, HN4.out⟩
end Go.Proofs.YtadcihkpnpemeaaGreat
