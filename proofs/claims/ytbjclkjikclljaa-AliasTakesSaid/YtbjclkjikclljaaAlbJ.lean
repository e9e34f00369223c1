/- Layer 43: the document's Take; AliasTakes. -/
import Derived.Test.YtbjclkjikclljaaAlbI
import Derived.Test.YtbjclkjikclljaaAliK
import Derived.BigQuiet
import Derived.Deep.RegionHeld3
namespace Go.Proofs.Ytbjclkjikclljaa
open Go Go.RowKit Go.Bv Go.Ali
set_option linter.unusedVariables false
set_option maxRecDepth 100000
/-- what the document tells of a tape's words -/
def TrP (T : BitVec 64) (l : List (BitVec 64)) (nl n : Nat) (be : List (BitVec 64)) (al : List Int) (w : World) (e : Ending) (w' : World) : Prop :=
  (∃ (ds : List Drw) (k : Nat) (a : Option Addr) (c : Nat), drS l (lm2 n T) 2 = some (ds, k) ∧ e = .returned (.tuple #[.int .i64 (tlV be al (ds.getD 0 dz).1.toNat (ds.getD 1 dz).1), .slice a 2 c, .int .i64 (k : Int), .bool true]) ∧ KRow w' a 2 c ds ∧ New w w') ∨
  (drS l (lm2 n T) 2 = none ∧ e = .returned (.tuple #[.int .i64 0, .slice none 0 0, .int .i64 (nl : Int), .bool false]) ∧ New w w')
set_option maxHeartbeats 8000000 in
theorem takr_43 (T : BitVec 64) (a : Option Addr) (nl c : Nat) (l : List (BitVec 64)) (ab : Option Addr) (n cb : Nat) (aa : Option Addr) (ca : Nat) (be : List (BitVec 64)) (al : List Int) (hE : tE T be al = 0) (w : World) (hq : QRow w a nl c l) (h : TL w ab n cb aa n ca be al) :
    Calls Try.prog 26 #[.slice a nl c, tv T ab n cb aa n ca] w fun e w' => TrP T l nl n be al w e w' := by
  obtain ⟨hn1, hn2, hna, hT0, hT1, hbb, hab⟩ := te_good hE
  have hlb := h.b.len_eq
  have hbx := heap_alloc_new w (TB (.int .u64 (W64 T)) (.slice ab n cb) (.slice aa n ca))
  have hn0 := (New.refl w).alloc (TB (.int .u64 (W64 T)) (.slice ab n cb) (.slice aa n ca))
  have k0 := cell_of_row _ _ 0 _ _ _ hbx
  have k1 := cell_of_row _ _ 1 _ _ _ hbx
  have k2 := cell_of_row _ _ 2 _ _ _ hbx
  have hW := w_of (n := n) (by omega)
  have hcv : IntKind.u64.wrap (n : Int) = W64 (BitVec.ofNat 64 n) := by rw [wrap_u64]; rfl
  have hN0 : ¬ BitVec.ofNat 64 n = 0#64 := by
    intro e
    have := congrArg BitVec.toNat e
    rw [BitVec.toNat_ofNat, Nat.mod_eq_of_lt (by omega)] at this
    simp at this; omega
  have hTZ : ¬ T = 0#64 := by intro e; rw [e] at hT0; exact absurd hT0 (by decide)
  have hnn : (BitVec.ofNat 64 n).toNat = n := by rw [BitVec.toNat_ofNat, Nat.mod_eq_of_lt (by omega)]
  have HLT : Hid (∀ ds k, drS l (lm2 n T) 2 = some (ds, k) → (ds.getD 0 dz).1.toNat < n) := Lib.hid (fun ds k hd => by
    have := drS_lt (l := l) (ls := lm2 n T) (m := 2) (fun i hi => by
      have : i = 0 ∨ i = 1 := by omega
      rcases this with rfl | rfl
      · exact hN0
      · exact hTZ) hd 0 (by omega)
    have e : ((lm2 n T).getD 0 0).toNat = n := hnn
    omega)
  have h2 := two_row (w.alloc (TB (.int .u64 (W64 T)) (.slice ab n cb) (.slice aa n ca))) (BitVec.ofNat 64 n) T
  rw [hW, show (w.alloc (TB (.int .u64 (W64 T)) (.slice ab n cb) (.slice aa n ca))).heap.size = w.heap.size + 1 by simp] at h2
  have HR := Lib.hid (row38_any a _ nl c 2 2 l (lm2 n T) _ (hq.stay (hn0.alloc (.cells #[.int .u64 (n : Int), .int .u64 (W64 T)] 24))) h2 (by omega))
  have HNX := Lib.hid (hn0.alloc (.cells #[.int .u64 (n : Int), .int .u64 (W64 T)] 24))
  have HBX : Hid (((w.alloc (TB (.int .u64 (W64 T)) (.slice ab n cb) (.slice aa n ca))).alloc (.cells #[.int .u64 (n : Int), .int .u64 (W64 T)] 24)).heap[w.heap.size]? = some (TB (.int .u64 (W64 T)) (.slice ab n cb) (.slice aa n ca))) := Lib.hid (blk_stay hbx ((New.refl _).alloc _))
  have HTL := Lib.hid h
  clear hn1 hn2 hna hT0 hT1 hbb hab hlb hbx hn0 hN0 hTZ hnn h2 h hq hE
  go_enter Try.func26, Try.ntmps26
  go_wp2_with fail
  refine HR.out.mono ?_
  rintro e w5 ⟨⟨ds, k, a', c', hd, rfl, hk⟩ | ⟨hd, rfl⟩, n5⟩
  · have HD := Lib.hid hd
    have HK := Lib.hid hk
    have HB5 := Lib.hid (blk_stay HBX.out n5)
    have HN5 := Lib.hid (HNX.out.trans n5)
    obtain ⟨bb, oo, e1, hc⟩ := hk.addr (by omega)
    have hc0 := (hc 0 (by omega)).1
    have hc1 := (hc 1 (by omega)).1
    obtain ⟨x, hx⟩ : ∃ z, (ds.getD 0 dz).1 = z := ⟨_, rfl⟩
    obtain ⟨y, hy⟩ : ∃ z, (ds.getD 1 dz).1 = z := ⟨_, rfl⟩
    rw [hx] at hc0
    rw [hy] at hc1
    have hlt := HLT.out ds k hd
    rw [hx] at hlt
    have HLX := Lib.hid hlt
    have HTE := Lib.hid (tellr_43 T ab n cb aa ca be al x y hlt w5 (HTL.out.stay HN5.out))
    have HXY := Lib.hid (And.intro hx hy)
    have k0 := cell_of_row _ _ 0 _ _ _ HB5.out
    have k1 := cell_of_row _ _ 1 _ _ _ HB5.out
    have k2 := cell_of_row _ _ 2 _ _ _ HB5.out
    subst e1
    simp only [Nat.zero_mul, Nat.add_zero, Nat.one_mul] at hc0 hc1
    clear hk hd n5 hc hx hy hlt HR HBX HNX
    have SK : Hid (∀ w', New w5 w' → New w5 w' ∧ w'.cell? ⟨w.heap.size, 0, none⟩ = some (.int .u64 (W64 T)) ∧ w'.cell? ⟨w.heap.size, 1, none⟩ = some (.slice ab n cb) ∧ w'.cell? ⟨w.heap.size, 2, none⟩ = some (.slice aa n ca) ∧ w'.cell? ⟨bb, oo, none⟩ = some (.int .u64 (W64 x)) ∧ w'.cell? ⟨bb, oo + 3, none⟩ = some (.int .u64 (W64 y))) := Lib.hid (fun w' hn => by
      have h1 := blk_stay HB5.out hn
      refine ⟨hn, cell_of_row _ _ 0 _ _ _ h1, cell_of_row _ _ 1 _ _ _ h1, cell_of_row _ _ 2 _ _ _ h1, ?_, ?_⟩
      · rw [hn.cell (a := ⟨bb, oo, none⟩) (cell_block hc0)]; exact hc0
      · rw [hn.cell (a := ⟨bb, oo + 3, none⟩) (cell_block hc1)]; exact hc1)
    have HTE2 : Hid (∀ w', New w5 w' → Calls Try.prog 20 #[tv T ab n cb aa n ca, .int .u64 (W64 x), .int .u64 (W64 y)] w' fun e w2 => e = .returned (.int .i64 (tlV be al x.toNat y)) ∧ New w' w2) := Lib.hid (fun w' hn => tellr_43 T ab n cb aa ca be al x y HLX.out w' (HTL.out.stay (HN5.out.trans hn)))
    clear HTE
    go_wp2_with fail
    go_region_held3 (fun w' => New w5 w' ∧ w'.cell? ⟨w.heap.size, 0, none⟩ = some (.int .u64 (W64 T)) ∧ w'.cell? ⟨w.heap.size, 1, none⟩ = some (.slice ab n cb) ∧ w'.cell? ⟨w.heap.size, 2, none⟩ = some (.slice aa n ca) ∧ w'.cell? ⟨bb, oo, none⟩ = some (.int .u64 (W64 x)) ∧ w'.cell? ⟨bb, oo + 3, none⟩ = some (.int .u64 (W64 y)))
      ((refine SK.out _ ?_; first | with_reducible assumption | with_reducible exact (New.refl _).drew | with_reducible exact New.drew (by assumption)))
      (first
      | (go_at_call 20
         refine (HTE2.out _ (by first | with_reducible exact (New.refl _).drew | with_reducible exact New.refl _)).mono ?_
         rintro e w6 ⟨rfl, hn6⟩
         have hn7 : New w5 w6 := by first | with_reducible exact (New.refl w5).drew.trans hn6 | with_reducible exact hn6
         clear hn6))
    all_goals (
      have HN7 := Lib.hid hn7
      clear hn7
      go_wp2
      refine bodyPost_ret (by simp [results, Try.results26, go_sem]; try rfl) rfl ?_
      obtain ⟨rfl, rfl⟩ := HXY.out
      first
        | exact .inl ⟨ds, k, _, _, HD.out, rfl, HK.out.stay HN7.out, HN5.out.trans HN7.out⟩
        | exact .inl ⟨ds, k, _, _, HD.out, rfl, HK.out.stay HN7.out.drew, HN5.out.trans HN7.out.drew⟩)
  · have HD := Lib.hid hd
    have HN5 := Lib.hid (HNX.out.trans n5)
    clear k0 k1 k2 hd n5 HR HBX HNX
    go_wp2
    refine bodyPost_ret (by simp [results, Try.results26, go_sem]; try rfl) rfl ?_
    exact .inr ⟨HD.out, rfl, HN5.out⟩
end Go.Proofs.Ytbjclkjikclljaa
