/- Contracts of layer 37: Next. -/
import Derived.Test.YtajjpllhihgkdaaTapB
import Derived.Deep.DeepCutAuto
namespace Go.Proofs.Ytajjpllhihgkdaa
open Go.RowKit Go.Bv
set_option linter.unusedVariables false
/-- the state of a tape that no generator feeds -/
def S0 : Array Value := #[.int .i64 0, .int .u64 0, .int .u64 0, .int .u64 0, .int .u64 0]
/-- a block that holds it -/
def BS (w : World) (b : Nat) : Prop := w.heap[b]? = some (.cells #[.int .i64 0, .int .u64 0, .int .u64 0, .int .u64 0, .int .u64 0] 65 (0, 0))
theorem BS.stay {w w' : World} {b : Nat} (h : BS w b) (hn : New w w') : BS w' b := (hn.block _ (lt_of_block h)).trans h
theorem BS.c {w : World} {b : Nat} (h : BS w b) : w.cell? ⟨b, 0, none⟩ = some (.int .i64 0) ∧ w.cell? ⟨b, 1, none⟩ = some (.int .u64 0) ∧ w.cell? ⟨b, 2, none⟩ = some (.int .u64 0) ∧ w.cell? ⟨b, 3, none⟩ = some (.int .u64 0) ∧ w.cell? ⟨b, 4, none⟩ = some (.int .u64 0) :=
  ⟨cell_of_row _ _ 0 _ _ _ h, cell_of_row _ _ 1 _ _ _ h, cell_of_row _ _ 2 _ _ _ h, cell_of_row _ _ 3 _ _ _ h, cell_of_row _ _ 4 _ _ _ h⟩
theorem BS.free {w : World} {b : Nat} (h : BS w b) : ∀ i, w.frozen? ⟨b, i, none⟩ = false := fun i => by unfold BS at h; simp [World.frozen?, h]
set_option maxHeartbeats 2000000 in
theorem word_t (i : Int) (k : Nat) (c : Nat) (a : Option Addr) (cap : Nat) (l : List (BitVec 64)) (w : World) (hi : i = (k : Int)) (hk : k < l.length) (hc : w.heap[c]? = some (.cells #[.slice a l.length cap] 38 (0, 0))) (hq : QRow w a l.length cap l) :
    Calls Try.prog 41 #[.int .i64 i, .agg #[.int .i64 0, .int .u64 0, .int .u64 0, .int .u64 0, .int .u64 0], .pointer (some ⟨c, 0, none⟩)] w fun e w' =>
      e = .returned (.tuple #[.int .u64 (W64 (l.getD k 0)), .agg #[.int .i64 0, .int .u64 0, .int .u64 0, .int .u64 0, .int .u64 0]]) ∧ New w w' := by
  subst hi
  obtain ⟨b, off, rfl, hcell⟩ := hq.addr (by omega)
  have hw := hcell k hk
  obtain ⟨z, hz⟩ : ∃ z, l.getD k 0 = z := ⟨_, rfl⟩
  rw [hz] at hw
  rw [hz]
  have hcap := hq.le
  have hroom := hq.room
  have hmost := hq.most
  obtain ⟨h1, h2, h3⟩ := two_blocks w (.cells #[.int .i64 0, .int .u64 0, .int .u64 0, .int .u64 0, .int .u64 0] 65) (.cells #[.int .i64 0, .int .u64 0, .int .u64 0, .int .u64 0, .int .u64 0] 65)
  have hb := hq.old _ rfl (by omega)
  have hw2 : (((w.alloc (.cells #[.int .i64 0, .int .u64 0, .int .u64 0, .int .u64 0, .int .u64 0] 65)).alloc (.cells #[.int .i64 0, .int .u64 0, .int .u64 0, .int .u64 0, .int .u64 0] 65))).cell? ⟨b, off + k, none⟩ = some (.int .u64 (W64 z)) := by rw [h3.cell (by simpa using hb)]; exact hw
  have hc2 : (((w.alloc (.cells #[.int .i64 0, .int .u64 0, .int .u64 0, .int .u64 0, .int .u64 0] 65)).alloc (.cells #[.int .i64 0, .int .u64 0, .int .u64 0, .int .u64 0, .int .u64 0] 65))).heap[c]? = some (.cells #[.slice (some ⟨b, off, none⟩) l.length cap] 38 (0, 0)) := (h3.block _ (lt_of_block hc)).trans hc
  have c0 := cell_of_row _ _ 0 _ _ _ hc2
  obtain ⟨s0, s1, s2, s3, s4⟩ := BS.c h1
  obtain ⟨r0, r1, r2, r3, r4⟩ := BS.c h2
  have rf := BS.free h2
  have H1 := Lib.hid h1
  have H2 := Lib.hid h2
  have H3 := Lib.hid h3
  clear hz hc hq hc2 h1 h2 h3 hw hcell
  go_enter Try.func41, Try.ntmps41
  go_wp2_with fail
  generalize ((w.alloc (.cells #[.int .i64 0, .int .u64 0, .int .u64 0, .int .u64 0, .int .u64 0] 65)).alloc (.cells #[.int .i64 0, .int .u64 0, .int .u64 0, .int .u64 0, .int .u64 0] 65)) = w0 at *
  go_region
  go_wp2
  refine bodyPost_ret (by simp [results, Try.results41, go_sem, r0, r1, r2, r3, r4]; try rfl) rfl ?_
  exact ⟨rfl, (((((H3.out.setCell (by show _ ≤ w.heap.size + 1; omega) _).setCell (by show _ ≤ w.heap.size + 1; omega) _).setCell (by show _ ≤ w.heap.size + 1; omega) _).setCell (by show _ ≤ w.heap.size + 1; omega) _).setCell (by show _ ≤ w.heap.size + 1; omega) _).drew⟩
set_option maxHeartbeats 2000000 in
theorem next_none (b g : Nat) (l : List (BitVec 64)) (w : World) (h : Tape w b g l l.length) :
    Calls Try.prog 63 #[.pointer (some ⟨b, 0, none⟩)] w fun e w' => e = .returned (.tuple #[.int .u64 0, .int .i64 7]) ∧ w' = w := by
  have HM := Lib.hid (made_t b g l l.length w h)
  obtain ⟨c, v, a, cap, h⟩ := h
  have c7 : w.cell? ⟨b, 7, none⟩ = some (.int .i64 0) := by
    have := cell_of_row _ _ 7 _ _ _ h.box
    rw [Nat.sub_self] at this
    exact this
  clear h
  go_enter Try.func63, Try.ntmps63
  go_wp2_with fail
  refine HM.out.mono ?_
  rintro e w' ⟨rfl, rfl⟩
  go_wp2
  go_ret2
  exact ⟨rfl, rfl⟩
end Go.Proofs.Ytajjpllhihgkdaa
