/- leap.Fixed4; the document's own. · leap.Fixed2. · Equality of states and numbers of 256 bits; the example of leap (awake). · The kinds of the smaller generators, bundled; the laws' common lemmas. -/
import Derived.Test.YtppmpledcaonkaaLqF
import Derived.Test.YtppmpledcaonkaaGf2T
import Derived.Test.YtppmpledcaonkaaClass
import Derived.ChangeKeysEq
import Derived.Laws.StructEq
import Derived.Test.YtppmpledcaonkaaLpO
namespace Go.G2
/-- the published jumps' words -/
def fx4 (long : Bool) : List (BitVec 64) := if long then [8566230491382795199#64, 14195432079911694259#64, 8606660816089834049#64, 4111957640723818037#64] else [1733541517147835066#64, 15395012609548302636#64, 12202545078643706282#64, 4155657270789760540#64]
end Go.G2
namespace Go.Proofs.Ytppmpledcaonkaa
open Go Go.RowKit Go.Bv Go.G2
set_option linter.unusedVariables false
/-- an array of four words reads as a slice -/
theorem arr_row4 {w : World} {b : Nat} {q : V4} (h : S4 w b q) : QRow w (some ⟨b, 0, none⟩) 4 4 [q.a, q.b, q.c, q.d] where
  len_eq := rfl
  le := Nat.le_refl _
  most := by omega
  room := by omega
  none := (fun e => by cases e)
  cell := fun b2 o2 e i hi => by
    cases e
    rw [cell_of_row _ _ _ _ _ _ h]
    match i, hi with
    | 0, _ => rfl
    | 1, _ => rfl
    | 2, _ => rfl
    | 3, _ => rfl
  spot := fun x e _ => by cases e; rfl
  old := fun x e _ => by cases e; exact lt_of_block h
theorem arr_row2 {w : World} {b : Nat} {q : V2} (h : S2 w b q) : QRow w (some ⟨b, 0, none⟩) 2 2 [q.a, q.b] where
  len_eq := rfl
  le := Nat.le_refl _
  most := by omega
  room := by omega
  none := (fun e => by cases e)
  cell := fun b2 o2 e i hi => by
    cases e
    rw [cell_of_row _ _ _ _ _ _ h]
    match i, hi with
    | 0, _ => rfl
    | 1, _ => rfl
  spot := fun x e _ => by cases e; rfl
  old := fun x e _ => by cases e; exact lt_of_block h
theorem S4.cells {w : World} {b : Nat} {q : V4} (h : S4 w b q) : w.cell? ⟨b, 0, none⟩ = some (.int .u64 (W64 q.a)) ∧ w.cell? ⟨b, 1, none⟩ = some (.int .u64 (W64 q.b)) ∧ w.cell? ⟨b, 2, none⟩ = some (.int .u64 (W64 q.c)) ∧ w.cell? ⟨b, 3, none⟩ = some (.int .u64 (W64 q.d)) :=
  ⟨cell_of_row _ _ 0 _ _ _ h, cell_of_row _ _ 1 _ _ _ h, cell_of_row _ _ 2 _ _ _ h, cell_of_row _ _ 3 _ _ _ h⟩
set_option maxRecDepth 100000 in
set_option maxHeartbeats 2000000 in
theorem fixed4_q (long : Bool) (q : V4) (w : World) :
    Calls Try.prog 48 #[.bool long, .agg #[.int .u64 (W64 q.a), .int .u64 (W64 q.b), .int .u64 (W64 q.c), .int .u64 (W64 q.d)]] w fun e w' => e = .returned (.agg #[.int .u64 (W64 (LV4.act (vW (fx4 long)) q).a), .int .u64 (W64 (LV4.act (vW (fx4 long)) q).b), .int .u64 (W64 (LV4.act (vW (fx4 long)) q).c), .int .u64 (W64 (LV4.act (vW (fx4 long)) q).d)]) ∧ New w w' := by
  obtain ⟨W2, hW2, c1, c2, hsz, hn2⟩ : ∃ W2, (w.alloc (.cells #[.int .u64 (W64 q.a), .int .u64 (W64 q.b), .int .u64 (W64 q.c), .int .u64 (W64 q.d)] 44)).alloc (.cells #[.int .u64 0, .int .u64 0, .int .u64 0, .int .u64 0] 44) = W2 ∧ S4 W2 w.heap.size q ∧ S4 W2 (w.heap.size + 1) LV4.z ∧ W2.heap.size = w.heap.size + 1 + 1 ∧ New w W2 := by
    refine ⟨_, rfl, (s4_new w q).stay ((New.refl _).alloc _), ?_, by simp, ((New.refl w).alloc _).alloc _⟩
    have h := s4_z (w.alloc (.cells #[.int .u64 (W64 q.a), .int .u64 (W64 q.b), .int .u64 (W64 q.c), .int .u64 (W64 q.d)] 44))
    simpa using h
  have HC1 := Lib.hid c1
  have HC2 := Lib.hid c2
  have HW2 := Lib.hid hW2
  have HSZ := Lib.hid hsz
  have HN2 := Lib.hid hn2
  clear hW2 c1 c2 hsz hn2
  have HBA := Lib.hid (fun (a : Option Addr) (n c : Nat) (l : List (BitVec 64)) (w : World) (h : QRow w a n c l) (hn : n ≤ 10000) => by4_q a n c l q w h hn)
  have main : ∀ (x : V4) (W3 : World) (r : V4), LV4.act (vW [x.a, x.b, x.c, x.d]) q = r → New W2 W3 → S4 W3 (w.heap.size + 1 + 1) x → (∀ w', New W3 w' → Calls Try.prog 39 #[.slice (some ⟨w.heap.size + 1 + 1, 0, none⟩) 4 4, .agg #[.int .u64 (W64 q.a), .int .u64 (W64 q.b), .int .u64 (W64 q.c), .int .u64 (W64 q.d)]] w' fun e w'' => e = .returned (.agg #[.int .u64 (W64 r.a), .int .u64 (W64 r.b), .int .u64 (W64 r.c), .int .u64 (W64 r.d)]) ∧ New w' w'') := by
    intro x W3 r hr hn hs w' hn'
    rw [← hr]
    exact HBA.out _ 4 4 _ w' (arr_row4 (hs.stay hn')) (by omega)
  have HMAIN := Lib.hid main
  clear main HBA
  cases long
  · obtain ⟨r, hr⟩ : ∃ r, LV4.act (vW (fx4 false)) q = r := ⟨_, rfl⟩
    rw [hr]
    obtain ⟨x, hx⟩ : ∃ x : V4, x = ⟨1733541517147835066#64, 15395012609548302636#64, 12202545078643706282#64, 4155657270789760540#64⟩ := ⟨_, rfl⟩
    have hvr : LV4.act (vW [x.a, x.b, x.c, x.d]) q = r := by subst hx; exact hr
    have hn3 : New W2 (W2.alloc (.cells #[.int .u64 1733541517147835066, .int .u64 15395012609548302636, .int .u64 12202545078643706282, .int .u64 4155657270789760540] 44)) := (New.refl _).alloc _
    have c3 : S4 (W2.alloc (.cells #[.int .u64 1733541517147835066, .int .u64 15395012609548302636, .int .u64 12202545078643706282, .int .u64 4155657270789760540] 44)) (w.heap.size + 1 + 1) x := by
      subst hx; rw [← HSZ.out]; exact heap_alloc_new W2 _
    obtain ⟨W3, hW3⟩ : ∃ z, W2.alloc (.cells #[.int .u64 1733541517147835066, .int .u64 15395012609548302636, .int .u64 12202545078643706282, .int .u64 4155657270789760540] 44) = z := ⟨_, rfl⟩
    rw [hW3] at hn3 c3
    have HW3 := Lib.hid hW3
    clear hW3 hr hx
    go_enter Try.func48, Try.ntmps48
    go_wp2_with fail
    rw [HW2.out, HW3.out]
    clear HW2 HW3 HSZ
    have HS3 := Lib.hid c3
    have HN3 := Lib.hid hn3
    have HBY := Lib.hid (HMAIN.out x W3 _ hvr hn3 c3)
    have SK : Hid (∀ w', New W3 w' → (w'.cell? ⟨w.heap.size, 0, none⟩ = some (.int .u64 (W64 q.a)) ∧ w'.cell? ⟨w.heap.size, 1, none⟩ = some (.int .u64 (W64 q.b)) ∧ w'.cell? ⟨w.heap.size, 2, none⟩ = some (.int .u64 (W64 q.c)) ∧ w'.cell? ⟨w.heap.size, 3, none⟩ = some (.int .u64 (W64 q.d)))) := Lib.hid (fun w' hn' => (HC1.out.stay (HN3.out.trans hn')).cells)
    obtain ⟨k0, k1, k2, k3⟩ := SK.out W3 (New.refl _)
    clear c3 hn3 hvr
    go_region_held3 (fun w' => w'.cell? ⟨w.heap.size, 0, none⟩ = some (.int .u64 (W64 q.a)) ∧ w'.cell? ⟨w.heap.size, 1, none⟩ = some (.int .u64 (W64 q.b)) ∧ w'.cell? ⟨w.heap.size, 2, none⟩ = some (.int .u64 (W64 q.c)) ∧ w'.cell? ⟨w.heap.size, 3, none⟩ = some (.int .u64 (W64 q.d)))
      (first | with_reducible assumption | (refine SK.out _ ?_; first | with_reducible exact (New.refl _).drew | with_reducible assumption | with_reducible exact New.drew (by assumption)) | go_keep)
      (first
      | (go_at_call 39
         refine (HBY.out _ (by first | with_reducible exact (New.refl _).drew | with_reducible exact New.refl _)).mono ?_
         rintro e w4 ⟨rfl, hn4⟩
         have hn5 : New W3 w4 := by first | with_reducible exact (New.refl W3).drew.trans hn4 | with_reducible exact hn4
         have g3 := HC2.out.stay (HN3.out.trans hn5)
         have m0 := cell_of_row _ _ 0 _ _ _ g3
         have m1 := cell_of_row _ _ 1 _ _ _ g3
         have m2 := cell_of_row _ _ 2 _ _ _ g3
         have m3 := cell_of_row _ _ 3 _ _ _ g3
         have mf : ∀ i, w4.frozen? ⟨w.heap.size + 1, i, none⟩ = false := fun i => frozen_of_row _ _ i _ _ g3
         have HN5 := Lib.hid hn5
         clear hn4 g3))
    clear hn5
    go_wp2
    refine bodyPost_ret (by simp [results, Try.results48, go_sem, m0, m1, m2, m3]; try rfl) rfl ?_
    exact ⟨rfl, (((((HN2.out.trans HN3.out).trans HN5.out).setCell (by simp; try omega) _).setCell (by simp; try omega) _).setCell (by simp; try omega) _).setCell (by simp; try omega) _⟩
  · obtain ⟨r, hr⟩ : ∃ r, LV4.act (vW (fx4 true)) q = r := ⟨_, rfl⟩
    rw [hr]
    obtain ⟨x, hx⟩ : ∃ x : V4, x = ⟨8566230491382795199#64, 14195432079911694259#64, 8606660816089834049#64, 4111957640723818037#64⟩ := ⟨_, rfl⟩
    have hvr : LV4.act (vW [x.a, x.b, x.c, x.d]) q = r := by subst hx; exact hr
    have hn3 : New W2 (W2.alloc (.cells #[.int .u64 8566230491382795199, .int .u64 14195432079911694259, .int .u64 8606660816089834049, .int .u64 4111957640723818037] 44)) := (New.refl _).alloc _
    have c3 : S4 (W2.alloc (.cells #[.int .u64 8566230491382795199, .int .u64 14195432079911694259, .int .u64 8606660816089834049, .int .u64 4111957640723818037] 44)) (w.heap.size + 1 + 1) x := by
      subst hx; rw [← HSZ.out]; exact heap_alloc_new W2 _
    obtain ⟨W3, hW3⟩ : ∃ z, W2.alloc (.cells #[.int .u64 8566230491382795199, .int .u64 14195432079911694259, .int .u64 8606660816089834049, .int .u64 4111957640723818037] 44) = z := ⟨_, rfl⟩
    rw [hW3] at hn3 c3
    have HW3 := Lib.hid hW3
    clear hW3 hr hx
    go_enter Try.func48, Try.ntmps48
    go_wp2_with fail
    rw [HW2.out, HW3.out]
    clear HW2 HW3 HSZ
    have HS3 := Lib.hid c3
    have HN3 := Lib.hid hn3
    have HBY := Lib.hid (HMAIN.out x W3 _ hvr hn3 c3)
    have SK : Hid (∀ w', New W3 w' → (w'.cell? ⟨w.heap.size, 0, none⟩ = some (.int .u64 (W64 q.a)) ∧ w'.cell? ⟨w.heap.size, 1, none⟩ = some (.int .u64 (W64 q.b)) ∧ w'.cell? ⟨w.heap.size, 2, none⟩ = some (.int .u64 (W64 q.c)) ∧ w'.cell? ⟨w.heap.size, 3, none⟩ = some (.int .u64 (W64 q.d)))) := Lib.hid (fun w' hn' => (HC1.out.stay (HN3.out.trans hn')).cells)
    obtain ⟨k0, k1, k2, k3⟩ := SK.out W3 (New.refl _)
    clear c3 hn3 hvr
    go_region_held3 (fun w' => w'.cell? ⟨w.heap.size, 0, none⟩ = some (.int .u64 (W64 q.a)) ∧ w'.cell? ⟨w.heap.size, 1, none⟩ = some (.int .u64 (W64 q.b)) ∧ w'.cell? ⟨w.heap.size, 2, none⟩ = some (.int .u64 (W64 q.c)) ∧ w'.cell? ⟨w.heap.size, 3, none⟩ = some (.int .u64 (W64 q.d)))
      (first | with_reducible assumption | (refine SK.out _ ?_; first | with_reducible exact (New.refl _).drew | with_reducible assumption | with_reducible exact New.drew (by assumption)) | go_keep)
      (first
      | (go_at_call 39
         refine (HBY.out _ (by first | with_reducible exact (New.refl _).drew | with_reducible exact New.refl _)).mono ?_
         rintro e w4 ⟨rfl, hn4⟩
         have hn5 : New W3 w4 := by first | with_reducible exact (New.refl W3).drew.trans hn4 | with_reducible exact hn4
         have g3 := HC2.out.stay (HN3.out.trans hn5)
         have m0 := cell_of_row _ _ 0 _ _ _ g3
         have m1 := cell_of_row _ _ 1 _ _ _ g3
         have m2 := cell_of_row _ _ 2 _ _ _ g3
         have m3 := cell_of_row _ _ 3 _ _ _ g3
         have mf : ∀ i, w4.frozen? ⟨w.heap.size + 1, i, none⟩ = false := fun i => frozen_of_row _ _ i _ _ g3
         have HN5 := Lib.hid hn5
         clear hn4 g3))
    clear hn5
    go_wp2
    refine bodyPost_ret (by simp [results, Try.results48, go_sem, m0, m1, m2, m3]; try rfl) rfl ?_
    exact ⟨rfl, (((((HN2.out.trans HN3.out).trans HN5.out).setCell (by simp; try omega) _).setCell (by simp; try omega) _).setCell (by simp; try omega) _).setCell (by simp; try omega) _⟩
/-- the published jumps' words of the smaller generators -/
def fx2 (plus long : Bool) : List (BitVec 64) := if plus then (if long then [3895567441539718553#64, 11272061779601802979#64] else [3159176899437800924#64, 689838746718161413#64]) else (if long then [15179817016004374139#64, 15987667697637423809#64] else [16109378705422636197#64, 1659688472399708668#64])
theorem lit_row4 (w : World) (x y z t : BitVec 64) : QRow (w.alloc (.cells #[.int .u64 (W64 x), .int .u64 (W64 y), .int .u64 (W64 z), .int .u64 (W64 t)] 34)) (some ⟨w.heap.size, 0, none⟩) 4 4 [x, y, z, t] where
  len_eq := rfl
  le := Nat.le_refl _
  most := by omega
  room := by omega
  none := (fun e => by cases e)
  cell := fun b off e i hi => by
    cases e
    have hb := heap_alloc_new w (.cells #[.int .u64 (W64 x), .int .u64 (W64 y), .int .u64 (W64 z), .int .u64 (W64 t)] 34)
    match i, hi with
    | 0, _ => exact cell_of_row _ _ 0 _ _ _ hb
    | 1, _ => exact cell_of_row _ _ 1 _ _ _ hb
    | 2, _ => exact cell_of_row _ _ 2 _ _ _ hb
    | 3, _ => exact cell_of_row _ _ 3 _ _ _ hb
  spot := fun x e h0 => by cases e; rfl
  old := fun x e h0 => by cases e; simp
theorem lit_row2 (w : World) (x y : BitVec 64) : QRow (w.alloc (.cells #[.int .u64 (W64 x), .int .u64 (W64 y)] 34)) (some ⟨w.heap.size, 0, none⟩) 2 2 [x, y] where
  len_eq := rfl
  le := Nat.le_refl _
  most := by omega
  room := by omega
  none := (fun e => by cases e)
  cell := fun b off e i hi => by
    cases e
    have hb := heap_alloc_new w (.cells #[.int .u64 (W64 x), .int .u64 (W64 y)] 34)
    match i, hi with
    | 0, _ => exact cell_of_row _ _ 0 _ _ _ hb
    | 1, _ => exact cell_of_row _ _ 1 _ _ _ hb
  spot := fun x e h0 => by cases e; rfl
  old := fun x e h0 => by cases e; simp
theorem fixed4_r (long : Bool) (w : World) :
    Calls Try.prog 49 #[.bool long] w fun e w' => ∃ a, e = .returned (.slice a 4 4) ∧ QRow w' a 4 4 (fx4 long) ∧ New w w' := by
  cases long
  · have h := lit_row4 w 1733541517147835066#64 15395012609548302636#64 12202545078643706282#64 4155657270789760540#64
    have HR := Lib.hid h
    clear h
    go_enter Try.func49, Try.ntmps49
    go_wp2
    go_ret
    exact ⟨_, rfl, HR.out, (New.refl w).alloc _⟩
  · have h := lit_row4 w 8566230491382795199#64 14195432079911694259#64 8606660816089834049#64 4111957640723818037#64
    have HR := Lib.hid h
    clear h
    go_enter Try.func49, Try.ntmps49
    go_wp2
    go_ret
    exact ⟨_, rfl, HR.out, (New.refl w).alloc _⟩
theorem fixed2_r (plus long : Bool) (w : World) :
    Calls Try.prog 52 #[.bool plus, .bool long] w fun e w' => ∃ a, e = .returned (.slice a 2 2) ∧ QRow w' a 2 2 (fx2 plus long) ∧ New w w' := by
  cases plus <;> cases long
  · have h := lit_row2 w 16109378705422636197#64 1659688472399708668#64
    have HR := Lib.hid h
    clear h
    go_enter Try.func52, Try.ntmps52
    go_wp2
    go_ret
    exact ⟨_, rfl, HR.out, (New.refl w).alloc _⟩
  · have h := lit_row2 w 15179817016004374139#64 15987667697637423809#64
    have HR := Lib.hid h
    clear h
    go_enter Try.func52, Try.ntmps52
    go_wp2
    go_ret
    exact ⟨_, rfl, HR.out, (New.refl w).alloc _⟩
  · have h := lit_row2 w 3159176899437800924#64 689838746718161413#64
    have HR := Lib.hid h
    clear h
    go_enter Try.func52, Try.ntmps52
    go_wp2
    go_ret
    exact ⟨_, rfl, HR.out, (New.refl w).alloc _⟩
  · have h := lit_row2 w 3895567441539718553#64 11272061779601802979#64
    have HR := Lib.hid h
    clear h
    go_enter Try.func52, Try.ntmps52
    go_wp2
    go_ret
    exact ⟨_, rfl, HR.out, (New.refl w).alloc _⟩
end Go.Proofs.Ytppmpledcaonkaa
namespace Go.Proofs.Ytppmpledcaonkaa
open Go Go.RowKit Go.Bv Go.G2
set_option linter.unusedVariables false
theorem S2.cells {w : World} {b : Nat} {q : V2} (h : S2 w b q) : w.cell? ⟨b, 0, none⟩ = some (.int .u64 (W64 q.a)) ∧ w.cell? ⟨b, 1, none⟩ = some (.int .u64 (W64 q.b)) :=
  ⟨cell_of_row _ _ 0 _ _ _ h, cell_of_row _ _ 1 _ _ _ h⟩
set_option maxRecDepth 100000 in
set_option maxHeartbeats 2000000 in
theorem fixed2_5f (L : Lin V2) (hB : ∀ (a : Option Addr) (n c : Nat) (l : List (BitVec 64)) (q : V2) (w : World) (h : QRow w a n c l) (hn : n ≤ 10000), Calls Try.prog 42 #[.int .i64 5, .slice a n c, .agg #[.int .u64 (W64 q.a), .int .u64 (W64 q.b)]] w fun e w' => e = .returned (.agg #[.int .u64 (W64 (L.act (vW l) q).a), .int .u64 (W64 (L.act (vW l) q).b)]) ∧ New w w') (q : V2) (w : World) :
    Calls Try.prog 51 #[.int .i64 5, .bool false, .agg #[.int .u64 (W64 q.a), .int .u64 (W64 q.b)]] w fun e w' => e = .returned (.agg #[.int .u64 (W64 (L.act (vW (fx2 false false)) q).a), .int .u64 (W64 (L.act (vW (fx2 false false)) q).b)]) ∧ New w w' := by
  obtain ⟨W2, hW2, c1, c2, hsz, hn2⟩ : ∃ W2, (w.alloc (.cells #[.int .u64 (W64 q.a), .int .u64 (W64 q.b)] 53)).alloc (.cells #[.int .u64 0, .int .u64 0] 53) = W2 ∧ S2 W2 w.heap.size q ∧ S2 W2 (w.heap.size + 1) ⟨0#64, 0#64⟩ ∧ W2.heap.size = w.heap.size + 1 + 1 ∧ New w W2 := by
    refine ⟨_, rfl, (s2_new w q).stay ((New.refl _).alloc _), ?_, by simp, ((New.refl w).alloc _).alloc _⟩
    have h := s2_z (w.alloc (.cells #[.int .u64 (W64 q.a), .int .u64 (W64 q.b)] 53)) _ rfl
    simpa using h
  have HC1 := Lib.hid c1
  have HC2 := Lib.hid c2
  have HW2 := Lib.hid hW2
  have HN2 := Lib.hid hn2
  obtain ⟨W3, hW3⟩ : ∃ z, (W2.alloc (.cells #[.int .u64 16109378705422636197, .int .u64 1659688472399708668] 53)).alloc (.cells #[.int .u64 15179817016004374139, .int .u64 15987667697637423809] 53) = z := ⟨_, rfl⟩
  have hn3 : New W2 W3 := hW3 ▸ ((New.refl _).alloc _).alloc _
  have c3 : S2 W3 (w.heap.size + 1 + 1) ⟨16109378705422636197#64, 1659688472399708668#64⟩ := by
    rw [← hW3, ← hsz]
    exact (((New.refl (W2.alloc (.cells #[.int .u64 16109378705422636197, .int .u64 1659688472399708668] 53))).alloc (.cells #[.int .u64 15179817016004374139, .int .u64 15987667697637423809] 53)).block _ (lt_of_block (heap_alloc_new W2 _))).trans (heap_alloc_new W2 _)
  have hby := fun w' (hn' : New W3 w') => hB (some ⟨w.heap.size + 1 + 1, 0, none⟩) 2 2 _ q w' (arr_row2 (c3.stay hn')) (by omega)
  rw [show ([(⟨16109378705422636197#64, 1659688472399708668#64⟩ : V2).a, (⟨16109378705422636197#64, 1659688472399708668#64⟩ : V2).b] : List (BitVec 64)) = fx2 false false from rfl] at hby
  obtain ⟨r, hr⟩ : ∃ r, L.act (vW (fx2 false false)) q = r := ⟨_, rfl⟩
  rw [hr] at hby ⊢
  have HBY := Lib.hid hby
  clear hr hby c3 hB
  have HW3 := Lib.hid hW3
  have HN3 := Lib.hid hn3
  have SK : Hid (∀ w', New W3 w' → (w'.cell? ⟨w.heap.size, 0, none⟩ = some (.int .u64 (W64 q.a)) ∧ w'.cell? ⟨w.heap.size, 1, none⟩ = some (.int .u64 (W64 q.b)))) := Lib.hid (fun w' hn' => (HC1.out.stay (HN3.out.trans hn')).cells)
  obtain ⟨k0, k1⟩ := SK.out W3 (New.refl _)
  clear hW2 c1 c2 hsz hn2 hW3 hn3
  go_enter Try.func51, Try.ntmps51
  go_wp2_with fail
  rw [HW2.out, HW3.out]
  clear HW2 HW3
  go_region_held3 (fun w' => w'.cell? ⟨w.heap.size, 0, none⟩ = some (.int .u64 (W64 q.a)) ∧ w'.cell? ⟨w.heap.size, 1, none⟩ = some (.int .u64 (W64 q.b)))
    (first | with_reducible assumption | (refine SK.out _ ?_; first | with_reducible exact (New.refl _).drew | with_reducible assumption | with_reducible exact New.drew (by assumption)) | go_keep)
    (first
    | (go_at_call 42
       refine (HBY.out _ (by first | with_reducible exact (New.refl _).drew | with_reducible exact New.refl _)).mono ?_
       rintro e w4 ⟨rfl, hn4⟩
       have hn5 : New W3 w4 := by first | with_reducible exact (New.refl W3).drew.trans hn4 | with_reducible exact hn4
       have g3 := HC2.out.stay (HN3.out.trans hn5)
       have m0 := cell_of_row _ _ 0 _ _ _ g3
       have m1 := cell_of_row _ _ 1 _ _ _ g3
       have mf : ∀ i, w4.frozen? ⟨w.heap.size + 1, i, none⟩ = false := fun i => frozen_of_row _ _ i _ _ g3
       have HN5 := Lib.hid hn5
       clear hn4 g3))
  clear hn5
  go_wp2
  refine bodyPost_ret (by simp [results, Try.results51, go_sem, m0, m1]; try rfl) rfl ?_
  exact ⟨rfl, (((HN2.out.trans HN3.out).trans HN5.out).setCell (by simp; try omega) _).setCell (by simp; try omega) _⟩
set_option maxRecDepth 100000 in
set_option maxHeartbeats 2000000 in
theorem fixed2_5t (L : Lin V2) (hB : ∀ (a : Option Addr) (n c : Nat) (l : List (BitVec 64)) (q : V2) (w : World) (h : QRow w a n c l) (hn : n ≤ 10000), Calls Try.prog 42 #[.int .i64 5, .slice a n c, .agg #[.int .u64 (W64 q.a), .int .u64 (W64 q.b)]] w fun e w' => e = .returned (.agg #[.int .u64 (W64 (L.act (vW l) q).a), .int .u64 (W64 (L.act (vW l) q).b)]) ∧ New w w') (q : V2) (w : World) :
    Calls Try.prog 51 #[.int .i64 5, .bool true, .agg #[.int .u64 (W64 q.a), .int .u64 (W64 q.b)]] w fun e w' => e = .returned (.agg #[.int .u64 (W64 (L.act (vW (fx2 false true)) q).a), .int .u64 (W64 (L.act (vW (fx2 false true)) q).b)]) ∧ New w w' := by
  obtain ⟨W2, hW2, c1, c2, hsz, hn2⟩ : ∃ W2, (w.alloc (.cells #[.int .u64 (W64 q.a), .int .u64 (W64 q.b)] 53)).alloc (.cells #[.int .u64 0, .int .u64 0] 53) = W2 ∧ S2 W2 w.heap.size q ∧ S2 W2 (w.heap.size + 1) ⟨0#64, 0#64⟩ ∧ W2.heap.size = w.heap.size + 1 + 1 ∧ New w W2 := by
    refine ⟨_, rfl, (s2_new w q).stay ((New.refl _).alloc _), ?_, by simp, ((New.refl w).alloc _).alloc _⟩
    have h := s2_z (w.alloc (.cells #[.int .u64 (W64 q.a), .int .u64 (W64 q.b)] 53)) _ rfl
    simpa using h
  have HC1 := Lib.hid c1
  have HC2 := Lib.hid c2
  have HW2 := Lib.hid hW2
  have HN2 := Lib.hid hn2
  obtain ⟨W3, hW3⟩ : ∃ z, (W2.alloc (.cells #[.int .u64 16109378705422636197, .int .u64 1659688472399708668] 53)).alloc (.cells #[.int .u64 15179817016004374139, .int .u64 15987667697637423809] 53) = z := ⟨_, rfl⟩
  have hn3 : New W2 W3 := hW3 ▸ ((New.refl _).alloc _).alloc _
  have c3 : S2 W3 (w.heap.size + 1 + 1 + 1) ⟨15179817016004374139#64, 15987667697637423809#64⟩ := by
    rw [← hW3, ← hsz]
    have h := heap_alloc_new (W2.alloc (.cells #[.int .u64 16109378705422636197, .int .u64 1659688472399708668] 53)) (.cells #[.int .u64 15179817016004374139, .int .u64 15987667697637423809] 53)
    rw [show (W2.alloc (.cells #[.int .u64 16109378705422636197, .int .u64 1659688472399708668] 53)).heap.size = W2.heap.size + 1 by simp] at h
    exact h
  have hby := fun w' (hn' : New W3 w') => hB (some ⟨w.heap.size + 1 + 1 + 1, 0, none⟩) 2 2 _ q w' (arr_row2 (c3.stay hn')) (by omega)
  rw [show ([(⟨15179817016004374139#64, 15987667697637423809#64⟩ : V2).a, (⟨15179817016004374139#64, 15987667697637423809#64⟩ : V2).b] : List (BitVec 64)) = fx2 false true from rfl] at hby
  obtain ⟨r, hr⟩ : ∃ r, L.act (vW (fx2 false true)) q = r := ⟨_, rfl⟩
  rw [hr] at hby ⊢
  have HBY := Lib.hid hby
  clear hr hby c3 hB
  have HW3 := Lib.hid hW3
  have HN3 := Lib.hid hn3
  have SK : Hid (∀ w', New W3 w' → (w'.cell? ⟨w.heap.size, 0, none⟩ = some (.int .u64 (W64 q.a)) ∧ w'.cell? ⟨w.heap.size, 1, none⟩ = some (.int .u64 (W64 q.b)))) := Lib.hid (fun w' hn' => (HC1.out.stay (HN3.out.trans hn')).cells)
  obtain ⟨k0, k1⟩ := SK.out W3 (New.refl _)
  clear hW2 c1 c2 hsz hn2 hW3 hn3
  go_enter Try.func51, Try.ntmps51
  go_wp2_with fail
  rw [HW2.out, HW3.out]
  clear HW2 HW3
  go_region_held3 (fun w' => w'.cell? ⟨w.heap.size, 0, none⟩ = some (.int .u64 (W64 q.a)) ∧ w'.cell? ⟨w.heap.size, 1, none⟩ = some (.int .u64 (W64 q.b)))
    (first | with_reducible assumption | (refine SK.out _ ?_; first | with_reducible exact (New.refl _).drew | with_reducible assumption | with_reducible exact New.drew (by assumption)) | go_keep)
    (first
    | (go_at_call 42
       refine (HBY.out _ (by first | with_reducible exact (New.refl _).drew | with_reducible exact New.refl _)).mono ?_
       rintro e w4 ⟨rfl, hn4⟩
       have hn5 : New W3 w4 := by first | with_reducible exact (New.refl W3).drew.trans hn4 | with_reducible exact hn4
       have g3 := HC2.out.stay (HN3.out.trans hn5)
       have m0 := cell_of_row _ _ 0 _ _ _ g3
       have m1 := cell_of_row _ _ 1 _ _ _ g3
       have mf : ∀ i, w4.frozen? ⟨w.heap.size + 1, i, none⟩ = false := fun i => frozen_of_row _ _ i _ _ g3
       have HN5 := Lib.hid hn5
       clear hn4 g3))
  clear hn5
  go_wp2
  refine bodyPost_ret (by simp [results, Try.results51, go_sem, m0, m1]; try rfl) rfl ?_
  exact ⟨rfl, (((HN2.out.trans HN3.out).trans HN5.out).setCell (by simp; try omega) _).setCell (by simp; try omega) _⟩
set_option maxRecDepth 100000 in
set_option maxHeartbeats 2000000 in
theorem fixed2_6f (L : Lin V2) (hB : ∀ (a : Option Addr) (n c : Nat) (l : List (BitVec 64)) (q : V2) (w : World) (h : QRow w a n c l) (hn : n ≤ 10000), Calls Try.prog 42 #[.int .i64 6, .slice a n c, .agg #[.int .u64 (W64 q.a), .int .u64 (W64 q.b)]] w fun e w' => e = .returned (.agg #[.int .u64 (W64 (L.act (vW l) q).a), .int .u64 (W64 (L.act (vW l) q).b)]) ∧ New w w') (q : V2) (w : World) :
    Calls Try.prog 51 #[.int .i64 6, .bool false, .agg #[.int .u64 (W64 q.a), .int .u64 (W64 q.b)]] w fun e w' => e = .returned (.agg #[.int .u64 (W64 (L.act (vW (fx2 true false)) q).a), .int .u64 (W64 (L.act (vW (fx2 true false)) q).b)]) ∧ New w w' := by
  obtain ⟨W2, hW2, c1, c2, hsz, hn2⟩ : ∃ W2, (w.alloc (.cells #[.int .u64 (W64 q.a), .int .u64 (W64 q.b)] 53)).alloc (.cells #[.int .u64 0, .int .u64 0] 53) = W2 ∧ S2 W2 w.heap.size q ∧ S2 W2 (w.heap.size + 1) ⟨0#64, 0#64⟩ ∧ W2.heap.size = w.heap.size + 1 + 1 ∧ New w W2 := by
    refine ⟨_, rfl, (s2_new w q).stay ((New.refl _).alloc _), ?_, by simp, ((New.refl w).alloc _).alloc _⟩
    have h := s2_z (w.alloc (.cells #[.int .u64 (W64 q.a), .int .u64 (W64 q.b)] 53)) _ rfl
    simpa using h
  have HC1 := Lib.hid c1
  have HC2 := Lib.hid c2
  have HW2 := Lib.hid hW2
  have HN2 := Lib.hid hn2
  obtain ⟨W3, hW3⟩ : ∃ z, (W2.alloc (.cells #[.int .u64 3159176899437800924, .int .u64 689838746718161413] 53)).alloc (.cells #[.int .u64 3895567441539718553, .int .u64 11272061779601802979] 53) = z := ⟨_, rfl⟩
  have hn3 : New W2 W3 := hW3 ▸ ((New.refl _).alloc _).alloc _
  have c3 : S2 W3 (w.heap.size + 1 + 1) ⟨3159176899437800924#64, 689838746718161413#64⟩ := by
    rw [← hW3, ← hsz]
    exact (((New.refl (W2.alloc (.cells #[.int .u64 3159176899437800924, .int .u64 689838746718161413] 53))).alloc (.cells #[.int .u64 3895567441539718553, .int .u64 11272061779601802979] 53)).block _ (lt_of_block (heap_alloc_new W2 _))).trans (heap_alloc_new W2 _)
  have hby := fun w' (hn' : New W3 w') => hB (some ⟨w.heap.size + 1 + 1, 0, none⟩) 2 2 _ q w' (arr_row2 (c3.stay hn')) (by omega)
  rw [show ([(⟨3159176899437800924#64, 689838746718161413#64⟩ : V2).a, (⟨3159176899437800924#64, 689838746718161413#64⟩ : V2).b] : List (BitVec 64)) = fx2 true false from rfl] at hby
  obtain ⟨r, hr⟩ : ∃ r, L.act (vW (fx2 true false)) q = r := ⟨_, rfl⟩
  rw [hr] at hby ⊢
  have HBY := Lib.hid hby
  clear hr hby c3 hB
  have HW3 := Lib.hid hW3
  have HN3 := Lib.hid hn3
  have SK : Hid (∀ w', New W3 w' → (w'.cell? ⟨w.heap.size, 0, none⟩ = some (.int .u64 (W64 q.a)) ∧ w'.cell? ⟨w.heap.size, 1, none⟩ = some (.int .u64 (W64 q.b)))) := Lib.hid (fun w' hn' => (HC1.out.stay (HN3.out.trans hn')).cells)
  obtain ⟨k0, k1⟩ := SK.out W3 (New.refl _)
  clear hW2 c1 c2 hsz hn2 hW3 hn3
  go_enter Try.func51, Try.ntmps51
  go_wp2_with fail
  rw [HW2.out, HW3.out]
  clear HW2 HW3
  go_region_held3 (fun w' => w'.cell? ⟨w.heap.size, 0, none⟩ = some (.int .u64 (W64 q.a)) ∧ w'.cell? ⟨w.heap.size, 1, none⟩ = some (.int .u64 (W64 q.b)))
    (first | with_reducible assumption | (refine SK.out _ ?_; first | with_reducible exact (New.refl _).drew | with_reducible assumption | with_reducible exact New.drew (by assumption)) | go_keep)
    (first
    | (go_at_call 42
       refine (HBY.out _ (by first | with_reducible exact (New.refl _).drew | with_reducible exact New.refl _)).mono ?_
       rintro e w4 ⟨rfl, hn4⟩
       have hn5 : New W3 w4 := by first | with_reducible exact (New.refl W3).drew.trans hn4 | with_reducible exact hn4
       have g3 := HC2.out.stay (HN3.out.trans hn5)
       have m0 := cell_of_row _ _ 0 _ _ _ g3
       have m1 := cell_of_row _ _ 1 _ _ _ g3
       have mf : ∀ i, w4.frozen? ⟨w.heap.size + 1, i, none⟩ = false := fun i => frozen_of_row _ _ i _ _ g3
       have HN5 := Lib.hid hn5
       clear hn4 g3))
  clear hn5
  go_wp2
  refine bodyPost_ret (by simp [results, Try.results51, go_sem, m0, m1]; try rfl) rfl ?_
  exact ⟨rfl, (((HN2.out.trans HN3.out).trans HN5.out).setCell (by simp; try omega) _).setCell (by simp; try omega) _⟩
set_option maxRecDepth 100000 in
set_option maxHeartbeats 2000000 in
theorem fixed2_6t (L : Lin V2) (hB : ∀ (a : Option Addr) (n c : Nat) (l : List (BitVec 64)) (q : V2) (w : World) (h : QRow w a n c l) (hn : n ≤ 10000), Calls Try.prog 42 #[.int .i64 6, .slice a n c, .agg #[.int .u64 (W64 q.a), .int .u64 (W64 q.b)]] w fun e w' => e = .returned (.agg #[.int .u64 (W64 (L.act (vW l) q).a), .int .u64 (W64 (L.act (vW l) q).b)]) ∧ New w w') (q : V2) (w : World) :
    Calls Try.prog 51 #[.int .i64 6, .bool true, .agg #[.int .u64 (W64 q.a), .int .u64 (W64 q.b)]] w fun e w' => e = .returned (.agg #[.int .u64 (W64 (L.act (vW (fx2 true true)) q).a), .int .u64 (W64 (L.act (vW (fx2 true true)) q).b)]) ∧ New w w' := by
  obtain ⟨W2, hW2, c1, c2, hsz, hn2⟩ : ∃ W2, (w.alloc (.cells #[.int .u64 (W64 q.a), .int .u64 (W64 q.b)] 53)).alloc (.cells #[.int .u64 0, .int .u64 0] 53) = W2 ∧ S2 W2 w.heap.size q ∧ S2 W2 (w.heap.size + 1) ⟨0#64, 0#64⟩ ∧ W2.heap.size = w.heap.size + 1 + 1 ∧ New w W2 := by
    refine ⟨_, rfl, (s2_new w q).stay ((New.refl _).alloc _), ?_, by simp, ((New.refl w).alloc _).alloc _⟩
    have h := s2_z (w.alloc (.cells #[.int .u64 (W64 q.a), .int .u64 (W64 q.b)] 53)) _ rfl
    simpa using h
  have HC1 := Lib.hid c1
  have HC2 := Lib.hid c2
  have HW2 := Lib.hid hW2
  have HN2 := Lib.hid hn2
  obtain ⟨W3, hW3⟩ : ∃ z, (W2.alloc (.cells #[.int .u64 3159176899437800924, .int .u64 689838746718161413] 53)).alloc (.cells #[.int .u64 3895567441539718553, .int .u64 11272061779601802979] 53) = z := ⟨_, rfl⟩
  have hn3 : New W2 W3 := hW3 ▸ ((New.refl _).alloc _).alloc _
  have c3 : S2 W3 (w.heap.size + 1 + 1 + 1) ⟨3895567441539718553#64, 11272061779601802979#64⟩ := by
    rw [← hW3, ← hsz]
    have h := heap_alloc_new (W2.alloc (.cells #[.int .u64 3159176899437800924, .int .u64 689838746718161413] 53)) (.cells #[.int .u64 3895567441539718553, .int .u64 11272061779601802979] 53)
    rw [show (W2.alloc (.cells #[.int .u64 3159176899437800924, .int .u64 689838746718161413] 53)).heap.size = W2.heap.size + 1 by simp] at h
    exact h
  have hby := fun w' (hn' : New W3 w') => hB (some ⟨w.heap.size + 1 + 1 + 1, 0, none⟩) 2 2 _ q w' (arr_row2 (c3.stay hn')) (by omega)
  rw [show ([(⟨3895567441539718553#64, 11272061779601802979#64⟩ : V2).a, (⟨3895567441539718553#64, 11272061779601802979#64⟩ : V2).b] : List (BitVec 64)) = fx2 true true from rfl] at hby
  obtain ⟨r, hr⟩ : ∃ r, L.act (vW (fx2 true true)) q = r := ⟨_, rfl⟩
  rw [hr] at hby ⊢
  have HBY := Lib.hid hby
  clear hr hby c3 hB
  have HW3 := Lib.hid hW3
  have HN3 := Lib.hid hn3
  have SK : Hid (∀ w', New W3 w' → (w'.cell? ⟨w.heap.size, 0, none⟩ = some (.int .u64 (W64 q.a)) ∧ w'.cell? ⟨w.heap.size, 1, none⟩ = some (.int .u64 (W64 q.b)))) := Lib.hid (fun w' hn' => (HC1.out.stay (HN3.out.trans hn')).cells)
  obtain ⟨k0, k1⟩ := SK.out W3 (New.refl _)
  clear hW2 c1 c2 hsz hn2 hW3 hn3
  go_enter Try.func51, Try.ntmps51
  go_wp2_with fail
  rw [HW2.out, HW3.out]
  clear HW2 HW3
  go_region_held3 (fun w' => w'.cell? ⟨w.heap.size, 0, none⟩ = some (.int .u64 (W64 q.a)) ∧ w'.cell? ⟨w.heap.size, 1, none⟩ = some (.int .u64 (W64 q.b)))
    (first | with_reducible assumption | (refine SK.out _ ?_; first | with_reducible exact (New.refl _).drew | with_reducible assumption | with_reducible exact New.drew (by assumption)) | go_keep)
    (first
    | (go_at_call 42
       refine (HBY.out _ (by first | with_reducible exact (New.refl _).drew | with_reducible exact New.refl _)).mono ?_
       rintro e w4 ⟨rfl, hn4⟩
       have hn5 : New W3 w4 := by first | with_reducible exact (New.refl W3).drew.trans hn4 | with_reducible exact hn4
       have g3 := HC2.out.stay (HN3.out.trans hn5)
       have m0 := cell_of_row _ _ 0 _ _ _ g3
       have m1 := cell_of_row _ _ 1 _ _ _ g3
       have mf : ∀ i, w4.frozen? ⟨w.heap.size + 1, i, none⟩ = false := fun i => frozen_of_row _ _ i _ _ g3
       have HN5 := Lib.hid hn5
       clear hn4 g3))
  clear hn5
  go_wp2
  refine bodyPost_ret (by simp [results, Try.results51, go_sem, m0, m1]; try rfl) rfl ?_
  exact ⟨rfl, (((HN2.out.trans HN3.out).trans HN5.out).setCell (by simp; try omega) _).setCell (by simp; try omega) _⟩
set_option maxRecDepth 100000 in
set_option maxHeartbeats 2000000 in
theorem fixed2_of (k : Int) (h5 : (k == 5) = false) (h6 : (k == 6) = false) (q : V2) (w : World) :
    Calls Try.prog 51 #[.int .i64 k, .bool false, .agg #[.int .u64 (W64 q.a), .int .u64 (W64 q.b)]] w fun e w' => e = .returned (.agg #[.int .u64 (W64 q.a), .int .u64 (W64 q.b)]) ∧ New w w' := by
  obtain ⟨W2, hW2, c1, c2, hsz, hn2⟩ : ∃ W2, (w.alloc (.cells #[.int .u64 (W64 q.a), .int .u64 (W64 q.b)] 53)).alloc (.cells #[.int .u64 0, .int .u64 0] 53) = W2 ∧ S2 W2 w.heap.size q ∧ S2 W2 (w.heap.size + 1) ⟨0#64, 0#64⟩ ∧ W2.heap.size = w.heap.size + 1 + 1 ∧ New w W2 := by
    refine ⟨_, rfl, (s2_new w q).stay ((New.refl _).alloc _), ?_, by simp, ((New.refl w).alloc _).alloc _⟩
    have h := s2_z (w.alloc (.cells #[.int .u64 (W64 q.a), .int .u64 (W64 q.b)] 53)) _ rfl
    simpa using h
  have HC1 := Lib.hid c1
  have HC2 := Lib.hid c2
  have HW2 := Lib.hid hW2
  have HN2 := Lib.hid hn2
  obtain ⟨W3, hW3⟩ : ∃ z, (W2.alloc (.cells #[.int .u64 0, .int .u64 0] 53)).alloc (.cells #[.int .u64 0, .int .u64 0] 53) = z := ⟨_, rfl⟩
  have hn3 : New W2 W3 := hW3 ▸ ((New.refl _).alloc _).alloc _
  have HBY := Lib.hid (fun w' (hn' : New W3 w') => by2_o k h5 h6 (some ⟨w.heap.size + 1 + 1, 0, none⟩) 2 2 q w')
  have HW3 := Lib.hid hW3
  have HN3 := Lib.hid hn3
  have SK : Hid (∀ w', New W3 w' → (w'.cell? ⟨w.heap.size, 0, none⟩ = some (.int .u64 (W64 q.a)) ∧ w'.cell? ⟨w.heap.size, 1, none⟩ = some (.int .u64 (W64 q.b)))) := Lib.hid (fun w' hn' => (HC1.out.stay (HN3.out.trans hn')).cells)
  obtain ⟨k0, k1⟩ := SK.out W3 (New.refl _)
  clear hW2 c1 c2 hsz hn2 hW3 hn3
  go_enter Try.func51, Try.ntmps51
  go_wp2_with fail
  rw [HW2.out, HW3.out]
  clear HW2 HW3
  go_region_held3 (fun w' => w'.cell? ⟨w.heap.size, 0, none⟩ = some (.int .u64 (W64 q.a)) ∧ w'.cell? ⟨w.heap.size, 1, none⟩ = some (.int .u64 (W64 q.b)))
    (first | with_reducible assumption | (refine SK.out _ ?_; first | with_reducible exact (New.refl _).drew | with_reducible assumption | with_reducible exact New.drew (by assumption)) | go_keep)
    (first
    | (go_at_call 42
       refine (HBY.out _ (by first | with_reducible exact (New.refl _).drew | with_reducible exact New.refl _)).mono ?_
       rintro e w4 ⟨rfl, hn4⟩
       have hn5 : New W3 w4 := by first | with_reducible exact (New.refl W3).drew.trans hn4 | with_reducible exact hn4
       have g3 := HC2.out.stay (HN3.out.trans hn5)
       have m0 := cell_of_row _ _ 0 _ _ _ g3
       have m1 := cell_of_row _ _ 1 _ _ _ g3
       have mf : ∀ i, w4.frozen? ⟨w.heap.size + 1, i, none⟩ = false := fun i => frozen_of_row _ _ i _ _ g3
       have HN5 := Lib.hid hn5
       clear hn4 g3))
  clear hn5
  go_wp2
  refine bodyPost_ret (by simp [results, Try.results51, go_sem, m0, m1]; try rfl) rfl ?_
  exact ⟨rfl, (((HN2.out.trans HN3.out).trans HN5.out).setCell (by simp; try omega) _).setCell (by simp; try omega) _⟩
set_option maxRecDepth 100000 in
set_option maxHeartbeats 2000000 in
theorem fixed2_ot (k : Int) (h5 : (k == 5) = false) (h6 : (k == 6) = false) (q : V2) (w : World) :
    Calls Try.prog 51 #[.int .i64 k, .bool true, .agg #[.int .u64 (W64 q.a), .int .u64 (W64 q.b)]] w fun e w' => e = .returned (.agg #[.int .u64 (W64 q.a), .int .u64 (W64 q.b)]) ∧ New w w' := by
  obtain ⟨W2, hW2, c1, c2, hsz, hn2⟩ : ∃ W2, (w.alloc (.cells #[.int .u64 (W64 q.a), .int .u64 (W64 q.b)] 53)).alloc (.cells #[.int .u64 0, .int .u64 0] 53) = W2 ∧ S2 W2 w.heap.size q ∧ S2 W2 (w.heap.size + 1) ⟨0#64, 0#64⟩ ∧ W2.heap.size = w.heap.size + 1 + 1 ∧ New w W2 := by
    refine ⟨_, rfl, (s2_new w q).stay ((New.refl _).alloc _), ?_, by simp, ((New.refl w).alloc _).alloc _⟩
    have h := s2_z (w.alloc (.cells #[.int .u64 (W64 q.a), .int .u64 (W64 q.b)] 53)) _ rfl
    simpa using h
  have HC1 := Lib.hid c1
  have HC2 := Lib.hid c2
  have HW2 := Lib.hid hW2
  have HN2 := Lib.hid hn2
  obtain ⟨W3, hW3⟩ : ∃ z, (W2.alloc (.cells #[.int .u64 0, .int .u64 0] 53)).alloc (.cells #[.int .u64 0, .int .u64 0] 53) = z := ⟨_, rfl⟩
  have hn3 : New W2 W3 := hW3 ▸ ((New.refl _).alloc _).alloc _
  have HBY := Lib.hid (fun w' (hn' : New W3 w') => by2_o k h5 h6 (some ⟨w.heap.size + 1 + 1 + 1, 0, none⟩) 2 2 q w')
  have HW3 := Lib.hid hW3
  have HN3 := Lib.hid hn3
  have SK : Hid (∀ w', New W3 w' → (w'.cell? ⟨w.heap.size, 0, none⟩ = some (.int .u64 (W64 q.a)) ∧ w'.cell? ⟨w.heap.size, 1, none⟩ = some (.int .u64 (W64 q.b)))) := Lib.hid (fun w' hn' => (HC1.out.stay (HN3.out.trans hn')).cells)
  obtain ⟨k0, k1⟩ := SK.out W3 (New.refl _)
  clear hW2 c1 c2 hsz hn2 hW3 hn3
  go_enter Try.func51, Try.ntmps51
  go_wp2_with fail
  rw [HW2.out, HW3.out]
  clear HW2 HW3
  go_region_held3 (fun w' => w'.cell? ⟨w.heap.size, 0, none⟩ = some (.int .u64 (W64 q.a)) ∧ w'.cell? ⟨w.heap.size, 1, none⟩ = some (.int .u64 (W64 q.b)))
    (first | with_reducible assumption | (refine SK.out _ ?_; first | with_reducible exact (New.refl _).drew | with_reducible assumption | with_reducible exact New.drew (by assumption)) | go_keep)
    (first
    | (go_at_call 42
       refine (HBY.out _ (by first | with_reducible exact (New.refl _).drew | with_reducible exact New.refl _)).mono ?_
       rintro e w4 ⟨rfl, hn4⟩
       have hn5 : New W3 w4 := by first | with_reducible exact (New.refl W3).drew.trans hn4 | with_reducible exact hn4
       have g3 := HC2.out.stay (HN3.out.trans hn5)
       have m0 := cell_of_row _ _ 0 _ _ _ g3
       have m1 := cell_of_row _ _ 1 _ _ _ g3
       have mf : ∀ i, w4.frozen? ⟨w.heap.size + 1, i, none⟩ = false := fun i => frozen_of_row _ _ i _ _ g3
       have HN5 := Lib.hid hn5
       clear hn4 g3))
  clear hn5
  go_wp2
  refine bodyPost_ret (by simp [results, Try.results51, go_sem, m0, m1]; try rfl) rfl ?_
  exact ⟨rfl, (((HN2.out.trans HN3.out).trans HN5.out).setCell (by simp; try omega) _).setCell (by simp; try omega) _⟩
end Go.Proofs.Ytppmpledcaonkaa
namespace Go.Proofs.Ytppmpledcaonkaa
open Go Go.RowKit Go.Bv Go.G2
set_option linter.unusedVariables false
theorem info9 : (Try.prog.info? 34).isSome = true := by kernel_rfl
theorem plain9 : Try.prog.plainKey 34 = true := by kernel_rfl
theorem cells9 : Try.prog.cellsOf 34 = 1 := by kernel_rfl
theorem eqV4 (w : World) (x0 x1 x2 x3 y0 y1 y2 y3 : BitVec 64) :
    (Op.equalIn 10000 44 (.agg #[.int .u64 (W64 x0), .int .u64 (W64 x1), .int .u64 (W64 x2), .int .u64 (W64 x3)]) (.agg #[.int .u64 (W64 y0), .int .u64 (W64 y1), .int .u64 (W64 y2), .int .u64 (W64 y3)])).run Try.prog w =
      .ok (x0 == y0 && (x1 == y1 && (x2 == y2 && x3 == y3))) w := by
  obtain ⟨i, hi⟩ := Option.isSome_iff_exists.1 info9
  rw [run_equalIn_array w 9999 _ _ Try.underlying44 hi, cells9, show List.range 4 = [0, 1, 2, 3] from rfl]
  have hu := Try.underlying34
  have e0 := run_part_plain (w := w) (v := .int .u64 (W64 x0)) plain9 (xs := #[.int .u64 (W64 x0), .int .u64 (W64 x1), .int .u64 (W64 x2), .int .u64 (W64 x3)]) (off := 0) rfl
  have e1 := run_part_plain (w := w) (v := .int .u64 (W64 x1)) plain9 (xs := #[.int .u64 (W64 x0), .int .u64 (W64 x1), .int .u64 (W64 x2), .int .u64 (W64 x3)]) (off := 1) rfl
  have e2 := run_part_plain (w := w) (v := .int .u64 (W64 x2)) plain9 (xs := #[.int .u64 (W64 x0), .int .u64 (W64 x1), .int .u64 (W64 x2), .int .u64 (W64 x3)]) (off := 2) rfl
  have e3 := run_part_plain (w := w) (v := .int .u64 (W64 x3)) plain9 (xs := #[.int .u64 (W64 x0), .int .u64 (W64 x1), .int .u64 (W64 x2), .int .u64 (W64 x3)]) (off := 3) rfl
  have f0 := run_part_plain (w := w) (v := .int .u64 (W64 y0)) plain9 (xs := #[.int .u64 (W64 y0), .int .u64 (W64 y1), .int .u64 (W64 y2), .int .u64 (W64 y3)]) (off := 0) rfl
  have f1 := run_part_plain (w := w) (v := .int .u64 (W64 y1)) plain9 (xs := #[.int .u64 (W64 y0), .int .u64 (W64 y1), .int .u64 (W64 y2), .int .u64 (W64 y3)]) (off := 1) rfl
  have f2 := run_part_plain (w := w) (v := .int .u64 (W64 y2)) plain9 (xs := #[.int .u64 (W64 y0), .int .u64 (W64 y1), .int .u64 (W64 y2), .int .u64 (W64 y3)]) (off := 2) rfl
  have f3 := run_part_plain (w := w) (v := .int .u64 (W64 y3)) plain9 (xs := #[.int .u64 (W64 y0), .int .u64 (W64 y1), .int .u64 (W64 y2), .int .u64 (W64 y3)]) (off := 3) rfl
  have g0 := run_equalIn_int (w := w) 9998 _ .u64 .u64 (W64 x0) (W64 y0) hu
  have g1 := run_equalIn_int (w := w) 9998 _ .u64 .u64 (W64 x1) (W64 y1) hu
  have g2 := run_equalIn_int (w := w) 9998 _ .u64 .u64 (W64 x2) (W64 y2) hu
  have g3 := run_equalIn_int (w := w) 9998 _ .u64 .u64 (W64 x3) (W64 y3) hu
  rw [eq_u64] at g0 g1 g2 g3
  simp only [Op.eqItems, Sem.run_bind, Nat.mul_one, e0, f0, g0, Result.andThen_ok]
  rcases h0 : x0 == y0 <;> rcases h1 : x1 == y1 <;> rcases h2 : x2 == y2 <;> rcases h3 : x3 == y3 <;> rw [h1] at g1 <;> rw [h2] at g2 <;> rw [h3] at g3 <;> simp [Sem.run_bind, e1, e2, e3, f1, f2, f3, g1, g2, g3]
theorem cells2 : Try.prog.cellsOf 34 = 1 := cells9
theorem eqV2 (w : World) (x0 x1 y0 y1 : BitVec 64) :
    (Op.equalIn 10000 53 (.agg #[.int .u64 (W64 x0), .int .u64 (W64 x1)]) (.agg #[.int .u64 (W64 y0), .int .u64 (W64 y1)])).run Try.prog w = .ok (x0 == y0 && x1 == y1) w := by
  obtain ⟨i, hi⟩ := Option.isSome_iff_exists.1 info9
  rw [run_equalIn_array w 9999 _ _ Try.underlying53 hi, cells2, show List.range 2 = [0, 1] from rfl]
  have hu := Try.underlying34
  have e0 := run_part_plain (w := w) (v := .int .u64 (W64 x0)) plain9 (xs := #[.int .u64 (W64 x0), .int .u64 (W64 x1)]) (off := 0) rfl
  have e1 := run_part_plain (w := w) (v := .int .u64 (W64 x1)) plain9 (xs := #[.int .u64 (W64 x0), .int .u64 (W64 x1)]) (off := 1) rfl
  have f0 := run_part_plain (w := w) (v := .int .u64 (W64 y0)) plain9 (xs := #[.int .u64 (W64 y0), .int .u64 (W64 y1)]) (off := 0) rfl
  have f1 := run_part_plain (w := w) (v := .int .u64 (W64 y1)) plain9 (xs := #[.int .u64 (W64 y0), .int .u64 (W64 y1)]) (off := 1) rfl
  have g0 := run_equalIn_int (w := w) 9998 _ .u64 .u64 (W64 x0) (W64 y0) hu
  have g1 := run_equalIn_int (w := w) 9998 _ .u64 .u64 (W64 x1) (W64 y1) hu
  rw [eq_u64] at g0 g1
  simp only [Op.eqItems, Sem.run_bind, Nat.mul_one, e0, f0, g0, Result.andThen_ok]
  rcases h0 : x0 == y0 <;> rcases h1 : x1 == y1 <;> rw [h1] at g1 <;> simp [Sem.run_bind, e1, f1, g1]
theorem eqV256 (w : World) (x0 x1 x2 x3 y0 y1 y2 y3 : BitVec 64) :
    (Op.equalIn 10000 45 (.agg #[.int .u64 (W64 x0), .int .u64 (W64 x1), .int .u64 (W64 x2), .int .u64 (W64 x3)]) (.agg #[.int .u64 (W64 y0), .int .u64 (W64 y1), .int .u64 (W64 y2), .int .u64 (W64 y3)])).run Try.prog w =
      .ok (x0 == y0 && (x1 == y1 && (x2 == y2 && x3 == y3))) w := by
  obtain ⟨i, hi⟩ := Option.isSome_iff_exists.1 info9
  rw [run_equalIn_array w 9999 _ _ Try.underlying45 hi, cells9, show List.range 4 = [0, 1, 2, 3] from rfl]
  have hu := Try.underlying34
  have e0 := run_part_plain (w := w) (v := .int .u64 (W64 x0)) plain9 (xs := #[.int .u64 (W64 x0), .int .u64 (W64 x1), .int .u64 (W64 x2), .int .u64 (W64 x3)]) (off := 0) rfl
  have e1 := run_part_plain (w := w) (v := .int .u64 (W64 x1)) plain9 (xs := #[.int .u64 (W64 x0), .int .u64 (W64 x1), .int .u64 (W64 x2), .int .u64 (W64 x3)]) (off := 1) rfl
  have e2 := run_part_plain (w := w) (v := .int .u64 (W64 x2)) plain9 (xs := #[.int .u64 (W64 x0), .int .u64 (W64 x1), .int .u64 (W64 x2), .int .u64 (W64 x3)]) (off := 2) rfl
  have e3 := run_part_plain (w := w) (v := .int .u64 (W64 x3)) plain9 (xs := #[.int .u64 (W64 x0), .int .u64 (W64 x1), .int .u64 (W64 x2), .int .u64 (W64 x3)]) (off := 3) rfl
  have f0 := run_part_plain (w := w) (v := .int .u64 (W64 y0)) plain9 (xs := #[.int .u64 (W64 y0), .int .u64 (W64 y1), .int .u64 (W64 y2), .int .u64 (W64 y3)]) (off := 0) rfl
  have f1 := run_part_plain (w := w) (v := .int .u64 (W64 y1)) plain9 (xs := #[.int .u64 (W64 y0), .int .u64 (W64 y1), .int .u64 (W64 y2), .int .u64 (W64 y3)]) (off := 1) rfl
  have f2 := run_part_plain (w := w) (v := .int .u64 (W64 y2)) plain9 (xs := #[.int .u64 (W64 y0), .int .u64 (W64 y1), .int .u64 (W64 y2), .int .u64 (W64 y3)]) (off := 2) rfl
  have f3 := run_part_plain (w := w) (v := .int .u64 (W64 y3)) plain9 (xs := #[.int .u64 (W64 y0), .int .u64 (W64 y1), .int .u64 (W64 y2), .int .u64 (W64 y3)]) (off := 3) rfl
  have g0 := run_equalIn_int (w := w) 9998 _ .u64 .u64 (W64 x0) (W64 y0) hu
  have g1 := run_equalIn_int (w := w) 9998 _ .u64 .u64 (W64 x1) (W64 y1) hu
  have g2 := run_equalIn_int (w := w) 9998 _ .u64 .u64 (W64 x2) (W64 y2) hu
  have g3 := run_equalIn_int (w := w) 9998 _ .u64 .u64 (W64 x3) (W64 y3) hu
  rw [eq_u64] at g0 g1 g2 g3
  simp only [Op.eqItems, Sem.run_bind, Nat.mul_one, e0, f0, g0, Result.andThen_ok]
  rcases h0 : x0 == y0 <;> rcases h1 : x1 == y1 <;> rcases h2 : x2 == y2 <;> rcases h3 : x3 == y3 <;> rw [h1] at g1 <;> rw [h2] at g2 <;> rw [h3] at g3 <;> simp [Sem.run_bind, e1, e2, e3, f1, f2, f3, g1, g2, g3]
theorem eq4_same (w : World) (q : V4) : (Op.equalIn 10000 44 (.agg #[.int .u64 (W64 q.a), .int .u64 (W64 q.b), .int .u64 (W64 q.c), .int .u64 (W64 q.d)]) (.agg #[.int .u64 (W64 q.a), .int .u64 (W64 q.b), .int .u64 (W64 q.c), .int .u64 (W64 q.d)])).run Try.prog w = .ok true w := by
  rw [eqV4]; simp
theorem eq2_same (w : World) (q : V2) : (Op.equalIn 10000 53 (.agg #[.int .u64 (W64 q.a), .int .u64 (W64 q.b)]) (.agg #[.int .u64 (W64 q.a), .int .u64 (W64 q.b)])).run Try.prog w = .ok true w := by
  rw [eqV2]; simp
set_option maxRecDepth 100000 in
theorem power_64 (w : World) : Calls Try.prog 50 #[.int .i64 64] w fun e w' => e = .returned (.agg #[.int .u64 0, .int .u64 1, .int .u64 0, .int .u64 0]) ∧ New w w' := by
  have h := power_q 64 (by omega) w
  rw [show pwN 64 = 18446744073709551616 from by decide +kernel] at h
  exact h
set_option maxRecDepth 100000 in
set_option maxHeartbeats 2000000 in
theorem awake12 (w : World) : Calls Try.prog 37 #[] w fun e w' => e = .returned (.bool true) ∧ New w w' := by
  have hj1 : ∀ w, Calls Try.prog 45 #[.agg #[.int .u64 1, .int .u64 2, .int .u64 3, .int .u64 4], .agg #[.int .u64 1, .int .u64 0, .int .u64 0, .int .u64 0]] w fun e w' => e = .returned (.agg #[.int .u64 (W64 (stV4 ⟨1#64, 2#64, 3#64, 4#64⟩).a), .int .u64 (W64 (stV4 ⟨1#64, 2#64, 3#64, 4#64⟩).b), .int .u64 (W64 (stV4 ⟨1#64, 2#64, 3#64, 4#64⟩).c), .int .u64 (W64 (stV4 ⟨1#64, 2#64, 3#64, 4#64⟩).d)]) ∧ New w w' := fun w => by
    have h := jump4_q ⟨1#64, 2#64, 3#64, 4#64⟩ 1#64 0#64 0#64 0#64 w
    rw [show four 1#64 0#64 0#64 0#64 = 1 from rfl, show LV4.it 1 ⟨1#64, 2#64, 3#64, 4#64⟩ = stV4 ⟨1#64, 2#64, 3#64, 4#64⟩ from rfl] at h
    exact h
  have hj0 : ∀ w, Calls Try.prog 45 #[.agg #[.int .u64 1, .int .u64 2, .int .u64 3, .int .u64 4], .agg #[.int .u64 0, .int .u64 0, .int .u64 0, .int .u64 0]] w fun e w' => e = .returned (.agg #[.int .u64 1, .int .u64 2, .int .u64 3, .int .u64 4]) ∧ New w w' := fun w => by
    have h := jump4_q ⟨1#64, 2#64, 3#64, 4#64⟩ 0#64 0#64 0#64 0#64 w
    rw [show four 0#64 0#64 0#64 0#64 = 0 from rfl, show LV4.it 0 ⟨1#64, 2#64, 3#64, 4#64⟩ = ⟨1#64, 2#64, 3#64, 4#64⟩ from rfl] at h
    exact h
  have hs : ∀ w, Calls Try.prog 65 #[.agg #[.int .u64 1, .int .u64 2, .int .u64 3, .int .u64 4]] w fun e w' => e = .returned (.agg #[.int .u64 (W64 (stV4 ⟨1#64, 2#64, 3#64, 4#64⟩).a), .int .u64 (W64 (stV4 ⟨1#64, 2#64, 3#64, 4#64⟩).b), .int .u64 (W64 (stV4 ⟨1#64, 2#64, 3#64, 4#64⟩).c), .int .u64 (W64 (stV4 ⟨1#64, 2#64, 3#64, 4#64⟩).d)]) ∧ New w w' := fun w => stepr4_q ⟨1#64, 2#64, 3#64, 4#64⟩ w
  have he1 : ∀ w, (Op.equalIn 10000 44 (.agg #[.int .u64 (W64 (stV4 ⟨1#64, 2#64, 3#64, 4#64⟩).a), .int .u64 (W64 (stV4 ⟨1#64, 2#64, 3#64, 4#64⟩).b), .int .u64 (W64 (stV4 ⟨1#64, 2#64, 3#64, 4#64⟩).c), .int .u64 (W64 (stV4 ⟨1#64, 2#64, 3#64, 4#64⟩).d)]) (.agg #[.int .u64 (W64 (stV4 ⟨1#64, 2#64, 3#64, 4#64⟩).a), .int .u64 (W64 (stV4 ⟨1#64, 2#64, 3#64, 4#64⟩).b), .int .u64 (W64 (stV4 ⟨1#64, 2#64, 3#64, 4#64⟩).c), .int .u64 (W64 (stV4 ⟨1#64, 2#64, 3#64, 4#64⟩).d)])).run Try.prog w = .ok true w := fun w => eq4_same w _
  obtain ⟨r, hr⟩ : ∃ r, stV4 ⟨1#64, 2#64, 3#64, 4#64⟩ = r := ⟨_, rfl⟩
  rw [hr] at hj1 hs he1
  have he2 : ∀ w, (Op.equalIn 10000 44 (.agg #[.int .u64 1, .int .u64 2, .int .u64 3, .int .u64 4]) (.agg #[.int .u64 1, .int .u64 2, .int .u64 3, .int .u64 4])).run Try.prog w = .ok true w := fun w => eq4_same w ⟨1#64, 2#64, 3#64, 4#64⟩
  have he3 : ∀ w, (Op.equalIn 10000 45 (.agg #[.int .u64 0, .int .u64 1, .int .u64 0, .int .u64 0]) (.agg #[.int .u64 0, .int .u64 1, .int .u64 0, .int .u64 0])).run Try.prog w = .ok true w := fun w => by
    have h := eqV256 w 0#64 1#64 0#64 0#64 0#64 1#64 0#64 0#64
    exact h
  have HJ1 := Lib.hid hj1
  have HJ0 := Lib.hid hj0
  have HS := Lib.hid hs
  have HP := Lib.hid power_64
  have hb := heap_alloc_new w (.cells #[.int .u64 1, .int .u64 2, .int .u64 3, .int .u64 4] 44)
  have hn : New w (w.alloc (.cells #[.int .u64 1, .int .u64 2, .int .u64 3, .int .u64 4] 44)) := (New.refl w).alloc _
  obtain ⟨W1, hW1⟩ : ∃ z, w.alloc (.cells #[.int .u64 1, .int .u64 2, .int .u64 3, .int .u64 4] 44) = z := ⟨_, rfl⟩
  rw [hW1] at hb hn
  have HW1 := Lib.hid hW1
  have HB := Lib.hid hb
  have HN := Lib.hid hn
  clear hj1 hj0 hs hr hW1 hb hn
  go_enter Try.func37, Try.ntmps37
  go_wp2_with fail
  rw [HW1.out]
  clear HW1
  refine wp_region_class (fun w' => (w'.heap[w.heap.size]? = some (.cells #[.int .u64 1, .int .u64 2, .int .u64 3, .int .u64 4] 44 (0, 0))) ∧ New W1 w') (by kernel_rfl) (by kernel_rfl) ⟨((New.refl W1).drew.block _ (lt_of_block HB.out)).trans HB.out, (New.refl _).drew⟩ ?_
  intro I _ f hall hback
  have HSTEP : Hid (∀ n w', New (f n) w' → ∃ m, w' = f m) := Lib.hid fun n w' hn => hback w' ⟨(hn.block _ (lt_of_block (hall n).1)).trans (hall n).1, (hall n).2.trans hn⟩
  have HALL := Lib.hid fun n => (hall n).2
  have s0 := fun n => cell_of_row _ _ 0 _ _ _ ((hall n).1)
  have s1 := fun n => cell_of_row _ _ 1 _ _ _ ((hall n).1)
  have s2 := fun n => cell_of_row _ _ 2 _ _ _ ((hall n).1)
  have s3 := fun n => cell_of_row _ _ 3 _ _ _ ((hall n).1)
  clear hall hback
  repeat (go_big_quiet_step (first
    | (go_at_call_of 45 (Value.agg #[Value.int IntKind.u64 1, Value.int IntKind.u64 0, Value.int IntKind.u64 0, Value.int IntKind.u64 0]); refine class_new HSTEP.out (HJ1.out _))
    | (go_at_call_of 45 (Value.agg #[Value.int IntKind.u64 0, Value.int IntKind.u64 0, Value.int IntKind.u64 0, Value.int IntKind.u64 0]); refine class_new HSTEP.out (HJ0.out _))
    | (go_at_call 65; refine class_new HSTEP.out (HS.out _))
    | (go_at_call 50; refine class_new HSTEP.out (HP.out _))))
  refine wpQuiet_nil ?_
  rintro w9 ⟨n1, hw1⟩
  have hS := HALL.out n1
  rw [← hw1] at hS
  replace HB := Lib.hid ((hS.block _ (lt_of_block HB.out)).trans HB.out)
  replace HN := Lib.hid (HN.out.trans hS)
  clear HALL HSTEP hw1 hS s0 s1 s2 s3
  go_wp2
  go_ret
  exact ⟨rfl, HN.out⟩
end Go.Proofs.Ytppmpledcaonkaa
namespace Go.Proofs.Ytppmpledcaonkaa
open Go Go.RowKit Go.Bv Go.G2
set_option linter.unusedVariables false
/-- what holds of a kind, also where there is no generator of it -/
structure Kd (k : Int) (L : Lin V2) : Prop where
  jump : ∀ (q : V2) (a0 a1 a2 a3 : BitVec 64) (w : World), Calls Try.prog 43 #[.int .i64 k, .agg #[.int .u64 (W64 q.a), .int .u64 (W64 q.b)], .agg #[.int .u64 (W64 a0), .int .u64 (W64 a1), .int .u64 (W64 a2), .int .u64 (W64 a3)]] w fun e w' => e = .returned (.agg #[.int .u64 (W64 (L.it (four a0 a1 a2 a3) q).a), .int .u64 (W64 (L.it (four a0 a1 a2 a3) q).b)]) ∧ New w w'
  stepr : MvV2 75 k L.st
  round : ∀ q, L.it 340282366920938463463374607431768211455 q = q
/-- a generator of this kind -/
structure Ky (k : Int) (plus : Bool) (L : Lin V2) : Prop where
  kd : Kd k L
  yes : (k == 5 || k == 6) = true
  six : (k == 6) = plus
  lx : ∀ p q, L.x p q = xV2 p q
  lz : L.z = ⟨0#64, 0#64⟩
  by2 : ∀ (a : Option Addr) (n c : Nat) (l : List (BitVec 64)) (q : V2) (w : World) (h : QRow w a n c l) (hn : n ≤ 10000), Calls Try.prog 42 #[.int .i64 k, .slice a n c, .agg #[.int .u64 (W64 q.a), .int .u64 (W64 q.b)]] w fun e w' => e = .returned (.agg #[.int .u64 (W64 (L.act (vW l) q).a), .int .u64 (W64 (L.act (vW l) q).b)]) ∧ New w w'
  fixed : ∀ (long : Bool) (q : V2) (w : World), Calls Try.prog 51 #[.int .i64 k, .bool long, .agg #[.int .u64 (W64 q.a), .int .u64 (W64 q.b)]] w fun e w' => e = .returned (.agg #[.int .u64 (W64 (L.act (vW (fx2 plus long)) q).a), .int .u64 (W64 (L.act (vW (fx2 plus long)) q).b)]) ∧ New w w'
  far : ∀ (long : Bool) (q : V2), L.act (vW (fx2 plus long)) q = L.it (if long then 79228162514264337593543950336 else 18446744073709551616) q
  period : ∀ (q : V2) (m : Nat), 0 < m → m < 340282366920938463463374607431768211455 → L.it m q = q → q = L.z
/-- nothing moves -/
def Lid : Lin V2 where
  x := xV2
  z := ⟨0#64, 0#64⟩
  st := id
  x_comm := (LV2 24 16 37 (by decide) (by decide)).x_comm
  x_assoc := (LV2 24 16 37 (by decide) (by decide)).x_assoc
  x_self := (LV2 24 16 37 (by decide) (by decide)).x_self
  x_z := (LV2 24 16 37 (by decide) (by decide)).x_z
  st_x := fun _ _ => rfl
theorem it_id : ∀ (n : Nat) (q : V2), Lid.it n q = q
  | 0, q => rfl
  | n + 1, q => it_id n q
theorem kd_o (k : Int) (h5 : (k == 5) = false) (h6 : (k == 6) = false) : Kd k Lid where
  jump := fun q a0 a1 a2 a3 w => by rw [it_id]; exact jump2_o k h5 h6 q a0 a1 a2 a3 w
  stepr := stepr_o k h5 h6
  round := fun q => it_id _ q
theorem roundS_it (q : V2) : (LV2 24 16 37 (by decide) (by decide)).it 340282366920938463463374607431768211455 q = q := full_of (LV2 24 16 37 (by decide) (by decide)) (by decide) bl_polS killS roundS q
theorem roundP_it (q : V2) : (LV2 49 21 28 (by decide) (by decide)).it 340282366920938463463374607431768211455 q = q := full_of (LV2 49 21 28 (by decide) (by decide)) (by decide) bl_polP killP roundP q
theorem far_of {S : Type} (L : Lin S) {P n : Nat} (hP : bl P = n + 1) (hk : ∀ s, L.act P s = L.z) {E J : Nat} (h : xpG E P = J) (q : S) : L.act J q = L.it E q := by
  have h2 := jump_is L hP hk E q
  rw [vW_tW, h] at h2
  exact h2
theorem farS (long : Bool) (q : V2) : (LV2 24 16 37 (by decide) (by decide)).act (vW (fx2 false long)) q = (LV2 24 16 37 (by decide) (by decide)).it (if long then 79228162514264337593543950336 else 18446744073709551616) q := by
  cases long
  · rw [show vW (fx2 false false) = 30615848492443384612112888152731243685 from by decide +kernel, if_neg (by decide)]
    exact far_of (LV2 24 16 37 (by decide) (by decide)) bl_polS killS jumpSa q
  · rw [show vW (fx2 false true) = 294920414353830779217769284518757199483 from by decide +kernel, if_pos rfl]
    exact far_of (LV2 24 16 37 (by decide) (by decide)) bl_polS killS jumpSb q
theorem farP (long : Bool) (q : V2) : (LV2 49 21 28 (by decide) (by decide)).act (vW (fx2 true long)) q = (LV2 49 21 28 (by decide) (by decide)).it (if long then 79228162514264337593543950336 else 18446744073709551616) q := by
  cases long
  · rw [show vW (fx2 true false) = 12725278812838468447387518175580794332 from by decide +kernel, if_neg (by decide)]
    exact far_of (LV2 49 21 28 (by decide) (by decide)) bl_polP killP jumpPa q
  · rw [show vW (fx2 true true) = 207932838831357501058245856048802782617 from by decide +kernel, if_pos rfl]
    exact far_of (LV2 49 21 28 (by decide) (by decide)) bl_polP killP jumpPb q
theorem far4 (long : Bool) (q : V4) : LV4.act (vW (fx4 long)) q = LV4.it (if long then 6277101735386680763835789423207666416102355444464034512896 else 340282366920938463463374607431768211456) q := by
  cases long
  · rw [show vW (fx4 false) = 26085483466146683437729584433416940748010083220905283300336438352164092185274 from by decide +kernel, if_neg (by decide)]
    exact far_of LV4 bl_pol4 kill4 jump4a q
  · rw [show vW (fx4 true) = 25811176442423999780181185644399983503438179793072507392953026632622368738239 from by decide +kernel, if_pos rfl]
    exact far_of LV4 bl_pol4 kill4 jump4b q
theorem ky_5 : Ky 5 false (LV2 24 16 37 (by decide) (by decide)) where
  kd := ⟨fun q a0 a1 a2 a3 w => jump2S q a0 a1 a2 a3 w, stepr_5, roundS_it⟩
  yes := by decide
  six := by decide
  lx := fun _ _ => rfl
  lz := rfl
  by2 := fun a n c l q w h hn => by2_q (LV2 24 16 37 (by decide) (by decide)) (fun _ _ => rfl) rfl 5 (by decide) step_5 a n c l q w h hn
  fixed := fun long q w => by
    cases long
    · exact fixed2_5f (LV2 24 16 37 (by decide) (by decide)) (fun a n c l q w h hn => by2_q (LV2 24 16 37 (by decide) (by decide)) (fun _ _ => rfl) rfl 5 (by decide) step_5 a n c l q w h hn) q w
    · exact fixed2_5t (LV2 24 16 37 (by decide) (by decide)) (fun a n c l q w h hn => by2_q (LV2 24 16 37 (by decide) (by decide)) (fun _ _ => rfl) rfl 5 (by decide) step_5 a n c l q w h hn) q w
  far := farS
  period := fun q m h0 hm h => periodS q m h0 hm h
theorem ky_6 : Ky 6 true (LV2 49 21 28 (by decide) (by decide)) where
  kd := ⟨fun q a0 a1 a2 a3 w => jump2P q a0 a1 a2 a3 w, stepr_6, roundP_it⟩
  yes := by decide
  six := by decide
  lx := fun _ _ => rfl
  lz := rfl
  by2 := fun a n c l q w h hn => by2_q (LV2 49 21 28 (by decide) (by decide)) (fun _ _ => rfl) rfl 6 (by decide) step_6 a n c l q w h hn
  fixed := fun long q w => by
    cases long
    · exact fixed2_6f (LV2 49 21 28 (by decide) (by decide)) (fun a n c l q w h hn => by2_q (LV2 49 21 28 (by decide) (by decide)) (fun _ _ => rfl) rfl 6 (by decide) step_6 a n c l q w h hn) q w
    · exact fixed2_6t (LV2 49 21 28 (by decide) (by decide)) (fun a n c l q w h hn => by2_q (LV2 49 21 28 (by decide) (by decide)) (fun _ _ => rfl) rfl 6 (by decide) step_6 a n c l q w h hn) q w
  far := farP
  period := fun q m h0 hm h => periodP q m h0 hm h
theorem k_all (k : Int) : ((k == 5) = false ∧ (k == 6) = false) ∨ ∃ plus L, Ky k plus L := by
  by_cases h5 : k = 5
  · subst h5; exact Or.inr ⟨_, _, ky_5⟩
  · by_cases h6 : k = 6
    · subst h6; exact Or.inr ⟨_, _, ky_6⟩
    · exact Or.inl ⟨by simpa using h5, by simpa using h6⟩
theorem kd_all (k : Int) : ∃ L, Kd k L := by
  rcases k_all k with ⟨h5, h6⟩ | ⟨_, L, h⟩
  · exact ⟨_, kd_o k h5 h6⟩
  · exact ⟨L, h.kd⟩
theorem right_yes (k : Int) (hk : (k == 5 || k == 6) = true) (w : World) : Calls Try.prog 41 #[.int .i64 k] w fun e w' => e = .returned (.bool true) ∧ w' = w := by
  by_cases h5 : (k == 5) = true
  · go_enter Try.func41, Try.ntmps41
    go_wp2
    go_ret
    exact ⟨rfl, rfl⟩
  · have h5 : (k == 5) = false := by simpa using h5
    have h6 : (k == 6) = true := by rw [h5] at hk; simpa using hk
    go_enter Try.func41, Try.ntmps41
    go_wp2
    go_ret
    exact ⟨rfl, rfl⟩
theorem right_no (k : Int) (h5 : (k == 5) = false) (h6 : (k == 6) = false) (w : World) : Calls Try.prog 41 #[.int .i64 k] w fun e w' => e = .returned (.bool false) ∧ w' = w := by
  go_enter Try.func41, Try.ntmps41
  go_wp2
  go_ret
  exact ⟨rfl, rfl⟩
end Go.Proofs.Ytppmpledcaonkaa
