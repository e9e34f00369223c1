import Derived.Test.YtoplabhoedloeaaGreatZRow
import Derived.Laws.AppendOwnNone
import Derived.Test.YtoplabhoedloeaaGreatNew
import Derived.Lib.AppendZerosOnto
import Derived.Lib.SliceRun
import Derived.Deep.OwnRows
import Derived.Deep.AppendLies
import Derived.Deep.QuietTactic
import Derived.BigQuiet
import Derived.Defers
import Derived.Recover
import Derived.Laws.Pointers
import Derived.Handy
import Derived.Laws.EntriesVeiled
import Derived.Deep.DeepCutAuto
section
/- Contracts of the document's own Both and Same: for all bytes. -/
namespace Go.Proofs.YtoplabhoedloeaaGreat
open Go.RowKit Go.Bv
set_option linter.unusedVariables false
/-- bytes as a string -/
def bstr (l : List (BitVec 8)) : ByteArray := strOfNums (l.map W8)
theorem bstr_size (l : List (BitVec 8)) : (bstr l).size = l.length := by unfold bstr; rw [strOfNums_size, List.length_map]
theorem u8_of (x : BitVec 8) : UInt8.ofNat (W8 x).toNat = ⟨x⟩ := by
  rw [toNat_W8]; unfold N8; apply UInt8.toNat_inj.1
  have := x.isLt
  simp
theorem bstr_toList (l : List (BitVec 8)) : (bstr l).data.toList = l.map fun x => (⟨x⟩ : UInt8) := by
  unfold bstr; rw [strOfNums_data, List.map_map]; exact List.map_congr_left (fun x _ => u8_of x)
theorem bstr_inj {a b : List (BitVec 8)} (h : (bstr a).data.toList = (bstr b).data.toList) : a = b := by
  rw [bstr_toList, bstr_toList] at h
  have := congrArg (List.map UInt8.toBitVec) h
  simpa [List.map_map, Function.comp_def] using this
/-- the conversion of a slice of bytes into a string -/
theorem conv_row {w : World} {a : Option Addr} {len cap : Nat} {l : List (BitVec 8)} (h : BRow w a len cap l) :
    (convert 65 9 (.slice a len cap)).run Tryz.prog w = .ok (.string (bstr l)) w := by
  cases a with
  | none =>
    have h0 := (h.none rfl).1
    have hl : l = [] := List.eq_nil_of_length_eq_zero (by rw [h.len_eq, h0])
    rw [run_convert_bytes_nil (P := Tryz.prog) w 65 5 Tryz.underlying65 Tryz.underlying5 len cap 9 Tryz.underlying9, hl]; rfl
  | some x =>
    obtain ⟨b, off, sp⟩ := x
    by_cases h0 : 0 < len
    · obtain rfl : sp = Option.none := h.spot _ rfl h0
      exact run_convert_bytes_arg (P := Tryz.prog) w 65 5 Tryz.underlying65 Tryz.underlying5 b off len cap (l.map W8) (by rw [List.length_map, h.len_eq])
        (fun i hi => by
          rw [h.cell b off rfl i hi]
          have hl : i < l.length := by rw [h.len_eq]; exact hi
          rw [List.getD_eq_getElem?_getD, List.getD_eq_getElem?_getD, List.getElem?_map, List.getElem?_eq_getElem hl]; rfl) 9 Tryz.underlying9
    · obtain rfl : len = 0 := by omega
      have hl : l = [] := List.eq_nil_of_length_eq_zero h.len_eq
      subst hl
      rw [run_convert_bytes_string (P := Tryz.prog) w 65 9 5 _ 0 cap Tryz.underlying65 Tryz.underlying5 Tryz.underlying9, run_bytesToString (P := Tryz.prog) w ⟨b, off, sp⟩ 0 cap [] (by kernel_rfl)]
      rfl
theorem row_one (l : List (BitVec 8)) : ∀ u ∈ l.map (fun y => Value.int .u8 (W8 y)), u.oneCell' = true := by
  intro u hu; obtain ⟨y, _, rfl⟩ := List.mem_map.1 hu; rfl
theorem row_len {w : World} {a : Option Addr} {n c : Nat} {l : List (BitVec 8)} (h : BRow w a n c l) : (l.map fun y => Value.int .u8 (W8 y)).length = n * 1 := by
  rw [List.length_map, h.len_eq, Nat.mul_one]
theorem brow_nil {w : World} {n c : Nat} {l : List (BitVec 8)} (h : BRow w none n c l) : n = 0 ∧ c = 0 ∧ l = [] :=
  ⟨(h.none rfl).1, (h.none rfl).2, List.eq_nil_of_length_eq_zero (by rw [h.len_eq]; exact (h.none rfl).1)⟩
end Go.Proofs.YtoplabhoedloeaaGreat
end
section
/- Plain lemmas on worlds: 'But b w v': from w to v nothing has changed but what lies in the block b. -/
namespace Go.Bv
open Go Go.RowKit
/-- nothing of w has changed in v, but what lies in the block b -/
structure But (b : Nat) (w v : World) : Prop where
  size : w.heap.size ≤ v.heap.size
  block : ∀ k, k < w.heap.size → k ≠ b → v.heap[k]? = w.heap[k]?
  new : ∀ W, New W w → W.heap.size ≤ b → New W v
theorem But.refl (b : Nat) (w : World) : But b w w := ⟨Nat.le_refl _, fun _ _ _ => rfl, fun _ h _ => h⟩
theorem But.of_new {b : Nat} {w v : World} (h : New w v) : But b w v := ⟨h.le, fun k hk _ => h.block k hk, fun _ h2 _ => h2.trans h⟩
theorem But.trans {b : Nat} {u w v : World} (h : But b u w) (k : But b w v) : But b u v :=
  ⟨Nat.le_trans h.size k.size, fun i hi hb => (k.block i (Nat.lt_of_lt_of_le hi h.size) hb).trans (h.block i hi hb), fun W h2 hb => k.new W (h.new W h2 hb) hb⟩
theorem But.setCell {b : Nat} {u w : World} (h : But b u w) {p : Addr} (hp : p.block = b) (x : Value) : But b u (w.setCell p x) :=
  ⟨by rw [show (w.setCell p x).heap.size = w.heap.size by simp [World.setCell]]; exact h.size,
   fun i hi hb => (Below.heap_setCell w p x i (by omega)).trans (h.block i hi hb), fun W h2 hb => (h.new W h2 hb).setCell (by omega) _⟩
theorem But.then {b : Nat} {u w v : World} (h : But b u w) (k : New w v) : But b u v := h.trans (But.of_new k)
theorem But.alloc {b : Nat} {u w : World} (h : But b u w) (o : Obj) : But b u (w.alloc o) := h.then ((New.refl _).alloc o)
theorem But.drew {b : Nat} {u w : World} (h : But b u w) : But b u w.drew := h.then (New.refl _).drew
theorem But.keep {b k : Nat} {w v : World} (h : But b w v) {o : Obj} (hk : k ≠ b) (e : w.heap[k]? = some o) : v.heap[k]? = some o := by
  rw [h.block k (lt_of_block e) hk]; exact e
end Go.Bv
end
section
/- Contracts of slices.Clone, slices.Grow and slices.Concat at slices of bytes: a fresh slice with the same bytes. -/
namespace Go.Proofs.YtoplabhoedloeaaGreat
open Go.RowKit Go.Bv
set_option linter.unusedVariables false
/-- a fresh row of bytes -/
theorem own_row {w : World} {base : Nat} {v : Value} {n : Nat} {l : List (BitVec 8)} (h : w.ownsRow base 5 1 v n (l.map fun x => .int .u8 (W8 x))) (hn : n ≤ 140737488355328) :
    ∃ a cap, v = .slice a n cap ∧ BRow w a n cap l ∧ ∀ x, a = some x → base ≤ x.block := by
  obtain ⟨a, cap, rfl, hr⟩ := BRow.of_owns h hn
  refine ⟨a, cap, rfl, hr, fun x e => ?_⟩
  subst e
  exact own_base h _ rfl
set_option maxHeartbeats 1000000 in
theorem clone_b (a : Option Addr) (len cap : Nat) (l : List (BitVec 8)) (w : World) (h : BRow w a len cap l) :
    Calls Tryz.prog 88 #[.slice a len cap] w fun e w' => ∃ a' cap', e = .returned (.slice a' len cap') ∧ BRow w' a' len cap' l ∧ (∀ x, a' = some x → w.heap.size ≤ x.block) ∧ New w w' := by
  obtain ⟨i0, hi, hz0, hz1, hz2⟩ := info_parts info_u8
  have hq : ∀ (w : World) (a : Option Addr) (n c n' c' : Nat), (binOp .eql 65 (.slice a n c) (.slice none n' c')).run Tryz.prog w = .ok (.bool a.isNone) w := fun w a n c n' c' => Lib.run_eql_slice_nil w _ _ a n c n' c' Tryz.underlying65
  cases a with
  | none =>
    obtain ⟨rfl, rfl⟩ := h.none rfl
    obtain rfl : l = [] := List.eq_nil_of_length_eq_zero h.len_eq
    go_enter Tryz.func88, Tryz.ntmps88
    go_wp2
    go_ret
    exact ⟨_, _, rfl, h, (fun x e => by cases e), New.refl w⟩
  | some x =>
    have H := Lib.hid h
    clear h
    go_enter Tryz.func88, Tryz.ntmps88
    go_wp2_with (at_builtin; refine wpList_append_own _ rfl _ _ 65 rfl w.heap.size 5 i0 (.int .u8 0) 1 1 Tryz.underlying65 hi hz0 hz1 hz2 rfl (by decide) _ 0 [] rfl (World.ownsRow_made w #[] 0 (Nat.le_refl _) (Nat.zero_le _) (by simp)) x len cap (l.map fun x => .int .u8 (W8 x)) rfl ?c1 ?c2 ?c3 ?c4 ?c5 ?c6 ?_)
    case c1 => rw [List.length_map, H.out.len_eq]; omega
    case c2 => intro j u hj; exact Lib.cell?_alloc_some _ (H.out.olds x rfl j u hj)
    case c3 => intro u hu; rw [List.mem_map] at hu; obtain ⟨y, _, rfl⟩ := hu; rfl
    case c4 => have := H.out.most; unfold maxLen; omega
    case c5 => have := H.out.most; omega
    case c6 => simp
    intro v' w1 how hgr _
    have how2 : w1.ownsRow w.heap.size 5 1 v' len (l.map fun x => .int .u8 (W8 x)) := by simpa using how
    have hn1 : New w w1 := ((New.refl w).alloc _).grown' hgr (fun k hk => by simp [Value.ownBlock] at hk; omega)
    obtain ⟨a', cap', rfl, hr, hf⟩ := own_row how2 H.out.most
    clear how how2 hgr
    go_wp2
    go_ret
    exact ⟨_, _, rfl, hr, hf, hn1⟩
end Go.Proofs.YtoplabhoedloeaaGreat
end
section
/- Plain lemmas: bytes that are passed on in blocks: the state behind all whole blocks, and what is left. -/
namespace Go.Bv
open Go Go.RowKit
/-- the state behind k blocks of n bytes each -/
def bFold {σ : Type} (n : Nat) (f : σ → List (BitVec 8) → σ) : Nat → σ → List (BitVec 8) → σ
  | 0, s, _ => s
  | k + 1, s, l => bFold n f k (f s (l.take n)) (l.drop n)
/-- the state behind all whole blocks -/
def bState {σ : Type} (n : Nat) (f : σ → List (BitVec 8) → σ) (s : σ) (l : List (BitVec 8)) : σ := bFold n f (l.length / n) s l
/-- what is left -/
def bTail (n : Nat) (l : List (BitVec 8)) : List (BitVec 8) := l.drop (l.length / n * n)
theorem bFold_add {σ : Type} (n : Nat) (f : σ → List (BitVec 8) → σ) : ∀ (j k : Nat) (s : σ) (l : List (BitVec 8)), bFold n f (j + k) s l = bFold n f k (bFold n f j s l) (l.drop (j * n))
  | 0, k, s, l => by simp [bFold]
  | j + 1, k, s, l => by
    rw [show j + 1 + k = (j + k) + 1 by omega]
    simp only [bFold]
    rw [bFold_add n f j k, List.drop_drop, Nat.succ_mul, Nat.add_comm n]
theorem bFold_succ {σ : Type} (n : Nat) (f : σ → List (BitVec 8) → σ) (k : Nat) (s : σ) (l : List (BitVec 8)) : bFold n f (k + 1) s l = f (bFold n f k s l) ((l.drop (k * n)).take n) := by
  rw [bFold_add]; rfl
theorem bFold_app {σ : Type} (n : Nat) (f : σ → List (BitVec 8) → σ) : ∀ (k : Nat) (s : σ) (l m : List (BitVec 8)), k * n ≤ l.length → bFold n f k s (l ++ m) = bFold n f k s l
  | 0, s, l, m, _ => rfl
  | k + 1, s, l, m, h => by
    rw [Nat.succ_mul] at h
    simp only [bFold]
    rw [List.take_append_of_le_length (by omega), List.drop_append_of_le_length (by omega), bFold_app n f k _ _ _ (by rw [List.length_drop]; omega)]
theorem bTail_len (n : Nat) (l : List (BitVec 8)) : (bTail n l).length = l.length % n := by
  unfold bTail
  rw [List.length_drop]
  have := Nat.div_add_mod l.length n
  rw [Nat.mul_comm] at this
  omega
theorem bTail_nil (n : Nat) : bTail n [] = [] := by unfold bTail; simp
theorem bState_nil {σ : Type} (n : Nat) (f : σ → List (BitVec 8) → σ) (s : σ) : bState n f s [] = s := by unfold bState; simp [bFold]
theorem b_split (n : Nat) (hn : 0 < n) (a b : List (BitVec 8)) : (a ++ b).length / n = a.length / n + (bTail n a ++ b).length / n := by
  rw [List.length_append, List.length_append, bTail_len]
  have h := Nat.div_add_mod a.length n
  conv => lhs; rw [← h]
  rw [Nat.add_assoc, Nat.mul_add_div hn]
theorem b_drop (n : Nat) (a b : List (BitVec 8)) : (a ++ b).drop (a.length / n * n) = bTail n a ++ b := by
  unfold bTail
  rw [List.drop_append_of_le_length (Nat.div_mul_le_self _ _)]
theorem bState_join {σ : Type} (n : Nat) (hn : 0 < n) (f : σ → List (BitVec 8) → σ) (s : σ) (a b : List (BitVec 8)) : bState n f (bState n f s a) (bTail n a ++ b) = bState n f s (a ++ b) := by
  unfold bState
  rw [b_split n hn a b, bFold_add, b_drop, bFold_app n f _ s a b (Nat.div_mul_le_self _ _)]
theorem bTail_join (n : Nat) (hn : 0 < n) (a b : List (BitVec 8)) : bTail n (bTail n a ++ b) = bTail n (a ++ b) := by
  conv => rhs; unfold bTail
  rw [b_split n hn a b, Nat.add_mul, ← List.drop_drop, b_drop]; rfl
theorem bState_short {σ : Type} (n : Nat) (f : σ → List (BitVec 8) → σ) (s : σ) (l : List (BitVec 8)) (h : l.length < n) : bState n f s l = s := by
  unfold bState; rw [Nat.div_eq_of_lt h]; rfl
theorem bTail_short (n : Nat) (l : List (BitVec 8)) (h : l.length < n) : bTail n l = l := by
  unfold bTail; rw [Nat.div_eq_of_lt h]; simp
/-- block by block, as the document's own loops go -/
theorem bState_step {σ : Type} (n : Nat) (hn : 0 < n) (f : σ → List (BitVec 8) → σ) (s : σ) (l : List (BitVec 8)) (h : n ≤ l.length) : bState n f s l = bState n f (f s (l.take n)) (l.drop n) := by
  unfold bState
  have e : l.length / n = (l.drop n).length / n + 1 := by
    rw [List.length_drop, ← Nat.add_div_right _ hn, Nat.sub_add_cancel h]
  rw [e]; rfl
theorem bTail_step (n : Nat) (hn : 0 < n) (l : List (BitVec 8)) (h : n ≤ l.length) : bTail n l = bTail n (l.drop n) := by
  unfold bTail
  have e : l.length / n = (l.drop n).length / n + 1 := by
    rw [List.length_drop, ← Nat.add_div_right _ hn, Nat.sub_add_cancel h]
  rw [e, Nat.add_mul, Nat.one_mul, List.drop_drop, Nat.add_comm n]
end Go.Bv
namespace Go.Bv
open Go Go.RowKit
theorem wrap_in (i : Int) (h0 : -9223372036854775808 ≤ i) (h1 : i ≤ 9223372036854775807) : wrap64 i = i := by unfold wrap64; omega
theorem wrap_in' (i : Int) (h0 : -9223372036854775808 ≤ i) (h1 : i ≤ 9223372036854775807) : IntKind.i64.wrap i = i := by rw [IntKind.wrap_i64]; omega
/-- a row whose block is as it was -/
theorem BRow.but {w w' : World} {a : Option Addr} {len cap : Nat} {l : List (BitVec 8)} (h : BRow w a len cap l) (hs : w.heap.size ≤ w'.heap.size) (hk : ∀ x, a = some x → 0 < len → w'.heap[x.block]? = w.heap[x.block]?) : BRow w' a len cap l where
  len_eq := h.len_eq
  le := h.le
  most := h.most
  room := h.room
  none := h.none
  cell := fun b off e i hi => by
    have hb := hk _ e (by omega)
    have hc := h.cell b off e i hi
    unfold World.cell? at hc ⊢
    simp only at hb hc ⊢
    rw [hb]; exact hc
  spot := h.spot
  old := fun x e h0 => Nat.lt_of_lt_of_le (h.old x e h0) hs
/-- the rest of a row from a place on -/
theorem row_rest {w : World} {b off : Nat} {sp : Option Nat} {len cap m : Nat} {l : List (BitVec 8)} (h : BRow w (some ⟨b, off, sp⟩) len cap l) (hm : m ≤ len) :
    ∃ sp2, (⟨b, off, sp⟩ : Addr).add m = ⟨b, off + m, sp2⟩ ∧ BRow w (some ⟨b, off + m, sp2⟩) (len - m) (cap - m) (l.drop m) := by
  by_cases h0 : m = 0
  · subst h0
    exact ⟨sp, by simp [Addr.add], by simpa using h⟩
  · refine ⟨Option.none, by simp [Addr.add, h0], ?_, ?_, ?_, ?_, ?_, ?_, ?_, ?_⟩
    · have := h.len_eq; simp; omega
    · have := h.le; omega
    · have := h.most; omega
    · have := h.room; omega
    · intro e; cases e
    · intro b' off' e i hi
      cases e
      have hs := h.spot _ rfl (by omega)
      simp only at hs
      subst hs
      have := h.cell b off rfl (m + i) (by omega)
      rw [Nat.add_assoc, this]
      simp [List.getD_eq_getElem?_getD, List.getElem?_drop]
    · intro x e _; cases e; rfl
    · intro x e h1; cases e
      exact h.old ⟨b, off, sp⟩ rfl (by omega)
theorem row_end {w : World} {a : Option Addr} {m : Nat} {l : List (BitVec 8)} (h : BRow w a m m l) : BRow w a 0 0 (l.drop m) where
  len_eq := by have := h.len_eq; simp; omega
  le := Nat.le_refl _
  most := by omega
  room := by omega
  none := fun _ => ⟨rfl, rfl⟩
  cell := fun b off e i hi => absurd hi (by omega)
  spot := fun x e h0 => absurd h0 (by omega)
  old := fun x e h0 => absurd h0 (by omega)
theorem wrap_add (m : Nat) (n : Int) (k : Nat) (h : (m : Int) + n = (k : Int)) (hk : k ≤ 9223372036854775807) : wrap64 ((m : Int) + n) = (k : Int) ∧ IntKind.i64.wrap ((m : Int) + n) = (k : Int) := by
  rw [h]; exact ⟨wrap_in _ (by omega) (by omega), wrap_in' _ (by omega) (by omega)⟩
theorem wrap_less (a m : Nat) (ha : a ≤ 9223372036854775807) (hm : m ≤ a) : wrap64 ((a : Int) - (m : Int)) = (a : Int) - (m : Int) ∧ IntKind.i64.wrap ((a : Int) - (m : Int)) = (a : Int) - (m : Int) :=
  ⟨wrap_in _ (by omega) (by omega), wrap_in' _ (by omega) (by omega)⟩
end Go.Bv
end
section
/- Plain lemmas: a region that draws its order, whose calls come one behind the other and hand back values that differ from world to world (a fresh slice), and whose other operations only read: one walk in the order of the text; what is known of a call's value is known from there on. What writes or makes memory is taken as a call is. -/
namespace Go.Grow
open Go
set_option linter.unusedVariables false
section
variable {P : Program} {ops : Array Oper} {md : Region.Mode} {B : World → Prop} {cs : Nat → Bool}
/-- a call: in every world of B that meets G it hands back a value and leaves a world of B that meets G, and R of that value; what is no call yields a value of which R holds there -/
def growUpon (P : Program) (B : World → Prop) (R : Value → World → Prop) (w : World) : Result Next → Prop
  | .ok (.value u) w' => B w' ∧ R u w'
  | .ok .skip w' => B w' ∧ R undef w'
  | .ok (.enter f args) w' => w' = w ∧ Calls P f args w (fun e w'' => ∃ v, e = .returned v ∧ B w'' ∧ R v w'')
  | _ => False
def growAt (P : Program) (o : Oper) (a : Act) (B : World → Prop) (R : Value → World → Prop) (w : World) : Prop := growUpon P B R w ((execOp a.eval o).run P w)
/-- it yields v, in the world that it got -/
def stillUpon (w : World) (v : Value) : Result Next → Prop
  | .ok (.value u) w' => w' = w ∧ u = v
  | .ok .skip w' => w' = w ∧ v = undef
  | _ => False
def stillIn (P : Program) (o : Oper) (a : Act) (B : World → Prop) (v : Value) : Prop := ∀ w, B w → stillUpon w v ((execOp a.eval o).run P w)
theorem stillUpon_one {w : World} {v u : Value} {r : Result Next} (h : stillUpon w v r) (k : stillUpon w u r) : v = u := by
  cases r with
  | ok n w' =>
    cases n <;> simp only [stillUpon] at h k
    case value x => rw [← h.2, ← k.2]
    case skip => rw [h.2, k.2]
  | halt x w' => simp only [stillUpon] at h
/-- operation number k comes up -/
def step (P : Program) (ops : Array Oper) (B : World → Prop) (cs : Nat → Bool) (k : Nat) (o : Oper) (K : (World → Prop) → Act → Prop) (G : World → Prop) (a : Act) : Prop :=
  if Region.wanted o (yielded ops a.tmps) then
    if cs k then ∃ (V : Value → Prop) (R : Value → World → Prop), (∃ v, V v) ∧ (∀ w, B w → G w → growAt P o a B (fun v w => V v ∧ R v w) w) ∧ ∀ v, V v → K (R v) (a.put o.dst v)
    else ∃ v, stillIn P o a B v ∧ K G (a.put o.dst v)
  else K G (a.put o.dst undef)
def gOp (P : Program) (ops : Array Oper) (B : World → Prop) (cs : Nat → Bool) (k : Nat) (K : (World → Prop) → Act → Prop) (G : World → Prop) (a : Act) : Prop :=
  match ops[k]? with
  | none => K G a
  | some o => step P ops B cs k o K G a
theorem step_mono {k : Nat} {o : Oper} {K K' : (World → Prop) → Act → Prop} {G : World → Prop} {a : Act} (h : ∀ G a, K G a → K' G a) (hh : step P ops B cs k o K G a) : step P ops B cs k o K' G a := by
  unfold step at *
  split
  · rename_i hw
    rw [if_pos hw] at hh
    split
    · rename_i hc
      rw [if_pos hc] at hh
      obtain ⟨V, R, hv, h1, h2⟩ := hh
      exact ⟨V, R, hv, h1, fun v hv => h _ _ (h2 v hv)⟩
    · rename_i hc
      rw [if_neg hc] at hh
      obtain ⟨v, h1, h2⟩ := hh
      exact ⟨v, h1, h _ _ h2⟩
  · rename_i hw
    rw [if_neg hw] at hh
    exact h _ _ hh
theorem gOp_mono {k : Nat} {K K' : (World → Prop) → Act → Prop} {G : World → Prop} {a : Act} (h : ∀ G a, K G a → K' G a) (hh : gOp P ops B cs k K G a) : gOp P ops B cs k K' G a := by
  unfold gOp at *
  split
  · rename_i ho; simp only [ho] at hh; exact h _ _ hh
  · rename_i o ho; simp only [ho] at hh; exact step_mono h hh
/-- whatever order is picked from here on -/
def wpAnyG (P : Program) (md : Region.Mode) (ops : Array Oper) (B : World → Prop) (cs : Nat → Bool) (Q : (World → Prop) → Act → Prop) : Nat → Array Bool → (World → Prop) → Act → Prop
  | 0, listed, G, a => Region.ready md ops listed = [] ∧ Q G a
  | fuel + 1, listed, G, a =>
    (Region.ready md ops listed = [] → Q G a) ∧
    ∀ i ∈ Region.ready md ops listed, gOp P ops B cs i (wpAnyG P md ops B cs Q fuel (listed.setIfInBounds i true)) G a
theorem wp_of_still {o : Oper} {a : Act} {v : Value} {K' : Act → World → Prop} {Q' : Exit → Act → World → Prop} {w : World} (hw : B w) (h : stillIn P o a B v) (hk : K' (a.put o.dst v) w) : o.wp P a w K' Q' := by
  have h3 := h w hw
  unfold Oper.wp
  generalize (execOp a.eval o).run P w = r at *
  cases r with
  | ok n w' =>
    cases n <;> simp only [stillUpon] at h3 <;> simp only [Oper.upon]
    case value u => obtain ⟨e1, e2⟩ := h3; rw [e1, e2]; exact hk
    case skip => obtain ⟨e1, e2⟩ := h3; rw [e1, ← e2]; exact hk
  | halt x w' => simp only [stillUpon] at h3
theorem wp_of_grow {o : Oper} {a : Act} {R : Value → World → Prop} {K' : Act → World → Prop} {Q' : Exit → Act → World → Prop} {w : World} (h : growAt P o a B R w)
    (hk : ∀ v w', B w' → R v w' → K' (a.put o.dst v) w') : o.wp P a w K' Q' := by
  unfold growAt at h
  unfold Oper.wp
  generalize (execOp a.eval o).run P w = r at *
  cases r with
  | ok n w' =>
    cases n <;> simp only [growUpon] at h <;> simp only [Oper.upon]
    case value u => exact hk _ _ h.1 h.2
    case skip => exact hk _ _ h.1 h.2
    case enter f args =>
      obtain ⟨e1, hc⟩ := h
      rw [e1]
      exact hc.mono fun e w'' ⟨v, he, h1, h3⟩ => by subst he; exact hk _ _ h1 h3
  | halt x w' => simp only [growUpon] at h
theorem wpOp_of_gOp {i : Nat} {a : Act} {G : World → Prop} {K : (World → Prop) → Act → Prop} {K' : Act → World → Prop} {Q' : Exit → Act → World → Prop} {w : World} (hB : B w) (hG : G w)
    (h : ∀ G a w', B w' → G w' → K G a → K' a w') (hh : gOp P ops B cs i K G a) : wpOp P ops Q' i K' a w := by
  unfold gOp at hh
  unfold wpOp
  split
  · rename_i ho; simp only [ho] at hh; exact h _ _ _ hB hG hh
  · rename_i o ho
    simp only [ho] at hh
    unfold step at hh
    split
    · rename_i hw
      rw [if_pos hw] at hh
      left
      split at hh
      · obtain ⟨V, R, _, h1, h2⟩ := hh
        exact wp_of_grow (h1 w hB hG) fun v w' b1 b3 => h _ _ _ b1 b3.2 (h2 v b3.1)
      · obtain ⟨v, h1, h2⟩ := hh
        exact wp_of_still hB h1 (h _ _ _ hB hG h2)
    · rename_i hw
      rw [if_neg hw] at hh
      exact h _ _ _ hB hG hh
theorem wpAny_of_grow {Q : (World → Prop) → Act → Prop} {Q' : Exit → Act → World → Prop} (hQ : ∀ G a w, B w → G w → Q G a → Q' .normal a w) : ∀ (fuel : Nat) (listed : Array Bool) (G : World → Prop) (a : Act) (w : World), B w → G w →
    wpAnyG P md ops B cs Q fuel listed G a → wpAny P md ops Q' fuel listed a w
  | 0, _, _, _, _, hB, hG, h => ⟨h.1, hQ _ _ _ hB hG h.2⟩
  | fuel + 1, _, _, _, _, hB, hG, h => ⟨fun h0 => hQ _ _ _ hB hG (h.1 h0), fun i hi => wpOp_of_gOp hB hG (fun G' a' w' b g => wpAny_of_grow hQ fuel _ G' a' w' b g) (h.2 i hi)⟩
theorem still_put {o : Oper} (hs : ∀ c b, o.op ≠ .select c b) {a : Act} {d : Option Tmp} {v u : Value} (h : ∀ t, d = some t → t ∉ o.looksAt ops) : stillIn P o (a.put d v) B u ↔ stillIn P o a B u := by
  unfold stillIn; rw [execOp_put o hs a d v h]
theorem grow_put {o : Oper} (hs : ∀ c b, o.op ≠ .select c b) {a : Act} {d : Option Tmp} {v : Value} {R : Value → World → Prop} {w : World} (h : ∀ t, d = some t → t ∉ o.looksAt ops) : growAt P o (a.put d v) B R w ↔ growAt P o a B R w := by
  unfold growAt; rw [execOp_put o hs a d v h]
/-- two operations that are apart, not both of them calls: in either order -/
theorem step_comm {i j : Nat} {oi oj : Oper} (hB : ∃ w, B w) (hap : oi.apart ops oj = true) (hsi : ∀ c b, oi.op ≠ .select c b) (hsj : ∀ c b, oj.op ≠ .select c b) (hcs : ¬ (cs i = true ∧ cs j = true))
    {K : (World → Prop) → Act → Prop} {G : World → Prop} {a : Act} (h : step P ops B cs i oi (fun G a => step P ops B cs j oj K G a) G a) : step P ops B cs j oj (fun G a => step P ops B cs i oi K G a) G a := by
  obtain ⟨h1, h2, h3⟩ := Oper.apart_spec hap
  obtain ⟨w0, hw0⟩ := hB
  have wi : ∀ (a : Act) (u : Value), Region.wanted oi (yielded ops (a.put oj.dst u).tmps) = Region.wanted oi (yielded ops a.tmps) := fun a u => wanted_put oi a oj.dst u h3
  have wj : ∀ (a : Act) (u : Value), Region.wanted oj (yielded ops (a.put oi.dst u).tmps) = Region.wanted oj (yielded ops a.tmps) := fun a u => wanted_put oj a oi.dst u h1
  have cm : ∀ (a : Act) (v u : Value), (a.put oi.dst v).put oj.dst u = (a.put oj.dst u).put oi.dst v := fun a v u => Act.put_comm a v u h2
  unfold step at *
  simp only [wi, wj] at *
  by_cases hwi : Region.wanted oi (yielded ops a.tmps) = true
  · rw [if_pos hwi] at h
    by_cases hwj : Region.wanted oj (yielded ops a.tmps) = true
    · simp only [hwi, hwj, if_true] at *
      by_cases hci : cs i = true
      · have hcj : cs j = false := by cases hc : cs j; rfl; exact absurd ⟨hci, hc⟩ hcs
        simp only [hci, hcj, if_true, Bool.false_eq_true, if_false] at *
        obtain ⟨V, R, ⟨v0, hv0⟩, hr, hk⟩ := h
        obtain ⟨u, hu, _⟩ := hk v0 hv0
        rw [still_put hsj h1] at hu
        refine ⟨u, hu, V, R, ⟨v0, hv0⟩, fun w b g => (grow_put hsi h3).2 (hr w b g), fun v hv => ?_⟩
        obtain ⟨u', hu', hk'⟩ := hk v hv
        rw [still_put hsj h1] at hu'
        have e : u' = u := stillUpon_one (hu' w0 hw0) (hu w0 hw0)
        rw [← cm, ← e]; exact hk'
      · have hci : cs i = false := by cases hc : cs i; rfl; exact absurd hc hci
        simp only [hci, Bool.false_eq_true, if_false] at *
        obtain ⟨v, hv, hk⟩ := h
        split at hk
        · rename_i hcj
          rw [if_pos hcj]
          obtain ⟨V, R, hV, hr, hk⟩ := hk
          exact ⟨V, R, hV, fun w b g => (grow_put hsj h1).1 (hr w b g), fun u hu => ⟨v, (still_put hsi h3).2 hv, by rw [← cm]; exact hk u hu⟩⟩
        · rename_i hcj
          rw [if_neg hcj]
          obtain ⟨u, hu, hk⟩ := hk
          exact ⟨u, (still_put hsj h1).1 hu, v, (still_put hsi h3).2 hv, by rw [← cm]; exact hk⟩
    · simp only [hwi, hwj, if_true, Bool.false_eq_true, if_false] at *
      by_cases hci : cs i = true
      · simp only [hci, if_true] at *
        obtain ⟨V, R, hV, hr, hk⟩ := h
        exact ⟨V, R, hV, fun w b g => (grow_put hsi h3).2 (hr w b g), fun v hv => by rw [← cm]; exact hk v hv⟩
      · simp only [hci, Bool.false_eq_true, if_false] at *
        obtain ⟨v, hv, hk⟩ := h
        exact ⟨v, (still_put hsi h3).2 hv, by rw [← cm]; exact hk⟩
  · rw [if_neg hwi] at h
    by_cases hwj : Region.wanted oj (yielded ops a.tmps) = true
    · simp only [hwi, hwj, if_true, Bool.false_eq_true, if_false] at *
      split at h
      · rename_i hcj
        rw [if_pos hcj]
        obtain ⟨V, R, hV, hr, hk⟩ := h
        exact ⟨V, R, hV, fun w b g => (grow_put hsj h1).1 (hr w b g), fun u hu => by rw [← cm]; exact hk u hu⟩
      · rename_i hcj
        rw [if_neg hcj]
        obtain ⟨u, hu, hk⟩ := h
        exact ⟨u, (still_put hsj h1).1 hu, by rw [← cm]; exact hk⟩
    · simp only [hwi, hwj, Bool.false_eq_true, if_false] at *
      rw [← cm]; exact h
/-- j waits for i, at last -/
inductive Waits (md : Region.Mode) (ops : Array Oper) : Nat → Nat → Prop
  | one {j : Nat} {o : Oper} {e : Edge} (ho : ops[j]? = some o) (he : e ∈ o.after) (hb : Region.binds md e = true) : Waits md ops j e.on
  | more {j i : Nat} {o : Oper} {e : Edge} (ho : ops[j]? = some o) (he : e ∈ o.after) (hb : Region.binds md e = true) (h : Waits md ops e.on i) : Waits md ops j i
/-- what an operation waits for, as bits, out of those of the operations ahead of it -/
def anc (md : Region.Mode) (t : Array Nat) (l : List Edge) : Nat := l.foldl (fun m e => if Region.binds md e then m ||| (t.getD e.on 0 ||| 2 ^ e.on) else m) 0
def table (md : Region.Mode) : List Oper → Array Nat → Array Nat
  | [], t => t
  | o :: l, t => table md l (t.push (anc md t o.after.toList))
theorem anc_bit {t : Array Nat} {i : Nat} : ∀ (l : List Edge) (m : Nat), (l.foldl (fun m e => if Region.binds md e then m ||| (t.getD e.on 0 ||| 2 ^ e.on) else m) m).testBit i = true →
    m.testBit i = true ∨ ∃ e ∈ l, Region.binds md e = true ∧ ((t.getD e.on 0).testBit i = true ∨ e.on = i)
  | [], m, h => Or.inl h
  | e :: l, m, h => by
    rw [List.foldl_cons] at h
    rcases anc_bit l _ h with h1 | ⟨e', he', h1⟩
    · split at h1
      · rename_i hb
        rw [Nat.testBit_or, Nat.testBit_or, Bool.or_eq_true, Bool.or_eq_true] at h1
        rcases h1 with h1 | h1 | h1
        · exact Or.inl h1
        · exact Or.inr ⟨e, List.mem_cons_self .., hb, Or.inl h1⟩
        · refine Or.inr ⟨e, List.mem_cons_self .., hb, Or.inr ?_⟩
          rw [Nat.testBit_two_pow] at h1
          simpa using h1
      · exact Or.inl h1
    · exact Or.inr ⟨e', List.mem_cons_of_mem _ he', h1⟩
theorem table_waits : ∀ (l : List Oper) (t : Array Nat), (∀ j, l[j]? = ops[t.size + j]?) → (∀ k i, (t.getD k 0).testBit i = true → Waits md ops k i) → ∀ k i, ((table md l t).getD k 0).testBit i = true → Waits md ops k i
  | [], t, _, h, k, i, hk => h k i hk
  | o :: l, t, hl, h, k, i, hk => by
    refine table_waits l (t.push (anc md t o.after.toList)) (fun j => ?_) (fun k i hk => ?_) k i hk
    · have := hl (j + 1)
      rw [Array.size_push, Nat.add_assoc, Nat.add_comm 1 j]; simpa using this
    · have h0 : ops[t.size]? = some o := by simpa using (hl 0).symm
      by_cases hlt : k < t.size
      · exact h k i (by simpa [Array.getElem?_push, hlt, Nat.ne_of_lt hlt] using hk)
      · by_cases he : k = t.size
        · subst he
          have hk2 : (anc md t o.after.toList).testBit i = true := by simpa using hk
          rcases anc_bit _ _ hk2 with h1 | ⟨e, he, hb, h1 | h1⟩
          · simp at h1
          · exact .more h0 (by simpa using he) hb (h _ _ h1)
          · rw [← h1]; exact .one h0 (by simpa using he) hb
        · exfalso
          have : (t.push (anc md t o.after.toList)).getD k 0 = 0 := by
            rw [Array.getD_eq_getD_getElem?, Array.getElem?_eq_none (by simp; omega)]; rfl
          rw [this] at hk; simp at hk
/-- of two calls one waits for the other -/
def ordered (md : Region.Mode) (ops : Array Oper) (cs : Nat → Bool) : Bool :=
  let t := table md ops.toList #[]
  let l := (List.range ops.size).filter cs
  l.all fun i => l.all fun j => i == j || (t.getD j 0).testBit i || (t.getD i 0).testBit j
theorem ordered_spec (h : ordered md ops cs = true) {i j : Nat} (li : i < ops.size) (lj : j < ops.size) (ci : cs i = true) (cj : cs j = true) : i = j ∨ Waits md ops j i ∨ Waits md ops i j := by
  have hi : i ∈ (List.range ops.size).filter cs := List.mem_filter.2 ⟨List.mem_range.2 li, ci⟩
  have hj : j ∈ (List.range ops.size).filter cs := List.mem_filter.2 ⟨List.mem_range.2 lj, cj⟩
  have h2 := List.all_eq_true.1 (List.all_eq_true.1 h i hi) j hj
  simp only [Bool.or_eq_true, beq_iff_eq] at h2
  have ht := table_waits (md := md) (ops := ops) ops.toList #[] (by simp) (by intro k i hk; simp at hk)
  rcases h2 with (h2 | h2) | h2
  · exact Or.inl h2
  · exact Or.inr (Or.inl (ht _ _ h2))
  · exact Or.inr (Or.inr (ht _ _ h2))
/-- what is listed waited for what is listed -/
def Down (md : Region.Mode) (ops : Array Oper) (listed : Array Bool) : Prop := ∀ k o, ops[k]? = some o → listed.getD k false = true → ∀ e ∈ o.after, Region.binds md e = true → listed.getD e.on false = true
theorem waits_listed {listed : Array Bool} (hd : Down md ops listed) {k i : Nat} (h : Waits md ops k i) : listed.getD k false = true → listed.getD i false = true := by
  induction h with
  | one ho he hb => intro hk; exact hd _ _ ho hk _ he hb
  | more ho he hb _ ih => intro hk; exact ih (hd _ _ ho hk _ he hb)
theorem waits_ready {listed : Array Bool} (hd : Down md ops listed) {i j : Nat} (hj : j ∈ Region.ready md ops listed) (h : Waits md ops j i) : listed.getD i false = true := by
  obtain ⟨_, o, ho, hall⟩ := mem_ready.1 hj
  cases h with
  | one ho' he hb => rw [ho] at ho'; cases ho'; exact hall _ he hb
  | more ho' he hb h => rw [ho] at ho'; cases ho'; exact waits_listed hd h (hall _ he hb)
theorem down_set {listed : Array Bool} (hd : Down md ops listed) {j : Nat} (hj : j ∈ Region.ready md ops listed) : Down md ops (listed.setIfInBounds j true) := by
  intro k o ho hk e he hb
  by_cases h : j = k
  · subst h
    obtain ⟨_, o', ho', hall⟩ := mem_ready.1 hj
    rw [ho] at ho'; cases ho'
    exact getD_set_true (hall e he hb)
  · rw [getD_set_ne false h] at hk
    exact getD_set_true (hd k o ho hk e he hb)
theorem ready_unlisted {listed : Array Bool} {i : Nat} (h : i ∈ Region.ready md ops listed) (hl : listed.getD i false = true) : False := by
  have h0 := (mem_ready.1 h).1
  rcases Nat.lt_or_ge i listed.size with h' | h'
  · simp [h'] at h0 hl; rw [h0] at hl; cases hl
  · simp [Array.getElem?_eq_none h'] at hl
theorem not_both {listed : Array Bool} (hd : Down md ops listed) (ho : ordered md ops cs = true) {i j : Nat} (hi : i ∈ Region.ready md ops listed) (hj : j ∈ Region.ready md ops listed) (hne : j ≠ i) : ¬ (cs i = true ∧ cs j = true) := by
  rintro ⟨ci, cj⟩
  have li : i < ops.size := by obtain ⟨_, o, h, _⟩ := mem_ready.1 hi; exact (Array.getElem?_eq_some_iff.1 h).1
  have lj : j < ops.size := by obtain ⟨_, o, h, _⟩ := mem_ready.1 hj; exact (Array.getElem?_eq_some_iff.1 h).1
  rcases ordered_spec ho li lj ci cj with h | h | h
  · exact hne h.symm
  · exact ready_unlisted hi (waits_ready hd hj h)
  · exact ready_unlisted hj (waits_ready hd hi h)
/-- an operation that may come up now may be taken first -/
theorem wpAnyG_first {Q : (World → Prop) → Act → Prop} {i : Nat} {oi : Oper} (hB : ∃ w, B w) (hord : ordered md ops cs = true) (hi : ops[i]? = some oi) (hsel : ∀ (j : Nat) (o : Oper) c b, ops[j]? = some o → o.op ≠ .select c b) :
    ∀ (fuel : Nat) (listed : Array Bool) (G : World → Prop) (a : Act), Down md ops listed →
      (∀ j oj, ops[j]? = some oj → j ≠ i → listed.getD j true = false → (∀ e ∈ oj.after, Region.binds md e = true → e.on ≠ i) → oi.apart ops oj = true) →
      i ∈ Region.ready md ops listed →
      gOp P ops B cs i (wpAnyG P md ops B cs Q fuel (listed.setIfInBounds i true)) G a → wpAnyG P md ops B cs Q (fuel + 1) listed G a := by
  intro fuel
  induction fuel with
  | zero =>
    intro listed G a hd hfree hr H
    refine ⟨fun h => (by rw [h] at hr; cases hr), fun j hj => ?_⟩
    by_cases hji : j = i
    · subst hji; exact H
    · exfalso
      -- something else is ready still behind i: but nothing is, at no fuel
      have key : ∀ G' a', wpAnyG P md ops B cs Q 0 (listed.setIfInBounds i true) G' a' → False := fun G' a' h => by
        have := ready_mono hj hji
        rw [h.1] at this
        cases this
      have H2 := gOp_mono (K' := fun _ _ => False) (fun G' a' h => key G' a' h) H
      unfold gOp at H2
      simp only [hi] at H2
      unfold step at H2
      split at H2
      · split at H2
        · obtain ⟨V, R, ⟨v0, hv0⟩, _, h2⟩ := H2; exact h2 v0 hv0
        · obtain ⟨v, _, h2⟩ := H2; exact h2
      · exact H2
  | succ fuel ih =>
    intro listed G a hd hfree hr H
    refine ⟨fun h => (by rw [h] at hr; cases hr), fun j hj => ?_⟩
    by_cases hji : j = i
    · subst hji; exact H
    · obtain ⟨hjun, oj, hoj, hall⟩ := mem_ready.1 hj
      have hnot : ∀ e ∈ oj.after, Region.binds md e = true → e.on ≠ i := fun e he hb heq =>
        ready_unlisted hr (by rw [← heq]; exact hall e he hb)
      have hap := hfree j oj hoj hji hjun hnot
      have h1 : gOp P ops B cs i (fun G a => gOp P ops B cs j (wpAnyG P md ops B cs Q fuel ((listed.setIfInBounds i true).setIfInBounds j true)) G a) G a :=
        gOp_mono (fun G' a' h => h.2 j (ready_mono hj hji)) H
      have h2 : gOp P ops B cs j (fun G a => gOp P ops B cs i (wpAnyG P md ops B cs Q fuel ((listed.setIfInBounds j true).setIfInBounds i true)) G a) G a := by
        rw [Array.setIfInBounds_comm _ _ hji]
        unfold gOp at h1 ⊢
        simp only [hi, hoj] at h1 ⊢
        exact step_comm hB hap (fun c b => hsel i oi c b hi) (fun c b => hsel j oj c b hoj) (not_both hd hord hr hj hji) h1
      have hfree' : ∀ k ok, ops[k]? = some ok → k ≠ i → (listed.setIfInBounds j true).getD k true = false →
          (∀ e ∈ ok.after, Region.binds md e = true → e.on ≠ i) → oi.apart ops ok = true := fun k ok hk hki hun hno => by
        refine hfree k ok hk hki ?_ hno
        by_cases hjk : j = k
        · subst hjk; exact hjun
        · rw [getD_set_ne true hjk] at hun; exact hun
      exact gOp_mono (fun G' a' h3 => ih (listed.setIfInBounds j true) G' a' (down_set hd hj) hfree' (ready_mono hr (Ne.symm hji)) h3) h2
/-- the walk in the order of the text -/
def wpGrow (P : Program) (ops : Array Oper) (B : World → Prop) (cs : Nat → Bool) (Q : (World → Prop) → Act → Prop) : List Oper → Nat → (World → Prop) → Act → Prop
  | [], _, G, a => Q G a
  | o :: rest, k, G, a => step P ops B cs k o (wpGrow P ops B cs Q rest (k + 1)) G a
theorem wpAnyG_lex {Q : (World → Prop) → Act → Prop} (hB0 : ∃ w, B w) (hord : ordered md ops cs = true) (hs : Region.noSelect ops = true) : ∀ (l : List Oper) (k : Nat) (listed : Array Bool) (G : World → Prop) (a : Act), Down md ops listed → (∀ j, l[j]? = ops[k + j]?) →
    Region.lexFrom md ops l.length k listed = true → wpGrow P ops B cs Q l k G a → wpAnyG P md ops B cs Q l.length listed G a
  | [], _, _, _, _, _, _, hB, h => ⟨by simpa [Region.lexFrom] using hB, h⟩
  | o :: l, k, listed, G, a, hd, hl, hB, h => by
    have h0 : ops[k]? = some o := by simpa using (hl 0).symm
    simp only [List.length_cons, Region.lexFrom, Bool.and_eq_true] at hB
    obtain ⟨⟨hr, hf⟩, hB'⟩ := hB
    have hr' : k ∈ Region.ready md ops listed := by simpa using hr
    refine wpAnyG_first hB0 hord h0 (Region.noSelect_spec hs) l.length listed G a hd (Region.free_spec h0 hf) hr' ?_
    unfold gOp
    simp only [h0]
    exact step_mono (fun G' a' h2 => wpAnyG_lex hB0 hord hs l (k + 1) _ G' a' (down_set hd hr') (fun j => by have := hl (j + 1); simpa [Nat.add_assoc, Nat.add_comm 1 j] using this) hB' h2) h
theorem down_none (n : Nat) : Down md ops (Array.replicate n false) := by
  intro k o _ hk
  exfalso
  rcases Nat.lt_or_ge k n with h | h
  · simp [h] at hk
  · simp [h] at hk
/-- one walk of the text's order serves every order -/
theorem wp_region_grow {id : Nat} {l : List Oper} {Q : Exit → Act → World → Prop} {a : Act} {w : World} (B G : World → Prop) (cs : Nat → Bool) (hm : P.follows .mixedOrders = true) (hL : Region.lexB .any l.toArray = true) (hord : ordered .any l.toArray cs = true) (hB : B w.drew) (hG : G w.drew)
    (h : wpGrow P l.toArray B cs (fun G' a' => ∀ w', B w' → G' w' → Q .normal a' w') l 0 G a) : (Code.region id l.toArray true).wp P Q a w := by
  simp only [Region.lexB, Bool.and_eq_true] at hL
  refine wp_region_any hm (wpAny_of_grow (B := B) (cs := cs) (Q := fun G' a' => ∀ w', B w' → G' w' → Q .normal a' w') (fun _ _ w' b g h => h w' b g) _ _ G _ _ hB hG ?_)
  have := wpAnyG_lex (P := P) (B := B) (cs := cs) (md := .any) ⟨_, hB⟩ hord hL.1 l 0 (Array.replicate l.toArray.size false) G a (down_none _) (by simp) (by simpa using hL.2) h
  simpa using this
/-- operations that never enter a function -/
def plain : Op → Bool
  | .move _ | .assign _ | .pick .. | .load .. | .binOp .. | .unOp .. | .convert .. | .fieldAddr .. | .field .. | .indexAddr .. | .index .. | .extract .. | .build .. | .slice .. | .makeInterface .. => true
  | _ => false
theorem v_still {s : Sem Value} {C : World → Prop} {w : World} {v : Value} (h : Oper.quietUpon P C w v ((do pure (.value (← s)) : Sem Next).run P w)) : stillUpon w v ((do pure (.value (← s)) : Sem Next).run P w) := by
  rw [Sem.run_bind] at *
  cases hs : s.run P w with
  | ok x w' => rw [hs] at h; simpa [Oper.quietUpon, stillUpon] using h
  | halt x w' => rw [hs] at h; simp [Oper.quietUpon] at h
theorem still_of_quiet {o : Oper} {a : Act} {C : World → Prop} {w : World} {v : Value} (hp : plain o.op = true) (h : o.quietAt P a C w v) : stillUpon w v ((execOp a.eval o).run P w) := by
  unfold Oper.quietAt execOp at *
  cases ho : o.op <;> rw [ho] at hp <;> simp only [plain] at hp <;> first | (cases hp; done) | skip
  all_goals simp only [ho] at h ⊢
  all_goals first
    | exact v_still h
    | (simpa [Oper.quietUpon, stillUpon] using h)
    | (rw [Sem.run_bind] at *; rename_i c x y; cases hs : (asBool (a.eval c)).run P w with
        | ok x w' => rw [hs] at h; simpa [Oper.quietUpon, stillUpon] using h
        | halt x w' => rw [hs] at h; simp [Oper.quietUpon] at h)
/-- the operations ahead of the next call: by the quiet walk -/
def lead (cs : Nat → Bool) : Nat → List Oper → Bool
  | _, [] => true
  | k, o :: l => !(cs k) && plain o.op && lead cs (k + 1) l
theorem wpGrow_lead {Q : (World → Prop) → Act → Prop} {G : World → Prop} : ∀ (l1 l2 : List Oper) (k : Nat) (a : Act), lead cs k l1 = true →
    wpQuiet P ops B (fun a' => wpGrow P ops B cs Q l2 (k + l1.length) G a') l1 a → wpGrow P ops B cs Q (l1 ++ l2) k G a
  | [], l2, k, a, _, h => h
  | o :: l1, l2, k, a, hl, h => by
    simp only [lead, Bool.and_eq_true, Bool.not_eq_true'] at hl
    have e : k + (o :: l1).length = (k + 1) + l1.length := by simp; omega
    rw [e] at h
    show step P ops B cs k o (wpGrow P ops B cs Q (l1 ++ l2) (k + 1)) G a
    unfold step
    unfold wpQuiet at h
    split
    · rename_i hw
      rw [if_pos hw] at h
      rw [if_neg (by rw [hl.1.1]; exact Bool.false_ne_true)]
      obtain ⟨v, h1, h2⟩ := h
      exact ⟨v, fun w hw => still_of_quiet hl.1.2 (h1 w hw), wpGrow_lead l1 l2 (k + 1) _ hl.2 h2⟩
    · rename_i hw
      rw [if_neg hw] at h
      exact wpGrow_lead l1 l2 (k + 1) _ hl.2 h
theorem wpGrow_take {Q : (World → Prop) → Act → Prop} {G : World → Prop} (n : Nat) {l : List Oper} {k : Nat} {a : Act} (hl : lead cs k (l.take n) = true)
    (h : wpQuiet P ops B (fun a' => wpGrow P ops B cs Q (l.drop n) (k + (l.take n).length) G a') (l.take n) a) : wpGrow P ops B cs Q l k G a := by
  have := wpGrow_lead (l.take n) (l.drop n) k a hl h
  rwa [List.take_append_drop] at this
/-- a call: what is known from there on is R alone -/
theorem wpGrow_turn {Q : (World → Prop) → Act → Prop} {G : World → Prop} {o : Oper} {rest : List Oper} {k : Nat} {a : Act} (V : Value → Prop) (R : Value → World → Prop) (hw : Region.wanted o (yielded ops a.tmps) = true) (hc : cs k = true) (hV : ∃ v, V v)
    (h : ∀ w, B w → G w → growAt P o a B (fun v w => V v ∧ R v w) w) (hk : ∀ v a', V v → a' = a.put o.dst v → wpGrow P ops B cs Q rest (k + 1) (R v) a') : wpGrow P ops B cs Q (o :: rest) k G a := by
  show step P ops B cs k o (wpGrow P ops B cs Q rest (k + 1)) G a
  unfold step
  rw [if_pos hw, if_pos hc]
  exact ⟨V, R, hV, h, fun v hv => hk v _ hv rfl⟩
/-- a call: what was known is known still, and R -/
theorem wpGrow_call {Q : (World → Prop) → Act → Prop} {G : World → Prop} {o : Oper} {rest : List Oper} {k : Nat} {a : Act} (V : Value → Prop) (R : Value → World → Prop) (hw : Region.wanted o (yielded ops a.tmps) = true) (hc : cs k = true) (hV : ∃ v, V v)
    (h : ∀ w, B w → G w → growAt P o a B (fun v w => V v ∧ G w ∧ R v w) w) (hk : ∀ v a', V v → a' = a.put o.dst v → wpGrow P ops B cs Q rest (k + 1) (fun w => G w ∧ R v w) a') : wpGrow P ops B cs Q (o :: rest) k G a :=
  wpGrow_turn V (fun v w => G w ∧ R v w) hw hc hV h hk
/-- a call that hands back one value -/
theorem wpGrow_one {Q : (World → Prop) → Act → Prop} {G : World → Prop} {o : Oper} {rest : List Oper} {k : Nat} {a : Act} (v : Value) (hw : Region.wanted o (yielded ops a.tmps) = true) (hc : cs k = true)
    (h : ∀ w, B w → G w → growAt P o a B (fun u w => u = v ∧ G w) w) (hk : ∀ a', a' = a.put o.dst v → wpGrow P ops B cs Q rest (k + 1) G a') : wpGrow P ops B cs Q (o :: rest) k G a := by
  refine wpGrow_turn (fun u => u = v) (fun _ w => G w) hw hc ⟨v, rfl⟩ h (fun u a' hu ha => ?_)
  subst hu
  exact hk a' ha
theorem wpGrow_skip {Q : (World → Prop) → Act → Prop} {G : World → Prop} {o : Oper} {rest : List Oper} {k : Nat} {a : Act} (hw : Region.wanted o (yielded ops a.tmps) = false)
    (hk : ∀ a', a' = a.put o.dst undef → wpGrow P ops B cs Q rest (k + 1) G a') : wpGrow P ops B cs Q (o :: rest) k G a := by
  show step P ops B cs k o (wpGrow P ops B cs Q rest (k + 1)) G a
  unfold step
  rw [if_neg (by rw [hw]; exact Bool.false_ne_true)]
  exact hk _ rfl
theorem wpGrow_nil {Q : (World → Prop) → Act → Prop} {G : World → Prop} {k : Nat} {a : Act} (h : Q G a) : wpGrow P ops B cs Q [] k G a := h
end
/-- the region in the class of the worlds that meet S, named by an index -/
theorem wp_region_growS {P : Program} {id : Nat} {l : List Oper} {Q : Exit → Act → World → Prop} {a : Act} {w : World} (S : World → Prop) (cs : Nat → Bool) (hm : P.follows .mixedOrders = true) (hL : Region.lexB .any l.toArray = true) (hord : ordered .any l.toArray cs = true) (hS : S w.drew)
    (h : ∀ (I : Type) [Nonempty I] (f : I → World), (∀ n, S (f n)) → (∀ w', S w' → ∃ m, w' = f m) →
      wpGrow P l.toArray (fun w' => ∃ n, w' = f n) cs (fun G' a' => ∀ w', (∃ n, w' = f n) → G' w' → Q .normal a' w') l 0 (fun _ => True) a) : (Code.region id l.toArray true).wp P Q a w :=
  wp_region_grow (fun w' => ∃ n : {x : World // S x}, w' = n.1) (fun _ => True) cs hm hL hord ⟨⟨w.drew, hS⟩, rfl⟩ trivial
    (@h {x : World // S x} ⟨⟨w.drew, hS⟩⟩ Subtype.val (fun n => n.2) (fun w' hw' => ⟨⟨w', hw'⟩, rfl⟩))
attribute [go_sem] growAt growUpon
end Go.Grow
end
section
/- Plain lemmas: a region that draws its order, whose calls come one behind the other, whose loads may read what the region itself writes at its end: one walk in the order of the text. Kinds of operations: 0: it yields one value in every world of the wider class A; 1: in every world of B, and what writes waits for it; 2: a call: from B to B; 3: what writes: from B or A to A. -/
namespace Go.Gro2
open Go Go.Grow
set_option linter.unusedVariables false
section
variable {P : Program} {ops : Array Oper} {md : Region.Mode} {A B : World → Prop} {kd : Nat → Nat}
/-- the class of the worlds as far as it has come: nothing written yet, or something -/
def cls (A B : World → Prop) (p : Bool) : World → Prop := if p then A else B
def still? (kd : Nat → Nat) (k : Nat) : Bool := decide (kd k ≤ 1)
def cK (kd : Nat → Nat) (k : Nat) (p : Bool) : Prop := kd k = 0 ∨ p = false
def CK (A B : World → Prop) (kd : Nat → Nat) (k : Nat) : World → Prop := if kd k = 0 then A else B
def dK (kd : Nat → Nat) (k : Nat) (p : Bool) : Prop := kd k ≠ 2 ∨ p = false
def postK (A B : World → Prop) (kd : Nat → Nat) (k : Nat) : World → Prop := if kd k = 2 then B else A
def nxK (kd : Nat → Nat) (k : Nat) : Bool := decide (kd k ≠ 2)
def step (P : Program) (ops : Array Oper) (A B : World → Prop) (kd : Nat → Nat) (k : Nat) (o : Oper) (K : Bool → (World → Prop) → Act → Prop) (p : Bool) (G : World → Prop) (a : Act) : Prop :=
  if Region.wanted o (yielded ops a.tmps) then
    if still? kd k then cK kd k p ∧ ∃ v, stillIn P o a (CK A B kd k) v ∧ K p G (a.put o.dst v)
    else dK kd k p ∧ ∃ (V : Value → Prop) (R : Value → World → Prop), (∃ v, V v) ∧ (∀ w, cls A B p w → G w → growAt P o a (postK A B kd k) (fun v w => V v ∧ R v w) w) ∧ ∀ v, V v → K (nxK kd k) (R v) (a.put o.dst v)
  else K p G (a.put o.dst undef)
def gOp (P : Program) (ops : Array Oper) (A B : World → Prop) (kd : Nat → Nat) (k : Nat) (K : Bool → (World → Prop) → Act → Prop) (p : Bool) (G : World → Prop) (a : Act) : Prop :=
  match ops[k]? with
  | none => K p G a
  | some o => step P ops A B kd k o K p G a
theorem step_mono {k : Nat} {o : Oper} {K K' : Bool → (World → Prop) → Act → Prop} {p : Bool} {G : World → Prop} {a : Act} (h : ∀ p G a, K p G a → K' p G a) (hh : step P ops A B kd k o K p G a) : step P ops A B kd k o K' p G a := by
  unfold step at *
  split
  · rename_i hw
    rw [if_pos hw] at hh
    split
    · rename_i hc
      rw [if_pos hc] at hh
      obtain ⟨c, v, h1, h2⟩ := hh
      exact ⟨c, v, h1, h _ _ _ h2⟩
    · rename_i hc
      rw [if_neg hc] at hh
      obtain ⟨d, V, R, hv, h1, h2⟩ := hh
      exact ⟨d, V, R, hv, h1, fun v hv => h _ _ _ (h2 v hv)⟩
  · rename_i hw
    rw [if_neg hw] at hh
    exact h _ _ _ hh
theorem gOp_mono {k : Nat} {K K' : Bool → (World → Prop) → Act → Prop} {p : Bool} {G : World → Prop} {a : Act} (h : ∀ p G a, K p G a → K' p G a) (hh : gOp P ops A B kd k K p G a) : gOp P ops A B kd k K' p G a := by
  unfold gOp at *
  split
  · rename_i ho; simp only [ho] at hh; exact h _ _ _ hh
  · rename_i o ho; simp only [ho] at hh; exact step_mono h hh
/-- whatever order is picked from here on -/
def wpAnyG (P : Program) (md : Region.Mode) (ops : Array Oper) (A B : World → Prop) (kd : Nat → Nat) (Q : Bool → (World → Prop) → Act → Prop) : Nat → Array Bool → Bool → (World → Prop) → Act → Prop
  | 0, listed, p, G, a => Region.ready md ops listed = [] ∧ Q p G a
  | fuel + 1, listed, p, G, a =>
    (Region.ready md ops listed = [] → Q p G a) ∧
    ∀ i ∈ Region.ready md ops listed, gOp P ops A B kd i (wpAnyG P md ops A B kd Q fuel (listed.setIfInBounds i true)) p G a
theorem cls_A (hAB : ∀ w, B w → A w) {p : Bool} {w : World} (h : cls A B p w) : A w := by
  unfold cls at h; split at h
  · exact h
  · exact hAB _ h
theorem wpOp_of_gOp (hAB : ∀ w, B w → A w) {i : Nat} {a : Act} {p : Bool} {G : World → Prop} {K : Bool → (World → Prop) → Act → Prop} {K' : Act → World → Prop} {Q' : Exit → Act → World → Prop} {w : World} (hB : cls A B p w) (hG : G w)
    (h : ∀ p G a w', cls A B p w' → G w' → K p G a → K' a w') (hh : gOp P ops A B kd i K p G a) : wpOp P ops Q' i K' a w := by
  unfold gOp at hh
  unfold wpOp
  split
  · rename_i ho; simp only [ho] at hh; exact h _ _ _ _ hB hG hh
  · rename_i o ho
    simp only [ho] at hh
    unfold step at hh
    split
    · rename_i hw
      rw [if_pos hw] at hh
      left
      split at hh
      · obtain ⟨c, v, h1, h2⟩ := hh
        refine wp_of_still (B := CK A B kd i) ?_ h1 (h _ _ _ _ hB hG h2)
        unfold CK
        split
        · exact cls_A hAB hB
        · rename_i h0
          rcases c with c | c
          · exact absurd c h0
          · subst c; exact hB
      · obtain ⟨d, V, R, _, h1, h2⟩ := hh
        refine wp_of_grow (h1 w hB hG) fun v w' b1 b3 => h _ _ _ _ ?_ b3.2 (h2 v b3.1)
        unfold postK at b1
        unfold nxK cls
        split at b1 <;> rename_i hk <;> simp [hk] <;> exact b1
    · rename_i hw
      rw [if_neg hw] at hh
      exact h _ _ _ _ hB hG hh
theorem wpAny_of_grow (hAB : ∀ w, B w → A w) {Q : Bool → (World → Prop) → Act → Prop} {Q' : Exit → Act → World → Prop} (hQ : ∀ p G a w, cls A B p w → G w → Q p G a → Q' .normal a w) : ∀ (fuel : Nat) (listed : Array Bool) (p : Bool) (G : World → Prop) (a : Act) (w : World), cls A B p w → G w →
    wpAnyG P md ops A B kd Q fuel listed p G a → wpAny P md ops Q' fuel listed a w
  | 0, _, _, _, _, _, hB, hG, h => ⟨h.1, hQ _ _ _ _ hB hG h.2⟩
  | fuel + 1, _, _, _, _, _, hB, hG, h => ⟨fun h0 => hQ _ _ _ _ hB hG (h.1 h0), fun i hi => wpOp_of_gOp hAB hB hG (fun p' G' a' w' b g => wpAny_of_grow hAB hQ fuel _ p' G' a' w' b g) (h.2 i hi)⟩
/-- what may not change places -/
def cf (a b : Nat) : Bool := (decide (2 ≤ a) && decide (2 ≤ b)) || (decide (3 ≤ a) && decide (b = 1)) || (decide (a = 1) && decide (3 ≤ b))
theorem step_comm (hAB : ∀ w, B w → A w) {i j : Nat} {oi oj : Oper} (hB : ∃ w, B w) (hap : oi.apart ops oj = true) (hsi : ∀ c b, oi.op ≠ .select c b) (hsj : ∀ c b, oj.op ≠ .select c b) (hcs : ¬ cf (kd i) (kd j) = true)
    {K : Bool → (World → Prop) → Act → Prop} {p : Bool} {G : World → Prop} {a : Act} (h : step P ops A B kd i oi (fun p G a => step P ops A B kd j oj K p G a) p G a) : step P ops A B kd j oj (fun p G a => step P ops A B kd i oi K p G a) p G a := by
  obtain ⟨h1, h2, h3⟩ := Oper.apart_spec hap
  have hC : ∀ k, ∃ w, CK A B kd k w := fun k => by
    obtain ⟨w, hw⟩ := hB
    refine ⟨w, ?_⟩
    unfold CK; split
    · exact hAB _ hw
    · exact hw
  have wi : ∀ (a : Act) (u : Value), Region.wanted oi (yielded ops (a.put oj.dst u).tmps) = Region.wanted oi (yielded ops a.tmps) := fun a u => wanted_put oi a oj.dst u h3
  have wj : ∀ (a : Act) (u : Value), Region.wanted oj (yielded ops (a.put oi.dst u).tmps) = Region.wanted oj (yielded ops a.tmps) := fun a u => wanted_put oj a oi.dst u h1
  have cm : ∀ (a : Act) (v u : Value), (a.put oi.dst v).put oj.dst u = (a.put oj.dst u).put oi.dst v := fun a v u => Act.put_comm a v u h2
  unfold step at *
  simp only [wi, wj] at *
  by_cases hwi : Region.wanted oi (yielded ops a.tmps) = true
  · rw [if_pos hwi] at h
    by_cases hwj : Region.wanted oj (yielded ops a.tmps) = true
    · simp only [hwi, hwj, if_true] at *
      by_cases hci : still? kd i = true
      · have hci0 : still? kd i = true := hci
        rw [if_pos hci] at h
        obtain ⟨ci, v, hv, hk⟩ := h
        split at hk
        · rename_i hcj
          rw [if_pos hcj]
          obtain ⟨cj, u, hu, hk⟩ := hk
          exact ⟨cj, u, (still_put hsj h1).1 hu, by rw [if_pos hci0]; exact ⟨ci, v, (still_put hsi h3).2 hv, by rw [← cm]; exact hk⟩⟩
        · rename_i hcj
          rw [if_neg hcj]
          obtain ⟨dj, V, R, hV, hr, hk⟩ := hk
          have cn : cK kd i (nxK kd j) := by
            unfold cK at ci ⊢
            rcases ci with ci | ci
            · exact Or.inl ci
            · unfold still? at hci hcj
              simp only [decide_eq_true_eq] at hci hcj
              unfold cf at hcs
              unfold nxK
              simp at hcs
              by_cases h0 : kd i = 0
              · exact Or.inl h0
              · right
                simp
                have : kd i = 1 := by omega
                have := hcs.2 this
                omega
          exact ⟨dj, V, R, hV, fun w b g => (grow_put hsj h1).1 (hr w b g), fun u hu => by rw [if_pos hci0]; exact ⟨cn, v, (still_put hsi h3).2 hv, by rw [← cm]; exact hk u hu⟩⟩
      · have hci2 : ¬ still? kd i = true := hci
        rw [if_neg hci2] at h
        obtain ⟨di, V, R, ⟨v0, hv0⟩, hr, hk⟩ := h
        by_cases hcj : still? kd j = true
        · simp only [hcj, if_true] at *
          obtain ⟨cj, u, hu, _⟩ := hk v0 hv0
          rw [still_put hsj h1] at hu
          have cp : cK kd j p := by
            unfold cK at cj ⊢
            rcases cj with cj | cj
            · exact Or.inl cj
            · unfold nxK at cj
              simp at cj
              rcases di with di | di
              · exact absurd cj di
              · exact Or.inr di
          refine ⟨cp, u, hu, ?_⟩
          rw [if_neg hci2]
          refine ⟨di, V, R, ⟨v0, hv0⟩, fun w b g => (grow_put hsi h3).2 (hr w b g), fun v hv => ?_⟩
          obtain ⟨_, u', hu', hk'⟩ := hk v hv
          rw [still_put hsj h1] at hu'
          obtain ⟨w0, hw0⟩ := hC j
          have e : u' = u := stillUpon_one (hu' w0 hw0) (hu w0 hw0)
          rw [← cm, ← e]; exact hk'
        · exfalso
          apply hcs
          unfold still? at hci2 hcj
          simp only [decide_eq_true_eq] at hci2 hcj
          unfold cf
          simp
          omega
    · simp only [hwi, hwj, if_true, Bool.false_eq_true, if_false] at *
      split at h
      · rename_i hci
        rw [if_pos hci]
        obtain ⟨c, v, hv, hk⟩ := h
        exact ⟨c, v, (still_put hsi h3).2 hv, by rw [← cm]; exact hk⟩
      · rename_i hci
        rw [if_neg hci]
        obtain ⟨d, V, R, hV, hr, hk⟩ := h
        exact ⟨d, V, R, hV, fun w b g => (grow_put hsi h3).2 (hr w b g), fun v hv => by rw [← cm]; exact hk v hv⟩
  · rw [if_neg hwi] at h
    by_cases hwj : Region.wanted oj (yielded ops a.tmps) = true
    · simp only [hwi, hwj, if_true, Bool.false_eq_true, if_false] at *
      split at h
      · rename_i hcj
        rw [if_pos hcj]
        obtain ⟨c, u, hu, hk⟩ := h
        exact ⟨c, u, (still_put hsj h1).1 hu, by rw [← cm]; exact hk⟩
      · rename_i hcj
        rw [if_neg hcj]
        obtain ⟨d, V, R, hV, hr, hk⟩ := h
        exact ⟨d, V, R, hV, fun w b g => (grow_put hsj h1).1 (hr w b g), fun u hu => by rw [← cm]; exact hk u hu⟩
    · simp only [hwi, hwj, Bool.false_eq_true, if_false] at *
      rw [← cm]; exact h
/-- of two that may not change places one waits for the other -/
def ordered (md : Region.Mode) (ops : Array Oper) (kd : Nat → Nat) : Bool :=
  let t := table md ops.toList #[]
  let l := (List.range ops.size).filter fun i => decide (1 ≤ kd i)
  l.all fun i => l.all fun j => i == j || !(cf (kd i) (kd j)) || (t.getD j 0).testBit i || (t.getD i 0).testBit j
theorem ordered_spec (h : ordered md ops kd = true) {i j : Nat} (li : i < ops.size) (lj : j < ops.size) (hc : cf (kd i) (kd j) = true) : i = j ∨ Waits md ops j i ∨ Waits md ops i j := by
  have hk : 1 ≤ kd i ∧ 1 ≤ kd j := by
    unfold cf at hc; simp at hc; omega
  have hi : i ∈ (List.range ops.size).filter fun i => decide (1 ≤ kd i) := List.mem_filter.2 ⟨List.mem_range.2 li, by simpa using hk.1⟩
  have hj : j ∈ (List.range ops.size).filter fun i => decide (1 ≤ kd i) := List.mem_filter.2 ⟨List.mem_range.2 lj, by simpa using hk.2⟩
  have h2 := List.all_eq_true.1 (List.all_eq_true.1 h i hi) j hj
  simp only [Bool.or_eq_true, beq_iff_eq, hc, Bool.not_true, Bool.false_eq_true, or_false] at h2
  have ht := table_waits (md := md) (ops := ops) ops.toList #[] (by simp) (by intro k i hk; simp at hk)
  rcases h2 with (h2 | h2) | h2
  · exact Or.inl h2
  · exact Or.inr (Or.inl (ht _ _ h2))
  · exact Or.inr (Or.inr (ht _ _ h2))
theorem not_both {listed : Array Bool} (hd : Down md ops listed) (ho : ordered md ops kd = true) {i j : Nat} (hi : i ∈ Region.ready md ops listed) (hj : j ∈ Region.ready md ops listed) (hne : j ≠ i) : ¬ cf (kd i) (kd j) = true := by
  intro hc
  have li : i < ops.size := by obtain ⟨_, o, h, _⟩ := mem_ready.1 hi; exact (Array.getElem?_eq_some_iff.1 h).1
  have lj : j < ops.size := by obtain ⟨_, o, h, _⟩ := mem_ready.1 hj; exact (Array.getElem?_eq_some_iff.1 h).1
  rcases ordered_spec ho li lj hc with h | h | h
  · exact hne h.symm
  · exact ready_unlisted hi (waits_ready hd hj h)
  · exact ready_unlisted hj (waits_ready hd hi h)
theorem wpAnyG_first (hAB : ∀ w, B w → A w) {Q : Bool → (World → Prop) → Act → Prop} {i : Nat} {oi : Oper} (hB : ∃ w, B w) (hord : ordered md ops kd = true) (hi : ops[i]? = some oi) (hsel : ∀ (j : Nat) (o : Oper) c b, ops[j]? = some o → o.op ≠ .select c b) :
    ∀ (fuel : Nat) (listed : Array Bool) (p : Bool) (G : World → Prop) (a : Act), Down md ops listed →
      (∀ j oj, ops[j]? = some oj → j ≠ i → listed.getD j true = false → (∀ e ∈ oj.after, Region.binds md e = true → e.on ≠ i) → oi.apart ops oj = true) →
      i ∈ Region.ready md ops listed →
      gOp P ops A B kd i (wpAnyG P md ops A B kd Q fuel (listed.setIfInBounds i true)) p G a → wpAnyG P md ops A B kd Q (fuel + 1) listed p G a := by
  intro fuel
  induction fuel with
  | zero =>
    intro listed p G a hd hfree hr H
    refine ⟨fun h => (by rw [h] at hr; cases hr), fun j hj => ?_⟩
    by_cases hji : j = i
    · subst hji; exact H
    · exfalso
      have key : ∀ p' G' a', wpAnyG P md ops A B kd Q 0 (listed.setIfInBounds i true) p' G' a' → False := fun p' G' a' h => by
        have := ready_mono hj hji
        rw [h.1] at this
        cases this
      have H2 := gOp_mono (K' := fun _ _ _ => False) (fun p' G' a' h => key p' G' a' h) H
      unfold gOp at H2
      simp only [hi] at H2
      unfold step at H2
      split at H2
      · split at H2
        · obtain ⟨_, v, _, h2⟩ := H2; exact h2
        · obtain ⟨_, V, R, ⟨v0, hv0⟩, _, h2⟩ := H2; exact h2 v0 hv0
      · exact H2
  | succ fuel ih =>
    intro listed p G a hd hfree hr H
    refine ⟨fun h => (by rw [h] at hr; cases hr), fun j hj => ?_⟩
    by_cases hji : j = i
    · subst hji; exact H
    · obtain ⟨hjun, oj, hoj, hall⟩ := mem_ready.1 hj
      have hnot : ∀ e ∈ oj.after, Region.binds md e = true → e.on ≠ i := fun e he hb heq =>
        ready_unlisted hr (by rw [← heq]; exact hall e he hb)
      have hap := hfree j oj hoj hji hjun hnot
      have h1 : gOp P ops A B kd i (fun p G a => gOp P ops A B kd j (wpAnyG P md ops A B kd Q fuel ((listed.setIfInBounds i true).setIfInBounds j true)) p G a) p G a :=
        gOp_mono (fun p' G' a' h => h.2 j (ready_mono hj hji)) H
      have h2 : gOp P ops A B kd j (fun p G a => gOp P ops A B kd i (wpAnyG P md ops A B kd Q fuel ((listed.setIfInBounds j true).setIfInBounds i true)) p G a) p G a := by
        rw [Array.setIfInBounds_comm _ _ hji]
        unfold gOp at h1 ⊢
        simp only [hi, hoj] at h1 ⊢
        exact step_comm hAB hB hap (fun c b => hsel i oi c b hi) (fun c b => hsel j oj c b hoj) (not_both hd hord hr hj hji) h1
      have hfree' : ∀ k ok, ops[k]? = some ok → k ≠ i → (listed.setIfInBounds j true).getD k true = false →
          (∀ e ∈ ok.after, Region.binds md e = true → e.on ≠ i) → oi.apart ops ok = true := fun k ok hk hki hun hno => by
        refine hfree k ok hk hki ?_ hno
        by_cases hjk : j = k
        · subst hjk; exact hjun
        · rw [getD_set_ne true hjk] at hun; exact hun
      exact gOp_mono (fun p' G' a' h3 => ih (listed.setIfInBounds j true) p' G' a' (down_set hd hj) hfree' (ready_mono hr (Ne.symm hji)) h3) h2
/-- the walk in the order of the text -/
def wpGrow (P : Program) (ops : Array Oper) (A B : World → Prop) (kd : Nat → Nat) (Q : Bool → (World → Prop) → Act → Prop) : List Oper → Nat → Bool → (World → Prop) → Act → Prop
  | [], _, p, G, a => Q p G a
  | o :: rest, k, p, G, a => step P ops A B kd k o (wpGrow P ops A B kd Q rest (k + 1)) p G a
theorem wpAnyG_lex (hAB : ∀ w, B w → A w) {Q : Bool → (World → Prop) → Act → Prop} (hB0 : ∃ w, B w) (hord : ordered md ops kd = true) (hs : Region.noSelect ops = true) : ∀ (l : List Oper) (k : Nat) (listed : Array Bool) (p : Bool) (G : World → Prop) (a : Act), Down md ops listed → (∀ j, l[j]? = ops[k + j]?) →
    Region.lexFrom md ops l.length k listed = true → wpGrow P ops A B kd Q l k p G a → wpAnyG P md ops A B kd Q l.length listed p G a
  | [], _, _, _, _, _, _, _, hB, h => ⟨by simpa [Region.lexFrom] using hB, h⟩
  | o :: l, k, listed, p, G, a, hd, hl, hB, h => by
    have h0 : ops[k]? = some o := by simpa using (hl 0).symm
    simp only [List.length_cons, Region.lexFrom, Bool.and_eq_true] at hB
    obtain ⟨⟨hr, hf⟩, hB'⟩ := hB
    have hr' : k ∈ Region.ready md ops listed := by simpa using hr
    refine wpAnyG_first hAB hB0 hord h0 (Region.noSelect_spec hs) l.length listed p G a hd (Region.free_spec h0 hf) hr' ?_
    unfold gOp
    simp only [h0]
    exact step_mono (fun p' G' a' h2 => wpAnyG_lex hAB hB0 hord hs l (k + 1) _ p' G' a' (down_set hd hr') (fun j => by have := hl (j + 1); simpa [Nat.add_assoc, Nat.add_comm 1 j] using this) hB' h2) h
/-- one walk of the text's order serves every order -/
theorem wp_region_gro2 {id : Nat} {l : List Oper} {Q : Exit → Act → World → Prop} {a : Act} {w : World} (A B : World → Prop) (kl : List Nat) (hm : P.follows .mixedOrders = true) (hL : Region.lexB .any l.toArray = true) (hord : ordered .any l.toArray (fun k => kl.getD k 0) = true) (hAB : ∀ w, B w → A w) (hB : B w.drew)
    (h : wpGrow P l.toArray A B (fun k => kl.getD k 0) (fun p' G' a' => ∀ w', cls A B p' w' → G' w' → Q .normal a' w') l 0 false (fun _ => True) a) : (Code.region id l.toArray true).wp P Q a w := by
  simp only [Region.lexB, Bool.and_eq_true] at hL
  refine wp_region_any hm (wpAny_of_grow (A := A) (B := B) (kd := fun k => kl.getD k 0) hAB (Q := fun p' G' a' => ∀ w', cls A B p' w' → G' w' → Q .normal a' w') (fun _ _ _ w' b g h => h w' b g) _ _ false (fun _ => True) _ _ hB trivial ?_)
  have := wpAnyG_lex (P := P) (A := A) (B := B) (kd := fun k => kl.getD k 0) (md := .any) hAB ⟨_, hB⟩ hord hL.1 l 0 (Array.replicate l.toArray.size false) false (fun _ => True) a (down_none _) (by simp) (by simpa using hL.2) h
  simpa using this
/-- the operations ahead: of kind 0 (cl = A) or 1 (cl = B) all of them -/
def lead (kd : Nat → Nat) (c : Nat) : Nat → List Oper → Bool
  | _, [] => true
  | k, o :: l => decide (kd k = c) && plain o.op && lead kd c (k + 1) l
theorem wpGrow_lead0 {Q : Bool → (World → Prop) → Act → Prop} {p : Bool} {G : World → Prop} : ∀ (l1 l2 : List Oper) (k : Nat) (a : Act), lead kd 0 k l1 = true →
    wpQuiet P ops A (fun a' => wpGrow P ops A B kd Q l2 (k + l1.length) p G a') l1 a → wpGrow P ops A B kd Q (l1 ++ l2) k p G a
  | [], l2, k, a, _, h => h
  | o :: l1, l2, k, a, hl, h => by
    simp only [lead, Bool.and_eq_true, decide_eq_true_eq] at hl
    have e : k + (o :: l1).length = (k + 1) + l1.length := by simp; omega
    rw [e] at h
    show step P ops A B kd k o (wpGrow P ops A B kd Q (l1 ++ l2) (k + 1)) p G a
    unfold step
    unfold wpQuiet at h
    split
    · rename_i hw
      rw [if_pos hw] at h
      rw [if_pos (by unfold still?; simp [hl.1.1])]
      obtain ⟨v, h1, h2⟩ := h
      refine ⟨Or.inl hl.1.1, v, fun w hw => ?_, wpGrow_lead0 l1 l2 (k + 1) _ hl.2 h2⟩
      unfold CK at hw; rw [if_pos hl.1.1] at hw
      exact still_of_quiet hl.1.2 (h1 w hw)
    · rename_i hw
      rw [if_neg hw] at h
      exact wpGrow_lead0 l1 l2 (k + 1) _ hl.2 h
theorem wpGrow_lead1 {Q : Bool → (World → Prop) → Act → Prop} {G : World → Prop} : ∀ (l1 l2 : List Oper) (k : Nat) (a : Act), lead kd 1 k l1 = true →
    wpQuiet P ops B (fun a' => wpGrow P ops A B kd Q l2 (k + l1.length) false G a') l1 a → wpGrow P ops A B kd Q (l1 ++ l2) k false G a
  | [], l2, k, a, _, h => h
  | o :: l1, l2, k, a, hl, h => by
    simp only [lead, Bool.and_eq_true, decide_eq_true_eq] at hl
    have e : k + (o :: l1).length = (k + 1) + l1.length := by simp; omega
    rw [e] at h
    show step P ops A B kd k o (wpGrow P ops A B kd Q (l1 ++ l2) (k + 1)) false G a
    unfold step
    unfold wpQuiet at h
    split
    · rename_i hw
      rw [if_pos hw] at h
      rw [if_pos (by unfold still?; simp [hl.1.1])]
      obtain ⟨v, h1, h2⟩ := h
      refine ⟨Or.inr rfl, v, fun w hw => ?_, wpGrow_lead1 l1 l2 (k + 1) _ hl.2 h2⟩
      unfold CK at hw; rw [if_neg (by omega)] at hw
      exact still_of_quiet hl.1.2 (h1 w hw)
    · rename_i hw
      rw [if_neg hw] at h
      exact wpGrow_lead1 l1 l2 (k + 1) _ hl.2 h
theorem take0 {Q : Bool → (World → Prop) → Act → Prop} {p : Bool} {G : World → Prop} (n : Nat) {l : List Oper} {k : Nat} {a : Act} (hl : lead kd 0 k (l.take n) = true)
    (h : wpQuiet P ops A (fun a' => wpGrow P ops A B kd Q (l.drop n) (k + (l.take n).length) p G a') (l.take n) a) : wpGrow P ops A B kd Q l k p G a := by
  have := wpGrow_lead0 (l.take n) (l.drop n) k a hl h
  rwa [List.take_append_drop] at this
theorem take1 {Q : Bool → (World → Prop) → Act → Prop} {G : World → Prop} (n : Nat) {l : List Oper} {k : Nat} {a : Act} (hl : lead kd 1 k (l.take n) = true)
    (h : wpQuiet P ops B (fun a' => wpGrow P ops A B kd Q (l.drop n) (k + (l.take n).length) false G a') (l.take n) a) : wpGrow P ops A B kd Q l k false G a := by
  have := wpGrow_lead1 (l.take n) (l.drop n) k a hl h
  rwa [List.take_append_drop] at this
/-- a nil check of a pointer that points somewhere -/
theorem check {Q : Bool → (World → Prop) → Act → Prop} {p : Bool} {G : World → Prop} {o : Oper} {rest : List Oper} {k : Nat} {a : Act} (x : Operand) (q : Addr) (hop : o.op = .nilCheck x) (hw : Region.wanted o (yielded ops a.tmps) = true) (hc : kd k = 0) (he : a.eval x = .pointer (some q))
    (hk : ∀ a', a' = a.put o.dst (.pointer (some q)) → wpGrow P ops A B kd Q rest (k + 1) p G a') : wpGrow P ops A B kd Q (o :: rest) k p G a := by
  show step P ops A B kd k o (wpGrow P ops A B kd Q rest (k + 1)) p G a
  unfold step
  rw [if_pos hw, if_pos (by unfold still?; simp [hc])]
  refine ⟨Or.inl hc, .pointer (some q), fun w _ => ?_, hk _ rfl⟩
  unfold execOp
  simp only [hop, he]
  exact ⟨rfl, rfl⟩
/-- a call: what was known is known still, and R -/
theorem call {Q : Bool → (World → Prop) → Act → Prop} {G : World → Prop} {o : Oper} {rest : List Oper} {k : Nat} {a : Act} (V : Value → Prop) (R : Value → World → Prop) (hw : Region.wanted o (yielded ops a.tmps) = true) (hc : kd k = 2) (hV : ∃ v, V v)
    (h : ∀ w, B w → G w → growAt P o a B (fun v w => V v ∧ G w ∧ R v w) w) (hk : ∀ v a', V v → a' = a.put o.dst v → wpGrow P ops A B kd Q rest (k + 1) false (fun w => G w ∧ R v w) a') : wpGrow P ops A B kd Q (o :: rest) k false G a := by
  show step P ops A B kd k o (wpGrow P ops A B kd Q rest (k + 1)) false G a
  unfold step
  rw [if_pos hw, if_neg (by unfold still?; simp [hc])]
  refine ⟨Or.inr rfl, V, fun v w => G w ∧ R v w, hV, ?_, fun v hv => ?_⟩
  · unfold postK; rw [if_pos hc]; exact h
  · have : nxK kd k = false := by unfold nxK; simp [hc]
    rw [this]; exact hk v _ hv rfl
/-- a call: what is known from there on is R alone -/
theorem callt {Q : Bool → (World → Prop) → Act → Prop} {G : World → Prop} {o : Oper} {rest : List Oper} {k : Nat} {a : Act} (V : Value → Prop) (R : Value → World → Prop) (hw : Region.wanted o (yielded ops a.tmps) = true) (hc : kd k = 2) (hV : ∃ v, V v)
    (h : ∀ w, B w → G w → growAt P o a B (fun v w => V v ∧ R v w) w) (hk : ∀ v a', V v → a' = a.put o.dst v → wpGrow P ops A B kd Q rest (k + 1) false (R v) a') : wpGrow P ops A B kd Q (o :: rest) k false G a := by
  show step P ops A B kd k o (wpGrow P ops A B kd Q rest (k + 1)) false G a
  unfold step
  rw [if_pos hw, if_neg (by unfold still?; simp [hc])]
  refine ⟨Or.inr rfl, V, R, hV, ?_, fun v hv => ?_⟩
  · unfold postK; rw [if_pos hc]; exact h
  · have : nxK kd k = false := by unfold nxK; simp [hc]
    rw [this]; exact hk v _ hv rfl
/-- what writes: what is known from there on is R alone -/
theorem turn {Q : Bool → (World → Prop) → Act → Prop} {p : Bool} {G : World → Prop} {o : Oper} {rest : List Oper} {k : Nat} {a : Act} (V : Value → Prop) (R : Value → World → Prop) (hw : Region.wanted o (yielded ops a.tmps) = true) (hc : kd k = 3) (hV : ∃ v, V v)
    (h : ∀ w, cls A B p w → G w → growAt P o a A (fun v w => V v ∧ R v w) w) (hk : ∀ v a', V v → a' = a.put o.dst v → wpGrow P ops A B kd Q rest (k + 1) true (R v) a') : wpGrow P ops A B kd Q (o :: rest) k p G a := by
  show step P ops A B kd k o (wpGrow P ops A B kd Q rest (k + 1)) p G a
  unfold step
  rw [if_pos hw, if_neg (by unfold still?; simp [hc])]
  refine ⟨Or.inl (by omega), V, R, hV, ?_, fun v hv => ?_⟩
  · unfold postK; rw [if_neg (by omega)]; exact h
  · have : nxK kd k = true := by unfold nxK; simp [hc]
    rw [this]; exact hk v _ hv rfl
theorem skip {Q : Bool → (World → Prop) → Act → Prop} {p : Bool} {G : World → Prop} {o : Oper} {rest : List Oper} {k : Nat} {a : Act} (hw : Region.wanted o (yielded ops a.tmps) = false)
    (hk : ∀ a', a' = a.put o.dst undef → wpGrow P ops A B kd Q rest (k + 1) p G a') : wpGrow P ops A B kd Q (o :: rest) k p G a := by
  show step P ops A B kd k o (wpGrow P ops A B kd Q rest (k + 1)) p G a
  unfold step
  rw [if_neg (by rw [hw]; exact Bool.false_ne_true)]
  exact hk _ rfl
theorem nil {Q : Bool → (World → Prop) → Act → Prop} {p : Bool} {G : World → Prop} {k : Nat} {a : Act} (h : Q p G a) : wpGrow P ops A B kd Q [] k p G a := h
end
/-- the region in the classes of the worlds that meet SA and SB, named by an index each -/
theorem wp_region_gro2S {P : Program} {id : Nat} {l : List Oper} {Q : Exit → Act → World → Prop} {a : Act} {w : World} (SA SB : World → Prop) (kl : List Nat) (hm : P.follows .mixedOrders = true) (hL : Region.lexB .any l.toArray = true) (hord : ordered .any l.toArray (fun k => kl.getD k 0) = true) (hAB : ∀ w, SB w → SA w) (hS : SB w.drew)
    (h : ∀ (I J : Type) [Nonempty I] [Nonempty J] (f : I → World) (g : J → World), (∀ n, SA (f n)) → (∀ w', SA w' → ∃ m, w' = f m) → (∀ n, SB (g n)) → (∀ w', SB w' → ∃ m, w' = g m) →
      wpGrow P l.toArray (fun w' => ∃ n, w' = f n) (fun w' => ∃ n, w' = g n) (fun k => kl.getD k 0) (fun p' G' a' => ∀ w', cls (fun w' => ∃ n, w' = f n) (fun w' => ∃ n, w' = g n) p' w' → G' w' → Q .normal a' w') l 0 false (fun _ => True) a) : (Code.region id l.toArray true).wp P Q a w :=
  wp_region_gro2 (fun w' => ∃ n : {x : World // SA x}, w' = n.1) (fun w' => ∃ n : {x : World // SB x}, w' = n.1) kl hm hL hord (fun w ⟨n, e⟩ => ⟨⟨w, hAB _ (e ▸ n.2)⟩, rfl⟩) ⟨⟨w.drew, hS⟩, rfl⟩
    (@h {x : World // SA x} {x : World // SB x} ⟨⟨w.drew, hAB _ hS⟩⟩ ⟨⟨w.drew, hS⟩⟩ Subtype.val Subtype.val (fun n => n.2) (fun w' hw' => ⟨⟨w', hw'⟩, rfl⟩) (fun n => n.2) (fun w' hw' => ⟨⟨w', hw'⟩, rfl⟩))
end Go.Gro2
end
section
/- Contracts of layer 28: the document's step; apply. -/
namespace Go.Bv
open Go Go.RowKit
theorem two_blocksD (w : World) (A B : Obj) : ((w.alloc A).alloc B).heap[w.heap.size]? = some A ∧ ((w.alloc A).alloc B).heap[w.heap.size + 1]? = some B ∧ New w ((w.alloc A).alloc B) := by
  have e1 : (w.alloc A).heap.size = w.heap.size + 1 := by simp
  refine ⟨?_, ?_, ((New.refl w).alloc _).alloc _⟩
  · rw [((New.refl (w.alloc A)).alloc B).block _ (by rw [e1]; omega)]; exact heap_alloc_new _ _
  · rw [← e1]; exact heap_alloc_new _ _
/-- a byte into a number -/
def byt28 (x : BitVec 64) (b : BitVec 8) : BitVec 64 := x * 257#64 + b.setWidth 64 + 1#64
/-- one block more -/
def stp28 (s : BitVec 64 × Int) (l : List (BitVec 8)) : BitVec 64 × Int := (l.foldl byt28 s.1, wrap64 (s.2 + 1))
theorem fold_take (x : BitVec 64) (l : List (BitVec 8)) (k : Nat) (h : k < l.length) : (l.take (k + 1)).foldl byt28 x = byt28 ((l.take k).foldl byt28 x) (l.getD k 0) := by
  rw [List.take_succ_eq_append_getElem h, List.foldl_append]
  simp [List.getD_eq_getElem?_getD, List.getElem?_eq_getElem h]
end Go.Bv
namespace Go.Proofs.YtoplabhoedloeaaGreat
open Go.RowKit Go.Bv
set_option linter.unusedVariables false
end Go.Proofs.YtoplabhoedloeaaGreat
end
section
/- Contract of layer 28: pass. -/
namespace Go.Bv
open Go Go.RowKit
theorem put_28 {w : World} {q : Nat} {u0 u1 : Value} {T : TypeId} (v0 v1 : Value) (h : w.heap[q]? = some (.cells #[u0, u1] T (0, 0))) :
    ((((w).setCell ⟨q, 0, none⟩ (v0))).setCell ⟨q, 1, none⟩ (v1)).heap[q]? = some (.cells #[v0, v1] T (0, 0)) ∧ (∀ j, j ≠ q → ((((w).setCell ⟨q, 0, none⟩ (v0))).setCell ⟨q, 1, none⟩ (v1)).heap[j]? = w.heap[j]?) ∧ (∀ W : World, New W w → W.heap.size ≤ q → New W ((((w).setCell ⟨q, 0, none⟩ (v0))).setCell ⟨q, 1, none⟩ (v1))) := by
  refine ⟨?_, fun j hj => ?_, fun W hn hq => ?_⟩
  · have h0 := heap_setCell_same w q 0 _ _ v0 h
    have h1 := heap_setCell_same _ q 1 _ _ v1 h0
    exact h1
  · rw [heap_setCell_other _ _ _ _ hj, heap_setCell_other _ _ _ _ hj]
  · exact (hn.setCell (by exact hq) _).setCell (by exact hq) _
end Go.Bv
namespace Go.Proofs.YtoplabhoedloeaaGreat
open Go.RowKit Go.Bv
set_option linter.unusedVariables false
end Go.Proofs.YtoplabhoedloeaaGreat
end
