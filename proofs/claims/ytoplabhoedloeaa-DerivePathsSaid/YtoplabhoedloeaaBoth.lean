/- Contracts of the document's own Both and Same: for all bytes. -/
import Derived.Test.YtoplabhoedloeaaPutA
import Derived.Laws.AppendOwnNone
namespace Go.Proofs.Ytoplabhoedloeaa
open Go.RowKit Go.Bv
set_option linter.unusedVariables false
/-- bytes as a string -/
def bstr (l : List (BitVec 8)) : ByteArray := strOfNums (l.map W8)
theorem bstr_size (l : List (BitVec 8)) : (bstr l).size = l.length := by unfold bstr; rw [strOfNums_size, List.length_map]
theorem u8_of (x : BitVec 8) : UInt8.ofNat (W8 x).toNat = ⟨x⟩ := by
  rw [toNat_W8]; unfold N8; apply UInt8.toNat_inj.1
  have := x.isLt
  simp
theorem bstr_toList (l : List (BitVec 8)) : (bstr l).data.toList = l.map fun x => (⟨x⟩ : UInt8) := by
  unfold bstr; rw [strOfNums_data, List.map_map]; exact List.map_congr_left (fun x _ => u8_of x)
theorem bstr_inj {a b : List (BitVec 8)} (h : (bstr a).data.toList = (bstr b).data.toList) : a = b := by
  rw [bstr_toList, bstr_toList] at h
  have := congrArg (List.map UInt8.toBitVec) h
  simpa [List.map_map, Function.comp_def] using this
/-- the conversion of a slice of bytes into a string -/
theorem conv_row {w : World} {a : Option Addr} {len cap : Nat} {l : List (BitVec 8)} (h : BRow w a len cap l) :
    (convert 46 9 (.slice a len cap)).run Try.prog w = .ok (.string (bstr l)) w := by
  cases a with
  | none =>
    have h0 := (h.none rfl).1
    have hl : l = [] := List.eq_nil_of_length_eq_zero (by rw [h.len_eq, h0])
    rw [run_convert_bytes_nil (P := Try.prog) w 46 5 Try.underlying46 Try.underlying5 len cap 9 Try.underlying9, hl]; rfl
  | some x =>
    obtain ⟨b, off, sp⟩ := x
    by_cases h0 : 0 < len
    · obtain rfl : sp = Option.none := h.spot _ rfl h0
      exact run_convert_bytes_arg (P := Try.prog) w 46 5 Try.underlying46 Try.underlying5 b off len cap (l.map W8) (by rw [List.length_map, h.len_eq])
        (fun i hi => by
          rw [h.cell b off rfl i hi]
          have hl : i < l.length := by rw [h.len_eq]; exact hi
          rw [List.getD_eq_getElem?_getD, List.getD_eq_getElem?_getD, List.getElem?_map, List.getElem?_eq_getElem hl]; rfl) 9 Try.underlying9
    · obtain rfl : len = 0 := by omega
      have hl : l = [] := List.eq_nil_of_length_eq_zero h.len_eq
      subst hl
      rw [run_convert_bytes_string (P := Try.prog) w 46 9 5 _ 0 cap Try.underlying46 Try.underlying5 Try.underlying9, run_bytesToString (P := Try.prog) w ⟨b, off, sp⟩ 0 cap [] (by kernel_rfl)]
      rfl
theorem row_one (l : List (BitVec 8)) : ∀ u ∈ l.map (fun y => Value.int .u8 (W8 y)), u.oneCell' = true := by
  intro u hu; obtain ⟨y, _, rfl⟩ := List.mem_map.1 hu; rfl
theorem row_len {w : World} {a : Option Addr} {n c : Nat} {l : List (BitVec 8)} (h : BRow w a n c l) : (l.map fun y => Value.int .u8 (W8 y)).length = n * 1 := by
  rw [List.length_map, h.len_eq, Nat.mul_one]
theorem brow_nil {w : World} {n c : Nat} {l : List (BitVec 8)} (h : BRow w none n c l) : n = 0 ∧ c = 0 ∧ l = [] :=
  ⟨(h.none rfl).1, (h.none rfl).2, List.eq_nil_of_length_eq_zero (by rw [h.len_eq]; exact (h.none rfl).1)⟩
end Go.Proofs.Ytoplabhoedloeaa
