/-
  The document's own pages of records: key, page, fill, Chain, Link.
-/
import Derived.Test.YtjcocmoidboamabZNum
import Derived.Test.YtjcocmoidboamabYCalls
import Derived.Test.YtjcocmoidboamabXQuiet
import Derived.Test.YtjcocmoidboamabSLate
import Derived.Deep.DeepFit
import Derived.OwnWalk
import Derived.Deep.CutRange
import Derived.Deep.QuietTactic
import Derived.BigQuiet
namespace Go.Proofs.Ytjcocmoidboamab
open Go Go.RowKit

/-- A list of bytes as a text. -/
def txt (l : List UInt8) : ByteArray := ⟨l.toArray⟩
theorem txt_size (l : List UInt8) : (txt l).size = l.length := by
  show l.toArray.size = _
  rw [List.size_toArray]
theorem txt_list (s : ByteArray) : txt s.data.toList = s := by
  apply ByteArray.ext
  simp [txt]
theorem list_txt (l : List UInt8) : (txt l).data.toList = l := rfl
theorem txt_append (a b : List UInt8) : txt a ++ txt b = txt (a ++ b) := by
  apply ByteArray.ext
  simp [txt]
theorem txt_inj {a b : List UInt8} (h : txt a = txt b) : a = b := by
  have := congrArg (fun s : ByteArray => s.data.toList) h
  exact this
theorem bigB_txt (v n : Nat) : bigB v n = txt (digs v n) := rfl
theorem zerosB_txt (n : Nat) : zerosB n = txt (List.replicate n 0) := rfl
/-! ### Pieces -/
def chainV (next : Int) (t : List UInt8) : ByteArray := if chainOk next t then txt (chainL next t) else ByteArray.empty
/-! ### Link -/
def linkV (s : ByteArray) : Int × ByteArray := if isLink s.data.toList then (linkN s.data.toList, txt (linkT s.data.toList)) else (0, ByteArray.empty)
theorem at_take {s : ByteArray} {i : Nat} (h : i < s.size) : (s.data.toList.drop i).take 1 = [s[i]] := by
  have hl : i < s.data.toList.length := by rw [Array.length_toList]; exact h
  rw [List.drop_eq_getElem_cons hl, List.take_succ_cons, List.take_zero]
  rfl
theorem ext_list (s : ByteArray) (a b : Nat) : s.extract a b = txt ((s.data.toList.drop a).take (b - a)) := by
  apply ByteArray.ext
  apply Array.toList_inj.1
  simp only [ByteArray.data_extract, Array.toList_extract, List.extract_eq_take_drop, txt]
theorem numR_ext (s : ByteArray) (a b : Nat) : numR (s.extract a b) = wrap64 (valL ((s.data.toList.drop a).take (b - a))) := by rw [ext_list]; rfl
theorem link_cases (s : ByteArray) (h : s.size = 128) : ∃ c0 c3 : Nat, (∀ h, (s[0]'h).toNat = c0) ∧ (∀ h, (s[3]'h).toNat = c3) ∧ c0 < 256 ∧ c3 < 256 ∧ linkN s.data.toList = numR (s.extract 1 3) ∧ txt (linkT s.data.toList) = s.extract 4 (4 + c3) ∧
    isLink s.data.toList = (decide (c0 = 67) && decide (c3 ≤ 120) && (chainOk (linkN s.data.toList) (linkT s.data.toList) && decide (txt (chainL (linkN s.data.toList) (linkT s.data.toList)) = s))) := by
  have h0 := (s[0]'(by omega)).toNat_lt
  have h3 := (s[3]'(by omega)).toNat_lt
  have e3 : valL ((s.data.toList.drop 3).take 1) = (s[3]'(by omega)).toNat := by rw [at_take (by omega), val_one]
  have e0 : s.data.toList.take 1 = [s[0]'(by omega)] := by have := at_take (s := s) (i := 0) (by omega); rwa [List.drop_zero] at this
  refine ⟨(s[0]'(by omega)).toNat, (s[3]'(by omega)).toNat, fun _ => rfl, fun _ => rfl, h0, h3, ?_, ?_, ?_⟩
  · rw [numR_ext]; rfl
  · rw [ext_list, linkT, e3, Nat.add_sub_cancel_left]
  · have hl : s.data.toList.length = 128 := h
    unfold isLink
    rw [hl, e3, e0]
    have q1 : (([s[0]'(by omega)] : List UInt8) == [67]) = decide ((s[0]'(by omega)).toNat = 67) := by
      rw [Bool.eq_iff_iff]
      simp only [beq_iff_eq, List.cons.injEq, and_true, decide_eq_true_eq]
      constructor
      · intro e; rw [e]; rfl
      · intro e; exact UInt8.toNat_inj.1 e
    have q2 : (chainL (linkN s.data.toList) (linkT s.data.toList) == s.data.toList) = decide (txt (chainL (linkN s.data.toList) (linkT s.data.toList)) = s) := by
      rw [Bool.eq_iff_iff]
      simp only [beq_iff_eq, decide_eq_true_eq]
      constructor
      · intro e; rw [e, txt_list]
      · intro e; exact txt_inj (e.trans (txt_list s).symm)
    rw [q1, q2]
    simp
theorem bytes_ne' {a b : ByteArray} (h : ¬ a = b) : (a.toList == b.toList) = false := by
  rw [ByteArray.toList_eq, ByteArray.toList_eq]
  simp only [beq_eq_false_iff_ne, ne_eq]
  exact fun e => h (ByteArray.ext (Array.toList_inj.1 e))
theorem isLink_len {s : ByteArray} (h : ¬ s.size = 128) : isLink s.data.toList = false := by
  cases e : isLink s.data.toList with
  | false => rfl
  | true => exact absurd (isLink_128 e) h
end Go.Proofs.Ytjcocmoidboamab
