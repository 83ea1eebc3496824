/-
  What package crown's right and Put do, strings.Repeat at zeros, and the document's own CrownPut.
-/
import Derived.Test.YtjcocmoidboamaaYCalls
import Derived.Test.YtjcocmoidboamaaYLay
import Derived.Test.YtjcocmoidboamaaXQuiet
import Derived.Deep.DeepFit
namespace Go.Proofs.Ytjcocmoidboamaa
open Go Go.RowKit Go.Shelf

theorem rep_extra : Builder.Extra Try.prog Try.laysRepeat_ren := {
  sizeBuilder := by kernel_rfl
  liesBuilder := by kernel_rfl
  t5 := Try.laysRepeat.t5
  a5 := Try.laysRepeat.a5
  z5 := Try.laysRepeat.z5
  v5 := Try.laysRepeat.v5
  infoByte := by kernel_rfl
  cellsByte := by kernel_rfl
  sizeByte := by kernel_rfl
  neB5 := by decide }
theorem rep_num : Try.laysRepeat_ren.f 105 = 45 := by kernel_rfl
/-- Zeros. -/
theorem repeat_any (k : Nat) (hk : k ≤ 1000) (w : World) : Calls Try.prog 45 #[.string ⟨#[0]⟩, .int .i64 k] w fun e w' => e = .returned (.string (zerosB k)) ∧ Below w.heap.size w w' := by
  have h := Any.strings_Repeat Try.laysRepeat rep_extra ⟨#[0]⟩ k w (by omega) (by show 1 * k ≤ _; omega)
  rw [rep_num] at h
  refine h.mono fun e w' ⟨he, hw⟩ => ⟨?_, hw⟩
  rw [he]
  have e : Lib.repeatL (ByteArray.mk #[0]).data.toList k = List.replicate k 0 := by
    have := Lib.repeatL_replicate 0 1 k
    simpa using this
  rw [e]
  rfl

/-- A crown as a value. -/
def Cr.val (c : Cr) : Value := .agg #[.int .i64 c.g, .int .i64 c.r, .int .i64 c.p]
def Cr.ok (c : Cr) : Prop := inF c.g ∧ inF c.r ∧ inF c.p
/-- A crown that lies at block b. -/
structure CAt (w : World) (b : Nat) (c : Cr) : Prop where
  g : w.cell? ⟨b, 0, none⟩ = some (.int .i64 c.g)
  r : w.cell? ⟨b, 1, none⟩ = some (.int .i64 c.r)
  p : w.cell? ⟨b, 2, none⟩ = some (.int .i64 c.p)
theorem CAt.keep {w w' : World} {b : Nat} {c : Cr} (h : CAt w b c) (k : ∀ o v, w.cell? ⟨b, o, none⟩ = some v → w'.cell? ⟨b, o, none⟩ = some v) : CAt w' b c := ⟨k _ _ h.g, k _ _ h.r, k _ _ h.p⟩
theorem CAt.grew {w w' : World} {b : Nat} {c : Cr} (h : CAt w b c) (g : Grew w w') : CAt w' b c := h.keep fun _ _ e => g.cell e
theorem below_cell {w w' : World} (h : Below w.heap.size w w') {p : Addr} {v : Value} (hc : w.cell? p = some v) : w'.cell? p = some v := by
  rw [cell_of_heap (h.block _ (cell_block hc)), hc]
theorem CAt.below {w w' : World} {b : Nat} {c : Cr} (h : CAt w b c) (g : Below w.heap.size w w') : CAt w' b c := h.keep fun _ _ e => below_cell g e
theorem cat_new (w : World) (c : Cr) (t : TypeId) : CAt (w.alloc (.cells #[.int .i64 c.g, .int .i64 c.r, .int .i64 c.p] t)) w.heap.size c := ⟨by simp [go_sem], by simp [go_sem], by simp [go_sem]⟩

/-! ### Put -/
theorem put_apart (c : Cr) : putB c = bigB c.g.toNat 8 ++ bigB c.r.toNat 2 ++ bigB c.p.toNat 2 ++ zerosB 108 ++ bigB c.g.toNat 8 := by
  apply ByteArray.ext
  simp only [ByteArray.data_append, putB, bigB, zerosB, putL, List.append_toArray]
end Go.Proofs.Ytjcocmoidboamaa
