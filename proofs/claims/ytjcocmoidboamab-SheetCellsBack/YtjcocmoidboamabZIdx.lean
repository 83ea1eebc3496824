/-
  The document's own Index: slots in memory, as a page.
-/
import Derived.Test.YtjcocmoidboamabZRef
namespace Go.Proofs.Ytjcocmoidboamab
open Go Go.RowKit

/-- Slots that lie in memory. -/
def SlotAt (w : World) (b o : Nat) (s : Sl) : Prop := w.cell? ⟨b, o, none⟩ = some (.int .i64 s.key) ∧ w.cell? ⟨b, o + 1, none⟩ = some (.int .i64 s.page)
theorem SlotAt.grew {w w' : World} {b o : Nat} {s : Sl} (h : SlotAt w b o s) (g : Grew w w') : SlotAt w' b o s := ⟨g.cell h.1, g.cell h.2⟩
def SlotsAt (w : World) (a : Option Addr) (S : List Sl) : Prop := S = [] ∨ ∃ b off, a = some ⟨b, off, none⟩ ∧ ∀ i, i < S.length → SlotAt w b (off + i * 2) (S.getD i ⟨0, 0⟩)
theorem zmeas0 {n : Nat} (h : 0 < n) : n - (intOf (Value.int .i64 1)).toNat < n - (intOf (Value.int .i64 0)).toNat := by
  simp only [intOf]; omega
theorem zmeas1 {p n : Nat} (h : p + 1 < n) : n - (intOf (Value.int .i64 ((p : Int) + 1 + 1))).toNat < n - (intOf (Value.int .i64 ((p : Int) + 1))).toNat := by
  simp only [intOf]; omega
def idxV (S : List Sl) : ByteArray := if idxOk S then txt (idxL S) else ByteArray.empty
end Go.Proofs.Ytjcocmoidboamab
