/-
  Lists of bools and of texts as arguments: what lies in memory.
-/
import Derived.Test.YtbkkhafckkndfaaGreatPk01
import Derived.ProofKit
import Derived.OpenShut
import Derived.Lib.SmallJoins
import Derived.Deep.Grids
import Derived.Deep.Strs
import Derived.Deep.Slices
import Derived.ChangeOld
namespace Go.Proofs.YtbkkhafckkndfaaGreat
open Go.ChangeShapes Go.WideShapes Go.ChangeAt Go.RowKit Go.Joins

/-- Bools, texts that lie one behind the other. -/
def Bools (w : World) (a : Option Addr) (L : List Bool) : Prop := L = [] ∨ ∃ b off, a = some ⟨b, off, none⟩ ∧ ∀ i, i < L.length → w.cell? ⟨b, off + i, none⟩ = some (.bool (L.getD i false))
def Texts (w : World) (a : Option Addr) (L : List ByteArray) : Prop := L = [] ∨ ∃ b off, a = some ⟨b, off, none⟩ ∧ ∀ i, i < L.length → w.cell? ⟨b, off + i, none⟩ = some (.string (L.getD i ByteArray.empty))
theorem Bools.below {w W : World} {a : Option Addr} {L : List Bool} (h : Bools w a L) (g : Below w.heap.size w W) : Bools W a L := by
  rcases h with e | ⟨b, off, e, k⟩
  · exact .inl e
  · exact .inr ⟨b, off, e, fun i hi => (g.cell (cell_block (k i hi))).trans (k i hi)⟩
theorem Texts.below {w W : World} {a : Option Addr} {L : List ByteArray} (h : Texts w a L) (g : Below w.heap.size w W) : Texts W a L := by
  rcases h with e | ⟨b, off, e, k⟩
  · exact .inl e
  · exact .inr ⟨b, off, e, fun i hi => (g.cell (cell_block (k i hi))).trans (k i hi)⟩

section
variable {H : Type} {enc : TypeId × Value → H} {W : World} {base : Nat} {spare : Nat → Bool} {held : Bool}
theorem open_texts {a : Option Addr} {len cap : Nat} {d : DataW H} {ps : List MemPlace} (h : DataW.Trod enc Tryz.prog W base spare held 22 (.slice a len cap) d ps) : ∃ L : List ByteArray, L.length = len ∧ Texts W a L := by
  obtain ⟨fuel, hf⟩ := h
  rcases Go.Deep.open_strs Tryz.underlying22 Tryz.underlying9 (by kernel_rfl) hf with ⟨hcs, _⟩ | ⟨x, l, c, m, B, hcs, _, hl, _, hm, _, hx⟩
  · simp [Value.cells] at hcs
    obtain ⟨rfl, rfl, rfl⟩ := hcs
    exact ⟨[], rfl, .inl rfl⟩
  · simp [Value.cells] at hcs
    obtain ⟨rfl, rfl, rfl⟩ := hcs
    have hlm : len ≤ m := by rw [hm]; split <;> omega
    refine ⟨(List.range len).map B, by simp, ?_⟩
    by_cases h0 : len = 0
    · left; rw [h0]; rfl
    · right
      obtain ⟨b, off, spot⟩ := x
      have hs : spot = none := by
        have h1 := (hx 0 (by omega)).1
        have h2 := World.cell?_spot (v := .string (B 0)) h1
        cases spot with
        | none => rfl
        | some s => simp [Addr.add] at h2
      subst hs
      refine ⟨b, off, rfl, fun i hi => ?_⟩
      have hi' : i < len := by simpa using hi
      have h1 := (hx i (by omega)).1
      rw [add_plain] at h1
      rw [h1]
      simp [List.getD, hi']
end
end Go.Proofs.YtbkkhafckkndfaaGreat
