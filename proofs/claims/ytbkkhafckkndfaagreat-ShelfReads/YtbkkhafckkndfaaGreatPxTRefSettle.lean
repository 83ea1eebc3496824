/-
  The document's own platter: its Settle.
-/
import Derived.Test.YtbkkhafckkndfaaGreatPxTRefStore
import Derived.Test.YtbkkhafckkndfaaGreatPk02
namespace Go.Proofs.YtbkkhafckkndfaaGreat
open Go Go.RowKit

theorem rmeas (m k : Nat) (h : k < m) (e : wrap64 ((k : Int) + 1) = (k : Int) + 1) : m - (intOf (Value.int IntKind.i64 (wrap64 ((k : Int) + 1)))).toNat < m - (intOf (Value.int IntKind.i64 (k : Int))).toNat := by
  rw [e]
  show m - ((k : Int) + 1).toNat < m - (k : Int).toNat
  omega
section
variable {w : World} {base b c1 c2 : Nat} {a1 a2 : Option Addr} {R : Rp}
theorem RAt.putLast {g1 : Nat} (h : RAt w base b (some ⟨g1, 0, none⟩) c1 a2 c2 R) {k : Nat} (_hk : k < R.last.length) {y : ByteArray} (hy : y.size = 128) : RAt (w.setCell ⟨g1, k, none⟩ (.string y)) base b (some ⟨g1, 0, none⟩) c1 a2 c2 { R with last := R.last.set k y } := by
  have G : But (fun i => i = g1) w (w.setCell ⟨g1, k, none⟩ (.string y)) := (But.refl (fun i => i = g1) w).set (b := g1) rfl k none _
  have hb := (Array.getElem?_eq_some_iff.1 h.blk).1
  have el : (R.last.set k y).length = R.last.length := List.length_set
  have hs : strsV (R.last.set k y) = (strsV R.last).set k (.string y) := by simp [strsV, List.map_set]
  refine ⟨h.lb, ?_, ?_, row_but h.r2 G ?_, ⟨by show (R.last.set k y).length ≤ 200; rw [el]; exact h.ok.top, ?_, ?_, h.ok.many, h.ok.after⟩⟩
  · show _ = some (Obj.cells #[.slice _ (R.last.set k y).length _, _, _, _] _ _)
    rw [el]
    exact (G.block b hb (fun e => h.b1 (i := g1) rfl e.symm)).trans h.blk
  · show World.ownsRow _ _ _ _ (.slice _ (R.last.set k y).length _) (R.last.set k y).length _
    rw [el, hs]
    exact (h.r1.stored k (.string y)).1
  · rintro i q rfl; exact (h.b2 ((own_any _ _ _).symm.trans q)).2 rfl
  · intro z hz
    rcases List.mem_or_eq_of_mem_set hz with hz | rfl
    · exact h.ok.last z hz
    · exact hy
  · intro z hz
    show z.n < (R.last.set k y).length ∧ _
    rw [el]; exact h.ok.float z hz
theorem RAt.clear (h : RAt w base b a1 c1 a2 c2 R) : RAt (w.setCell ⟨b, 1, none⟩ (.slice none 0 0)) base b a1 c1 none 0 { R with float := [] } :=
  h.set1 (F := []) (a4 := none) (c4 := 0) (But.refl _ _) (World.ownsRow_nil _ _ _ _) ⟨h.ok.top, h.ok.last, by simp, by simp, h.ok.after⟩
end
end Go.Proofs.YtbkkhafckkndfaaGreat
