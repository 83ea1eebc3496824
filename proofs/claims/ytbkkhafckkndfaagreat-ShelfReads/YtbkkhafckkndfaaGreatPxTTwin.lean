/-
  What package platter's Twin does at a platter that lies in memory: another one alike, in blocks of its own.
-/
import Derived.Test.YtbkkhafckkndfaaGreatPxTClone
import Derived.Deep.Cut
namespace Go.Proofs.YtbkkhafckkndfaaGreat
open Go Go.RowKit

/-- What Twin leaves. -/
def Twinned (w : World) (P : Pl) (e : Ending) (w' : World) : Prop :=
  ∃ b g1 c1 g2 c2 a3 c3, e = .returned (.pointer (some ⟨b, 0, none⟩)) ∧ PAt w' w.heap.size b g1 c1 g2 c2 a3 c3 P ∧ Below w.heap.size w w'
section
variable {w : World} {base b g1 c1 g2 c2 c3 : Nat} {a3 : Option Addr} {P : Pl}
theorem row_some {w : World} {B n c k : Nat} {E : TypeId} {a : Option Addr} {xs : List Value} (h : w.ownsRow B E k (.slice a n c) n xs) (h0 : 0 < n) : ∃ g, a = some ⟨g, 0, none⟩ := by
  rcases h.2 with ⟨e, e0⟩ | ⟨g, cap, cur, e, _⟩
  · omega
  · cases e; exact ⟨g, rfl⟩
theorem twin_end (h : PAt w base b g1 c1 g2 c2 a3 c3 P) {V : World} {a1 a2 a4 : Option Addr} {d1 d2 d3 : Nat} (G : Below w.heap.size w V)
    (r1 : V.ownsRow w.heap.size 62 128 (.slice a1 P.now.length d1) P.now.length (pagesV P.now)) (r2 : V.ownsRow w.heap.size 62 128 (.slice a2 P.now.length d2) P.now.length (pagesV P.last))
    (r3 : V.ownsRow w.heap.size 64 129 (.slice a4 P.float.length d3) P.float.length (wrsV P.float)) (hap : ∀ x, (Value.slice a1 P.now.length d1).ownBlock = some x → (Value.slice a2 P.now.length d2).ownBlock ≠ some x) :
    Twinned w P (.returned (.pointer (some ⟨V.heap.size, 0, none⟩))) (V.alloc (.cells #[.slice a1 P.now.length d1, .slice a2 P.now.length d2, .slice a4 P.float.length d3, .int .i64 P.left, .bool P.dead] 54)) := by
  obtain ⟨x1, rfl⟩ := row_some r1 h.ok.pos
  obtain ⟨x2, rfl⟩ := row_some r2 h.ok.pos
  exact ⟨_, x1, d1, x2, d2, a4, d3, rfl, ⟨G.size, heap_alloc_new _ _, r1.alloc _, r2.alloc _, r3.alloc _, fun e => hap x1 rfl (by rw [e]; rfl), h.ok⟩, G.trans (Go.RowKit.Below.alloc (Below.refl _ _) G.size _)⟩
end
end Go.Proofs.YtbkkhafckkndfaaGreat
