/-
  What package platter's Fail does at a platter that lies in memory.
-/
import Derived.Test.YtbkkhafckkndfaaGreatPxTSettle
namespace Go.Proofs.YtbkkhafckkndfaaGreat
open Go Go.RowKit

theorem copy_src {w : World} {q o : Nat} {v : Value} {cs : List Value} (h : w.rangeAt q o (v :: cs)) (c : Nat) : ∀ j u, (cs.take c)[j]? = some u → w.cell? ((⟨q, o + 1, none⟩ : Addr).add j) = some u := fun j u hj => by
  rw [Addr.add_mid]
  refine range_tail h j u ?_
  rw [List.getElem?_take] at hj
  split at hj
  · exact hj
  · cases hj
theorem row_src {w : World} {B E k g n cap : Nat} {xs : List Value} (h : w.ownsRow B E k (.slice (some ⟨g, 0, none⟩) n cap) n xs) : ∀ j u, xs[j]? = some u → w.cell? ((⟨g, 0, none⟩ : Addr).add j) = some u := fun j u hj => by
  have := own_range h 0 xs (fun j v hj => by rw [Nat.zero_add]; exact hj) j u hj
  rw [Addr.add_mid]
  exact this
theorem Cuts.but {S : Nat → Prop} {w W : World} {a : Option Addr} {l : List Int} (h : Cuts w a l) (G : But S w W) (hS : ∀ z off, a = some ⟨z, off, none⟩ → l ≠ [] → ¬ S z) : Cuts W a l := by
  refine ⟨h.1, ?_⟩
  rcases h.2 with e | ⟨z, off, e, k⟩
  · exact .inl e
  · exact .inr ⟨z, off, e, fun i hi => G.cell (k i hi) (hS z off e (by rintro rfl; simp at hi))⟩
theorem ofNat_gt (c : Nat) : (decide ((0 : Int) < (c : Int))) = decide (0 < c) := by simp
section
variable {w : World} {base b g1 c1 g2 c2 c3 : Nat} {a3 : Option Addr} {P : Pl}
theorem PAt.restore (h : PAt w base b g1 c1 g2 c2 a3 c3 P) : PAt (w.setCells g1 0 (pagesV P.last)) base b g1 c1 g2 c2 a3 c3 { P with now := P.last } := by
  have G : But (fun i => i = g1) w (w.setCells g1 0 (pagesV P.last)) := but_setCells (S := fun i => i = g1) rfl _ _ (But.refl _ _)
  have hb := (Array.getElem?_eq_some_iff.1 h.blk).1
  have r1 := own_setCells (pagesV P.last) 0 h.r1
  rw [setL_head _ _ (by rw [pages_size h.ok.last, pages_size h.ok.now, h.ok.len]; exact Nat.le_refl _), List.drop_of_length_le (by rw [pages_size h.ok.last, pages_size h.ok.now, h.ok.len]; exact Nat.le_refl _), List.append_nil] at r1
  have el : P.last.length = P.now.length := h.ok.len
  refine ⟨h.lb, ?_, ?_, ?_, row_but h.r3 G ?_, h.ap, ⟨rfl, by show 0 < P.last.length; rw [el]; exact h.ok.pos, by show P.last.length ≤ 200; rw [el]; exact h.ok.top, h.ok.last, h.ok.last, ?_, h.ok.many, h.ok.left⟩⟩
  · show _ = some (Obj.cells #[.slice _ P.last.length _, .slice _ P.last.length _, _, _, _] _ _)
    rw [el]
    exact (G.block b hb (fun e => h.b1 e.symm)).trans h.blk
  · show World.ownsRow _ _ _ _ (.slice _ P.last.length _) P.last.length _
    rw [el]; exact r1
  · show World.ownsRow _ _ _ _ (.slice _ P.last.length _) P.last.length _
    rw [el]
    exact row_but h.r2 G (by rintro i e; cases e; exact fun e => h.ap e.symm)
  · rintro i e; exact (h.b3 ((own_any _ _ _).symm.trans e)).2.1
  · intro y hy
    show y.n < P.last.length ∧ _
    rw [el]; exact h.ok.float y hy
end
end Go.Proofs.YtbkkhafckkndfaaGreat
