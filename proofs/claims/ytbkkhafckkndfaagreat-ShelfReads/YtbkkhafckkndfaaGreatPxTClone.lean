/-
  What slices.Clone does of pages and of writes: the same in slices of their own; nothing that was there is written.
-/
import Derived.Test.YtbkkhafckkndfaaGreatPk01
import Derived.Test.YtbkkhafckkndfaaGreatPxTBuild
import Derived.Test.YtbkkhafckkndfaaGreatPk02
namespace Go.Proofs.YtbkkhafckkndfaaGreat
open Go Go.RowKit

theorem own_be {w w' : World} {B n k : Nat} {E : TypeId} {v : Value} {xs : List Value} (h : w.ownsRow B E k v n xs) (g : Below w.heap.size w w') : w'.ownsRow B E k v n xs :=
  row_but (S := fun _ => False) h (Go.Proofs.YtbkkhafckkndfaaGreat.Below.but g) (fun _ _ e => e)
theorem none_pages (n c : Nat) (w : World) : (binOp .eql 51 (.slice none n c) (.slice none 0 0)).run Tryz.prog w = .ok (.bool true) w := by
  have hu := run_underlying Tryz.underlying51 w
  have hd : ∀ t x y, Op.equal t x y = Op.equalIn (9999 + 1) t x y := fun _ _ _ => rfl
  simp only [binOp, hd]
  rw [Op.equalIn]
  simp [go_sem, hu]
theorem some_pages (p : Addr) (n c : Nat) (w : World) : (binOp .eql 51 (.slice (some p) n c) (.slice none 0 0)).run Tryz.prog w = .ok (.bool false) w := by
  have hu := run_underlying Tryz.underlying51 w
  have hd : ∀ t x y, Op.equal t x y = Op.equalIn (9999 + 1) t x y := fun _ _ _ => rfl
  simp only [binOp, hd]
  rw [Op.equalIn]
  simp [go_sem, hu]
theorem none_writes (n c : Nat) (w : World) : (binOp .eql 52 (.slice none n c) (.slice none 0 0)).run Tryz.prog w = .ok (.bool true) w := by
  have hu := run_underlying Tryz.underlying52 w
  have hd : ∀ t x y, Op.equal t x y = Op.equalIn (9999 + 1) t x y := fun _ _ _ => rfl
  simp only [binOp, hd]
  rw [Op.equalIn]
  simp [go_sem, hu]
theorem some_writes (p : Addr) (n c : Nat) (w : World) : (binOp .eql 52 (.slice (some p) n c) (.slice none 0 0)).run Tryz.prog w = .ok (.bool false) w := by
  have hu := run_underlying Tryz.underlying52 w
  have hd : ∀ t x y, Op.equal t x y = Op.equalIn (9999 + 1) t x y := fun _ _ _ => rfl
  simp only [binOp, hd]
  rw [Op.equalIn]
  simp [go_sem, hu]

section
variable {P : Program} {ops : Array Oper} {Q : Exit → Act → World → Prop} {md : Region.Mode} {A S : World → Prop} {D : List Nat}
theorem lat_three {i k m : Nat} {n : Nat} {l : Array Bool} {a : Act} {w : World} (hr : Region.ready md ops l = [i, k, m]) (h : LatStep P md ops Q A S D n l a w i) (g : LatStep P md ops Q A S D n l a w k) (f : LatStep P md ops Q A S D n l a w m) : wpLat P md ops Q A S D (n + 1) l a w := by
  refine ⟨fun e => absurd (e.symm.trans hr) (by simp), fun j hj => ?_⟩
  rw [hr] at hj
  rcases List.mem_cons.1 hj with rfl | hj
  · exact h
  · rcases List.mem_cons.1 hj with rfl | hj
    · exact g
    · obtain rfl := List.mem_singleton.1 hj
      exact f
end
end Go.Proofs.YtbkkhafckkndfaaGreat
