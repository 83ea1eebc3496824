/-
  Boxes in memory; Of, tried; the statements' own first look ('alive' of stage 8's laws): it returns true; what was there stays.
-/
import Derived.Test.YtcoooehcgbohgaaGreatPk03
namespace Go.Proofs.YtcoooehcgbohgaaGreat
open Go.RowKit

/-- A box that lies in memory. -/
structure XAt (w : World) (b : Nat) (x : Bx) : Prop where
  c0 : w.cell? ⟨b, 0, none⟩ = some (.int .i64 x.l)
  c1 : w.cell? ⟨b, 1, none⟩ = some (.int .i64 x.m)
  c2 : w.cell? ⟨b, 2, none⟩ = some (.int .i64 x.h)
  c3 : w.cell? ⟨b, 3, none⟩ = some (.int .i64 x.k)
theorem XAt.heap {w W : World} {b : Nat} {x : Bx} (h : XAt w b x) (g : W.heap[b]? = w.heap[b]?) : XAt W b x := by
  have k : ∀ o s, W.cell? ⟨b, o, s⟩ = w.cell? ⟨b, o, s⟩ := fun o s => cell_of_heap g
  exact ⟨(k _ _).trans h.c0, (k _ _).trans h.c1, (k _ _).trans h.c2, (k _ _).trans h.c3⟩
theorem XAt.size {w : World} {b : Nat} {x : Bx} (h : XAt w b x) : b < w.heap.size := cell_block h.c0
theorem XAt.grew {w W : World} {b : Nat} {x : Bx} (h : XAt w b x) (g : Grew w W) : XAt W b x := h.heap (g.heap h.size)
theorem XAt.wrote {S : Nat → Prop} {w W : World} {b : Nat} {x : Bx} (h : XAt w b x) (g : Wrote S w W) (hb : ¬ S b) : XAt W b x := h.heap (g.block b h.size hb)
theorem xat_set (V : World) (a : Nat) (x y : Bx) (h : XAt V a x) : XAt ((((V.setCell ⟨a, 0, none⟩ (.int .i64 y.l)).setCell ⟨a, 1, none⟩ (.int .i64 y.m)).setCell ⟨a, 2, none⟩ (.int .i64 y.h)).setCell ⟨a, 3, none⟩ (.int .i64 y.k)) a y := by
  obtain ⟨h0, h1, h2, h3⟩ := h
  constructor <;> simp [go_sem, h0, h1, h2, h3]
theorem Grew.set4 {W V : World} (U : Grew W V) (S : Nat) (p q r s : Value) : Wrote (fun n => n = S) W ((((V.setCell ⟨S, 0, none⟩ p).setCell ⟨S, 1, none⟩ q).setCell ⟨S, 2, none⟩ r).setCell ⟨S, 3, none⟩ s) :=
  (((U.wrote.set (S := fun n => n = S) rfl _ _ _).set (S := fun n => n = S) rfl _ _ _).set (S := fun n => n = S) rfl _ _ _).set (S := fun n => n = S) rfl _ _ _
/-- What a closure that asks a box leaves: the error, and the box where there is none. -/
def LeftX (X : Nat) (t : Bx × Int) (k : Int) (W : World) : Prop := k = t.2 ∧ (k = 0 → XAt W X t.1)
theorem LeftX.keep {X n : Nat} {t : Bx × Int} (hX : X < n) : ∀ k W W', (∀ i, i < n → W'.heap[i]? = W.heap[i]?) → LeftX X t k W → LeftX X t k W' :=
  fun _ _ _ hh h => ⟨h.1, fun hk => (h.2 hk).heap (hh X hX)⟩

theorem field_x (x y : Int) (w : World) : (Instr.field 26 (.agg #[.int .i64 x, .int .i64 y]) 0).run Tryz.prog w = .ok (.int .i64 x) w := by kernel_rfl
theorem field_y (x y : Int) (w : World) : (Instr.field 26 (.agg #[.int .i64 x, .int .i64 y]) 1).run Tryz.prog w = .ok (.int .i64 y) w := by kernel_rfl

def unitBd : Bd := ⟨1, 4294967296, 0, 0, 0, 0, 0, 0⟩
def unitBx : Bx := ⟨-4294967296, -4294967296, 4294967296, 4294967296⟩
theorem unit_ok : unitBd.ok := by constructor <;> exact ⟨by decide, by decide⟩
theorem unit_box : boxR unitBd = (unitBx, 0) := rfl

end Go.Proofs.YtcoooehcgbohgaaGreat
