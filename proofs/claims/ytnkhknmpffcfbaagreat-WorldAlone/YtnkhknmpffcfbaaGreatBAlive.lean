/-
  The statements' own first look ('alive' of stage 7's laws): it returns true; what was there stays.
-/
import Derived.Test.YtnkhknmpffcfbaaGreatBCalls
import Derived.Test.YtnkhknmpffcfbaaGreatVTry
namespace Go.Proofs.YtnkhknmpffcfbaaGreat
open Go.RowKit

def balB : Bd := ⟨1, 4294967296, 0, 8589934592, 0, 0, 17179869184, 0⟩
theorem balB_speed : speedR balB = (8589934592, 0, 0) := by decide +kernel
theorem balB_light : lightR balB = (2147483648, 0) := by decide +kernel
theorem balB_right : rightB balB = true := by decide +kernel
theorem bal0_right : rightB ⟨0, 0, 0, 0, 0, 0, 0, 0⟩ = false := by decide +kernel
theorem balB_ok : balB.ok := by constructor <;> exact ⟨by decide, by decide⟩

/-- A body that lies in memory. -/
structure BAt (w : World) (b : Nat) (B : Bd) : Prop where
  c0 : w.cell? ⟨b, 0, none⟩ = some (.int .i64 B.s)
  c1 : w.cell? ⟨b, 1, none⟩ = some (.int .i64 B.a)
  c2 : w.cell? ⟨b, 2, none⟩ = some (.int .i64 B.b)
  c3 : w.cell? ⟨b, 3, none⟩ = some (.int .i64 B.m)
  c4 : w.cell? ⟨b, 4, none⟩ = some (.int .i64 B.p)
  c5 : w.cell? ⟨b, 5, none⟩ = some (.int .i64 B.q)
  c6 : w.cell? ⟨b, 6, none⟩ = some (.int .i64 B.u)
  c7 : w.cell? ⟨b, 7, none⟩ = some (.int .i64 B.v)
theorem BAt.heap {w W : World} {b : Nat} {B : Bd} (h : BAt w b B) (g : W.heap[b]? = w.heap[b]?) : BAt W b B := by
  have k : ∀ o s, W.cell? ⟨b, o, s⟩ = w.cell? ⟨b, o, s⟩ := fun o s => cell_of_heap g
  exact ⟨(k _ _).trans h.c0, (k _ _).trans h.c1, (k _ _).trans h.c2, (k _ _).trans h.c3, (k _ _).trans h.c4, (k _ _).trans h.c5, (k _ _).trans h.c6, (k _ _).trans h.c7⟩
theorem BAt.size {w : World} {b : Nat} {B : Bd} (h : BAt w b B) : b < w.heap.size := cell_block h.c0
theorem BAt.grew {w W : World} {b : Nat} {B : Bd} (h : BAt w b B) (g : Grew w W) : BAt W b B := h.heap (g.heap h.size)
theorem BAt.wrote {S : Nat → Prop} {w W : World} {b : Nat} {B : Bd} (h : BAt w b B) (g : Wrote S w W) (hb : ¬ S b) : BAt W b B := h.heap (g.block b h.size hb)

theorem bat_m {w : World} {b : Nat} {B : Bd} (h : BAt w b B) (m : Int) : BAt (w.setCell ⟨b, 3, none⟩ (.int .i64 m)) b ⟨B.s, B.a, B.b, m, B.p, B.q, B.u, B.v⟩ := by
  obtain ⟨c0, c1, c2, c3, c4, c5, c6, c7⟩ := h
  constructor <;> simp [go_sem, *]
theorem Free.set {w : World} {b : Nat} (h : Free w b) (a : Addr) (v : Value) : Free (w.setCell a v) b := fun o s => by rw [World.frozen?_setCell]; exact h o s
theorem Free.set2 {w : World} {b : Nat} (h : Free w b) (c : Nat) (u v : Value) : Free ((w.setCell ⟨c, 0, none⟩ u).setCell ⟨c, 1, none⟩ v) b := (h.set _ _).set _ _
theorem Grew.cells {w W : World} (h : Grew w W) {b : Nat} (hb : b < w.heap.size) : ∀ o, W.cell? ⟨b, o, none⟩ = w.cell? ⟨b, o, none⟩ := fun _ => cell_of_heap (h.heap hb)
theorem Grew.marks {w W : World} (h : Grew w W) (b : Nat) : ∀ o, W.frozen? ⟨b, o, none⟩ = w.frozen? ⟨b, o, none⟩ := fun _ => h.grown.2.1 _
theorem set_far {a c : Nat} (h : c ≠ a) (V : World) (o o' : Nat) (v : Value) : (V.setCell ⟨a, o, none⟩ v).cell? ⟨c, o', none⟩ = V.cell? ⟨c, o', none⟩ := by
  refine cell_of_heap ?_
  simp only [World.setCell, Array.getElem?_modify]
  rw [if_neg (fun e => h e.symm)]
end Go.Proofs.YtnkhknmpffcfbaaGreat
