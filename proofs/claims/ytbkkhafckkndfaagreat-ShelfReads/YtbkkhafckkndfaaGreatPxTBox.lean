/-
  A loop's own variable of a write (a new block each round), and what a store of some bytes leaves of a platter's lasting pages; a platter with nothing afloat.
-/
import Derived.Test.YtbkkhafckkndfaaGreatPxTBuild
namespace Go.Proofs.YtbkkhafckkndfaaGreat
open Go Go.RowKit

/-- The zero write as cells. -/
def zeroW : List Value := .int .i64 0 :: List.replicate 128 (.int .u8 0)
theorem wpList_allocWr {ops : Array Oper} {rest : List Oper} {o : Oper} {a : Act} {w : World} {Q : Exit → Act → World → Prop} (hgd : o.guard = none) (ho : o.op = .alloc 64)
    (h : wpList Tryz.prog ops Q rest (a.put o.dst (.pointer (some ⟨w.heap.size, 0, none⟩))) (w.alloc (.cells zeroW.toArray 64))) : wpList Tryz.prog ops Q (o :: rest) a w := by
  refine wpList_plain hgd fun K hK => ?_
  obtain ⟨i, z, h1, h2, h3, h4, h5⟩ := infoWr
  have hz : z = zeroW.toArray := by
    apply Array.ext'
    rw [h3]
    simp [zeroW]
  have hr : (Instr.alloc 64 true (.tuple #[])).run Tryz.prog w = .ok (.pointer (some ⟨w.heap.size, 0, none⟩)) (w.alloc (.cells zeroW.toArray 64)) := by
    rw [← hz]
    simp [Instr.alloc, zeroValue, typeInfo, h1, h2, newVar, newRow, Value.cells, Sem.run_bind]
  unfold Oper.wp execOp
  simp only [ho, hr, Sem.run_bind, Result.andThen_ok, Sem.run_pure]
  exact hK _ _ h
theorem zeroW_len : zeroW.length = 129 := by simp [zeroW]
theorem boxed (w : World) (cs : List Value) (hc : cs.length = 129) : (w.alloc (.cells zeroW.toArray 64)).there w.heap.size 0 129 ∧ ((w.alloc (.cells zeroW.toArray 64)).setCells w.heap.size 0 cs).rangeAt w.heap.size 0 cs ∧ Grew w ((w.alloc (.cells zeroW.toArray 64)).setCells w.heap.size 0 cs) := by
  have ht : (w.alloc (.cells zeroW.toArray 64)).there w.heap.size 0 129 := fun j hj => by
    rw [cell_of_row _ _ _ _ _ _ (heap_alloc_new w _), frozen_of_row _ _ _ _ _ (heap_alloc_new w _)]
    refine ⟨?_, rfl⟩
    rw [Nat.zero_add, List.getElem?_toArray, List.getElem?_eq_getElem (by rw [zeroW_len]; exact hj)]
    rfl
  refine ⟨ht, World.rangeAt_setCells_same _ _ _ _ (by rw [hc]; exact ht), ?_⟩
  have : ∀ (vs : List Value) (o : Nat) (W : World), Grew w W → Grew w (W.setCells w.heap.size o vs) := by
    intro vs
    induction vs with
    | nil => exact fun _ _ h => h
    | cons v vs ih => exact fun o W h => ih (o + 1) _ (h.setCell (a := ⟨w.heap.size, o, none⟩) (Nat.le_refl _) v)
  exact this _ _ _ ((Grew.refl w).alloc _ _)

section
variable {w : World} {base b g1 c1 g2 c2 c3 : Nat} {a3 : Option Addr} {P : Pl}
theorem PAt.putLast (h : PAt w base b g1 c1 g2 c2 a3 c3 P) {k : Nat} (hk : k < P.now.length) {y : ByteArray} (hy : y.size = 128) (vs : List Value) (hv : vs.length ≤ 128) (e : pgV y = vs ++ (pgV (pg P.last k)).drop vs.length) :
    PAt (w.setCells g2 (k * 128) vs) base b g1 c1 g2 c2 a3 c3 { P with last := P.last.set k y } := by
  have G : But (fun i => i = g2) w (w.setCells g2 (k * 128) vs) := but_setCells (S := fun i => i = g2) rfl _ _ (But.refl _ _)
  have hb := (Array.getElem?_eq_some_iff.1 h.blk).1
  have r2 := own_setCells vs (k * 128) h.r2
  rw [pages_set P.last h.ok.last (by rw [h.ok.len]; exact hk) y vs hv e] at r2
  refine ⟨h.lb, (G.block b hb (fun e => h.b2 e.symm)).trans h.blk, row_but h.r1 G ?_, r2, row_but h.r3 G ?_, h.ap, ⟨by simpa using h.ok.len, h.ok.pos, h.ok.top, h.ok.now, ?_, h.ok.float, h.ok.many, h.ok.left⟩⟩
  · rintro i e; cases e; exact h.ap
  · rintro i e; exact (h.b3 ((own_any _ _ _).symm.trans e)).2.2
  · intro x hx
    rcases List.mem_or_eq_of_mem_set hx with hx | rfl
    · exact h.ok.last x hx
    · exact hy
theorem PAt.clear (h : PAt w base b g1 c1 g2 c2 a3 c3 P) : PAt (w.setCell ⟨b, 2, none⟩ (.slice none 0 0)) base b g1 c1 g2 c2 none 0 { P with float := [] } := by
  have G : But (fun i => i = b) w (w.setCell ⟨b, 2, none⟩ (.slice none 0 0)) := (But.refl (fun i => i = b) w).set (b := b) rfl 2 none _
  refine ⟨h.lb, ?_, row_but h.r1 G ?_, row_but h.r2 G ?_, ⟨rfl, .inl ⟨rfl, rfl⟩⟩, h.ap, ⟨h.ok.len, h.ok.pos, h.ok.top, h.ok.now, h.ok.last, by simp, by simp, h.ok.left⟩⟩
  · rw [heap_setCell_same w b 2 _ _ _ h.blk]
    rfl
  · rintro i e; cases e; exact h.b1
  · rintro i e; cases e; exact h.b2
/-- The k-th write that is afloat. -/
theorem PAt.wr (h : PAt w base b g1 c1 g2 c2 a3 c3 P) {k : Nat} {x : Wr} (hx : P.float[k]? = some x) : ∃ g3, a3 = some ⟨g3, 0, none⟩ ∧ w.rangeAt g3 (k * 129) (wrV x) := by
  have hl := (List.getElem?_eq_some_iff.1 hx).1
  obtain ⟨g3, rfl⟩ : ∃ g3, a3 = some ⟨g3, 0, none⟩ := by
    rcases h.r3.2 with ⟨_, e0⟩ | ⟨g, cap, cur, e, _⟩
    · omega
    · cases e; exact ⟨g, rfl⟩
  exact ⟨g3, rfl, own_range h.r3 _ _ fun j v hj => wrs_set _ (fun y hy => (h.ok.float y hy).2) x hx j v hj⟩
end
end Go.Proofs.YtbkkhafckkndfaaGreat
