/-
  Package shelf's reading, as it lies in memory.
-/
import Derived.Test.YtbkkhafckkndfaaGreatPxOBin
import Derived.Test.YtbkkhafckkndfaaGreatPxOIns
import Derived.Test.YtbkkhafckkndfaaGreatPxOBld
import Derived.Test.YtbkkhafckkndfaaGreatPk01
namespace Go.Proofs.YtbkkhafckkndfaaGreat
open Go Go.RowKit

abbrev loadV (p : Nat) : Value := .func (.func 11) #[.pointer (some ⟨p, 0, none⟩)] #[]
/-- What the platter at block p answers, in every world that is as it was below w0's end. -/
structure Loads (w0 : World) (p : Nat) (ld : Ld) : Prop where
  call : ∀ (W : World) (n : Int), Below w0.heap.size w0 W → Calls Tryz.prog 11 #[.pointer (some ⟨p, 0, none⟩), .int .i64 n] W fun e w' => e = .returned (.tuple #[.string (ld n).1, .int .i64 (ld n).2]) ∧ w' = W
  rng : ∀ n, (ld n).2 = 0 → 0 ≤ n ∧ n < 200
  non : ∀ n, ¬ (ld n).2 = 0 → (ld n).1 = ByteArray.empty
  sz : ∀ n, (ld n).1.size ≤ 128
structure RdV (w0 W : World) (r p : Nat) (v : Value) (V : List Pr) : Prop where
  blk : W.heap[r]? = some (.cells #[loadV p, v] 68 (0, 0))
  row : W.ownsRow w0.heap.size 49 2 v V.length (prsV V)
  bel : Below w0.heap.size w0 W
  lr : w0.heap.size ≤ r
def RdK (w0 W : World) (r p : Nat) (V : List Pr) : Prop := ∃ v, RdV w0 W r p v V
def SetR (r : Nat) (w : World) (i : Nat) : Prop := i = r ∨ OfT w 49 i
def WrR (r : Nat) (w w' : World) : Prop := But (SetR r w) w w'
theorem WrR.refl (r : Nat) (w : World) : WrR r w w := But.refl _ _
theorem WrR.trans {r : Nat} {a b c : World} (h : WrR r a b) (g : WrR r b c) : WrR r a c :=
  ⟨g.os.trans h.os, g.tape.trans h.tape, g.output.trans h.output, Nat.le_trans h.size g.size, fun i hi hn => by
    have e := h.block i hi hn
    refine (g.block i (Nat.lt_of_lt_of_le hi h.size) fun s => hn ?_).trans e
    rcases s with s | ⟨cs, s⟩
    · exact .inl s
    · exact .inr ⟨cs, by rw [← e]; exact s⟩⟩
theorem WrR.of {r : Nat} {a b : World} (h : Below a.heap.size a b) : WrR r a b := Go.Proofs.YtbkkhafckkndfaaGreat.Below.but h
theorem WrR.row {r B n k : Nat} {E : TypeId} {v : Value} {xs : List Value} {a b : World} (g : WrR r a b) (h : a.ownsRow B E k v n xs) (hE : E ≠ 49) (hr : v.ownBlock ≠ some r) : b.ownsRow B E k v n xs :=
  row_but h g fun i e s => by
    rcases s with s | s
    · exact hr (by rw [e, s])
    · exact hE ((row_ofT h e).ne s)
theorem RdV.ne {w0 W : World} {r p : Nat} {v : Value} {V : List Pr} (h : RdV w0 W r p v V) : v.ownBlock ≠ some r := fun e => absurd (OfT.ne (row_ofT h.row e) ⟨_, h.blk⟩) (by decide)
theorem RdV.lt {w0 W : World} {r p : Nat} {v : Value} {V : List Pr} (h : RdV w0 W r p v V) : r < W.heap.size := (Array.getElem?_eq_some_iff.1 h.blk).1
theorem RdV.but {w0 W W' : World} {r p : Nat} {v : Value} {V : List Pr} {S : Nat → Prop} (h : RdV w0 W r p v V) (g : But S W W') (hB : ∀ i, S i → w0.heap.size ≤ i) (hS : ∀ i, S i → i ≠ r ∧ ¬ OfT W 49 i) : RdV w0 W' r p v V :=
  ⟨(g.block r h.lt fun s => (hS r s).1 rfl).trans h.blk, row_but h.row g fun i e s => (hS i s).2 (row_ofT h.row e), h.bel.trans (g.below hB h.bel.size), h.lr⟩
theorem RdV.below {w0 W W' : World} {r p : Nat} {v : Value} {V : List Pr} (h : RdV w0 W r p v V) (g : Below W.heap.size W W') : RdV w0 W' r p v V :=
  h.but (S := fun _ => False) (Go.Proofs.YtbkkhafckkndfaaGreat.Below.but g) (fun _ e => e.elim) (fun _ e => e.elim)
theorem RdK.but {w0 W W' : World} {r p : Nat} {V : List Pr} {S : Nat → Prop} (h : RdK w0 W r p V) (g : But S W W') (hB : ∀ i, S i → w0.heap.size ≤ i) (hS : ∀ i, S i → i ≠ r ∧ ¬ OfT W 49 i) : RdK w0 W' r p V := by
  obtain ⟨v, h⟩ := h
  exact ⟨v, h.but g hB hS⟩
theorem RdK.below {w0 W W' : World} {r p : Nat} {V : List Pr} (h : RdK w0 W r p V) (g : Below W.heap.size W W') : RdK w0 W' r p V := by
  obtain ⟨v, h⟩ := h
  exact ⟨v, h.below g⟩
theorem RdV.c0 {w0 W : World} {r p : Nat} {v : Value} {V : List Pr} (h : RdV w0 W r p v V) : W.cell? ⟨r, 0, none⟩ = some (loadV p) := by rw [cell_of_row _ _ _ _ _ _ h.blk]; rfl
theorem RdV.c1 {w0 W : World} {r p : Nat} {v : Value} {V : List Pr} (h : RdV w0 W r p v V) : W.cell? ⟨r, 1, none⟩ = some v := by rw [cell_of_row _ _ _ _ _ _ h.blk]; rfl
theorem RdV.z {w0 W : World} {r p : Nat} {v : Value} {V : List Pr} (h : RdV w0 W r p v V) (o : Nat) : W.frozen? ⟨r, o, none⟩ = false := frozen_of_row _ _ _ _ _ h.blk
theorem RdV.get {w0 W : World} {r p : Nat} {v : Value} {V : List Pr} (h : RdV w0 W r p v V) : ∃ a cap, v = .slice a V.length cap ∧ PrsAt W a V := prs_of h.row
theorem RdV.set {w0 W : World} {r p : Nat} {v v2 : Value} {V2 : List Pr} (hb : W.heap[r]? = some (.cells #[loadV p, v] 68 (0, 0))) (hB : Below w0.heap.size w0 W) (hl : w0.heap.size ≤ r) (hr : W.ownsRow w0.heap.size 49 2 v2 V2.length (prsV V2)) :
    RdV w0 (W.setCell ⟨r, 1, none⟩ v2) r p v2 V2 := by
  have hne : v2.ownBlock ≠ some r := fun e => absurd (OfT.ne (row_ofT hr e) ⟨_, hb⟩) (by decide)
  have hbut : But (fun i => i = r) W (W.setCell ⟨r, 1, none⟩ v2) := (But.refl (fun i => i = r) W).set (b := r) rfl 1 none v2
  refine ⟨?_, row_but hr hbut fun i e s => hne (by rw [e, s]), hB.trans (hbut.below (fun n e => by omega) hB.size), hl⟩
  simp [World.setCell, Array.getElem?_modify, hb]
/-- What was seen, with one page more, if there is one. -/
def seeT (ld : Ld) (n : Int) (T : List Int) : List Int := if (ld n).2 = 0 then n :: T else T
end Go.Proofs.YtbkkhafckkndfaaGreat
