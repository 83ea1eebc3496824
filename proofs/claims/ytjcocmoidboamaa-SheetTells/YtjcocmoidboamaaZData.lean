/-
  Lists of slots, of cells as arguments: what lies in memory.
-/
import Derived.Test.YtjcocmoidboamaaZSame
import Derived.Lib.SmallJoins
import Derived.ProofKit
import Derived.OpenShut
import Derived.ChangeSlices
namespace Go.Proofs.Ytjcocmoidboamaa
open Go.ChangeShapes Go.WideShapes Go.ChangeAt Go.RowKit Go.Joins

/-- Cells that lie in memory, of texts that there may be. -/
def Cess (w : World) (a : Option Addr) (C : List Ce) : Prop := (∀ c ∈ C, c.bytes.size ≤ maxLen) ∧ CellsAt w a C
section
variable {H : Type} {enc : TypeId × Value → H} {P : Program} {W : World} {base : Nat} {spare : Nat → Bool} {held : Bool}
set_option maxRecDepth 100000 in
theorem trod_two {t : TypeId} {f0 f1 : Field} {fuel : Nat} {cs : List Value} {x : DataW H × List MemPlace} (ht : P.underlying t = some (.struct #[f0, f1])) (h : DataW.trod enc P W base spare held fuel t cs = some x) :
    ∃ y0 y1 n, DataW.trod enc P W base spare held n f0.type ((cs.drop f0.offset).take (P.cellsOf f0.type)) = some y0 ∧
      DataW.trod enc P W base spare held n f1.type ((cs.drop f1.offset).take (P.cellsOf f1.type)) = some y1 := by
  obtain ⟨xs, n, _, rfl, hl, hlen, hf⟩ := DataW.trod_struct ht h
  match xs, hlen with
  | [y0, y1], _ => exact ⟨y0, y1, n, by simpa using hf 0 f0 rfl, by simpa using hf 1 f1 rfl⟩
set_option maxRecDepth 100000 in
theorem trod_four {t : TypeId} {f0 f1 f2 f3 : Field} {fuel : Nat} {cs : List Value} {x : DataW H × List MemPlace} (ht : P.underlying t = some (.struct #[f0, f1, f2, f3])) (h : DataW.trod enc P W base spare held fuel t cs = some x) :
    ∃ y0 y1 y2 y3 n, DataW.trod enc P W base spare held n f0.type ((cs.drop f0.offset).take (P.cellsOf f0.type)) = some y0 ∧
      DataW.trod enc P W base spare held n f1.type ((cs.drop f1.offset).take (P.cellsOf f1.type)) = some y1 ∧ DataW.trod enc P W base spare held n f2.type ((cs.drop f2.offset).take (P.cellsOf f2.type)) = some y2 ∧
      DataW.trod enc P W base spare held n f3.type ((cs.drop f3.offset).take (P.cellsOf f3.type)) = some y3 := by
  obtain ⟨xs, n, _, rfl, hl, hlen, hf⟩ := DataW.trod_struct ht h
  match xs, hlen with
  | [y0, y1, y2, y3], _ => exact ⟨y0, y1, y2, y3, n, by simpa using hf 0 f0 rfl, by simpa using hf 1 f1 rfl, by simpa using hf 2 f2 rfl, by simpa using hf 3 f3 rfl⟩
end
section
variable {H : Type} {enc : TypeId × Value → H} {W : World} {base : Nat} {spare : Nat → Bool} {held : Bool}
set_option maxRecDepth 100000 in
theorem cells_zslot : Try.prog.cellsOf 59 = 2 := by kernel_rfl
set_option maxRecDepth 100000 in
theorem cells_zcell : Try.prog.cellsOf 26 = 4 := by kernel_rfl
set_option maxRecDepth 100000 in
theorem cells_zint : Try.prog.cellsOf 3 = 1 := by kernel_rfl
set_option maxRecDepth 100000 in
theorem cells_zstr : Try.prog.cellsOf 9 = 1 := by kernel_rfl
set_option maxRecDepth 100000 in
theorem trod_zslot {n : Nat} {c0 c1 : Value} {y : DataW H × List MemPlace} (h : DataW.trod enc Try.prog W base spare held n 59 [c0, c1] = some y) : ∃ o : Sl, [c0, c1] = slV o := by
  obtain ⟨y0, y1, m, h0, h1⟩ := trod_two Try.underlying59 h
  simp only [cells_zint] at h0 h1
  obtain ⟨k, e0, _, fk⟩ := DataW.trod_int Try.underlying3 h0
  obtain ⟨n, e1, _, fn⟩ := DataW.trod_int Try.underlying3 h1
  simp at e0 e1
  subst e0 e1
  exact ⟨⟨k, n⟩, rfl⟩
set_option maxRecDepth 100000 in
theorem trod_zcell {n : Nat} {c0 c1 c2 c3 : Value} {y : DataW H × List MemPlace} (h : DataW.trod enc Try.prog W base spare held n 26 [c0, c1, c2, c3] = some y) : ∃ o : Ce, [c0, c1, c2, c3] = ceR o ∧ o.bytes.size ≤ maxLen := by
  obtain ⟨y0, y1, y2, y3, m, h0, h1, h2, h3⟩ := trod_four Try.underlying26 h
  simp only [cells_zint, cells_zstr] at h0 h1 h2 h3
  obtain ⟨k, e0, _, fk⟩ := DataW.trod_int Try.underlying3 h0
  obtain ⟨n, e1, _, fn⟩ := DataW.trod_int Try.underlying3 h1
  obtain ⟨q, e2, _, fq⟩ := DataW.trod_int Try.underlying3 h2
  obtain ⟨s, e3, _, fs⟩ := DataW.trod_string Try.underlying9 h3
  simp at e0 e1 e2 e3
  subst e0 e1 e2 e3
  exact ⟨⟨k, n, q, s⟩, rfl, fs⟩
set_option maxRecDepth 100000 in
theorem open_slots {a : Option Addr} {len cap : Nat} {d : DataW H} {ps : List MemPlace} (h : DataW.Trod enc Try.prog W base spare held 22 (.slice a len cap) d ps) : ∃ L : List Sl, L.length = len ∧ SlotsAt W a L := by
  obtain ⟨fuel, hf⟩ := h
  rcases Go.Deep.open_slice Try.underlying22 hf with ⟨hcs, _⟩ | ⟨x, l, c, m, n, D, Pl, hcs, _, hl, _, hm, _, hx⟩
  · simp [Value.cells] at hcs
    obtain ⟨rfl, rfl, rfl⟩ := hcs
    exact ⟨[], rfl, .inl rfl⟩
  · simp [Value.cells] at hcs
    obtain ⟨rfl, rfl, rfl⟩ := hcs
    have hlm : len ≤ m := by rw [hm]; split <;> omega
    have each : ∀ i, i < len → ∃ b : Sl, True ∧ ∀ c, c < 2 → W.cell? (x.add (i * 2 + c)) = (slV b)[c]? := by
      intro i hi
      obtain ⟨cs', h1, h2⟩ := hx i (by omega)
      rw [cells_zslot] at h1
      obtain ⟨_, hlen, hcell⟩ := World.cells?_some h1
      match cs', hlen with
      | [c0, c1], _ =>
        obtain ⟨b, e⟩ := trod_zslot h2
        refine ⟨b, trivial, fun c hc => ?_⟩
        have := hcell c hc
        rw [Go.Deep.add_add] at this
        rw [this, e]
    letI : Inhabited Sl := ⟨(⟨0, 0⟩ : Sl)⟩
    obtain ⟨q, hq⟩ := Go.Deep.choose_lt each
    refine ⟨(List.range len).map q, by simp, ?_⟩
    · by_cases h0 : len = 0
      · left; rw [h0]; rfl
      · right
        obtain ⟨b, off, spot⟩ := x
        have hs : spot = none := by
          have h1 := (hq 0 (by omega)).2 0 (by omega)
          have h2 := World.cell?_spot (v := .int .i64 (q 0).key) (by simpa [slV] using h1)
          cases spot with
          | none => rfl
          | some s => simp [Addr.add] at h2
        subst hs
        refine ⟨b, off, rfl, fun i hi => ?_⟩
        have hi' : i < len := by simpa using hi
        have hb : ((List.range len).map q).getD i (⟨0, 0⟩ : Sl) = q i := by simp [List.getD, hi']
        rw [hb]
        have hg : ∀ c, c < 2 → W.cell? ⟨b, off + i * 2 + c, none⟩ = (slV (q i))[c]? := fun c hc => by
          have := (hq i hi').2 c hc
          rw [add_plain] at this
          rw [Nat.add_assoc]
          exact this
        exact ⟨hg 0 (by omega), hg 1 (by omega)⟩
set_option maxRecDepth 100000 in
theorem open_cells {a : Option Addr} {len cap : Nat} {d : DataW H} {ps : List MemPlace} (h : DataW.Trod enc Try.prog W base spare held 23 (.slice a len cap) d ps) : ∃ L : List Ce, L.length = len ∧ Cess W a L := by
  obtain ⟨fuel, hf⟩ := h
  rcases Go.Deep.open_slice Try.underlying23 hf with ⟨hcs, _⟩ | ⟨x, l, c, m, n, D, Pl, hcs, _, hl, _, hm, _, hx⟩
  · simp [Value.cells] at hcs
    obtain ⟨rfl, rfl, rfl⟩ := hcs
    exact ⟨[], rfl, fun c hc => absurd hc (by simp), .inl rfl⟩
  · simp [Value.cells] at hcs
    obtain ⟨rfl, rfl, rfl⟩ := hcs
    have hlm : len ≤ m := by rw [hm]; split <;> omega
    have each : ∀ i, i < len → ∃ b : Ce, b.bytes.size ≤ maxLen ∧ ∀ c, c < 4 → W.cell? (x.add (i * 4 + c)) = (ceR b)[c]? := by
      intro i hi
      obtain ⟨cs', h1, h2⟩ := hx i (by omega)
      rw [cells_zcell] at h1
      obtain ⟨_, hlen, hcell⟩ := World.cells?_some h1
      match cs', hlen with
      | [c0, c1, c2, c3], _ =>
        obtain ⟨b, e, ok⟩ := trod_zcell h2
        refine ⟨b, ok, fun c hc => ?_⟩
        have := hcell c hc
        rw [Go.Deep.add_add] at this
        rw [this, e]
    letI : Inhabited Ce := ⟨noCe⟩
    obtain ⟨q, hq⟩ := Go.Deep.choose_lt each
    refine ⟨(List.range len).map q, by simp, fun y hy => ?_, ?_⟩
    · obtain ⟨i, hi, rfl⟩ := List.mem_map.1 hy
      exact (hq i (List.mem_range.1 hi)).1
    · by_cases h0 : len = 0
      · left; rw [h0]; rfl
      · right
        obtain ⟨b, off, spot⟩ := x
        have hs : spot = none := by
          have h1 := (hq 0 (by omega)).2 0 (by omega)
          have h2 := World.cell?_spot (v := .int .i64 (q 0).key) (by simpa [ceR] using h1)
          cases spot with
          | none => rfl
          | some s => simp [Addr.add] at h2
        subst hs
        refine ⟨b, off, rfl, fun i hi => ?_⟩
        have hi' : i < len := by simpa using hi
        have hb : ((List.range len).map q).getD i noCe = q i := by simp [List.getD, hi']
        rw [hb]
        have hg : ∀ c, c < 4 → W.cell? ⟨b, off + i * 4 + c, none⟩ = (ceR (q i))[c]? := fun c hc => by
          have := (hq i hi').2 c hc
          rw [add_plain] at this
          rw [Nat.add_assoc]
          exact this
        exact ⟨hg 0 (by omega), hg 1 (by omega), hg 2 (by omega), hg 3 (by omega)⟩
end
end Go.Proofs.Ytjcocmoidboamaa
