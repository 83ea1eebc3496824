/-
  A list of Op as an argument: what lies in memory.
-/
import Derived.Test.YtedhgejkobdihaaTData
import Derived.Test.YtedhgejkobdihaaTCalls
import Derived.ChangeSlices
namespace Go.Proofs.Ytedhgejkobdihaa
open Go.ChangeShapes Go.WideShapes Go.ChangeAt Go.RowKit Go.Joins

/-- What is done: as numbers, as bytes; where its cuts lie. -/
structure OpN where
  kind : Int
  n : Int
  b : ByteArray
  raw : Bool
  ca : Option Addr
  cap : Nat
  cuts : List Int
def OpN.row (o : OpN) : List Value := [.int .i64 o.kind, .int .i64 o.n, .string o.b, .bool o.raw, .slice o.ca o.cuts.length o.cap]
structure OpN.ok (w : World) (o : OpN) : Prop where
  kind : inF o.kind
  n : inF o.n
  b : o.b.size ≤ maxLen
  cuts : Cuts w o.ca o.cuts
  there : ∀ z off, o.ca = some ⟨z, off, none⟩ → o.cuts ≠ [] → z < w.heap.size
def noOp : OpN := ⟨0, 0, ByteArray.empty, false, none, 0, []⟩
def Ops (w : World) (a : Option Addr) (L : List OpN) : Prop := (∀ o ∈ L, o.ok w) ∧ (L = [] ∨ ∃ b off, a = some ⟨b, off, none⟩ ∧ ∀ i, i < L.length → ∀ c, c < 5 → w.cell? ⟨b, off + i * 5 + c, none⟩ = (L.getD i noOp).row[c]?)
section
variable {H : Type} {enc : TypeId × Value → H} {P : Program} {W : World} {base : Nat} {spare : Nat → Bool} {held : Bool}
set_option maxRecDepth 100000 in
theorem trod_five {t : TypeId} {f0 f1 f2 f3 f4 : Field} {fuel : Nat} {cs : List Value} {x : DataW H × List MemPlace} (ht : P.underlying t = some (.struct #[f0, f1, f2, f3, f4])) (h : DataW.trod enc P W base spare held fuel t cs = some x) :
    ∃ y0 y1 y2 y3 y4 n, DataW.trod enc P W base spare held n f0.type ((cs.drop f0.offset).take (P.cellsOf f0.type)) = some y0 ∧
      DataW.trod enc P W base spare held n f1.type ((cs.drop f1.offset).take (P.cellsOf f1.type)) = some y1 ∧ DataW.trod enc P W base spare held n f2.type ((cs.drop f2.offset).take (P.cellsOf f2.type)) = some y2 ∧
      DataW.trod enc P W base spare held n f3.type ((cs.drop f3.offset).take (P.cellsOf f3.type)) = some y3 ∧ DataW.trod enc P W base spare held n f4.type ((cs.drop f4.offset).take (P.cellsOf f4.type)) = some y4 := by
  obtain ⟨xs, n, _, rfl, hl, hlen, hf⟩ := DataW.trod_struct ht h
  match xs, hlen with
  | [y0, y1, y2, y3, y4], _ => exact ⟨y0, y1, y2, y3, y4, n, by simpa using hf 0 f0 rfl, by simpa using hf 1 f1 rfl, by simpa using hf 2 f2 rfl, by simpa using hf 3 f3 rfl, by simpa using hf 4 f4 rfl⟩
end
section
variable {H : Type} {enc : TypeId × Value → H} {W : World} {base : Nat} {spare : Nat → Bool} {held : Bool}
set_option maxRecDepth 100000 in
theorem cells_op : Try.prog.cellsOf 40 = 5 := by kernel_rfl
set_option maxRecDepth 100000 in
theorem cells_opint : Try.prog.cellsOf 3 = 1 := by kernel_rfl
set_option maxRecDepth 100000 in
theorem cells_opstr : Try.prog.cellsOf 9 = 1 := by kernel_rfl
set_option maxRecDepth 100000 in
theorem cells_opbool : Try.prog.cellsOf 4 = 1 := by kernel_rfl
set_option maxRecDepth 100000 in
theorem cells_opcuts : Try.prog.cellsOf 38 = 1 := by kernel_rfl
set_option maxRecDepth 100000 in
theorem trod_op {n : Nat} {c0 c1 c2 c3 c4 : Value} {y : DataW H × List MemPlace} (h : DataW.trod enc Try.prog W base spare held n 40 [c0, c1, c2, c3, c4] = some y) : ∃ o : OpN, [c0, c1, c2, c3, c4] = o.row ∧ o.ok W := by
  obtain ⟨y0, y1, y2, y3, y4, m, h0, h1, h2, h3, h4⟩ := trod_five Try.underlying40 h
  simp only [cells_opint, cells_opstr, cells_opbool, cells_opcuts] at h0 h1 h2 h3 h4
  obtain ⟨k, e0, _, fk⟩ := DataW.trod_int Try.underlying3 h0
  obtain ⟨n, e1, _, fn⟩ := DataW.trod_int Try.underlying3 h1
  obtain ⟨s, e2, _, fs⟩ := DataW.trod_string Try.underlying9 h2
  obtain ⟨b, e3, _⟩ := DataW.trod_bool Try.underlying4 h3
  simp at e0 e1 e2 e3
  subst e0 e1 e2 e3
  rcases open_ints Try.underlying38 Try.underlying3 cells_opint h4 with ⟨e4, _⟩ | ⟨a, len, cap, zs, e4, _, hl, _, hz, _, hx, hw⟩
  · simp at e4
    subst e4
    exact ⟨⟨k, n, s, b, none, 0, []⟩, rfl, ⟨inF_wf fk, inF_wf fn, fs, ⟨by simp, .inl rfl⟩, by simp⟩⟩
  · simp at e4
    subst e4
    have hlz : len ≤ zs.length := by rw [hz]; split <;> omega
    have hlen : (zs.take len).length = len := by rw [List.length_take]; omega
    have hin : ∀ x ∈ zs.take len, inF x := fun x hx => inF_wf (hw x (List.mem_of_mem_take hx))
    have hget : ∀ i, i < len → (zs.take len).getD i 0 = zs.getD i 0 := fun i hi => by simp [List.getD, hi]
    refine ⟨⟨k, n, s, b, some a, cap, zs.take len⟩, by simp [OpN.row, hlz], ⟨inF_wf fk, inF_wf fn, fs, ⟨hin, ?_⟩, ?_⟩⟩
    · by_cases h0 : len = 0
      · left; rw [h0]; rfl
      · right
        obtain ⟨z, off, spot⟩ := a
        have hs : spot = none := by
          have h1 := hx 0 (by omega)
          have h2 := World.cell?_spot (v := .int .i64 (zs.getD 0 0)) h1
          cases spot with
          | none => rfl
          | some s => simp [Addr.add] at h2
        subst hs
        refine ⟨z, off, rfl, fun i hi => ?_⟩
        have hi' : i < len := by rw [hlen] at hi; exact hi
        have h1 := hx i (by omega)
        rw [add_plain] at h1
        rw [h1, hget i hi']
    · rintro z off e hne
      have h0 : 0 < len := by
        rcases Nat.eq_zero_or_pos len with q | q
        · subst q; simp at hne
        · exact q
      cases e
      have h1 := hx 0 (by omega)
      rw [add_plain] at h1
      exact cell_block h1
set_option maxRecDepth 100000 in
theorem open_ops {a : Option Addr} {len cap : Nat} {d : DataW H} {ps : List MemPlace} (h : DataW.Trod enc Try.prog W base spare held 22 (.slice a len cap) d ps) : ∃ L : List OpN, L.length = len ∧ Ops W a L := by
  obtain ⟨fuel, hf⟩ := h
  rcases Go.Deep.open_slice Try.underlying22 hf with ⟨hcs, _⟩ | ⟨x, l, c, m, n, D, Pl, hcs, _, hl, _, hm, _, hx⟩
  · simp [Value.cells] at hcs
    obtain ⟨rfl, rfl, rfl⟩ := hcs
    exact ⟨[], rfl, fun x hx => absurd hx (by simp), .inl rfl⟩
  · simp [Value.cells] at hcs
    obtain ⟨rfl, rfl, rfl⟩ := hcs
    have hlm : len ≤ m := by rw [hm]; split <;> omega
    have each : ∀ i, i < len → ∃ b : OpN, b.ok W ∧ ∀ c, c < 5 → W.cell? (x.add (i * 5 + c)) = b.row[c]? := by
      intro i hi
      obtain ⟨cs', h1, h2⟩ := hx i (by omega)
      rw [cells_op] at h1
      obtain ⟨_, hlen, hcell⟩ := World.cells?_some h1
      match cs', hlen with
      | [c0, c1, c2, c3, c4], _ =>
        obtain ⟨b, e, ok⟩ := trod_op h2
        refine ⟨b, ok, fun c hc => ?_⟩
        have := hcell c hc
        rw [Go.Deep.add_add] at this
        rw [this, e]
    letI : Inhabited OpN := ⟨noOp⟩
    obtain ⟨q, hq⟩ := Go.Deep.choose_lt each
    refine ⟨(List.range len).map q, by simp, fun y hy => ?_, ?_⟩
    · obtain ⟨i, hi, rfl⟩ := List.mem_map.1 hy
      exact (hq i (List.mem_range.1 hi)).1
    · by_cases h0 : len = 0
      · left; rw [h0]; rfl
      · right
        obtain ⟨b, off, spot⟩ := x
        have hs : spot = none := by
          have h1 := (hq 0 (by omega)).2 0 (by omega)
          have h2 := World.cell?_spot (v := .int .i64 (q 0).kind) (by simpa [OpN.row] using h1)
          cases spot with
          | none => rfl
          | some s => simp [Addr.add] at h2
        subst hs
        refine ⟨b, off, rfl, fun i hi c hc => ?_⟩
        have hi' : i < len := by simpa using hi
        have hb : ((List.range len).map q).getD i noOp = q i := by simp [List.getD, hi']
        rw [hb]
        have := (hq i hi').2 c hc
        rw [add_plain] at this
        rw [Nat.add_assoc]
        exact this
end
end Go.Proofs.Ytedhgejkobdihaa
