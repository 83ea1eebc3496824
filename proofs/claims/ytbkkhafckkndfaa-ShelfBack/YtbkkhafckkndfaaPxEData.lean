/-
  Lists of records, of writes as arguments: what lies in memory.
-/
import Derived.Test.YtbkkhafckkndfaaPk05
import Derived.Lib.SmallJoins
import Derived.ProofKit
import Derived.OpenShut
import Derived.ChangeSlices
namespace Go.Proofs.Ytbkkhafckkndfaa
open Go.ChangeShapes Go.WideShapes Go.ChangeAt Go.RowKit Go.Joins

section
variable {H : Type} {enc : TypeId × Value → H} {P : Program} {W : World} {base : Nat} {spare : Nat → Bool} {held : Bool}
set_option maxRecDepth 100000 in
theorem trod_pair2 {t : TypeId} {f0 f1 : Field} {fuel : Nat} {cs : List Value} {x : DataW H × List MemPlace} (ht : P.underlying t = some (.struct #[f0, f1])) (h : DataW.trod enc P W base spare held fuel t cs = some x) :
    ∃ y0 y1 n, DataW.trod enc P W base spare held n f0.type ((cs.drop f0.offset).take (P.cellsOf f0.type)) = some y0 ∧
      DataW.trod enc P W base spare held n f1.type ((cs.drop f1.offset).take (P.cellsOf f1.type)) = some y1 := by
  obtain ⟨xs, n, _, rfl, hl, hlen, hf⟩ := DataW.trod_struct ht h
  match xs, hlen with
  | [y0, y1], _ => exact ⟨y0, y1, n, by simpa using hf 0 f0 rfl, by simpa using hf 1 f1 rfl⟩
end
/-- Records, writes that lie in memory, of texts that there may be. -/
def Prss (w : World) (a : Option Addr) (L : List Pr) : Prop := (∀ c ∈ L, inF c.n ∧ c.b.size ≤ maxLen) ∧ L.length ≤ maxLen ∧ PrsAt w a L
section
variable {H : Type} {enc : TypeId × Value → H} {W : World} {base : Nat} {spare : Nat → Bool} {held : Bool}
set_option maxRecDepth 100000 in
theorem cells_eint : Try.prog.cellsOf 3 = 1 := by kernel_rfl
set_option maxRecDepth 100000 in
theorem cells_estr : Try.prog.cellsOf 9 = 1 := by kernel_rfl
set_option maxRecDepth 100000 in
theorem cells_erecord : Try.prog.cellsOf 53 = 2 := by kernel_rfl
set_option maxRecDepth 100000 in
theorem trod_erecord {n : Nat} {c0 c1 : Value} {y : DataW H × List MemPlace} (h : DataW.trod enc Try.prog W base spare held n 53 [c0, c1] = some y) : ∃ o : Pr, [c0, c1] = prV o ∧ inF o.n ∧ o.b.size ≤ maxLen := by
  obtain ⟨y0, y1, m, h0, h1⟩ := trod_pair2 Try.underlying53 h
  simp only [cells_eint, cells_estr] at h0 h1
  obtain ⟨k, e0, _, fk⟩ := DataW.trod_int Try.underlying3 h0
  obtain ⟨s, e1, _, fs⟩ := DataW.trod_string Try.underlying9 h1
  simp at e0 e1
  subst e0 e1
  exact ⟨⟨k, s⟩, rfl, inF_wf fk, fs⟩
set_option maxRecDepth 100000 in
theorem open_records {a : Option Addr} {len cap : Nat} {d : DataW H} {ps : List MemPlace} (h : DataW.Trod enc Try.prog W base spare held 22 (.slice a len cap) d ps) : ∃ L : List Pr, L.length = len ∧ Prss W a L := by
  obtain ⟨fuel, hf⟩ := h
  rcases Go.Deep.open_slice Try.underlying22 hf with ⟨hcs, _⟩ | ⟨x, l, c, m, n, D, Pl, hcs, _, hl, hml, hm, _, hx⟩
  · simp [Value.cells] at hcs
    obtain ⟨rfl, rfl, rfl⟩ := hcs
    exact ⟨[], rfl, fun c hc => absurd hc (by simp), Nat.zero_le _, .inl rfl⟩
  · simp [Value.cells] at hcs
    obtain ⟨rfl, rfl, rfl⟩ := hcs
    have hlm : len ≤ m := by rw [hm]; split <;> omega
    have each : ∀ i, i < len → ∃ b : Pr, (inF b.n ∧ b.b.size ≤ maxLen) ∧ ∀ c, c < 2 → W.cell? (x.add (i * 2 + c)) = (prV b)[c]? := by
      intro i hi
      obtain ⟨cs', h1, h2⟩ := hx i (by omega)
      rw [cells_erecord] at h1
      obtain ⟨_, hlen, hcell⟩ := World.cells?_some h1
      match cs', hlen with
      | [c0, c1], _ =>
        obtain ⟨b, e, ok⟩ := trod_erecord h2
        refine ⟨b, ok, fun c hc => ?_⟩
        have := hcell c hc
        rw [Go.Deep.add_add] at this
        rw [this, e]
    letI : Inhabited Pr := ⟨noPr⟩
    obtain ⟨q, hq⟩ := Go.Deep.choose_lt each
    refine ⟨(List.range len).map q, by simp, fun y hy => ?_, by simp; omega, ?_⟩
    · obtain ⟨i, hi, rfl⟩ := List.mem_map.1 hy
      exact (hq i (List.mem_range.1 hi)).1
    · by_cases h0 : len = 0
      · left; rw [h0]; rfl
      · right
        obtain ⟨b, off, spot⟩ := x
        have hs : spot = none := by
          have h1 := (hq 0 (by omega)).2 0 (by omega)
          have h2 := World.cell?_spot (v := .int .i64 (q 0).n) (by simpa [prV] using h1)
          cases spot with
          | none => rfl
          | some s => simp [Addr.add] at h2
        subst hs
        refine ⟨b, off, rfl, fun i hi => ?_⟩
        have hi' : i < len := by simpa using hi
        have hb : ((List.range len).map q).getD i noPr = q i := by simp [List.getD, hi']
        rw [hb]
        have hg : ∀ c, c < 2 → W.cell? ⟨b, off + i * 2 + c, none⟩ = (prV (q i))[c]? := fun c hc => by
          have := (hq i hi').2 c hc
          rw [add_plain] at this
          rw [Nat.add_assoc]
          exact this
        exact ⟨hg 0 (by omega), hg 1 (by omega)⟩
set_option maxRecDepth 100000 in
theorem cells_ewrite : Try.prog.cellsOf 28 = 2 := by kernel_rfl
set_option maxRecDepth 100000 in
theorem trod_ewrite {n : Nat} {c0 c1 : Value} {y : DataW H × List MemPlace} (h : DataW.trod enc Try.prog W base spare held n 28 [c0, c1] = some y) : ∃ o : Pr, [c0, c1] = prV o ∧ inF o.n ∧ o.b.size ≤ maxLen := by
  obtain ⟨y0, y1, m, h0, h1⟩ := trod_pair2 Try.underlying28 h
  simp only [cells_eint, cells_estr] at h0 h1
  obtain ⟨k, e0, _, fk⟩ := DataW.trod_int Try.underlying3 h0
  obtain ⟨s, e1, _, fs⟩ := DataW.trod_string Try.underlying9 h1
  simp at e0 e1
  subst e0 e1
  exact ⟨⟨k, s⟩, rfl, inF_wf fk, fs⟩
set_option maxRecDepth 100000 in
theorem open_writes {a : Option Addr} {len cap : Nat} {d : DataW H} {ps : List MemPlace} (h : DataW.Trod enc Try.prog W base spare held 23 (.slice a len cap) d ps) : ∃ L : List Pr, L.length = len ∧ Prss W a L := by
  obtain ⟨fuel, hf⟩ := h
  rcases Go.Deep.open_slice Try.underlying23 hf with ⟨hcs, _⟩ | ⟨x, l, c, m, n, D, Pl, hcs, _, hl, hml, hm, _, hx⟩
  · simp [Value.cells] at hcs
    obtain ⟨rfl, rfl, rfl⟩ := hcs
    exact ⟨[], rfl, fun c hc => absurd hc (by simp), Nat.zero_le _, .inl rfl⟩
  · simp [Value.cells] at hcs
    obtain ⟨rfl, rfl, rfl⟩ := hcs
    have hlm : len ≤ m := by rw [hm]; split <;> omega
    have each : ∀ i, i < len → ∃ b : Pr, (inF b.n ∧ b.b.size ≤ maxLen) ∧ ∀ c, c < 2 → W.cell? (x.add (i * 2 + c)) = (prV b)[c]? := by
      intro i hi
      obtain ⟨cs', h1, h2⟩ := hx i (by omega)
      rw [cells_ewrite] at h1
      obtain ⟨_, hlen, hcell⟩ := World.cells?_some h1
      match cs', hlen with
      | [c0, c1], _ =>
        obtain ⟨b, e, ok⟩ := trod_ewrite h2
        refine ⟨b, ok, fun c hc => ?_⟩
        have := hcell c hc
        rw [Go.Deep.add_add] at this
        rw [this, e]
    letI : Inhabited Pr := ⟨noPr⟩
    obtain ⟨q, hq⟩ := Go.Deep.choose_lt each
    refine ⟨(List.range len).map q, by simp, fun y hy => ?_, by simp; omega, ?_⟩
    · obtain ⟨i, hi, rfl⟩ := List.mem_map.1 hy
      exact (hq i (List.mem_range.1 hi)).1
    · by_cases h0 : len = 0
      · left; rw [h0]; rfl
      · right
        obtain ⟨b, off, spot⟩ := x
        have hs : spot = none := by
          have h1 := (hq 0 (by omega)).2 0 (by omega)
          have h2 := World.cell?_spot (v := .int .i64 (q 0).n) (by simpa [prV] using h1)
          cases spot with
          | none => rfl
          | some s => simp [Addr.add] at h2
        subst hs
        refine ⟨b, off, rfl, fun i hi => ?_⟩
        have hi' : i < len := by simpa using hi
        have hb : ((List.range len).map q).getD i noPr = q i := by simp [List.getD, hi']
        rw [hb]
        have hg : ∀ c, c < 2 → W.cell? ⟨b, off + i * 2 + c, none⟩ = (prV (q i))[c]? := fun c hc => by
          have := (hq i hi').2 c hc
          rw [add_plain] at this
          rw [Nat.add_assoc]
          exact this
        exact ⟨hg 0 (by omega), hg 1 (by omega)⟩
end
end Go.Proofs.Ytbkkhafckkndfaa
