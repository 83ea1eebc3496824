/-
  A list of boxes as an argument: what lies in memory.
-/
import Derived.Test.YtflffgjldoipfaaXData
import Derived.Test.YtflffgjldoipfaaPSort
import Derived.Deep.Slices
import Derived.ChangeOld
namespace Go.Proofs.Ytflffgjldoipfaa
open Go.ChangeShapes Go.WideShapes Go.ChangeAt Go.RowKit Go.Joins

section
variable {H : Type} {enc : TypeId × Value → H} {W : World} {base : Nat} {spare : Nat → Bool} {held : Bool}
theorem open_boxes {a : Option Addr} {len cap : Nat} {d : DataW H} {ps : List MemPlace} (h : DataW.Trod enc Try.prog W base spare held 22 (.slice a len cap) d ps) : ∃ L : List Bx, L.length = len ∧ Boxes W a L := by
  obtain ⟨fuel, hf⟩ := h
  rcases Go.Deep.open_slice Try.underlying22 hf with ⟨hcs, _⟩ | ⟨x, l, c, m, n, D, Pl, hcs, _, hl, _, hm, _, hx⟩
  · simp [Value.cells] at hcs
    obtain ⟨rfl, rfl, rfl⟩ := hcs
    exact ⟨[], rfl, fun x hx => absurd hx (by simp), .inl rfl⟩
  · simp [Value.cells] at hcs
    obtain ⟨rfl, rfl, rfl⟩ := hcs
    have hlm : len ≤ m := by rw [hm]; split <;> omega
    have each : ∀ i, i < len → ∃ b : Bx, b.ok ∧ ∀ c, c < 4 → W.cell? (x.add (i * 4 + c)) = b.row[c]? := by
      intro i hi
      obtain ⟨cs', h1, h2⟩ := hx i (by omega)
      rw [cells_box] at h1
      obtain ⟨_, hlen, hcell⟩ := World.cells?_some h1
      match cs', hlen with
      | [c0, c1, c2, c3], _ =>
        obtain ⟨b, e, _, ok⟩ := trod_box h2
        refine ⟨b, ok, fun c hc => ?_⟩
        have := hcell c hc
        rw [Go.Deep.add_add] at this
        rw [this, e]
    letI : Inhabited Bx := ⟨⟨0, 0, 0, 0⟩⟩
    obtain ⟨q, hq⟩ := Go.Deep.choose_lt each
    refine ⟨(List.range len).map q, by simp, fun y hy => ?_, ?_⟩
    · obtain ⟨i, hi, rfl⟩ := List.mem_map.1 hy
      exact (hq i (List.mem_range.1 hi)).1
    · by_cases h0 : len = 0
      · left; rw [h0]; rfl
      · right
        obtain ⟨b, off, spot⟩ := x
        have hs : spot = none := by
          have h1 := (hq 0 (by omega)).2 0 (by omega)
          have h2 := World.cell?_spot (v := .int .i64 (q 0).l) (by simpa [Bx.row] using h1)
          cases spot with
          | none => rfl
          | some s => simp [Addr.add] at h2
        subst hs
        refine ⟨b, off, rfl, fun i hi => ?_⟩
        have hi' : i < len := by simpa using hi
        have hb : bx ((List.range len).map q) i = q i := by simp [bx, List.getD, hi']
        have h1 := (hq i hi').2
        rw [hb]
        refine ⟨?_, ?_, ?_, ?_⟩
        · have := h1 0 (by omega); rw [add_plain] at this; exact this
        · have := h1 1 (by omega); rw [add_plain] at this; exact this
        · have := h1 2 (by omega); rw [add_plain] at this; exact this
        · have := h1 3 (by omega); rw [add_plain] at this; exact this
end
end Go.Proofs.Ytflffgjldoipfaa
