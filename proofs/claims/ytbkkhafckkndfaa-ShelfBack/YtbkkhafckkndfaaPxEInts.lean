/-
  Lists of ints as arguments: what lies in memory.
-/
import Derived.Test.YtbkkhafckkndfaaPxEData
import Derived.Test.YtbkkhafckkndfaaPk05
import Derived.Test.YtbkkhafckkndfaaPk09
namespace Go.Proofs.Ytbkkhafckkndfaa
open Go.ChangeShapes Go.WideShapes Go.ChangeAt Go.RowKit Go.Joins

/-- Ints that lie in memory. -/
def Numss (w : World) (a : Option Addr) (cap : Nat) (l : List Int) : Prop := (∀ n ∈ l, inF n) ∧ l.length ≤ cap ∧ cap ≤ maxLen ∧ NumsAt w a l
section
variable {H : Type} {enc : TypeId × Value → H} {W : World} {base : Nat} {spare : Nat → Bool} {held : Bool}
set_option maxRecDepth 100000 in
theorem open_ints {a : Option Addr} {len cap : Nat} {d : DataW H} {ps : List MemPlace} (h : DataW.Trod enc Try.prog W base spare held 24 (.slice a len cap) d ps) : ∃ l : List Int, l.length = len ∧ Numss W a cap l := by
  obtain ⟨fuel, hf⟩ := h
  rcases Go.Deep.open_slice1 Try.underlying24 cells_eint hf with ⟨hcs, _⟩ | ⟨x, l, c, m, n, V, D, Pl, hcs, _, hl, hml, hm, _, hx⟩
  · simp [Value.cells] at hcs
    obtain ⟨rfl, rfl, rfl⟩ := hcs
    exact ⟨[], rfl, fun c hc => absurd hc (by simp), Nat.le_refl _, Nat.zero_le _, .inl rfl⟩
  · simp [Value.cells] at hcs
    obtain ⟨rfl, rfl, rfl⟩ := hcs
    have hlm : len ≤ m := by rw [hm]; split <;> omega
    have each : ∀ i, i < len → ∃ b : Int, inF b ∧ W.cell? (x.add i) = some (.int .i64 b) := by
      intro i hi
      obtain ⟨h1, h2⟩ := hx i (by omega)
      obtain ⟨k, e0, _, fk⟩ := DataW.trod_int Try.underlying3 h2
      simp at e0
      exact ⟨k, inF_wf fk, by rw [h1, e0]⟩
    letI : Inhabited Int := ⟨0⟩
    obtain ⟨q, hq⟩ := Go.Deep.choose_lt each
    refine ⟨(List.range len).map q, by simp, fun y hy => ?_, by simp; omega, hml, ?_⟩
    · obtain ⟨i, hi, rfl⟩ := List.mem_map.1 hy
      exact (hq i (List.mem_range.1 hi)).1
    · by_cases h0 : len = 0
      · left; rw [h0]; rfl
      · right
        obtain ⟨b, off, spot⟩ := x
        have hs : spot = none := by
          have h1 := (hq 0 (by omega)).2
          have h2 := World.cell?_spot h1
          cases spot with
          | none => rfl
          | some s => simp [Addr.add] at h2
        subst hs
        refine ⟨b, off, rfl, fun i hi => ?_⟩
        have hi' : i < len := by simpa using hi
        have hb : ((List.range len).map q).getD i 0 = q i := by simp [List.getD, hi']
        rw [hb]
        have := (hq i hi').2
        rw [add_plain] at this
        exact this
end
end Go.Proofs.Ytbkkhafckkndfaa
