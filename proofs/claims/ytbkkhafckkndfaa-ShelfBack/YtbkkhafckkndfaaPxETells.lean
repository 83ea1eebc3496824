/-
  For stage 16's first statement: what both sides answer, beside one another.
-/
import Derived.Test.YtbkkhafckkndfaaPxEInts
import Derived.Test.YtbkkhafckkndfaaPxESame
import Derived.Test.YtbkkhafckkndfaaPk06
import Derived.Test.YtbkkhafckkndfaaPk09
import Derived.Test.YtbkkhafckkndfaaPxMAgain
namespace Go.Proofs.Ytbkkhafckkndfaa
open Go Go.RowKit

theorem prs_at : ∀ (L : List Pr) (j : Nat) (u : Value), (prsV L)[j]? = some u → j / 2 < L.length ∧ (j % 2 = 0 → u = .int .i64 (L.getD (j / 2) noPr).n) ∧ (j % 2 = 1 → u = .string (L.getD (j / 2) noPr).b) := by
  intro L
  induction L with
  | nil => intro j u h; simp [prsV] at h
  | cons x L ih =>
    intro j u h
    match j, h with
    | 0, h => simp [prsV, prV] at h; exact ⟨by simp, fun _ => h.symm, fun e => by omega⟩
    | 1, h => simp [prsV, prV] at h; exact ⟨by simp, fun e => by omega, fun _ => h.symm⟩
    | j + 2, h =>
      have h2 : (prsV L)[j]? = some u := by simpa [prsV, prV] using h
      obtain ⟨q1, q2, q3⟩ := ih j u h2
      have e : (j + 2) / 2 = j / 2 + 1 := by omega
      rw [e]
      refine ⟨by simp; omega, fun h => ?_, fun h => ?_⟩
      · simpa using q2 (by omega)
      · simpa using q3 (by omega)
theorem prs_reads {w : World} {a : Option Addr} {L : List Pr} (h : PrsAt w a L) : Reads w a (prsV L) := by
  rcases h with rfl | ⟨b, off, rfl, h⟩
  · exact .inl rfl
  · refine .inr ⟨b, off, rfl, fun j u hj => ?_⟩
    obtain ⟨q1, q2, q3⟩ := prs_at L j u hj
    have := h (j / 2) q1
    rcases Nat.mod_two_eq_zero_or_one j with e | e
    · rw [q2 e, ← this.1]
      congr 2
      omega
    · rw [q3 e, ← this.2]
      congr 2
      omega
theorem one_prs {L : List Pr} : ∀ u ∈ prsV L, u.oneCell' = true := fun u hu => by
  simp only [prsV, List.mem_flatMap, prV] at hu
  obtain ⟨x, _, hx⟩ := hu
  simp at hx
  rcases hx with rfl | rfl <;> rfl
theorem one_nums {l : List Int} : ∀ u ∈ numsV l, u.oneCell' = true := fun u hu => by
  simp only [numsV, List.mem_map] at hu
  obtain ⟨n, _, rfl⟩ := hu
  rfl
theorem nums_reads {w : World} {a : Option Addr} {l : List Int} (h : NumsAt w a l) : Reads w a (numsV l) := by
  rcases h with rfl | ⟨b, off, rfl, h⟩
  · exact .inl rfl
  · refine .inr ⟨b, off, rfl, fun j u hj => ?_⟩
    have hl : j < l.length := by
      have := (List.getElem?_eq_some_iff.1 hj).1
      simpa [numsV] using this
    rw [h j hl]
    rw [← hj]
    simp [numsV, List.getD, hl]
set_option maxRecDepth 100000 in
theorem info_kwrit : ∃ (i : TypeInfo) (z : Value), (Try.prog).info? 28 = some i ∧ i.zero = some z ∧ z.cells.size = 2 ∧ i.size = 2 ∧ i.bytes = 24 := ⟨_, _, rfl, rfl, rfl, rfl, rfl⟩
theorem eq_kwri (K : Int) (T : ByteArray) (w : World) : (binOp .neq 28 (.agg #[.int .i64 K, .string T]) (.agg #[.int .i64 K, .string T])).run Try.prog w = .ok (.bool false) w := by
  have hu := run_underlying Try.underlying28 w
  have hd : ∀ t x y, Op.equal t x y = Op.equalIn (9997 + 1 + 1 + 1) t x y := fun _ _ _ => rfl
  simp only [binOp, hd]
  rw [Op.equalIn]
  simp [go_sem, hu]
/-! ### Plan's answer is one -/
theorem plan_len {L H O : List Pr} {F : List Int} {root : Int} (h : planR L H F = some (O, root)) : O.length ≤ F.length := by
  have hx := plan_ext (L := L) (H := H) (F := F) (G := []) (O := O) (root := root) (by rw [List.append_nil]; exact h)
  rcases hx with ⟨e, _⟩ | ⟨_, e⟩
  · rw [e] at h; cases h
  · exact e
theorem plan_some (L H : List Pr) (F : List Int) : ∃ O root err, PlanIs L H F O root err := by
  by_cases h1 : recsOk L = true ∧ PgsOk H F
  · by_cases h2 : 21 < (lvs L).1
    · exact ⟨[], 0, 12, .inr (.inl ⟨h1, h2, rfl, rfl, rfl⟩)⟩
    · cases h3 : planR L H F with
      | none => exact ⟨[], 0, 8, .inr (.inr (.inl ⟨h1, h2, h3, rfl, rfl, rfl⟩))⟩
      | some r => exact ⟨r.1, r.2, 0, .inr (.inr (.inr ⟨h1, h2, h3, rfl⟩))⟩
  · exact ⟨[], 0, 9, .inl ⟨h1, rfl, rfl, rfl⟩⟩
theorem plan_one {L H O O' : List Pr} {F : List Int} {root root' err err' : Int} (h : PlanIs L H F O root err) (h' : PlanIs L H F O' root' err') : O' = O ∧ root' = root ∧ err' = err := by
  rcases h with ⟨h1, rfl, rfl, rfl⟩ | ⟨h1, h2, rfl, rfl, rfl⟩ | ⟨h1, h2, h3, rfl, rfl, rfl⟩ | ⟨h1, h2, h3, rfl⟩
  · rcases h' with ⟨_, rfl, rfl, rfl⟩ | ⟨g1, _⟩ | ⟨g1, _⟩ | ⟨g1, _⟩
    · exact ⟨rfl, rfl, rfl⟩
    · exact absurd g1 h1
    · exact absurd g1 h1
    · exact absurd g1 h1
  · rcases h' with ⟨g1, _⟩ | ⟨_, _, rfl, rfl, rfl⟩ | ⟨_, g2, _⟩ | ⟨_, g2, _⟩
    · exact absurd h1 g1
    · exact ⟨rfl, rfl, rfl⟩
    · exact absurd h2 g2
    · exact absurd h2 g2
  · rcases h' with ⟨g1, _⟩ | ⟨_, g2, _⟩ | ⟨_, _, _, rfl, rfl, rfl⟩ | ⟨_, _, g3, _⟩
    · exact absurd h1 g1
    · exact absurd g2 h2
    · exact ⟨rfl, rfl, rfl⟩
    · rw [h3] at g3; cases g3
  · rcases h' with ⟨g1, _⟩ | ⟨_, g2, _⟩ | ⟨_, _, g3, _⟩ | ⟨_, _, g3, rfl⟩
    · exact absurd h1 g1
    · exact absurd g2 h2
    · rw [h3] at g3; cases g3
    · rw [h3] at g3
      simp only [Option.some.injEq, Prod.mk.injEq] at g3
      exact ⟨g3.1.symm, g3.2.symm, rfl⟩
theorem plan_short {L H O : List Pr} {F : List Int} {root err : Int} (h : PlanIs L H F O root err) : O.length ≤ F.length := by
  rcases h with ⟨_, rfl, _⟩ | ⟨_, _, rfl, _⟩ | ⟨_, _, _, rfl, _⟩ | ⟨_, _, h, _⟩
  · simp
  · simp
  · simp
  · exact plan_len h
/-- What both sides have answered, and the lists that were copied. -/
structure Ft (w W : World) (af ah ap ar : Option Addr) (F : List Int) (H O : List Pr) : Prop where
  b : Below w.heap.size w W
  f : NumsAt W af F
  h : PrsAt W ah H
  p : PrsAt W ap O
  r : PrsAt W ar O
theorem Ft.below {w W W' : World} {af ah ap ar : Option Addr} {F : List Int} {H O : List Pr} (h : Ft w W af ah ap ar F H O) (g : Below W.heap.size W W') : Ft w W' af ah ap ar F H O :=
  ⟨on_two h.b g, h.f.below g, h.h.below g, h.p.below g, h.r.below g⟩
theorem Ft.drewN {w W : World} {af ah ap ar : Option Addr} {F : List Int} {H O : List Pr} (h : Ft w W af ah ap ar F H O) (j : Nat) : Ft w (W.drewN j) af ah ap ar F H O := h.below ⟨rfl, rfl, rfl, Nat.le_refl _, fun _ _ => rfl⟩
end Go.Proofs.Ytbkkhafckkndfaa
