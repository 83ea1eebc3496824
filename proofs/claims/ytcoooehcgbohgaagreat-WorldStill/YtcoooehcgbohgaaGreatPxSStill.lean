/-
  Plain numbers, no program in sight: without gravity, joints and speed, right bodies of which no two touch stay as they are.
-/
import Derived.Test.YtcoooehcgbohgaaGreatPxSMass
import Derived.Test.YtcoooehcgbohgaaGreatPk12
import Derived.Test.YtcoooehcgbohgaaGreatPk13
namespace Go.Proofs.YtcoooehcgbohgaaGreat
open Go Go.RowKit

/-- Bodies that rest, and of which no two touch. -/
structure Calm (L : List Bd) : Prop where
  ok : ∀ z ∈ L, z.ok
  right : L.all rightB = true
  rest : ∀ i, i < L.length → (bd L i).u = 0 ∧ (bd L i).v = 0
  apart : ∀ i j, i < j → j < L.length → (hitR (bd L i) (bd L j)).2 = 0 ∧ (hitR (bd L i) (bd L j)).1.2 = false
theorem up_same {f : Nat → List Bd → List Bd × Int} {L : List Bd} : ∀ (m k : Nat), (∀ j, k ≤ j → j < k + m → f j L = (L, 0)) → upE f m k L = (L, 0)
  | 0, _, _ => rfl
  | m + 1, k, h => by
    unfold upE
    rw [h k (Nat.le_refl _) (by omega), if_pos rfl]
    exact up_same m (k + 1) fun j h1 h2 => h j (by omega) (by omega)
theorem rest_move {B : Bd} (h : rightB B = true) (hB : B.ok) (hu : B.u = 0) (hv : B.v = 0) : moveB B = (B, 0) := by
  have hr := (rightB_iff B).1 h
  unfold moveB
  by_cases hm : B.m = 0
  · rw [if_pos hm]
  · rw [if_neg hm]
    have hm0 : 0 < B.m := by omega
    have hd : divR 0 B.m = (0, 0) := by
      unfold divR
      rw [if_neg hm]
      have e : divM 0 B.m = 0 := by unfold divM ab; simp
      unfold sgR
      rw [e]
      split <;> rfl
    have hs : speedR B = (0, 0, 0) := by
      unfold speedR
      rw [if_neg hm, hu, hv, hd, twoOk]
    have hsh : shareV (0, 0, 0) = (0, 0, 0) := rfl
    have hp : addR B.p 0 = (B.p, 0) := by unfold addR; rw [Int.add_zero]; exact inR_ok hB.p
    have hq : addR B.q 0 = (B.q, 0) := by unfold addR; rw [Int.add_zero]; exact inR_ok hB.q
    unfold moveV
    rw [hs, hsh]
    show put (ifV 0 (two (addR B.p 0) (addR B.q 0))) B.pos = _
    rw [hp, hq, ifV_ok rfl, twoOk, put_ok rfl]
    rfl
theorem Calm.bright {L : List Bd} (h : Calm L) {i : Nat} (hi : i < L.length) : rightB (bd L i) = true := List.all_eq_true.1 h.right _ (bd_mem hi)
theorem Calm.box {L : List Bd} (h : Calm L) {i : Nat} (hi : i < L.length) : (boxR (bd L i)).2 = 0 := by
  have hr := (rightB_iff _).1 (h.bright hi)
  exact box_ok (by omega) (by omega) (by omega) (by omega)
theorem Calm.step {L : List Bd} (h : Calm L) : stepE 0 0 [] L = (L, 0) := by
  have hw : rightW 0 0 L [] = true := by
    unfold rightW
    rw [h.right]
    rfl
  have hmv : movesE L = (L, 0) := up_same _ _ fun j _ hj => by
    have hj : j < L.length := by omega
    show putE L j (moveB (bd L j)) = _
    rw [rest_move (h.bright hj) (h.ok _ (bd_mem hj)) (h.rest j hj).1 (h.rest j hj).2]
    show (L.set j (bd L j), (0 : Int)) = _
    rw [set_bd hj]
  have hbx : boxE L = (L.map (fun B => (boxR B).1), 0) := boxE_ok fun i hi => h.box hi
  have hbo : bounceE L = (L, 0) := by
    unfold bounceE
    rw [hbx, if_pos rfl]
    refine up_same _ _ fun k _ hk => ?_
    have hk : k < (prs (L.map fun B => (boxR B).1)).length := by simpa using hk
    have hm : pr (prs (L.map fun B => (boxR B).1)) k ∈ prs (L.map fun B => (boxR B).1) := by
      unfold pr
      simp only [List.getD, List.getElem?_eq_getElem hk, Option.getD_some]
      exact List.getElem_mem hk
    obtain ⟨h1, h2, _⟩ := (prs_mem _ _).1 hm
    rw [List.length_map] at h2
    obtain ⟨h3, h4⟩ := h.apart _ _ h1 h2
    show hitE (prs (L.map fun B => (boxR B).1)) k L = _
    unfold hitE
    rw [h3, if_pos rfl, h4]
    rfl
  have hrd : roundE [] L = (L, 0) := rfl
  unfold stepE
  rw [if_pos hw]
  unfold advE
  rw [falls_none h.ok, show (thenE (L, (0 : Int)) fun A => thenE (roundE [] A) fun B => thenE (bounceE B) movesE) = thenE (roundE [] L) fun B => thenE (bounceE B) movesE from rfl, hrd,
    show (thenE (L, (0 : Int)) fun B => thenE (bounceE B) movesE) = thenE (bounceE L) movesE from rfl, hbo, show thenE (L, (0 : Int)) movesE = movesE L from rfl, hmv]
  exact if_pos h.right
theorem Calm.go {L : List Bd} (h : Calm L) : ∀ (m k : Nat), goE 0 0 [] m k L = ((L, 0), 0)
  | 0, _ => rfl
  | m + 1, k => by
    have e := h.step
    have : goE 0 0 [] (m + 1) k L = goE 0 0 [] m (k + 1) (stepE 0 0 [] L).1 := if_pos (by rw [e])
    rw [this, e]
    exact h.go m (k + 1)
theorem Calm.run {L : List Bd} (h : Calm L) (n : Nat) (hn : n ≤ 200) : runE 0 0 [] L (n : Int) = ((L, 0), 0) := by
  have hw : rightW 0 0 L [] = true := by
    unfold rightW
    rw [h.right]
    rfl
  unfold runE
  rw [if_neg (by omega)]
  by_cases h0 : (n : Int) = 0
  · rw [if_pos h0, if_pos hw]
  · rw [if_neg h0]
    exact h.go _ 0
end Go.Proofs.YtcoooehcgbohgaaGreat
