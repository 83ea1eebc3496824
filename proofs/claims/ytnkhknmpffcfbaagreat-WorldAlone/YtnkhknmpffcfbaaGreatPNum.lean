/-
  Lists of boxes: who meets whom, in order; their order by their left edges. No program in sight; nothing is claimed here.
-/
import Derived.Test.YtnkhknmpffcfbaaGreatXBox
namespace Go.Proofs.YtnkhknmpffcfbaaGreat
open Go Go.RowKit

def bx (L : List Bx) (i : Nat) : Bx := L.getD i ⟨0, 0, 0, 0⟩
def mt (L : List Bx) (a b : Nat) : Bool := meetB (bx L a) (bx L b)
theorem meetB_comm (a b : Bx) : meetB a b = meetB b a := by unfold meetB; exact Bool.and_comm _ _
theorem mt_comm (L : List Bx) (a b : Nat) : mt L a b = mt L b a := meetB_comm _ _

/-- All two of a list that meet, as it goes. -/
def sweep (m : Nat → Nat → Bool) : List Nat → List (Nat × Nat)
  | [] => []
  | a :: r => (r.filter (m a)).map (fun b => (min a b, max a b)) ++ sweep m r
/-- Who meets whom, in order. -/
def prs (L : List Bx) : List (Nat × Nat) := sweep (mt L) (List.range L.length)

theorem sweep_perm {m : Nat → Nat → Bool} (hm : ∀ a b, m a b = m b a) {l l' : List Nat} (h : l.Perm l') : (sweep m l).Perm (sweep m l') := by
  induction h with
  | nil => exact List.Perm.refl _
  | cons x h ih => exact List.Perm.append ((h.filter _).map _) ih
  | swap x y l =>
    simp only [sweep, List.filter_cons]
    rw [hm y x]
    cases hxy : m x y
    · simp only [Bool.false_eq_true, if_false]
      rw [← List.append_assoc, ← List.append_assoc]
      exact List.Perm.append_right _ List.perm_append_comm
    · simp only [if_true, List.map_cons, List.cons_append]
      rw [Nat.min_comm y x, Nat.max_comm y x]
      refine List.Perm.cons _ ?_
      rw [← List.append_assoc, ← List.append_assoc]
      exact List.Perm.append_right _ List.perm_append_comm
  | trans _ _ ih1 ih2 => exact ih1.trans ih2

/-- One pair ahead of another. -/
def ltP (p q : Nat × Nat) : Prop := p.1 < q.1 ∨ p.1 = q.1 ∧ p.2 < q.2

theorem sweep_mem {m : Nat → Nat → Bool} : ∀ {l : List Nat}, l.Pairwise (· < ·) → ∀ p, p ∈ sweep m l ↔ p.1 ∈ l ∧ p.2 ∈ l ∧ p.1 < p.2 ∧ m p.1 p.2 = true
  | [], _, p => by simp [sweep]
  | a :: r, h, (x, y) => by
    rw [List.pairwise_cons] at h
    simp only [sweep, List.mem_append, List.mem_map, List.mem_filter, List.mem_cons, sweep_mem h.2, Prod.mk.injEq]
    constructor
    · rintro (⟨b, ⟨hb, hm⟩, rfl, rfl⟩ | ⟨h1, h2, h3⟩)
      · have := h.1 b hb
        rw [show min a b = a by omega, show max a b = b by omega]
        exact ⟨.inl rfl, .inr hb, this, hm⟩
      · exact ⟨.inr h1, .inr h2, h3⟩
    · rintro ⟨h1, h2, h3, h4⟩
      rcases h1 with rfl | h1
      · rcases h2 with rfl | h2
        · omega
        · exact .inl ⟨y, ⟨h2, h4⟩, by omega, by omega⟩
      · rcases h2 with rfl | h2
        · have := h.1 x h1; omega
        · exact .inr ⟨h1, h2, h3, h4⟩

theorem sweep_sorted {m : Nat → Nat → Bool} : ∀ {l : List Nat}, l.Pairwise (· < ·) → (sweep m l).Pairwise ltP
  | [], _ => by simp [sweep]
  | a :: r, h => by
    have h' := h
    rw [List.pairwise_cons] at h
    rw [sweep, List.pairwise_append]
    refine ⟨?_, sweep_sorted h.2, ?_⟩
    · rw [List.pairwise_map]
      refine (h.2.filter _).imp_of_mem ?_
      intro x y hx hy hxy
      have h1 := h.1 x (List.mem_filter.1 hx).1
      right
      simp only
      omega
    · rintro p hp ⟨x, y⟩ hq
      obtain ⟨b, hb, rfl⟩ := List.mem_map.1 hp
      have h1 := h.1 b (List.mem_filter.1 hb).1
      have h2 := h.1 x ((sweep_mem h.2 (x, y)).1 hq).1
      left
      simp only
      omega

theorem prs_mem (L : List Bx) (p : Nat × Nat) : p ∈ prs L ↔ p.1 < p.2 ∧ p.2 < L.length ∧ mt L p.1 p.2 = true := by
  unfold prs
  rw [sweep_mem List.pairwise_lt_range]
  simp only [List.mem_range]
  constructor
  · rintro ⟨h1, h2, h3, h4⟩; exact ⟨h3, h2, h4⟩
  · rintro ⟨h1, h2, h3⟩; exact ⟨by omega, h2, h1, h3⟩
theorem prs_sorted (L : List Bx) : (prs L).Pairwise ltP := sweep_sorted List.pairwise_lt_range

/-- One place ahead of another, by left edges. -/
def ltS (L : List Bx) (i j : Nat) : Prop := (bx L i).l < (bx L j).l ∨ (bx L i).l = (bx L j).l ∧ i < j
/-- The places by their left edges. -/
structure IsSorted (L : List Bx) (S : List Nat) : Prop where
  perm : S.Perm (List.range L.length)
  sorted : S.Pairwise (ltS L)
theorem IsSorted.length {L : List Bx} {S : List Nat} (h : IsSorted L S) : S.length = L.length := by rw [h.perm.length_eq, List.length_range]
theorem IsSorted.lt {L : List Bx} {S : List Nat} (h : IsSorted L S) {i : Nat} (hi : i ∈ S) : i < L.length := List.mem_range.1 (h.perm.mem_iff.1 hi)
theorem IsSorted.sweep {L : List Bx} {S : List Nat} (h : IsSorted L S) : (sweep (mt L) S).Perm (prs L) := sweep_perm (mt_comm L) h.perm

/-- What lies further right than a box ends does not meet it. -/
theorem mt_far {L : List Bx} {a b : Nat} (h : (bx L a).h < (bx L b).l) : mt L a b = false := by
  cases g : mt L a b
  · rfl
  · unfold mt at g
    rw [meetB_iff] at g
    omega
theorem filter_far {L : List Bx} {a b : Nat} {r : List Nat} (h : (bx L a).h < (bx L b).l) (hs : (b :: r).Pairwise (ltS L)) : (b :: r).filter (mt L a) = [] := by
  rw [List.pairwise_cons] at hs
  rw [List.filter_eq_nil_iff]
  intro x hx
  rw [mt_far]
  · simp
  · rcases List.mem_cons.1 hx with rfl | hx
    · exact h
    · rcases hs.1 x hx with g | g <;> omega
end Go.Proofs.YtnkhknmpffcfbaaGreat
