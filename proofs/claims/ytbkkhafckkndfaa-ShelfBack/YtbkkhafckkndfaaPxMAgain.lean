/-
  Stage 16's Plan once more over what it wrote: all is found, nothing is written. No program in sight.
-/
import Derived.Test.YtbkkhafckkndfaaPk09
namespace Go.Proofs.Ytbkkhafckkndfaa
open Go Go.RowKit

theorem find_pre {A B : List Pr} {b : ByteArray} {n : Int} (h : findW A b = some n) (hp : A <+: B) : findW B b = some n := by
  obtain ⟨D, rfl⟩ := hp
  unfold findW at h ⊢
  rw [List.find?_append]
  cases e : A.find? (fun x => decide (x.b = b)) with
  | none => rw [e] at h; cases h
  | some x => rw [e] at h; exact h
theorem find_new {A : List Pr} {b : ByteArray} {n : Int} (h : findW A b = none) : findW (A ++ [⟨n, b⟩]) b = some n := by
  unfold findW at h ⊢
  rw [List.find?_append]
  cases e : A.find? (fun x => decide (x.b = b)) with
  | some x => rw [e] at h; cases h
  | none => simp
theorem put_found {s s' : Sp} {b : ByteArray} {n : Int} (h : putS [] s b = some (n, s')) : findW s'.O b = some n := by
  unfold putS putW at h
  cases e1 : findW [] b with
  | some m => cases e1
  | none =>
    rw [e1] at h
    cases e2 : findW s.O b with
    | some m => rw [e2] at h; simp only [Option.map_some, Option.some.injEq, Prod.mk.injEq] at h; obtain ⟨rfl, rfl⟩ := h; exact e2
    | none =>
      rw [e2] at h
      cases e3 : s.F with
      | nil => rw [e3] at h; cases h
      | cons m F =>
        rw [e3] at h
        simp only [Option.map_some, Option.some.injEq, Prod.mk.injEq] at h
        obtain ⟨rfl, rfl⟩ := h
        exact find_new e2
theorem put_again {s s' : Sp} {b : ByteArray} {n : Int} {O : List Pr} (h : putS [] s b = some (n, s')) (hp : s'.O <+: O) : putS O ⟨[], []⟩ b = some (n, ⟨[], []⟩) := by
  have := find_pre (put_found h) hp
  unfold putS putW
  rw [this]
  rfl
theorem goC_again {b : ByteArray} {O : List Pr} : ∀ (k : Nat) (next : Int) (s s' : Sp) (n : Int), goC [] b k next s = some (n, s') → s'.O <+: O → goC O b k next ⟨[], []⟩ = some (n, ⟨[], []⟩) := by
  intro k
  induction k with
  | zero =>
    intro next s s' n h hp
    simp only [goC, Option.some.injEq, Prod.mk.injEq] at h
    obtain ⟨rfl, rfl⟩ := h
    rfl
  | succ k ih =>
    intro next s s' n h hp
    cases e : putS [] s (chainV next (pieceL b k)) with
    | none => rw [goC_no e] at h; cases h
    | some r =>
      obtain ⟨m, s2⟩ := r
      rw [goC_up e] at h
      have h2 := (goC_less k m s2 s' n h).2
      rw [goC_up (put_again e (h2.trans hp))]
      exact ih m s2 s' n h hp
theorem stepR_again {C C' : List Ce} {s s' : Sp} {x : Pr} {O : List Pr} (h : stepR [] (C, s) x = some (C', s')) (hp : s'.O <+: O) : stepR O (C, ⟨[], []⟩) x = some (C', ⟨[], []⟩) := by
  unfold stepR at h ⊢
  dsimp only at h ⊢
  by_cases hz : x.b.size ≤ 24
  · rw [if_pos hz] at h ⊢
    simp only [Option.some.injEq, Prod.mk.injEq] at h
    rw [← h.1]
  · rw [if_neg hz] at h ⊢
    cases e : goC [] x.b (npc x.b) 0 s with
    | none => rw [e] at h; cases h
    | some r =>
      obtain ⟨n, s2⟩ := r
      rw [e] at h
      simp only [Option.map_some, Option.some.injEq, Prod.mk.injEq] at h
      obtain ⟨rfl, rfl⟩ := h
      rw [goC_again _ _ _ _ _ e hp]
      rfl
theorem goR_again {O : List Pr} : ∀ (L : List Pr) (C C' : List Ce) (s s' : Sp), goR [] L (C, s) = some (C', s') → s'.O <+: O → goR O L (C, ⟨[], []⟩) = some (C', ⟨[], []⟩) := by
  intro L
  induction L with
  | nil =>
    intro C C' s s' h hp
    simp only [goR, Option.some.injEq, Prod.mk.injEq] at h
    obtain ⟨rfl, rfl⟩ := h
    rfl
  | cons x L ih =>
    intro C C' s s' h hp
    rw [goR] at h
    cases e : stepR [] (C, s) x with
    | none => rw [e] at h; cases h
    | some r =>
      obtain ⟨C2, s2⟩ := r
      rw [e, Option.bind_some] at h
      have h2 := (goR_less L C2 C' s2 s' h).2
      rw [goR, stepR_again e (h2.trans hp), Option.bind_some]
      exact ih C2 C' s2 s' h hp
theorem goP_again {O : List Pr} : ∀ (Gs : List (List Ce)) (S S' : List Sl) (s s' : Sp), goP [] Gs (S, s) = some (S', s') → s'.O <+: O → goP O Gs (S, ⟨[], []⟩) = some (S', ⟨[], []⟩) := by
  intro Gs
  induction Gs with
  | nil =>
    intro S S' s s' h hp
    simp only [goP, Option.some.injEq, Prod.mk.injEq] at h
    obtain ⟨rfl, rfl⟩ := h
    rfl
  | cons x Gs ih =>
    intro S S' s s' h hp
    rw [goP] at h
    dsimp only at h
    cases e : putS [] s (leafV x) with
    | none => rw [e] at h; cases h
    | some r =>
      obtain ⟨n, s2⟩ := r
      rw [e] at h
      have h2 := (goP_less Gs _ S' s2 s' h).2
      rw [goP]
      dsimp only
      rw [put_again e (h2.trans hp)]
      exact ih _ S' s2 s' h hp
theorem plan_again {L O : List Pr} {F : List Int} {root : Int} (h : planR L [] F = some (O, root)) : planR L O [] = some ([], root) := by
  cases e1 : goR [] L ([], ⟨[], F⟩) with
  | none => rw [planR_none e1] at h; cases h
  | some r =>
    obtain ⟨C, s⟩ := r
    rw [planR_parts e1] at h
    cases e2 : goP [] (partsL C) ([], s) with
    | none => rw [e2] at h; cases h
    | some r =>
      obtain ⟨S, s2⟩ := r
      rw [e2, Option.bind_some] at h
      dsimp only at h
      cases e3 : putS [] s2 (idxV S) with
      | none => rw [e3] at h; cases h
      | some r =>
        obtain ⟨n, s3⟩ := r
        rw [e3] at h
        simp only [Option.map_some, Option.some.injEq, Prod.mk.injEq] at h
        obtain ⟨rfl, rfl⟩ := h
        have l3 := (put_less e3).2
        have l2 := (goP_less _ _ _ _ _ e2).2
        have r1 := goR_again (O := s3.O) _ _ _ _ _ e1 (l2.trans l3)
        have r2 := goP_again (O := s3.O) _ _ _ _ _ e2 l3
        rw [planR_parts r1, r2, Option.bind_some]
        dsimp only
        rw [put_again e3 (List.prefix_refl _)]
        rfl
theorem pgs_goP {H : List Pr} : ∀ (Gs : List (List Ce)) (S S' : List Sl) (s s' : Sp), PgsIn H s → goP H Gs (S, s) = some (S', s') → PgsIn H s' := by
  intro Gs
  induction Gs with
  | nil =>
    intro S S' s s' hp h
    simp only [goP, Option.some.injEq, Prod.mk.injEq] at h
    obtain ⟨_, rfl⟩ := h
    exact hp
  | cons x Gs ih =>
    intro S S' s s' hp h
    rw [goP] at h
    dsimp only at h
    cases e : putS H s (leafV x) with
    | none => rw [e] at h; cases h
    | some r =>
      obtain ⟨n, s2⟩ := r
      rw [e] at h
      exact ih _ S' s2 s' (pgs_put hp e).2 h
/-- The pages that are written may be; there are no more of them than were free. -/
theorem plan_pages {L H O : List Pr} {F : List Int} {root : Int} (h : planR L H F = some (O, root)) (hp : PgsIn H ⟨[], F⟩) : (∀ x ∈ O, pageB x.n = true) ∧ pageB root = true ∧ O.length ≤ F.length := by
  cases e1 : goR H L ([], ⟨[], F⟩) with
  | none => rw [planR_none e1] at h; cases h
  | some r =>
    obtain ⟨C, s⟩ := r
    obtain ⟨_, p1⟩ := goR_cells _ _ _ _ _ e1 hp
    have h0 := h
    rw [planR_parts e1] at h
    cases e2 : goP H (partsL C) ([], s) with
    | none => rw [e2] at h; cases h
    | some r =>
      obtain ⟨S, s2⟩ := r
      rw [e2, Option.bind_some] at h
      dsimp only at h
      have p2 := pgs_goP _ _ _ _ _ p1 e2
      cases e3 : putS H s2 (idxV S) with
      | none => rw [e3] at h; cases h
      | some r =>
        obtain ⟨n, s3⟩ := r
        rw [e3] at h
        simp only [Option.map_some, Option.some.injEq, Prod.mk.injEq] at h
        obtain ⟨rfl, rfl⟩ := h
        obtain ⟨p3, p4⟩ := pgs_put p2 e3
        have hx := plan_ext (L := L) (H := H) (F := F) (G := []) (O := s3.O) (root := n) (by rw [List.append_nil]; exact h0)
        refine ⟨p4.2.1, p3, ?_⟩
        rcases hx with ⟨e, _⟩ | ⟨_, e⟩
        · rw [e] at h0; cases h0
        · exact e
end Go.Proofs.Ytbkkhafckkndfaa
