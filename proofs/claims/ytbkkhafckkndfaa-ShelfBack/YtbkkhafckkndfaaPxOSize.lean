/-
  Stage 16: what Plan writes are whole pages. No program in sight.
-/
import Derived.Test.YtbkkhafckkndfaaPxOBackN
namespace Go.Proofs.Ytbkkhafckkndfaa
open Go Go.RowKit

theorem put_bytes {H : List Pr} {s s' : Sp} {b : ByteArray} {n : Int} (h : putS H s b = some (n, s')) : ∀ x ∈ s'.O, x ∈ s.O ∨ x.b = b := by
  unfold putS putW at h
  cases e1 : findW H b with
  | some m =>
    rw [e1] at h
    simp only [Option.map_some, Option.some.injEq, Prod.mk.injEq] at h
    obtain ⟨_, rfl⟩ := h
    exact fun x hx => .inl hx
  | none =>
    rw [e1] at h
    cases e2 : findW s.O b with
    | some m =>
      rw [e2] at h
      simp only [Option.map_some, Option.some.injEq, Prod.mk.injEq] at h
      obtain ⟨_, rfl⟩ := h
      exact fun x hx => .inl hx
    | none =>
      rw [e2] at h
      cases e3 : s.F with
      | nil => rw [e3] at h; cases h
      | cons m F =>
        rw [e3] at h
        simp only [Option.map_some, Option.some.injEq, Prod.mk.injEq] at h
        obtain ⟨_, rfl⟩ := h
        intro x hx
        rcases List.mem_append.1 hx with hx | hx
        · exact .inl hx
        · simp at hx
          rw [hx]
          exact .inr rfl
theorem goC_whole {H : List Pr} {b : ByteArray} (hb : 24 < b.size) : ∀ (k : Nat) (next : Int) (s s' : Sp) (n : Int), k ≤ npc b → (next = 0 ∨ pageB next = true) → PgsIn H s → (∀ x ∈ s.O, x.b.size = 128) → goC H b k next s = some (n, s') → ∀ x ∈ s'.O, x.b.size = 128 := by
  intro k
  induction k with
  | zero =>
    intro next s s' n _ _ _ hk h
    simp only [goC, Option.some.injEq, Prod.mk.injEq] at h
    obtain ⟨_, rfl⟩ := h
    exact hk
  | succ k ih =>
    intro next s s' n hle hn hp hk h
    cases e : putS H s (chainV next (pieceL b k)) with
    | none => rw [goC_no e] at h; cases h
    | some r =>
      obtain ⟨m, s2⟩ := r
      rw [goC_up e] at h
      obtain ⟨hm, hp2⟩ := pgs_put hp e
      have hl := piece_in hb (show k < npc b by omega)
      have hok : chainOk next (pieceL b k) = true := by
        rw [chainOk_iff]
        exact ⟨hn.imp id fun h => (pageB_iff _).1 h, hl.1, hl.2⟩
      refine ih m s2 s' n (by omega) (.inr hm) hp2 (fun x hx => ?_) h
      rcases put_bytes e x hx with hx | hx
      · exact hk x hx
      · rw [hx]
        unfold chainV
        rw [if_pos hok, txt_size, chainL_len (by omega)]
theorem goR_whole {H : List Pr} : ∀ (L : List Pr) (C C' : List Ce) (s s' : Sp), goR H L (C, s) = some (C', s') → PgsIn H s → (∀ x ∈ s.O, x.b.size = 128) → ∀ x ∈ s'.O, x.b.size = 128 := by
  intro L
  induction L with
  | nil =>
    intro C C' s s' h _ hk
    simp only [goR, Option.some.injEq, Prod.mk.injEq] at h
    obtain ⟨_, rfl⟩ := h
    exact hk
  | cons x L ih =>
    intro C C' s s' h hp hk
    rw [goR] at h
    cases e : stepR H (C, s) x with
    | none => rw [e] at h; cases h
    | some r =>
      obtain ⟨C2, s2⟩ := r
      rw [e, Option.bind_some] at h
      have hp2 := (stepR_ce e hp).2
      refine ih C2 C' s2 s' h hp2 ?_
      unfold stepR at e
      dsimp only at e
      by_cases hz : x.b.size ≤ 24
      · rw [if_pos hz] at e
        simp only [Option.some.injEq, Prod.mk.injEq] at e
        obtain ⟨_, rfl⟩ := e
        exact hk
      · rw [if_neg hz] at e
        cases e2 : goC H x.b (npc x.b) 0 s with
        | none => rw [e2] at e; cases e
        | some r =>
          obtain ⟨n, s3⟩ := r
          rw [e2] at e
          simp only [Option.map_some, Option.some.injEq, Prod.mk.injEq] at e
          obtain ⟨_, rfl⟩ := e
          exact goC_whole (by omega) _ 0 _ _ _ (Nat.le_refl _) (.inl rfl) hp hk e2
theorem leaf_128 {C : List Ce} (h : leafOk C = true) : (leafV C).size = 128 := by
  unfold leafV
  rw [if_pos h, txt_size]
  simp only [leafOk, Bool.and_eq_true, decide_eq_true_eq] at h
  exact padL_len h.2
theorem goP_whole {H : List Pr} : ∀ (Gs : List (List Ce)) (S S' : List Sl) (s s' : Sp), goP H Gs (S, s) = some (S', s') → (∀ G ∈ Gs, leafOk G = true) → PgsIn H s → (∀ x ∈ s.O, x.b.size = 128) →
    (∀ x ∈ s'.O, x.b.size = 128) ∧ ∃ S2, S' = S ++ S2 ∧ S2.map (·.key) = Gs.map (fun G => (G.getD 0 noCe).key) ∧ ∀ z ∈ S2, pageB z.page = true := by
  intro Gs
  induction Gs with
  | nil =>
    intro S S' s s' h _ _ hk
    simp only [goP, Option.some.injEq, Prod.mk.injEq] at h
    obtain ⟨rfl, rfl⟩ := h
    exact ⟨hk, [], by simp, rfl, fun z hz => absurd hz (by simp)⟩
  | cons G Gs ih =>
    intro S S' s s' h hG hp hk
    rw [goP] at h
    dsimp only at h
    cases e : putS H s (leafV G) with
    | none => rw [e] at h; cases h
    | some r =>
      obtain ⟨n, s2⟩ := r
      rw [e] at h
      obtain ⟨hn, hp2⟩ := pgs_put hp e
      obtain ⟨q1, S2, q2, q3, q4⟩ := ih _ S' s2 s' h (fun A hA => hG A (by simp [hA])) hp2 fun x hx => by
        rcases put_bytes e x hx with hx | hx
        · exact hk x hx
        · rw [hx]; exact leaf_128 (hG G (by simp))
      refine ⟨q1, ⟨(G.getD 0 noCe).key, n⟩ :: S2, by rw [q2]; simp, by rw [List.map_cons, List.map_cons, q3], fun z hz => ?_⟩
      rcases List.mem_cons.1 hz with rfl | hz
      · exact hn
      · exact q4 z hz
theorem slots_ok {L : List Pr} {C : List Ce} {S : List Sl} (hr : recsOk L = true) (hD : CellsOf L C) (hl : ¬ 21 < (lvs L).1) (t6 : S.map (·.key) = (partsL C).map (fun G => (G.getD 0 noCe).key)) (t7 : ∀ z ∈ S, pageB z.page = true) : idxOk S = true := by
  have hcnt : (partsL C).length = (lvs L).1 := count_is hr hD
  have hok := cut_ok C.length C (cells_single hr hD)
  have hSl : S.length = (partsL C).length := by
    have := congrArg List.length t6
    rwa [List.length_map, List.length_map] at this
  have hheads : ((partsL C).map fun G => (G.getD 0 noCe).key).Pairwise (fun a b => a < b) := cut_heads C.length C (cells_rise hr hD)
  have hkey : ∀ k, k < S.length → (S.getD k ⟨0, 0⟩).key = (((partsL C).map fun G => (G.getD 0 noCe).key).getD k 0) := fun k hk => by
    rw [← t6]
    simp [List.getD, hk]
  refine idx_yes (by omega) fun k hk => ?_
  have hkp : k < (partsL C).length := by omega
  have hpg : pageB (S.getD k ⟨0, 0⟩).page = true := t7 _ (by simp [List.getD, hk])
  have hkb : keyB (S.getD k ⟨0, 0⟩).key = true := by
    rw [hkey k hk]
    have hG : (partsL C)[k] ∈ partsL C := List.getElem_mem hkp
    have g1 := hok _ hG
    have g2 := cut_pos _ _ _ hG
    simp only [leafOk, Bool.and_eq_true, List.all_eq_true] at g1
    have g3 := g1.1.2 0 (List.mem_range.2 g2)
    rw [ceOk_zero] at g3
    have g4 : ((partsL C).map fun G => (G.getD 0 noCe).key).getD k 0 = ((partsL C)[k].getD 0 noCe).key := by simp [List.getD, hkp]
    rw [g4]
    unfold ceGood at g3
    simp only [Bool.and_eq_true] at g3
    exact g3.1.1
  unfold slOk
  rw [hkb, hpg]
  by_cases h0 : k = 0
  · simp [h0]
  · have h1 : (S.getD (k - 1) ⟨0, 0⟩).key < (S.getD k ⟨0, 0⟩).key := by
      rw [hkey k hk, hkey (k - 1) (by omega)]
      have := (List.pairwise_iff_getElem.1 hheads) (k - 1) k (by rw [List.length_map]; omega) (by rw [List.length_map]; omega) (by omega)
      have i1 : k - 1 < (partsL C).length := by omega
      simpa [List.getD, hkp, i1] using this
    rw [decide_eq_true h1]
    simp
theorem plan_whole {L H O : List Pr} {F : List Int} {root : Int} (h : planR L H F = some (O, root)) (hr : recsOk L = true) (hp : PgsIn H ⟨[], F⟩) (hl : ¬ 21 < (lvs L).1) : ∀ x ∈ O, x.b.size = 128 := by
  obtain ⟨C, s, S, s2, s3, e1, e2, e3, rfl⟩ := plan_steps h
  obtain ⟨⟨D, d1, hD⟩, p1⟩ := goR_cells _ _ _ _ _ e1 hp
  rw [List.nil_append] at d1
  subst d1
  have k1 := goR_whole _ _ _ _ _ e1 hp (fun x hx => absurd hx (by simp))
  obtain ⟨k2, S2, q2, q3, q4⟩ := goP_whole _ _ _ _ _ e2 (cut_ok C.length C (cells_single hr hD)) p1 k1
  rw [List.nil_append] at q2
  subst q2
  have hS := slots_ok hr hD hl q3 q4
  intro x hx
  rcases put_bytes e3 x hx with hx | hx
  · exact k2 x hx
  · rw [hx]
    unfold idxV
    rw [if_pos hS, txt_size]
    refine idxL_len ?_
    simp only [idxOk, Bool.and_eq_true, decide_eq_true_eq] at hS
    exact hS.1
end Go.Proofs.Ytbkkhafckkndfaa
