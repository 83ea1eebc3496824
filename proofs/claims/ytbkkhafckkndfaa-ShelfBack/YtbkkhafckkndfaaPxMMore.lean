/-
  Stage 16's Plan where nothing is there yet: as many pages are written as there are pieces that are not alike, leaves, and one. No program in sight.
-/
import Derived.Test.YtbkkhafckkndfaaPxMAgain
namespace Go.Proofs.Ytbkkhafckkndfaa
open Go Go.RowKit

/-! ### The kinds of texts by their first byte -/
def hd (b : ByteArray) : Option UInt8 := b.data.toList.head?
theorem hd_chain {next : Int} {t : List UInt8} (h : chainOk next t = true) : hd (chainV next t) = some 67 := by
  unfold chainV
  rw [if_pos h]
  rfl
theorem hd_leaf {G : List Ce} (h : leafOk G = true) : hd (leafV G) = some 76 := by
  unfold leafV
  rw [if_pos h]
  rfl
theorem hd_idx (S : List Sl) : hd (idxV S) = some 73 ∨ hd (idxV S) = none := by
  unfold idxV
  split
  · exact .inl rfl
  · exact .inr rfl
theorem leaf_ne {G G' : List Ce} (h : leafOk G = true) (h' : leafOk G' = true) (e : leafV G = leafV G') : G = G' := by
  unfold leafV at e
  rw [if_pos h, if_pos h'] at e
  have h1 := (leaf_back h).2
  rw [e, (leaf_back h').2] at h1
  exact h1.symm
theorem chain_ne {n n' : Int} {t t' : List UInt8} (h : chainOk n t = true) (h' : chainOk n' t' = true) (e : chainV n t = chainV n' t') : t = t' := by
  unfold chainV at e
  rw [if_pos h, if_pos h'] at e
  have e2 := txt_inj e
  have h1 := (link_chain h).2.1
  rw [e2, (link_chain h').2.1] at h1
  exact h1.symm

/-! ### One text more -/
theorem put_fresh {s s' : Sp} {b : ByteArray} {n : Int} (h : putS [] s b = some (n, s')) (hb : ∀ x ∈ s.O, x.b ≠ b) : s'.O = s.O ++ [⟨n, b⟩] := by
  unfold putS putW at h
  cases e1 : findW [] b with
  | some m => cases e1
  | none =>
    rw [e1] at h
    cases e2 : findW s.O b with
    | some m =>
      unfold findW at e2
      cases e3 : s.O.find? (fun x => decide (x.b = b)) with
      | none => rw [e3] at e2; cases e2
      | some x =>
        have h1 := List.find?_some e3
        have h2 := List.mem_of_find?_eq_some e3
        exact absurd (by simpa using h1) (hb x h2)
    | none =>
      rw [e2] at h
      cases e3 : s.F with
      | nil => rw [e3] at h; cases h
      | cons m F =>
        rw [e3] at h
        simp only [Option.map_some, Option.some.injEq, Prod.mk.injEq] at h
        obtain ⟨rfl, rfl⟩ := h
        rfl
theorem put_mem {s s' : Sp} {b : ByteArray} {n : Int} (h : putS [] s b = some (n, s')) : ∀ x ∈ s'.O, x ∈ s.O ∨ x.b = b := by
  unfold putS putW at h
  cases e1 : findW [] b with
  | some m => cases e1
  | none =>
    rw [e1] at h
    cases e2 : findW s.O b with
    | some m =>
      rw [e2] at h
      simp only [Option.map_some, Option.some.injEq, Prod.mk.injEq] at h
      obtain ⟨_, rfl⟩ := h
      exact fun x hx => .inl hx
    | none =>
      rw [e2] at h
      cases e3 : s.F with
      | nil => rw [e3] at h; cases h
      | cons m F =>
        rw [e3] at h
        simp only [Option.map_some, Option.some.injEq, Prod.mk.injEq] at h
        obtain ⟨_, rfl⟩ := h
        intro x hx
        rcases List.mem_append.1 hx with hx | hx
        · exact .inl hx
        · simp at hx
          rw [hx]
          exact .inr rfl

/-! ### The pieces -/
theorem piece_in {b : ByteArray} {k : Nat} (hb : 24 < b.size) (hk : k < npc b) : 1 ≤ (pieceL b k).length ∧ (pieceL b k).length ≤ 120 := by
  have : (pieceL b k).length = min ((k + 1) * 120) b.size - k * 120 := by
    have h1 : (pieceL b k).length = (b.extract (k * 120) (min ((k + 1) * 120) b.size)).size := rfl
    rw [h1, ByteArray.size_extract]
    omega
  unfold npc at hk
  omega
theorem goC_kinds {b : ByteArray} (hb : 24 < b.size) : ∀ (k : Nat) (next : Int) (s s' : Sp) (n : Int), k ≤ npc b → (next = 0 ∨ pageB next = true) → PgsIn [] s → (∀ x ∈ s.O, hd x.b = some 67) → goC [] b k next s = some (n, s') → ∀ x ∈ s'.O, hd x.b = some 67 := by
  intro k
  induction k with
  | zero =>
    intro next s s' n _ _ _ hk h
    simp only [goC, Option.some.injEq, Prod.mk.injEq] at h
    obtain ⟨_, rfl⟩ := h
    exact hk
  | succ k ih =>
    intro next s s' n hle hn hp hk h
    cases e : putS [] s (chainV next (pieceL b k)) with
    | none => rw [goC_no e] at h; cases h
    | some r =>
      obtain ⟨m, s2⟩ := r
      rw [goC_up e] at h
      obtain ⟨hm, hp2⟩ := pgs_put hp e
      have hl := piece_in hb (show k < npc b by omega)
      have hok : chainOk next (pieceL b k) = true := by
        rw [chainOk_iff]
        refine ⟨hn.imp id fun h => (pageB_iff _).1 h, hl.1, hl.2⟩
      refine ih m s2 s' n (by omega) (.inr hm) hp2 (fun x hx => ?_) h
      rcases put_mem e x hx with hx | hx
      · exact hk x hx
      · rw [hx]; exact hd_chain hok
theorem stepR_kinds {C C' : List Ce} {s s' : Sp} {x : Pr} (h : stepR [] (C, s) x = some (C', s')) (hp : PgsIn [] s) (hk : ∀ x ∈ s.O, hd x.b = some 67) : ∀ x ∈ s'.O, hd x.b = some 67 := by
  unfold stepR at h
  dsimp only at h
  by_cases hz : x.b.size ≤ 24
  · rw [if_pos hz] at h
    simp only [Option.some.injEq, Prod.mk.injEq] at h
    obtain ⟨_, rfl⟩ := h
    exact hk
  · rw [if_neg hz] at h
    cases e : goC [] x.b (npc x.b) 0 s with
    | none => rw [e] at h; cases h
    | some r =>
      obtain ⟨n, s2⟩ := r
      rw [e] at h
      simp only [Option.map_some, Option.some.injEq, Prod.mk.injEq] at h
      obtain ⟨_, rfl⟩ := h
      exact goC_kinds (by omega) _ 0 _ _ _ (Nat.le_refl _) (.inl rfl) hp hk e
theorem goR_kinds : ∀ (L : List Pr) (C C' : List Ce) (s s' : Sp), goR [] L (C, s) = some (C', s') → PgsIn [] s → (∀ x ∈ s.O, hd x.b = some 67) → ∀ x ∈ s'.O, hd x.b = some 67 := by
  intro L
  induction L with
  | nil =>
    intro C C' s s' h _ hk
    simp only [goR, Option.some.injEq, Prod.mk.injEq] at h
    obtain ⟨_, rfl⟩ := h
    exact hk
  | cons x L ih =>
    intro C C' s s' h hp hk
    rw [goR] at h
    cases e : stepR [] (C, s) x with
    | none => rw [e] at h; cases h
    | some r =>
      obtain ⟨C2, s2⟩ := r
      rw [e, Option.bind_some] at h
      exact ih C2 C' s2 s' h (stepR_ce e hp).2 (stepR_kinds e hp hk)

/-! ### The leaves -/
theorem nxt_ok {D : List Ce} (hs : single D) (h : 0 < D.length) : leafOk (D.take (nxt D)) = true := by
  by_cases e : nxt D = 1
  · rw [e]
    have := hs 0 h
    rwa [List.drop_zero] at this
  · have h1 := nxt_pos D
    have := (growG_mid D D.length 1 (nxt D - 1) (by omega) (by unfold nxt at *; omega)).1
    rwa [show nxt D - 1 + 1 = nxt D by omega] at this
theorem single_drop {D : List Ce} (hs : single D) (m : Nat) : single (D.drop m) := by
  intro i hi
  rw [List.length_drop] at hi
  have := hs (m + i) (by omega)
  rwa [← List.drop_drop] at this
theorem cut_ok : ∀ (f : Nat) (D : List Ce), single D → ∀ G ∈ cutG f D, leafOk G = true := by
  intro f
  induction f with
  | zero => intro D _ G h; cases h
  | succ f ih =>
    intro D hs G h
    cases D with
    | nil => cases h
    | cons c D =>
      rw [cutG] at h
      rcases List.mem_cons.1 h with rfl | h
      · exact nxt_ok hs (by simp)
      · exact ih _ (single_drop hs _) G h
theorem cut_mem : ∀ (f : Nat) (D : List Ce), ∀ G ∈ cutG f D, ∀ c ∈ G, c ∈ D := by
  intro f
  induction f with
  | zero => intro D G h; cases h
  | succ f ih =>
    intro D G h
    cases D with
    | nil => cases h
    | cons d D =>
      rw [cutG] at h
      rcases List.mem_cons.1 h with rfl | h
      · exact fun c hc => List.mem_of_mem_take hc
      · exact fun c hc => List.mem_of_mem_drop (ih _ G h c hc)
theorem cut_pair : ∀ (f : Nat) (D : List Ce), D.Pairwise (fun a b => a.key < b.key) → (cutG f D).Pairwise (fun A B => A ≠ B) := by
  intro f
  induction f with
  | zero => intro D _; exact List.Pairwise.nil
  | succ f ih =>
    intro D hD
    cases D with
    | nil => exact List.Pairwise.nil
    | cons d D =>
      rw [cutG]
      refine List.pairwise_cons.2 ⟨fun B hB e => ?_, ih _ (hD.sublist (List.drop_sublist _ _))⟩
      have h1 := nxt_pos (d :: D)
      obtain ⟨m, hm⟩ : ∃ m, nxt (d :: D) = m + 1 := ⟨nxt (d :: D) - 1, by omega⟩
      rw [hm] at e hB
      have hd : d ∈ B := by rw [← e]; simp
      have h2 := cut_mem _ _ B hB d hd
      rw [List.drop_succ_cons] at h2
      have h3 := (List.pairwise_cons.1 hD).1 d (List.mem_of_mem_drop h2)
      omega
theorem goP_count : ∀ (Gs : List (List Ce)) (S S' : List Sl) (s s' : Sp), goP [] Gs (S, s) = some (S', s') → Gs.Pairwise (fun A B => A ≠ B) → (∀ G ∈ Gs, leafOk G = true) → (∀ x ∈ s.O, ∀ G ∈ Gs, x.b ≠ leafV G) →
    s'.O.length = s.O.length + Gs.length ∧ ∀ x ∈ s'.O, x ∈ s.O ∨ ∃ G ∈ Gs, x.b = leafV G := by
  intro Gs
  induction Gs with
  | nil =>
    intro S S' s s' h _ _ _
    simp only [goP, Option.some.injEq, Prod.mk.injEq] at h
    obtain ⟨_, rfl⟩ := h
    exact ⟨rfl, fun x hx => .inl hx⟩
  | cons G Gs ih =>
    intro S S' s s' h hp hok hn
    rw [goP] at h
    dsimp only at h
    cases e : putS [] s (leafV G) with
    | none => rw [e] at h; cases h
    | some r =>
      obtain ⟨n, s2⟩ := r
      rw [e] at h
      have hf := put_fresh e fun x hx => hn x hx G (by simp)
      obtain ⟨p1, p2⟩ := List.pairwise_cons.1 hp
      obtain ⟨q1, q2⟩ := ih _ S' s2 s' h p2 (fun A hA => hok A (by simp [hA])) fun x hx A hA => by
        rw [hf] at hx
        rcases List.mem_append.1 hx with hx | hx
        · exact hn x hx A (by simp [hA])
        · simp at hx
          rw [hx]
          exact fun e => p1 A hA (leaf_ne (hok G (by simp)) (hok A (by simp [hA])) e)
      refine ⟨by rw [q1, hf]; simp; omega, fun x hx => ?_⟩
      rcases q2 x hx with hx | ⟨A, hA, e⟩
      · rw [hf] at hx
        rcases List.mem_append.1 hx with hx | hx
        · exact .inl hx
        · simp at hx
          exact .inr ⟨G, by simp, by rw [hx]⟩
      · exact .inr ⟨A, by simp [hA], e⟩
theorem cells_rise {L : List Pr} {C : List Ce} (h : recsOk L = true) (hc : CellsOf L C) : C.Pairwise (fun a b => a.key < b.key) := by
  have hk := cells_ok h hc
  have step : ∀ i, i + 1 < C.length → (C.getD i noCe).key < (C.getD (i + 1) noCe).key := fun i hi => by
    have := hk (i + 1) hi
    rw [ceOk_succ] at this
    simp only [Bool.and_eq_true, decide_eq_true_eq] at this
    exact this.2
  have far : ∀ d i, i + d + 1 < C.length → (C.getD i noCe).key < (C.getD (i + d + 1) noCe).key := by
    intro d
    induction d with
    | zero => intro i hi; exact step i hi
    | succ d ih =>
      intro i hi
      have h1 := ih i (by omega)
      have h2 := step (i + d + 1) (by omega)
      rw [show i + (d + 1) + 1 = i + d + 1 + 1 by omega]
      omega
  rw [List.pairwise_iff_getElem]
  intro i j hi hj hij
  have := far (j - i - 1) i (by omega)
  rw [show i + (j - i - 1) + 1 = j by omega] at this
  simpa [List.getD, hi, hj] using this
/-- The whole. -/
theorem plan_count {L O : List Pr} {F : List Int} {root : Int} (h : planR L [] F = some (O, root)) (hr : recsOk L = true) (hp : PgsIn [] ⟨[], F⟩) : ∃ C s, goR [] L ([], ⟨[], F⟩) = some (C, s) ∧ O.length = s.O.length + (lvs L).1 + 1 := by
  cases e1 : goR [] L ([], ⟨[], F⟩) with
  | none => rw [planR_none e1] at h; cases h
  | some r =>
    obtain ⟨C, s⟩ := r
    refine ⟨C, s, rfl, ?_⟩
    obtain ⟨⟨D, e, hD⟩, p1⟩ := goR_cells _ _ _ _ _ e1 hp
    rw [List.nil_append] at e
    subst e
    have hk := goR_kinds _ _ _ _ _ e1 hp (fun x hx => absurd hx (by simp))
    have hcnt : (partsL C).length = (lvs L).1 := count_is hr hD
    rw [planR_parts e1] at h
    cases e2 : goP [] (partsL C) ([], s) with
    | none => rw [e2] at h; cases h
    | some r =>
      obtain ⟨S, s2⟩ := r
      rw [e2, Option.bind_some] at h
      dsimp only at h
      cases e3 : putS [] s2 (idxV S) with
      | none => rw [e3] at h; cases h
      | some r =>
        obtain ⟨n, s3⟩ := r
        rw [e3] at h
        simp only [Option.map_some, Option.some.injEq, Prod.mk.injEq] at h
        obtain ⟨rfl, rfl⟩ := h
        have hok := cut_ok C.length C (cells_single hr hD)
        obtain ⟨q1, q2⟩ := goP_count (partsL C) _ _ _ _ e2 (cut_pair _ _ (cells_rise hr hD)) hok fun x hx G hG e => by
          have h1 := hk x hx
          rw [e, hd_leaf (hok G hG)] at h1
          exact absurd h1 (by decide)
        have hf := put_fresh e3 fun x hx e => by
          have h1 : hd x.b = some 67 ∨ hd x.b = some 76 := by
            rcases q2 x hx with hx | ⟨G, hG, e⟩
            · exact .inl (hk x hx)
            · rw [e]; exact .inr (hd_leaf (hok G hG))
          rw [e] at h1
          rcases hd_idx S with h2 | h2 <;> rw [h2] at h1 <;> rcases h1 with h1 | h1 <;> exact absurd h1 (by decide)
        rw [hf, List.length_append, q1, hcnt]
        rfl
/-- With a record more. -/
theorem lvs_more (L : List Pr) (x : Pr) : (lvs L).1 ≤ (lvs (L ++ [x])).1 := by
  unfold lvs
  rw [List.foldl_append]
  show _ ≤ (lvStep _ x).1
  unfold lvStep
  split
  · dsimp only; omega
  · exact Nat.le_refl _
theorem plan_more {L O O' : List Pr} {x : Pr} {F : List Int} {root root' : Int} (h : planR L [] F = some (O, root)) (h' : planR (L ++ [x]) [] F = some (O', root')) (hr : recsOk L = true) (hr' : recsOk (L ++ [x]) = true) (hp : PgsIn [] ⟨[], F⟩) : O.length ≤ O'.length := by
  obtain ⟨C, s, e1, e2⟩ := plan_count h hr hp
  obtain ⟨C', s', e3, e4⟩ := plan_count h' hr' hp
  rw [goR_append, e1, Option.bind_some] at e3
  have h1 := (goR_less _ _ _ _ _ e3).2.length_le
  have h2 := lvs_more L x
  omega
/-! ### Pieces that are not alike -/
theorem goC_count {b : ByteArray} (hb : 24 < b.size) (hdif : ∀ i j, i < j → j < npc b → pieceL b i ≠ pieceL b j) : ∀ (k : Nat) (next : Int) (s s' : Sp) (n : Int), k ≤ npc b → (next = 0 ∨ pageB next = true) → PgsIn [] s →
    (∀ x ∈ s.O, ∃ j m, k ≤ j ∧ j < npc b ∧ chainOk m (pieceL b j) = true ∧ x.b = chainV m (pieceL b j)) → goC [] b k next s = some (n, s') → s'.O.length = s.O.length + k := by
  intro k
  induction k with
  | zero =>
    intro next s s' n _ _ _ _ h
    simp only [goC, Option.some.injEq, Prod.mk.injEq] at h
    obtain ⟨_, rfl⟩ := h
    rfl
  | succ k ih =>
    intro next s s' n hle hn hp hk h
    cases e : putS [] s (chainV next (pieceL b k)) with
    | none => rw [goC_no e] at h; cases h
    | some r =>
      obtain ⟨m, s2⟩ := r
      rw [goC_up e] at h
      obtain ⟨hm, hp2⟩ := pgs_put hp e
      have hl := piece_in hb (show k < npc b by omega)
      have hok : chainOk next (pieceL b k) = true := by
        rw [chainOk_iff]
        refine ⟨hn.imp id fun h => (pageB_iff _).1 h, hl.1, hl.2⟩
      have hf := put_fresh e fun x hx e => by
        obtain ⟨j, m', h1, h2, h3, h4⟩ := hk x hx
        rw [h4] at e
        exact hdif k j (by omega) h2 (chain_ne h3 hok e).symm
      have := ih m s2 s' n (by omega) (.inr hm) hp2 (fun x hx => by
        rw [hf] at hx
        rcases List.mem_append.1 hx with hx | hx
        · obtain ⟨j, m', h1, h2, h3, h4⟩ := hk x hx
          exact ⟨j, m', by omega, h2, h3, h4⟩
        · simp at hx
          rw [hx]
          exact ⟨k, next, Nat.le_refl _, by omega, hok, rfl⟩) h
      rw [this, hf]
      simp
      omega
end Go.Proofs.Ytbkkhafckkndfaa
