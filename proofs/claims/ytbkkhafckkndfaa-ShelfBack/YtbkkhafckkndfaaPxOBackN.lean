/-
  Stage 16: what Plan wrote, Read reads. No program in sight.
-/
import Derived.Test.YtbkkhafckkndfaaPxMAgain
import Derived.Test.YtbkkhafckkndfaaPxMMore
import Derived.Test.YtbkkhafckkndfaaPxONum
import Derived.Test.YtbkkhafckkndfaaPk04
namespace Go.Proofs.Ytbkkhafckkndfaa
open Go Go.RowKit

/-- These pages are there. -/
def Laid (ld : Ld) (W : List Pr) : Prop := ∀ x ∈ W, ld x.n = (x.b, 0)
theorem find_at {L : List Pr} {b : ByteArray} {n : Int} (h : findW L b = some n) : (⟨n, b⟩ : Pr) ∈ L := by
  unfold findW at h
  cases e : L.find? fun x => decide (x.b = b) with
  | none => rw [e] at h; cases h
  | some x =>
    rw [e] at h
    simp only [Option.map_some, Option.some.injEq] at h
    have h2 := List.find?_some e
    simp only [decide_eq_true_eq] at h2
    have h3 := List.mem_of_find?_eq_some e
    obtain ⟨xn, xb⟩ := x
    dsimp only at h h2
    subst h
    subst h2
    exact h3
theorem find_ne {L : List Pr} {b : ByteArray} (h : findW L b = none) : ∀ y ∈ L, y.b ≠ b := by
  intro y hy e
  unfold findW at h
  rw [Option.map_eq_none_iff, List.find?_eq_none] at h
  exact h y hy (by simpa using e)
/-- What a put may do. -/
theorem put_at {H : List Pr} {s s' : Sp} {b : ByteArray} {n : Int} (h : putS H s b = some (n, s')) : ((⟨n, b⟩ : Pr) ∈ H ∨ (⟨n, b⟩ : Pr) ∈ s'.O) ∧ (∀ x ∈ s'.O, x ∈ s.O ∨ x.n = n) ∧ s.O.map (·.n) ++ s.F = s'.O.map (·.n) ++ s'.F ∧ ∀ x ∈ s'.O, x ∈ s.O ∨ ∀ y ∈ H, y.b ≠ x.b := by
  unfold putS putW at h
  cases e1 : findW H b with
  | some m =>
    rw [e1] at h
    simp only [Option.map_some, Option.some.injEq, Prod.mk.injEq] at h
    obtain ⟨rfl, rfl⟩ := h
    exact ⟨.inl (find_at e1), fun x hx => .inl hx, rfl, fun x hx => .inl hx⟩
  | none =>
    rw [e1] at h
    cases e2 : findW s.O b with
    | some m =>
      rw [e2] at h
      simp only [Option.map_some, Option.some.injEq, Prod.mk.injEq] at h
      obtain ⟨rfl, rfl⟩ := h
      exact ⟨.inr (find_at e2), fun x hx => .inl hx, rfl, fun x hx => .inl hx⟩
    | none =>
      rw [e2] at h
      cases e3 : s.F with
      | nil => rw [e3] at h; cases h
      | cons m F =>
        rw [e3] at h
        simp only [Option.map_some, Option.some.injEq, Prod.mk.injEq] at h
        obtain ⟨rfl, rfl⟩ := h
        refine ⟨.inr (by simp), fun x hx => ?_, by simp, fun x hx => ?_⟩
        · rcases List.mem_append.1 hx with hx | hx
          · exact .inl hx
          · simp at hx
            rw [hx]
            exact .inr rfl
        · rcases List.mem_append.1 hx with hx | hx
          · exact .inl hx
          · simp at hx
            rw [hx]
            exact .inr (find_ne e1)
/-- What each put keeps, the whole plan keeps. -/
theorem goC_rel {H : List Pr} {b : ByteArray} {Rl : Sp → Sp → Prop} (h0 : ∀ s, Rl s s) (ht : ∀ a b c, Rl a b → Rl b c → Rl a c) (hput : ∀ s b n s', putS H s b = some (n, s') → Rl s s') : ∀ (k : Nat) (next : Int) (s s' : Sp) (n : Int), goC H b k next s = some (n, s') → Rl s s' := by
  intro k
  induction k with
  | zero =>
    intro next s s' n h
    simp only [goC, Option.some.injEq, Prod.mk.injEq] at h
    obtain ⟨_, rfl⟩ := h
    exact h0 _
  | succ k ih =>
    intro next s s' n h
    cases e : putS H s (chainV next (pieceL b k)) with
    | none => rw [goC_no e] at h; cases h
    | some r =>
      obtain ⟨m, s2⟩ := r
      rw [goC_up e] at h
      exact ht _ _ _ (hput _ _ _ _ e) (ih m s2 s' n h)
theorem goR_rel {H : List Pr} {Rl : Sp → Sp → Prop} (h0 : ∀ s, Rl s s) (ht : ∀ a b c, Rl a b → Rl b c → Rl a c) (hput : ∀ s b n s', putS H s b = some (n, s') → Rl s s') : ∀ (L : List Pr) (C C' : List Ce) (s s' : Sp), goR H L (C, s) = some (C', s') → Rl s s' := by
  intro L
  induction L with
  | nil =>
    intro C C' s s' h
    simp only [goR, Option.some.injEq, Prod.mk.injEq] at h
    obtain ⟨_, rfl⟩ := h
    exact h0 _
  | cons x L ih =>
    intro C C' s s' h
    rw [goR] at h
    cases e : stepR H (C, s) x with
    | none => rw [e] at h; cases h
    | some r =>
      obtain ⟨C2, s2⟩ := r
      rw [e, Option.bind_some] at h
      refine ht _ _ _ ?_ (ih C2 C' s2 s' h)
      unfold stepR at e
      dsimp only at e
      by_cases hz : x.b.size ≤ 24
      · rw [if_pos hz] at e
        simp only [Option.some.injEq, Prod.mk.injEq] at e
        obtain ⟨_, rfl⟩ := e
        exact h0 _
      · rw [if_neg hz] at e
        cases e2 : goC H x.b (npc x.b) 0 s with
        | none => rw [e2] at e; cases e
        | some r =>
          obtain ⟨n, s3⟩ := r
          rw [e2] at e
          simp only [Option.map_some, Option.some.injEq, Prod.mk.injEq] at e
          obtain ⟨_, rfl⟩ := e
          exact goC_rel h0 ht hput _ _ _ _ _ e2
theorem goP_rel {H : List Pr} {Rl : Sp → Sp → Prop} (h0 : ∀ s, Rl s s) (ht : ∀ a b c, Rl a b → Rl b c → Rl a c) (hput : ∀ s b n s', putS H s b = some (n, s') → Rl s s') : ∀ (Gs : List (List Ce)) (S S' : List Sl) (s s' : Sp), goP H Gs (S, s) = some (S', s') → Rl s s' := by
  intro Gs
  induction Gs with
  | nil =>
    intro S S' s s' h
    simp only [goP, Option.some.injEq, Prod.mk.injEq] at h
    obtain ⟨_, rfl⟩ := h
    exact h0 _
  | cons G Gs ih =>
    intro S S' s s' h
    rw [goP] at h
    dsimp only at h
    cases e : putS H s (leafV G) with
    | none => rw [e] at h; cases h
    | some r =>
      obtain ⟨n, s2⟩ := r
      rw [e] at h
      exact ht _ _ _ (hput _ _ _ _ e) (ih _ S' s2 s' h)
/-- The parts of a plan. -/
theorem plan_steps {L H O : List Pr} {F : List Int} {root : Int} (h : planR L H F = some (O, root)) : ∃ C s S s2 s3, goR H L ([], ⟨[], F⟩) = some (C, s) ∧ goP H (partsL C) ([], s) = some (S, s2) ∧ putS H s2 (idxV S) = some (root, s3) ∧ s3.O = O := by
  cases e1 : goR H L ([], ⟨[], F⟩) with
  | none => rw [planR_none e1] at h; cases h
  | some r =>
    obtain ⟨C, s⟩ := r
    rw [planR_parts e1] at h
    cases e2 : goP H (partsL C) ([], s) with
    | none => rw [e2] at h; cases h
    | some r =>
      obtain ⟨S, s2⟩ := r
      rw [e2, Option.bind_some] at h
      dsimp only at h
      cases e3 : putS H s2 (idxV S) with
      | none => rw [e3] at h; cases h
      | some r =>
        obtain ⟨n, s3⟩ := r
        rw [e3] at h
        simp only [Option.map_some, Option.some.injEq, Prod.mk.injEq] at h
        obtain ⟨rfl, rfl⟩ := h
        exact ⟨C, s, S, s2, s3, rfl, e2, e3, rfl⟩
/-- The pages that were written are the first free ones, and none of their bytes was there. -/
theorem plan_new {L H O : List Pr} {F : List Int} {root : Int} (h : planR L H F = some (O, root)) : (∃ F', O.map (·.n) ++ F' = F) ∧ ∀ x ∈ O, ∀ y ∈ H, y.b ≠ x.b := by
  obtain ⟨C, s, S, s2, s3, e1, e2, e3, rfl⟩ := plan_steps h
  have h0 : ∀ s : Sp, s.O.map (·.n) ++ s.F = s.O.map (·.n) ++ s.F ∧ ∀ x ∈ s.O, x ∈ s.O ∨ ∀ y ∈ H, y.b ≠ x.b := fun s => ⟨rfl, fun x hx => .inl hx⟩
  have ht : ∀ a b c : Sp, (a.O.map (·.n) ++ a.F = b.O.map (·.n) ++ b.F ∧ ∀ x ∈ b.O, x ∈ a.O ∨ ∀ y ∈ H, y.b ≠ x.b) → (b.O.map (·.n) ++ b.F = c.O.map (·.n) ++ c.F ∧ ∀ x ∈ c.O, x ∈ b.O ∨ ∀ y ∈ H, y.b ≠ x.b) → (a.O.map (·.n) ++ a.F = c.O.map (·.n) ++ c.F ∧ ∀ x ∈ c.O, x ∈ a.O ∨ ∀ y ∈ H, y.b ≠ x.b) := by
    rintro a b c ⟨p1, p2⟩ ⟨q1, q2⟩
    refine ⟨p1.trans q1, fun x hx => ?_⟩
    rcases q2 x hx with h | h
    · exact p2 x h
    · exact .inr h
  have hput : ∀ (s : Sp) (b : ByteArray) (n : Int) (s' : Sp), putS H s b = some (n, s') → s.O.map (·.n) ++ s.F = s'.O.map (·.n) ++ s'.F ∧ ∀ x ∈ s'.O, x ∈ s.O ∨ ∀ y ∈ H, y.b ≠ x.b := fun s b n s' h => (put_at h).2.2
  have g := ht _ _ _ (ht _ _ _ (goR_rel (Rl := fun s s' => s.O.map (·.n) ++ s.F = s'.O.map (·.n) ++ s'.F ∧ ∀ x ∈ s'.O, x ∈ s.O ∨ ∀ y ∈ H, y.b ≠ x.b) h0 ht hput _ _ _ _ _ e1) (goP_rel (Rl := fun s s' => s.O.map (·.n) ++ s.F = s'.O.map (·.n) ++ s'.F ∧ ∀ x ∈ s'.O, x ∈ s.O ∨ ∀ y ∈ H, y.b ≠ x.b) h0 ht hput _ _ _ _ _ e2)) (hput _ _ _ _ e3)
  refine ⟨⟨s3.F, by simpa using g.1.symm⟩, fun x hx => ?_⟩
  rcases g.2 x hx with h | h
  · exact absurd h (by simp)
  · exact h
/-- Which pages were seen. -/
def Cov (H : List Pr) (s s' : Sp) (P : List Int) : Prop := (∀ x ∈ s'.O, x ∈ s.O ∨ x.n ∈ P) ∧ ∀ m ∈ P, ∃ x, (x ∈ H ∨ x ∈ s'.O) ∧ x.n = m
theorem Cov.refl (H : List Pr) (s : Sp) : Cov H s s [] := ⟨fun x hx => .inl hx, fun m hm => absurd hm (by simp)⟩
theorem Cov.trans {H : List Pr} {a b c : Sp} {P Q : List Int} (h : Cov H a b P) (g : Cov H b c Q) (hp : b.O <+: c.O) : Cov H a c (Q ++ P) := by
  refine ⟨fun x hx => ?_, fun m hm => ?_⟩
  · rcases g.1 x hx with q | q
    · rcases h.1 x q with q | q
      · exact .inl q
      · exact .inr (List.mem_append_right _ q)
    · exact .inr (List.mem_append_left _ q)
  · rcases List.mem_append.1 hm with q | q
    · exact g.2 m q
    · obtain ⟨x, hx, e⟩ := h.2 m q
      exact ⟨x, hx.imp id fun h => hp.subset h, e⟩
theorem Cov.put {H : List Pr} {s s' : Sp} {b : ByteArray} {n : Int} (h : putS H s b = some (n, s')) : Cov H s s' [n] := by
  obtain ⟨h1, h2, _⟩ := put_at h
  refine ⟨fun x hx => (h2 x hx).imp id fun e => by simp [e], fun m hm => ?_⟩
  simp at hm
  subst hm
  exact ⟨_, h1, rfl⟩
theorem put_stored {ld : Ld} {H : List Pr} {s s' : Sp} {b : ByteArray} {n : Int} {O : List Pr} (h : putS H s b = some (n, s')) (hp : s'.O <+: O) (hH : Laid ld H) (hO : Laid ld O) : ld n = (b, 0) := by
  rcases (put_at h).1 with h1 | h1
  · exact hH _ h1
  · exact hO _ (hp.subset h1)
/-! ### The pieces -/
theorem piece_txt (b : ByteArray) (k : Nat) : txt (pieceL b k) = b.extract (k * 120) (min ((k + 1) * 120) b.size) := txt_list _
theorem piece_ext {b : ByteArray} {k : Nat} (h : k * 120 ≤ b.size) : txt (pieceL b k) ++ b.extract ((k + 1) * 120) b.size = b.extract (k * 120) b.size := by
  rw [piece_txt]
  by_cases e : (k + 1) * 120 ≤ b.size
  · rw [Nat.min_eq_left e]
    rw [ByteArray.extract_append_extract]
    congr 1 <;> omega
  · rw [Nat.min_eq_right (by omega)]
    have : b.extract ((k + 1) * 120) b.size = ByteArray.empty := by
      apply ByteArray.size_eq_zero_iff.1
      rw [ByteArray.size_extract]
      omega
    rw [this, ByteArray.append_empty]
theorem goC_read {ld : Ld} {H O : List Pr} {b : ByteArray} (hb : 24 < b.size) : ∀ (k : Nat) (next : Int) (s s' : Sp) (n : Int) (P : List Int), goC H b k next s = some (n, s') → k ≤ npc b → (next = 0 ∨ pageB next = true) → PgsIn H s → Laid ld H → Laid ld O → s'.O <+: O →
    (∀ acc T, txR ld (b.size - k * 120) next acc T = (0, acc ++ b.extract (k * 120) b.size, P ++ T)) →
    ∃ Q, (∀ acc T, txR ld b.size n acc T = (0, acc ++ b, P ++ (Q ++ T))) ∧ Cov H s s' Q := by
  intro k
  induction k with
  | zero =>
    intro next s s' n P h _ _ _ _ _ _ hr
    simp only [goC, Option.some.injEq, Prod.mk.injEq] at h
    obtain ⟨rfl, rfl⟩ := h
    refine ⟨[], fun acc T => ?_, Cov.refl H s⟩
    have := hr acc T
    rw [Nat.zero_mul, Nat.sub_zero, ByteArray.extract_zero_size] at this
    exact this
  | succ k ih =>
    intro next s s' n P h hk hn hp hH hO hpO hr
    cases e : putS H s (chainV next (pieceL b k)) with
    | none => rw [goC_no e] at h; cases h
    | some r =>
      obtain ⟨m, s2⟩ := r
      rw [goC_up e] at h
      obtain ⟨hm, hp2⟩ := pgs_put hp e
      have hl := piece_in hb (show k < npc b by omega)
      have hok : chainOk next (pieceL b k) = true := by
        rw [chainOk_iff]
        exact ⟨hn.imp id fun h => (pageB_iff _).1 h, hl.1, hl.2⟩
      have hpre := (goC_less k m s2 s' n h).2
      have hld := put_stored e (hpre.trans hpO) hH hO
      have hmp := (pageB_iff m).1 hm
      obtain ⟨l1, l2, _⟩ := link_chain hok
      have hlk : isLink (chainL next (pieceL b k)) = true := (isLink_iff _).2 ⟨_, _, hok, rfl⟩
      have hcv : chainV next (pieceL b k) = txt (chainL next (pieceL b k)) := if_pos hok
      have hlV : linkV (txt (chainL next (pieceL b k))) = (next, txt (pieceL b k)) := by
        unfold linkV
        rw [list_txt, if_pos hlk, l1, l2]
      rw [hcv] at hld
      have hlen : (txt (pieceL b k)).size = min (b.size - k * 120) 120 := by
        rw [piece_txt, ByteArray.size_extract]
        omega
      have hkb : k * 120 < b.size := by unfold npc at hk; omega
      have hr' : ∀ acc T, txR ld (b.size - k * 120) m acc T = (0, acc ++ b.extract (k * 120) b.size, (P ++ [m]) ++ T) := fun acc T => by
        have hlB : linkB (ld m).1 (min (b.size - k * 120) 120) = true := by
          rw [hld]
          unfold linkB
          rw [list_txt, hlk, hlV]
          simp [hlen]
        rw [tx_step (by omega) (by omega) (by rw [hld]) hlB, hld, hlV]
        dsimp only
        rw [show b.size - k * 120 - 120 = b.size - (k + 1) * 120 by omega, hr, ByteArray.append_assoc, piece_ext (by omega), List.append_assoc]
        rfl
      obtain ⟨Q, q1, q2⟩ := ih m s2 s' n (P ++ [m]) h (by omega) (.inr hm) hp2 hH hO hpO hr'
      refine ⟨[m] ++ Q, fun acc T => ?_, ?_⟩
      · rw [q1, List.append_assoc, List.append_assoc]
      · have := (Cov.put e).trans q2 hpre
        exact ⟨fun x hx => (this.1 x hx).imp id fun h => by simpa [or_comm] using h, fun j hj => this.2 j (by simpa [or_comm] using hj)⟩
/-! ### The records -/
inductive RC (ld : Ld) : List Ce → List Pr → List Int → Prop
  | nil : RC ld [] [] []
  | cons {c : Ce} {x : Pr} {C : List Ce} {L : List Pr} {P Q : List Int} : c.key = x.n → (∀ T, textR ld c T = (0, x.b, P ++ T)) → RC ld C L Q → RC ld (c :: C) (x :: L) (Q ++ P)
theorem RC.read {ld : Ld} {C : List Ce} {L : List Pr} {Q : List Int} (h : RC ld C L Q) : ∀ out T, celM ld C out T = (0, out ++ L, Q ++ T) := by
  induction h with
  | nil => intro out T; rw [List.append_nil]; rfl
  | cons hk ht _ ih =>
    intro out T
    rw [celM, ht]
    dsimp only
    rw [if_pos rfl, ih, hk]
    simp
theorem RC.split {ld : Ld} : ∀ (A B : List Ce) {L : List Pr} {Q : List Int}, RC ld (A ++ B) L Q → ∃ L1 L2 Q1 Q2, L = L1 ++ L2 ∧ Q = Q2 ++ Q1 ∧ RC ld A L1 Q1 ∧ RC ld B L2 Q2 := by
  intro A
  induction A with
  | nil => intro B L Q h; exact ⟨[], L, [], Q, rfl, by simp, .nil, h⟩
  | cons a A ih =>
    intro B L Q h
    rw [List.cons_append] at h
    cases h with
    | cons hk ht h =>
      obtain ⟨L1, L2, Q1, Q2, rfl, rfl, h1, h2⟩ := ih B h
      exact ⟨_, L2, _, Q2, rfl, by simp, .cons hk ht h1, h2⟩
theorem goR_read {ld : Ld} {H O : List Pr} : ∀ (L : List Pr) (C C' : List Ce) (s s' : Sp), goR H L (C, s) = some (C', s') → PgsIn H s → Laid ld H → Laid ld O → s'.O <+: O → ∃ D Q, C' = C ++ D ∧ RC ld D L Q ∧ Cov H s s' Q := by
  intro L
  induction L with
  | nil =>
    intro C C' s s' h _ _ _ _
    simp only [goR, Option.some.injEq, Prod.mk.injEq] at h
    obtain ⟨rfl, rfl⟩ := h
    exact ⟨[], [], by simp, .nil, Cov.refl H s⟩
  | cons x L ih =>
    intro C C' s s' h hp hH hO hpO
    rw [goR] at h
    cases e : stepR H (C, s) x with
    | none => rw [e] at h; cases h
    | some r =>
      obtain ⟨C2, s2⟩ := r
      rw [e, Option.bind_some] at h
      have hpre := (goR_less L C2 C' s2 s' h).2
      obtain ⟨D, Q, d1, d2, d3⟩ := ih C2 C' s2 s' h (stepR_ce e hp).2 hH hO hpO
      unfold stepR at e
      dsimp only at e
      by_cases hz : x.b.size ≤ 24
      · rw [if_pos hz] at e
        simp only [Option.some.injEq, Prod.mk.injEq] at e
        obtain ⟨rfl, rfl⟩ := e
        refine ⟨⟨x.n, x.b.size, 0, x.b⟩ :: D, Q ++ [], by rw [d1]; simp, .cons rfl (fun T => ?_) d2, by rw [List.append_nil]; exact d3⟩
        unfold textR
        dsimp only
        rw [if_pos (by omega)]
        rfl
      · rw [if_neg hz] at e
        cases e2 : goC H x.b (npc x.b) 0 s with
        | none => rw [e2] at e; cases e
        | some r =>
          obtain ⟨n, s3⟩ := r
          rw [e2] at e
          simp only [Option.map_some, Option.some.injEq, Prod.mk.injEq] at e
          obtain ⟨rfl, rfl⟩ := e
          obtain ⟨P, p1, p2⟩ := goC_read (ld := ld) (O := O) (by omega) _ 0 s s3 n [] e2 (Nat.le_refl _) (.inl rfl) hp hH hO (hpre.trans hpO) fun acc T => by
            have e0 : x.b.size - npc x.b * 120 = 0 := by unfold npc; omega
            have e1 : x.b.extract (npc x.b * 120) x.b.size = ByteArray.empty := by
              apply ByteArray.size_eq_zero_iff.1
              rw [ByteArray.size_extract]
              omega
            rw [e0, tx_end, e1, ByteArray.append_empty]
            rfl
          refine ⟨⟨x.n, x.b.size, n, ByteArray.empty⟩ :: D, Q ++ P, by rw [d1]; simp, .cons rfl (fun T => ?_) d2, p2.trans d3 hpre⟩
          unfold textR
          dsimp only
          rw [if_neg (by omega), Int.toNat_natCast, p1, ByteArray.empty_append]
          rfl
/-! ### The leaves -/
theorem last_lt {out L : List Pr} {x : Pr} (h : (out ++ x :: L).Pairwise (fun a b => a.n < b.n)) (h0 : 0 ≤ x.n) : lastK out < x.n := by
  unfold lastK
  cases e : out.getLast? with
  | none => dsimp only; omega
  | some y =>
    dsimp only
    rw [List.pairwise_append] at h
    exact h.2.2 y (List.mem_of_getLast? e) x (by simp)
theorem goP_read {ld : Ld} {H O : List Pr} : ∀ (Gs : List (List Ce)) (S S' : List Sl) (s s' : Sp) (out L : List Pr) (Q : List Int), goP H Gs (S, s) = some (S', s') → (∀ G ∈ Gs, leafOk G = true ∧ 0 < G.length) → RC ld Gs.flatten L Q → (out ++ L).Pairwise (fun a b => a.n < b.n) → (∀ x ∈ L, 0 ≤ x.n) → PgsIn H s → Laid ld H → Laid ld O → s'.O <+: O →
    ∃ S2 R, S' = S ++ S2 ∧ (∀ T, sltM ld S2 out T = (0, out ++ L, R ++ T)) ∧ (∀ m ∈ Q, m ∈ R) ∧ (∀ m ∈ R, m ∈ Q ∨ ∃ x, (x ∈ H ∨ x ∈ s'.O) ∧ x.n = m) ∧ (∀ x ∈ s'.O, x ∈ s.O ∨ x.n ∈ R) ∧ S2.map (·.key) = Gs.map (fun G => (G.getD 0 noCe).key) ∧ ∀ z ∈ S2, pageB z.page = true := by
  intro Gs
  induction Gs with
  | nil =>
    intro S S' s s' out L Q h _ hR _ _ _ _ _ _
    simp only [goP, Option.some.injEq, Prod.mk.injEq] at h
    obtain ⟨rfl, rfl⟩ := h
    rw [List.flatten_nil] at hR
    cases hR
    exact ⟨[], [], by simp, fun T => by rw [List.append_nil]; rfl, fun m hm => hm, fun m hm => absurd hm (by simp), fun x hx => .inl hx, rfl, fun z hz => absurd hz (by simp)⟩
  | cons G Gs ih =>
    intro S S' s s' out L Q h hG hR hout h0 hp hH hO hpO
    rw [goP] at h
    dsimp only at h
    cases e : putS H s (leafV G) with
    | none => rw [e] at h; cases h
    | some r =>
      obtain ⟨n, s2⟩ := r
      rw [e] at h
      dsimp only at h
      obtain ⟨hok, hpos⟩ := hG G (by simp)
      obtain ⟨hn, hp2⟩ := pgs_put hp e
      have hpre := (goP_less Gs _ S' s2 s' h).2
      have hld := put_stored e (hpre.trans hpO) hH hO
      have hlv : leafV G = txt (leafL G) := if_pos hok
      rw [hlv] at hld
      obtain ⟨b1, b2⟩ := leaf_back hok
      rw [List.flatten_cons] at hR
      obtain ⟨L1, L2, Q1, Q2, rfl, rfl, r1, r2⟩ := RC.split G Gs.flatten hR
      rw [← List.append_assoc] at hout
      obtain ⟨S2, R, t1, t2, t3, t4, t5, t6, t7⟩ := ih _ S' s2 s' (out ++ L1) L2 Q2 h (fun A hA => hG A (by simp [hA])) r2 hout (fun x hx => h0 x (by simp [hx])) hp2 hH hO hpO
      obtain ⟨c, G', rfl⟩ : ∃ c G', G = c :: G' := by
        cases G with
        | nil => simp at hpos
        | cons c G' => exact ⟨c, G', rfl⟩
      refine ⟨⟨c.key, n⟩ :: S2, R ++ (Q1 ++ [n]), by rw [t1]; simp, fun T => ?_, fun m hm => ?_, fun m hm => ?_, fun x hx => ?_, by rw [List.map_cons, List.map_cons, t6]; rfl, fun z hz => ?_⟩
      · have hkey : lastK out < c.key := by
          cases r1 with
          | cons hk _ _ =>
            rw [hk]
            exact last_lt (List.Pairwise.sublist (List.sublist_append_left _ _) hout) (h0 _ (by simp))
        have hla : leafAt (ld n).1 c.key (lastK out) = true := by
          rw [hld]
          unfold leafAt
          rw [b1, b2]
          simp [hkey]
        rw [sltM]
        dsimp only
        rw [hld] at hla ⊢
        dsimp only at hla ⊢
        rw [if_neg (by decide), if_pos hla, b2, r1.read, if_pos rfl, t2]
        simp
      · rcases List.mem_append.1 hm with q | q
        · exact List.mem_append_left _ (t3 m q)
        · exact List.mem_append_right _ (List.mem_append_left _ q)
      · rcases List.mem_append.1 hm with q | q
        · exact (t4 m q).imp (fun h => List.mem_append_left _ h) id
        · rcases List.mem_append.1 q with q | q
          · exact .inl (List.mem_append_right _ q)
          · obtain ⟨x, hx, e2⟩ := (Cov.put e).2 m q
            exact .inr ⟨x, hx.imp id fun h => hpre.subset h, e2⟩
      · rcases t5 x hx with q | q
        · rcases (Cov.put e).1 x q with q | q
          · exact .inl q
          · exact .inr (List.mem_append_right _ (List.mem_append_right _ q))
        · exact .inr (List.mem_append_left _ q)
      · rcases List.mem_cons.1 hz with rfl | hz
        · exact hn
        · exact t7 z hz
theorem cut_flat : ∀ (f : Nat) (D : List Ce), D.length ≤ f → (cutG f D).flatten = D := by
  intro f
  induction f with
  | zero =>
    intro D h
    rw [List.eq_nil_of_length_eq_zero (by omega : D.length = 0)]
    rfl
  | succ f ih =>
    intro D h
    cases D with
    | nil => rfl
    | cons c D =>
      have h1 := nxt_pos (c :: D)
      rw [cutG, List.flatten_cons, ih _ (by rw [List.length_drop]; omega), List.take_append_drop]
theorem cut_pos : ∀ (f : Nat) (D : List Ce), ∀ G ∈ cutG f D, 0 < G.length := by
  intro f
  induction f with
  | zero => intro D G h; cases h
  | succ f ih =>
    intro D G h
    cases D with
    | nil => cases h
    | cons d D =>
      rw [cutG] at h
      rcases List.mem_cons.1 h with rfl | h
      · have h1 := nxt_pos (d :: D)
        rw [List.length_take, List.length_cons]
        omega
      · exact ih _ G h
theorem cut_heads : ∀ (f : Nat) (D : List Ce), D.Pairwise (fun a b => a.key < b.key) → ((cutG f D).map fun G => (G.getD 0 noCe).key).Pairwise (fun a b => a < b) := by
  intro f
  induction f with
  | zero => intro D _; exact List.Pairwise.nil
  | succ f ih =>
    intro D hD
    cases D with
    | nil => exact List.Pairwise.nil
    | cons d D =>
      rw [cutG, List.map_cons]
      refine List.pairwise_cons.2 ⟨fun k hk => ?_, ih _ (hD.sublist (List.drop_sublist _ _))⟩
      have h1 := nxt_pos (d :: D)
      obtain ⟨m, hm⟩ : ∃ m, nxt (d :: D) = m + 1 := ⟨nxt (d :: D) - 1, by omega⟩
      rw [hm] at hk ⊢
      obtain ⟨G, hG, rfl⟩ := List.mem_map.1 hk
      have hp := cut_pos _ _ G hG
      obtain ⟨g, G', rfl⟩ : ∃ g G', G = g :: G' := by
        cases G with
        | nil => simp at hp
        | cons c G' => exact ⟨c, G', rfl⟩
      have h2 := cut_mem _ _ _ hG g (by simp)
      rw [List.drop_succ_cons] at h2
      exact (List.pairwise_cons.1 hD).1 g (List.mem_of_mem_drop h2)
/-! ### The whole -/
theorem recs_pair {L : List Pr} (h : recsOk L = true) : L.Pairwise (fun a b => a.n < b.n) ∧ ∀ x ∈ L, 0 ≤ x.n := by
  have step : ∀ i, i + 1 < L.length → (L.getD i noPr).n < (L.getD (i + 1) noPr).n := fun i hi => by
    have := recs_at h hi
    rw [reOk_succ] at this
    simp only [Bool.and_eq_true, decide_eq_true_eq] at this
    exact this.2
  have far : ∀ d i, i + d + 1 < L.length → (L.getD i noPr).n < (L.getD (i + d + 1) noPr).n := by
    intro d
    induction d with
    | zero => intro i hi; exact step i hi
    | succ d ih =>
      intro i hi
      have h1 := ih i (by omega)
      have h2 := step (i + d + 1) (by omega)
      rw [show i + (d + 1) + 1 = i + d + 1 + 1 by omega]
      omega
  refine ⟨?_, fun x hx => ?_⟩
  · rw [List.pairwise_iff_getElem]
    intro i j hi hj hij
    have := far (j - i - 1) i (by omega)
    rw [show i + (j - i - 1) + 1 = j by omega] at this
    simpa [List.getD, hi, hj] using this
  · obtain ⟨k, hk, e⟩ := pr_get hx
    have := recs_at h hk
    unfold reOk at this
    simp only [Bool.and_eq_true] at this
    have := (keyB_iff _).1 this.1.1
    rw [e] at this
    exact this.1
theorem plan_read {ld : Ld} {L H O : List Pr} {F : List Int} {root : Int} (h : planR L H F = some (O, root)) (hr : recsOk L = true) (hp : PgsIn H ⟨[], F⟩) (hl : ¬ 21 < (lvs L).1) (hH : Laid ld H) (hO : Laid ld O) :
    ∃ T, rdM ld root = (0, L, T) ∧ (∀ x ∈ O, x.n ∈ T) ∧ ∀ m ∈ T, ∃ x, (x ∈ H ∨ x ∈ O) ∧ x.n = m := by
  obtain ⟨C, s, S, s2, s3, e1, e2, e3, rfl⟩ := plan_steps h
  have l3 := (put_less e3).2
  have l2 := (goP_less _ _ _ _ _ e2).2
  obtain ⟨⟨D, d1, hD⟩, p1⟩ := goR_cells _ _ _ _ _ e1 hp
  rw [List.nil_append] at d1
  subst d1
  have p2 := pgs_goP _ _ _ _ _ p1 e2
  obtain ⟨D, Q, d1, d2, d3⟩ := goR_read (ld := ld) _ _ _ _ _ e1 hp hH hO (l2.trans l3)
  rw [List.nil_append] at d1
  subst d1
  have hfl : (partsL C).flatten = C := cut_flat _ _ (Nat.le_refl _)
  have hok := cut_ok C.length C (cells_single hr hD)
  obtain ⟨q1, q2⟩ := recs_pair hr
  obtain ⟨S2, R, t1, t2, t3, t4, t5, t6, t7⟩ := goP_read (ld := ld) (partsL C) [] S s s2 [] L Q e2 (fun G hG => ⟨hok G hG, cut_pos _ _ G hG⟩) (by rw [hfl]; exact d2) q1 q2 p1 hH hO l3
  rw [List.nil_append] at t1
  subst t1
  have hcnt : (partsL C).length = (lvs L).1 := count_is hr hD
  have hSl : S.length = (partsL C).length := by
    have := congrArg List.length t6
    rwa [List.length_map, List.length_map] at this
  have hheads : ((partsL C).map fun G => (G.getD 0 noCe).key).Pairwise (fun a b => a < b) := cut_heads C.length C (cells_rise hr hD)
  have hkey : ∀ k, k < S.length → (S.getD k ⟨0, 0⟩).key = (((partsL C).map fun G => (G.getD 0 noCe).key).getD k 0) := fun k hk => by
    rw [← t6]
    simp [List.getD, hk]
  have hS : idxOk S = true := by
    refine idx_yes (by omega) fun k hk => ?_
    have hkp : k < (partsL C).length := by omega
    have hpg : pageB (S.getD k ⟨0, 0⟩).page = true := t7 _ (by simp [List.getD, hk])
    have hkb : keyB (S.getD k ⟨0, 0⟩).key = true := by
      rw [hkey k hk]
      have hG : (partsL C)[k] ∈ partsL C := List.getElem_mem hkp
      have g1 := hok _ hG
      have g2 := cut_pos _ _ _ hG
      simp only [leafOk, Bool.and_eq_true, List.all_eq_true] at g1
      have g3 := g1.1.2 0 (List.mem_range.2 g2)
      rw [ceOk_zero] at g3
      have g4 : ((partsL C).map fun G => (G.getD 0 noCe).key).getD k 0 = ((partsL C)[k].getD 0 noCe).key := by simp [List.getD, hkp]
      rw [g4]
      unfold ceGood at g3
      simp only [Bool.and_eq_true] at g3
      exact g3.1.1
    unfold slOk
    rw [hkb, hpg]
    by_cases h0 : k = 0
    · simp [h0]
    · have h1 : (S.getD (k - 1) ⟨0, 0⟩).key < (S.getD k ⟨0, 0⟩).key := by
        rw [hkey k hk, hkey (k - 1) (by omega)]
        have := (List.pairwise_iff_getElem.1 hheads) (k - 1) k (by rw [List.length_map]; omega) (by rw [List.length_map]; omega) (by omega)
        have i1 : k - 1 < (partsL C).length := by omega
        simpa [List.getD, hkp, i1] using this
      rw [decide_eq_true h1]
      simp
  have hld := put_stored e3 (List.prefix_refl _) hH hO
  have hiv : idxV S = txt (idxL S) := if_pos hS
  rw [hiv] at hld
  obtain ⟨i1, i2⟩ := idx_back hS
  refine ⟨R ++ [root], ?_, fun x hx => ?_, fun m hm => ?_⟩
  · unfold rdM
    rw [hld]
    dsimp only
    rw [if_neg (by decide), if_pos i1, i2, t2]
    rfl
  · rcases (Cov.put e3).1 x hx with q | q
    · rcases t5 x q with q | q
      · rcases d3.1 x q with q | q
        · exact absurd q (by simp)
        · exact List.mem_append_left _ (t3 _ q)
      · exact List.mem_append_left _ q
    · exact List.mem_append_right _ q
  · rcases List.mem_append.1 hm with q | q
    · rcases t4 m q with q | ⟨x, hx, e⟩
      · obtain ⟨x, hx, e⟩ := d3.2 m q
        exact ⟨x, hx.imp id fun h => l3.subset (l2.subset h), e⟩
      · exact ⟨x, hx.imp id fun h => l3.subset h, e⟩
    · exact (Cov.put e3).2 m q
/-- The pages that are seen of a plan over nothing are just those that were written. -/
theorem canon_plan {ld : Ld} {O : List Pr} {T : List Int} (hO : Laid ld O) (h1 : ∀ x ∈ O, x.n ∈ T) (h2 : ∀ m ∈ T, ∃ x, (x ∈ ([] : List Pr) ∨ x ∈ O) ∧ x.n = m) (hp : ∀ x ∈ O, pageB x.n = true) (hd : (O.map (·.n)).Nodup) : (canon ld T).length = O.length ∧ ∀ x, x ∈ canon ld T ↔ x ∈ O := by
  have hm : ∀ x, x ∈ canon ld T ↔ x ∈ O := fun x => by
    rw [canon_mem]
    constructor
    · rintro ⟨a, _, _, d⟩
      obtain ⟨y, hy, e⟩ := h2 _ a
      have hy := hy.resolve_left (by simp)
      have := hO y hy
      obtain ⟨xn, xb⟩ := x
      obtain ⟨yn, yb⟩ := y
      dsimp only at e d this
      subst e
      rw [this] at d
      dsimp only at d
      rw [d]
      exact hy
    · intro hx
      have := (pageB_iff _).1 (hp x hx)
      exact ⟨h1 x hx, by omega, by omega, by rw [hO x hx]⟩
  refine ⟨List.Perm.length_eq ?_, hm⟩
  rw [List.perm_ext_iff_of_nodup ?_ ?_]
  · exact hm
  · exact (canon_pair ld T).imp fun hab e => by rw [e] at hab; omega
  · exact (List.pairwise_map.1 hd).imp fun h e => h (by rw [e])
end Go.Proofs.Ytbkkhafckkndfaa
