/-
  For stage 16's law over any pages: both platters load alike; both Reads beside one another.
-/
import Derived.Test.YtbkkhafckkndfaaGreatPxEKeep
import Derived.Test.YtbkkhafckkndfaaGreatPxTPlay
namespace Go.Proofs.YtbkkhafckkndfaaGreat
open Go Go.RowKit

/-- A platter that is not to halt. -/
def Gd (P : Pl) : Prop := P.dead = false ∧ P.left = -1
theorem gd_new (n : Nat) : Gd (newP n) := ⟨rfl, rfl⟩
theorem Gd.store {P P' : Pl} {r n : Int} {x : ByteArray} (h : Gd P) (h0 : 0 ≤ n) (h1 : n < P.now.length) (hx : x.size = 128) (hs : storeP P n x = (r, P')) : r = 0 ∧ Gd P' := by
  unfold storeP at hs
  rw [if_neg (by rw [h.1]; decide), if_neg (by omega), if_neg (by rw [hx]; decide), if_neg (by rw [h.2]; decide), h.2] at hs
  cases hs
  exact ⟨rfl, h.1, rfl⟩
section
variable {w0 w : World} {b d : Nat} {P : Pl} {R : Rp}
theorem load_facts (hok : P.ok) (h : Gd P) (n : Int) : ((loadP P n).2 = 0 → 0 ≤ n ∧ n < 200 ∧ (loadP P n).1.size = 128) ∧ (¬ (loadP P n).2 = 0 → (loadP P n).1 = ByteArray.empty) := by
  unfold loadP
  rw [if_neg (by rw [h.1]; decide)]
  have ht := hok.top
  by_cases hr : 0 ≤ n ∧ n < P.now.length
  · rw [if_pos hr]
    have : n.toNat < P.now.length := by omega
    have hz := hok.now (pg P.now n.toNat) (by unfold pg; simp [List.getD, this])
    exact ⟨fun _ => ⟨by omega, by omega, hz⟩, fun e => absurd rfl e⟩
  · rw [if_neg hr]
    exact ⟨fun e => absurd (show (6 : Int) = 0 from e) (by decide), fun _ => rfl⟩
theorem Pair.loads (h : Pair w0 w b P d R) (hg : Gd P) : Loads w b (loadP P) := by
  have hok := h.ok
  refine ⟨fun W n hB => ?_, fun n e => ?_, fun n e => (load_facts hok hg n).2 e, fun n => ?_⟩
  · obtain ⟨F, G, h1, _⟩ := h
    exact has_load (h1.but (G := fun _ => False) (Go.Proofs.YtbkkhafckkndfaaGreat.Below.but hB) (fun _ _ e => e)) rfl
  · have := (load_facts hok hg n).1 e
    exact ⟨this.1, this.2.1⟩
  · by_cases e : (loadP P n).2 = 0
    · rw [((load_facts hok hg n).1 e).2.2]
      exact Nat.le_refl _
    · rw [(load_facts hok hg n).2 e]
      exact Nat.zero_le _
theorem Pair.rlds (h : Pair w0 w b P d R) (hs : Sim P R) (hg : Gd P) : RLd w d (loadP P) := by
  have hok := h.ok
  refine ⟨fun W n hB => ?_, fun n e => ?_, fun n e => ((load_facts hok hg n).1 e).2.2⟩
  · obtain ⟨F, G, _, h2, _⟩ := h
    exact rhas_load (h2.but (G := fun _ => False) (Go.Proofs.YtbkkhafckkndfaaGreat.Below.but hB) (fun _ _ e => e)) (sim_load hs n)
  · have := (load_facts hok hg n).1 e
    exact ⟨this.1, this.2.1⟩
theorem RLd.mono {w w' : World} {d : Nat} {ld : Ld} (h : RLd w d ld) (g : Below w.heap.size w w') : RLd w' d ld :=
  ⟨fun W n hB => h.call W n (g.trans (hB.mono g.size)), h.rng, h.sz⟩
end
/-! ### How much is read -/
theorem celM_len (ld : Ld) : ∀ (C : List Ce) (out : List Pr) (T : List Int), (celM ld C out T).2.1.length ≤ out.length + C.length := by
  intro C
  induction C with
  | nil => intro out T; exact Nat.le_refl _
  | cons c C ih =>
    intro out T
    rw [celM]
    by_cases h : (textR ld c T).1 = 0
    · rw [if_pos h]
      refine Nat.le_trans (ih _ _) ?_
      simp
      omega
    · rw [if_neg h]
      simp
theorem sltM_len (ld : Ld) : ∀ (S : List Sl) (out : List Pr) (T : List Int), (sltM ld S out T).2.1.length ≤ out.length + 200 * S.length := by
  intro S
  induction S with
  | nil => intro out T; exact Nat.le_refl _
  | cons s S ih =>
    intro out T
    rw [sltM, List.length_cons]
    by_cases h : (ld s.page).2 ≠ 0
    · rw [if_pos h]
      dsimp only
      omega
    · rw [if_neg h]
      by_cases hl : leafAt (ld s.page).1 s.key (lastK out) = true
      · rw [if_pos hl]
        have hc : (cellsS (ld s.page).1).length ≤ 200 := by
          unfold leafAt at hl
          simp only [Bool.and_eq_true] at hl
          exact (leaf_few (leaf_ok hl.1.1)).1
        have h1 := celM_len ld (cellsS (ld s.page).1) out (s.page :: T)
        by_cases h2 : (celM ld (cellsS (ld s.page).1) out (s.page :: T)).1 = 0
        · rw [if_pos h2]
          refine Nat.le_trans (ih _ _) ?_
          omega
        · rw [if_neg h2]
          omega
      · rw [if_neg hl]
        dsimp only
        omega
theorem rdM_len (ld : Ld) (root : Int) : (rdM ld root).2.1.length ≤ 4200 := by
  unfold rdM
  by_cases h : (ld root).2 ≠ 0
  · rw [if_pos h]
    exact Nat.zero_le _
  · rw [if_neg h]
    by_cases hi : isIdx (ld root).1 = true
    · rw [if_pos hi]
      refine Nat.le_trans (sltM_len _ _ _ _) ?_
      have := idx_few hi
      simp
      omega
    · rw [if_neg hi]
      exact Nat.zero_le _
/-! ### Both answers -/
def LrM (R : Int × List Pr × List Int) : List Pr := if R.1 = 0 then R.2.1 else []
def VrM (ld : Ld) (R : Int × List Pr × List Int) : List Pr := if R.1 = 0 then canon ld R.2.2 else []
def TwoR (w w' : World) (ld : Ld) (R : Int × List Pr × List Int) (e : Ending) : Prop := ∃ a c b d, e = .returned (.tuple #[.slice a (LrM R).length c, .slice b (VrM ld R).length d, .int .i64 R.1]) ∧ PrsAt w' a (LrM R) ∧ PrsAt w' b (VrM ld R) ∧ Below w.heap.size w w'
theorem two_of {w w' : World} {ld : Ld} {R : Int × List Pr × List Int} {e : Ending} (h : ReadE w w' ld R e) : TwoR w w' ld R e := by
  obtain ⟨h1, h2, h3⟩ := h
  unfold TwoR LrM VrM
  by_cases hR : R.1 = 0
  · obtain ⟨v, vw, e1, r1, r2⟩ := h1 hR
    obtain ⟨a, c, rfl, q1⟩ := prs_of r1
    obtain ⟨b, d, rfl, q2⟩ := prs_of r2
    rw [if_pos hR, if_pos hR]
    exact ⟨a, c, b, d, by rw [hR]; exact e1, q1, q2, h3⟩
  · rw [if_neg hR, if_neg hR]
    exact ⟨none, 0, none, 0, h2 hR, .inl rfl, .inl rfl, h3⟩
theorem rtwo_of {w w' : World} {ld : Ld} {R : Int × List Pr × List Int} {e : Ending} (h : RReadE w w' ld R e) : TwoR w w' ld R e := by
  obtain ⟨h1, h2, h3⟩ := h
  unfold TwoR LrM VrM
  by_cases hR : R.1 = 0
  · obtain ⟨v, vw, e1, r1, r2⟩ := h1 hR
    obtain ⟨a, c, rfl, q1⟩ := prs_of r1
    obtain ⟨b, d, rfl, q2⟩ := prs_of r2
    rw [if_pos hR, if_pos hR]
    exact ⟨a, c, b, d, by rw [hR]; exact e1, q1, q2, h3⟩
  · rw [if_neg hR, if_neg hR]
    exact ⟨none, 0, none, 0, h2 hR, .inl rfl, .inl rfl, h3⟩
theorem lr_len (ld : Ld) (root : Int) : (LrM (rdM ld root)).length ≤ 4200 := by
  unfold LrM
  split
  · exact rdM_len ld root
  · exact Nat.zero_le _
theorem vr_len (ld : Ld) (R : Int × List Pr × List Int) : (VrM ld R).length ≤ 200 := by
  unfold VrM
  split
  · exact canon_len ld _
  · exact Nat.zero_le _
end Go.Proofs.YtbkkhafckkndfaaGreat
