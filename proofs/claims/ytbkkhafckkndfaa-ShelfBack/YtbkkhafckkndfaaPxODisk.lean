/-
  A law's platter of 200 pages that keeps what a plan wrote.
-/
import Derived.Test.YtbkkhafckkndfaaPxORead
import Derived.Test.YtbkkhafckkndfaaPxOSize
import Derived.Test.YtbkkhafckkndfaaPxTOne
namespace Go.Proofs.Ytbkkhafckkndfaa
open Go Go.RowKit

/-- A platter of 200 pages that is not to halt, after k stores. -/
structure Fit (P : Pl) (k : Nat) : Prop where
  now : P.now.length = 200
  float : P.float.length = k
  dead : P.dead = false
  left : P.left = -1
theorem fit_new : Fit (newP 200) 0 := ⟨List.length_replicate, rfl, rfl, rfl⟩
theorem Fit.store {P : Pl} {k : Nat} (h : Fit P k) {n : Int} {b : ByteArray} (h0 : 0 ≤ n) (h1 : n < 200) (hb : b.size = 128) : ∃ P', storeP P n b = (0, P') ∧ Fit P' (k + 1) ∧ ∀ m, loadP P' m = if m = n then (b, 0) else loadP P m := by
  obtain ⟨i, rfl⟩ := Int.eq_ofNat_of_zero_le h0
  refine ⟨{ P with now := P.now.set i b, float := P.float ++ [⟨i, b⟩], left := -1 }, ?_, ⟨by simp [h.now], by simp [h.float], h.dead, rfl⟩, fun m => ?_⟩
  · unfold storeP
    rw [if_neg (by rw [h.dead]; decide), if_neg (by rw [h.now]; omega), if_neg (by rw [hb]; decide), if_neg (by rw [h.left]; decide), h.left]
    rfl
  · unfold loadP
    have hd : ¬ P.dead = true := by rw [h.dead]; decide
    simp only [if_neg hd, List.length_set, h.now]
    by_cases hm : m = (i : Int)
    · subst hm
      rw [if_pos rfl, if_pos ⟨by omega, by omega⟩]
      unfold pg
      have : i < P.now.length := by rw [h.now]; omega
      simp [List.getD, this]
    · rw [if_neg hm]
      by_cases hr : 0 ≤ m ∧ m < (200 : Nat)
      · rw [if_pos hr, if_pos hr]
        obtain ⟨j, rfl⟩ := Int.eq_ofNat_of_zero_le hr.1
        have : i ≠ j := fun e => hm (by rw [e])
        unfold pg
        simp [List.getD, this]
      · rw [if_neg hr, if_neg hr]
/-- What such a platter loads. -/
theorem loads_of {w0 w : World} {b k : Nat} {F : Nat → Prop} {P : Pl} (h : Has w0 w b F P) (hf : Fit P k) : Loads w b (loadP P) := by
  have hok := h.ok
  refine ⟨fun W n hB => ?_, fun n e => ?_, fun n e => ?_, fun n => ?_⟩
  · exact has_load (h.but (G := fun _ => False) (Go.Proofs.Ytbkkhafckkndfaa.Below.but hB) (fun _ _ e => e)) rfl
  · unfold loadP at e
    rw [if_neg (by rw [hf.dead]; decide), hf.now] at e
    split at e
    · assumption
    · cases e
  · unfold loadP at e ⊢
    rw [if_neg (by rw [hf.dead]; decide)] at e ⊢
    split
    · rename_i hq
      rw [if_pos hq] at e
      exact absurd rfl e
    · rfl
  · unfold loadP
    rw [if_neg (by rw [hf.dead]; decide)]
    split
    · rename_i hq
      have : n.toNat < P.now.length := by omega
      have hz := hok.now (pg P.now n.toNat) (by unfold pg; simp [List.getD, this])
      dsimp only
      omega
    · exact Nat.zero_le _
/-! ### What is laid -/
theorem laid_up {ld ld' : Ld} {O : List Pr} {k : Nat} (h : Laid ld (O.take k)) (hk : k < O.length) (hd : (O.map (·.n)).Nodup) (hl : ∀ m, ld' m = if m = (O.getD k noPr).n then ((O.getD k noPr).b, 0) else ld m) : Laid ld' (O.take (k + 1)) := by
  intro x hx
  rw [List.take_add_one] at hx
  rcases List.mem_append.1 hx with hx | hx
  · rw [hl]
    rw [if_neg ?_]
    · exact h x hx
    · intro e
      obtain ⟨i, hi, rfl⟩ := List.mem_iff_getElem.1 hx
      rw [List.length_take] at hi
      have hi2 : i < O.length := by omega
      rw [List.getElem_take] at e
      have e2 : (O.map (·.n))[i]'(by simpa using hi2) = (O.map (·.n))[k]'(by simpa using hk) := by simpa [List.getD, hk] using e
      rw [List.Nodup, List.pairwise_iff_getElem] at hd
      exact hd i k (by simpa using hi2) (by simpa using hk) (by omega) e2
  · simp [hk] at hx
    subst hx
    rw [hl, if_pos (by simp [List.getD, hk])]
    simp [List.getD, hk]
theorem laid_on {ld ld' : Ld} {H : List Pr} {n : Int} {b : ByteArray} (h : Laid ld H) (hn : ∀ y ∈ H, y.n ≠ n) (hl : ∀ m, ld' m = if m = n then (b, 0) else ld m) : Laid ld' H := fun x hx => by
  rw [hl, if_neg (hn x hx)]
  exact h x hx
/-! ### A plan that went well -/
structure Writ (L H O : List Pr) (F : List Int) (root : Int) : Prop where
  hr : recsOk L = true
  hp : PgsOk H F
  hl : ¬ 21 < (lvs L).1
  pl : planR L H F = some (O, root)
theorem plan_good {L H O : List Pr} {F : List Int} {root err : Int} (h : PlanIs L H F O root err) (he : err = 0) : Writ L H O F root := by
  subst he
  rcases h with ⟨_, _, _, e⟩ | ⟨_, _, _, _, e⟩ | ⟨_, _, _, _, _, e⟩ | ⟨a, b, c, _⟩
  · cases e
  · cases e
  · cases e
  · exact ⟨a.1, a.2, b, c⟩
theorem plan_bad {L H O : List Pr} {F : List Int} {root err : Int} (h : PlanIs L H F O root err) (he : ¬ err = 0) : O.length = 0 ∧ root = 0 := by
  rcases h with ⟨_, a, b, _⟩ | ⟨_, _, a, b, _⟩ | ⟨_, _, _, a, b, _⟩ | ⟨_, _, _, e⟩
  · exact ⟨by rw [a]; rfl, b⟩
  · exact ⟨by rw [a]; rfl, b⟩
  · exact ⟨by rw [a]; rfl, b⟩
  · exact absurd e he
section
variable {L H O : List Pr} {F : List Int} {root : Int}
theorem pgs_nodup (h : PgsOk H F) : F.Nodup := by
  rw [List.Nodup, List.pairwise_iff_getElem]
  intro i j hi hj hij e
  have := (h.2 j hj).2 i hij
  exact this (by simpa [List.getD, hi, hj] using e)
theorem Writ.free (h : Writ L H O F root) : ∀ x ∈ O, x.n ∈ F := fun x hx => by
  obtain ⟨F', e⟩ := (plan_new h.pl).1
  rw [← e]
  exact List.mem_append_left _ (List.mem_map.2 ⟨x, hx, rfl⟩)
theorem Writ.page (h : Writ L H O F root) : ∀ x ∈ O, pageB x.n = true := fun x hx => (pgs_in h.hp).2.2 _ (h.free x hx)
theorem Writ.nodup (h : Writ L H O F root) : (O.map (·.n)).Nodup := by
  obtain ⟨F', e⟩ := (plan_new h.pl).1
  have := pgs_nodup h.hp
  rw [← e] at this
  exact (List.nodup_append.1 this).1
theorem Writ.whole (h : Writ L H O F root) : ∀ x ∈ O, x.b.size = 128 := plan_whole h.pl h.hr (pgs_in h.hp) h.hl
theorem Writ.apart (h : Writ L H O F root) : ∀ x ∈ O, ∀ y ∈ H, y.n ≠ x.n ∧ y.b ≠ x.b := fun x hx y hy => by
  refine ⟨fun e => ?_, (plan_new h.pl).2 x hx y hy⟩
  obtain ⟨i, hi, rfl⟩ := List.mem_iff_getElem.1 hy
  obtain ⟨k, hk, e2⟩ := List.mem_iff_getElem.1 (h.free x hx)
  refine (h.hp.1 i hi).2 k hk ?_
  simp [List.getD, hi, hk, e, e2]
theorem Writ.get (h : Writ L H O F root) {k : Nat} (hk : k < O.length) : 2 ≤ (O.getD k noPr).n ∧ (O.getD k noPr).n < 200 ∧ (O.getD k noPr).b.size = 128 := by
  have hm : O.getD k noPr ∈ O := by simp [List.getD, hk]
  have := (pageB_iff _).1 (h.page _ hm)
  exact ⟨by omega, by omega, h.whole _ hm⟩
theorem Writ.read (h : Writ L H O F root) {ld : Ld} (hH : Laid ld H) (hO : Laid ld O) : ∃ T, rdM ld root = (0, L, T) ∧ (∀ x ∈ O, x.n ∈ T) ∧ ∀ m ∈ T, ∃ x, (x ∈ H ∨ x ∈ O) ∧ x.n = m := plan_read h.pl h.hr (pgs_in h.hp) h.hl hH hO
end
/-! ### A platter that is written while other blocks, made since, stay -/
def Dk (w0 : World) (A B : Nat) (ws wr : World) (b : Nat) (P : Pl) : Prop := ∃ F, Has w0 wr b F P ∧ (∀ i, F i → (A ≤ i ∧ i < B) ∨ ws.heap.size ≤ i) ∧ But (fun i => A ≤ i ∧ i < B) ws wr
section
variable {w0 ws wr w' : World} {A B b : Nat} {P P' : Pl}
theorem Dk.start {w w2 : World} (h : One w0 w b P) (g : Below w.heap.size w w2) : Dk w0 w0.heap.size w.heap.size w2 w2 b P := by
  obtain ⟨⟨F, hF⟩, _⟩ := h
  exact ⟨F, hF.but (G := fun _ => False) (Go.Proofs.Ytbkkhafckkndfaa.Below.but g) (fun _ _ e => e), fun i e => .inl (hF.2 i e), But.refl _ _⟩
theorem Dk.below (h : Dk w0 A B ws wr b P) (g : Below wr.heap.size wr w') : Dk w0 A B ws w' b P := by
  obtain ⟨F, h1, h2, h3⟩ := h
  exact ⟨F, h1.but (G := fun _ => False) (Go.Proofs.Ytbkkhafckkndfaa.Below.but g) (fun _ _ e => e), h2, h3.trans (Go.Proofs.Ytbkkhafckkndfaa.Below.but g)⟩
theorem Dk.store (h : Dk w0 A B ws wr b P) {n : Int} {x : ByteArray} {r : Int} (s : storeP P n x = (r, P')) (hm : P.float.length < 1000000) :
    Calls Try.prog 19 #[.pointer (some ⟨b, 0, none⟩), .int .i64 n, .string x] wr fun e w' => e = .returned (.int .i64 r) ∧ Dk w0 A B ws w' b P' := by
  obtain ⟨F, h1, h2, h3⟩ := h
  refine (has_store h1 s hm).mono fun e w' ⟨e1, F', g1, g2, g3⟩ => ⟨e1, F', g1, fun i e => ?_, ?_⟩
  · rcases g3 i e with e | e
    · exact h2 i e
    · exact .inr (Nat.le_trans h3.size e)
  · refine ⟨g2.os.trans h3.os, g2.tape.trans h3.tape, g2.output.trans h3.output, Nat.le_trans h3.size g2.size, fun i hi hn => (g2.block i (Nat.lt_of_lt_of_le hi h3.size) fun e => ?_).trans (h3.block i hi hn)⟩
    rcases h2 i e with e | e
    · exact hn e
    · omega
theorem Dk.row (h : Dk w0 A B ws wr b P) {B' n k : Nat} {E : TypeId} {v : Value} {xs : List Value} (hv : ws.ownsRow B' E k v n xs) (hb : B ≤ B') : wr.ownsRow B' E k v n xs := by
  obtain ⟨F, h1, h2, h3⟩ := h
  exact row_but hv h3 fun i e f => by
    have := (hv.lt i e).1
    omega
theorem Dk.bel (h : Dk w0 A B ws wr b P) {w : World} (hB : Below w.heap.size w ws) (hA : w.heap.size ≤ A) : Below w.heap.size w wr := by
  obtain ⟨F, h1, h2, h3⟩ := h
  exact hB.trans (h3.below (fun i e => Nat.le_trans hA e.1) hB.size)
theorem Dk.loads (h : Dk w0 A B ws wr b P) {k : Nat} (hf : Fit P k) : Loads wr b (loadP P) := by
  obtain ⟨F, h1, _⟩ := h
  exact loads_of h1 hf
theorem One.loads {w : World} (h : One w0 w b P) {k : Nat} (hf : Fit P k) : Loads w b (loadP P) := by
  obtain ⟨⟨F, h1⟩, _⟩ := h
  exact loads_of h1 hf
end
end Go.Proofs.Ytbkkhafckkndfaa
