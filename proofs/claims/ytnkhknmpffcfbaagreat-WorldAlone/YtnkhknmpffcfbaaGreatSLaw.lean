/-
  Plain numbers, no program in sight: what a step keeps of the bodies; which errors it may have.
-/
import Derived.Test.YtnkhknmpffcfbaaGreatSNum
import Derived.Test.YtnkhknmpffcfbaaGreatJLaw
import Derived.Test.YtnkhknmpffcfbaaGreatHOk
namespace Go.Proofs.YtnkhknmpffcfbaaGreat
open Go Go.RowKit

/-! ### Errors -/
theorem two_le {r s : Int × Int} (h : r.2 ≤ 4) (g : s.2 ≤ 4) : (two r s).2.2 ≤ 4 := by
  unfold two
  split
  · split
    · show (0 : Int) ≤ 4; decide
    · exact g
  · exact h
theorem addR_le (a b : Int) : (addR a b).2 ≤ 4 := by have : (addR a b).2 ≤ 3 := (inR_in _).2.2; omega
theorem subR_le (a b : Int) : (subR a b).2 ≤ 4 := by have : (subR a b).2 ≤ 3 := (inR_in _).2.2; omega
theorem mulR_le (a b : Int) : (mulR a b).2 ≤ 4 := by have := (mulR_in a b).2.2; omega
theorem divR_le (a b : Int) : (divR a b).2 ≤ 4 := (divR_in a b).2.2
theorem partR_le (a b : Int) : (partR a b).2 ≤ 4 := by
  unfold partR
  split
  · exact Int.le_refl 4
  · split
    · show (3 : Int) ≤ 4; decide
    · show (0 : Int) ≤ 4; decide
theorem lenR_le (a b : Int) : (lenR a b).2 ≤ 4 := by
  unfold lenR
  split
  · show (0 : Int) ≤ 4; decide
  · show (3 : Int) ≤ 4; decide
theorem behind_le {r : Int × Int} {f : Int → Int × Int} (h : r.2 ≤ 4) (g : ∀ x, (f x).2 ≤ 4) : (behind r f).2 ≤ 4 := by unfold behind; split; exact g _; exact h
theorem unitR_le (x y : Int) : (unitR x y).2.2 ≤ 4 := by
  unfold unitR
  split
  · split
    · show (0 : Int) ≤ 4; decide
    · split
      · show (0 : Int) ≤ 4; decide
      · exact two_le (divR_le _ _) (divR_le _ _)
  · exact lenR_le _ _
theorem ifP_le {k : Int} {r : (Bd × Bd) × Int} (h : k ≤ 4) (g : r.2 ≤ 4) : (ifP k r).2 ≤ 4 := by unfold ifP; split; exact g; exact h
theorem ifH_le {k : Int} {r : (Ht × Bool) × Int} (h : k ≤ 4) (g : r.2 ≤ 4) : (ifH k r).2 ≤ 4 := by unfold ifH; split; exact g; exact h
theorem ifV_le {k : Int} {t : Int × Int × Int} (h : k ≤ 4) (g : t.2.2 ≤ 4) : (ifV k t).2.2 ≤ 4 := by unfold ifV; split; exact g; exact h
theorem ifN_le {k : Int} {t : Int × Int} (h : k ≤ 4) (g : t.2 ≤ 4) : (ifN k t).2 ≤ 4 := by unfold ifN; split; exact g; exact h
theorem put_le {t : Int × Int × Int} {f : Int → Int → Bd} (h : t.2.2 ≤ 4) : (put t f).2 ≤ 4 := by unfold put; split; (show (0 : Int) ≤ 4; decide); exact h
theorem le40 : (0 : Int) ≤ 4 := by decide
theorem lightR_le (A : Bd) : (lightR A).2 ≤ 4 := by unfold lightR; split; exact le40; exact divR_le _ _
theorem speedR_le (A : Bd) : (speedR A).2.2 ≤ 4 := by unfold speedR; split; exact le40; exact two_le (divR_le _ _) (divR_le _ _)
theorem kR_le (A B : Bd) : (kR A B).2 ≤ 4 := behind_le (lightR_le A) fun _ => behind_le (lightR_le B) fun _ => addR_le _ _
theorem scaleV_le (x y j : Int) : (scaleV x y j).2.2 ≤ 4 := two_le (mulR_le _ _) (mulR_le _ _)
theorem dotV_le (x y u v : Int) : (dotV x y u v).2 ≤ 4 := by
  unfold dotV
  split
  · split
    · exact addR_le _ _
    · exact mulR_le _ _
  · exact mulR_le _ _
theorem vR_le (A B : Bd) (x y : Int) : (vR A B x y).2 ≤ 4 := ifN_le (speedR_le B) (ifN_le (speedR_le A) (ifN_le (two_le (subR_le _ _) (subR_le _ _)) (dotV_le _ _ _ _)))
theorem lessM_le (A : Bd) (x y : Int) : (lessM A x y).2 ≤ 4 := by unfold lessM; split; exact le40; exact put_le (two_le (subR_le _ _) (subR_le _ _))
theorem plusM_le (A : Bd) (x y : Int) : (plusM A x y).2 ≤ 4 := by unfold plusM; split; exact le40; exact put_le (two_le (addR_le _ _) (addR_le _ _))
theorem applyR_le (A B : Bd) (x y : Int) : (applyR A B x y).2 ≤ 4 := ifP_le (lessM_le _ _ _) (ifP_le (plusM_le _ _ _) le40)
theorem pushR_le (A B : Bd) (x y v k : Int) : (pushR A B x y v k).2 ≤ 4 := ifP_le (addR_le _ _) (ifP_le (subR_le _ _) (ifP_le (divR_le _ _) (ifP_le (scaleV_le _ _ _) (applyR_le _ _ _ _))))
theorem metR_le (A B : Bd) (x y v k : Int) : (metR A B x y v k).2 ≤ 4 := by unfold metR; split; exact pushR_le _ _ _ _ _ _; exact le40
theorem apartR_le (A B : Bd) (x y c : Int) : (apartR A B x y c).2 ≤ 4 :=
  ifP_le (lightR_le _) (ifP_le (mulR_le _ _) (ifP_le (scaleV_le _ _ _) (ifP_le (two_le (subR_le _ _) (subR_le _ _)) (ifP_le (lightR_le _) (ifP_le (mulR_le _ _) (ifP_le (scaleV_le _ _ _) (ifP_le (two_le (addR_le _ _) (addR_le _ _)) le40)))))))
theorem contactR_le (A B : Bd) (h : Ht) : (contactR A B h).2 ≤ 4 := by
  unfold contactR
  refine ifP_le (kR_le _ _) ?_
  split
  · exact le40
  · refine ifP_le (vR_le _ _ _ _) ?_
    unfold thenR
    exact ifP_le (metR_le _ _ _ _ _ _) (ifP_le (divR_le _ _) (apartR_le _ _ _ _ _))
theorem jointR_le (A B : Bd) (n : Int) : (jointR A B n).2 ≤ 4 := by
  unfold jointR
  refine ifP_le (two_le (subR_le _ _) (subR_le _ _)) ?_
  unfold heldU
  refine ifP_le (unitR_le _ _) ?_
  split
  · exact le40
  refine ifP_le (kR_le _ _) ?_
  split
  · exact le40
  refine ifP_le (vR_le _ _ _ _) (ifP_le (ifN_le (subR_le _ _) (ifN_le (mulR_le _ _) (addR_le _ _))) ?_)
  exact ifP_le (subR_le _ _) (ifP_le (divR_le _ _) (ifP_le (scaleV_le _ _ _) (applyR_le _ _ _ _)))
theorem pairX_le {s t : Int × Int × Int} (h : s.2.2 ≤ 4) (g : t.2.2 ≤ 4) : (pairX s t).2 ≤ 4 := by
  unfold pairX
  split
  · split
    · exact le40
    · exact g
  · exact h
theorem boxR_le (B : Bd) : (boxR B).2 ≤ 4 := pairX_le (two_le (subR_le _ _) (subR_le _ _)) (two_le (addR_le _ _) (addR_le _ _))
theorem amtR_le (d : Int) : (amtR d).2 ≤ 4 := by unfold amtR; split; exact subR_le _ _; exact le40
theorem overR_le (a b d : Int) : (overR a b d).2 ≤ 4 := behind_le (addR_le _ _) fun _ => behind_le (amtR_le _) fun _ => subR_le _ _
theorem gapV_le (A B : Bd) : (gapV A B).2.2 ≤ 4 := two_le (subR_le _ _) (subR_le _ _)
theorem cratesR_le (a b c d x y : Int) : (cratesR a b c d x y).2 ≤ 4 := by
  unfold cratesR
  refine ifH_le (overR_le _ _ _) ?_
  split
  · exact le40
  · exact ifH_le (overR_le _ _ _) le40
theorem crateR_le (A B : Bd) : (crateR A B).2 ≤ 4 := ifH_le (gapV_le _ _) (cratesR_le _ _ _ _ _ _)
theorem ballsR_le (A B : Bd) : (ballsR A B).2 ≤ 4 := ifH_le (gapV_le _ _) (ifH_le (unitR_le _ _) (ifH_le (behind_le (addR_le _ _) fun _ => subR_le _ _) le40))
theorem ballR_le (A B : Bd) : (ballR A B).2 ≤ 4 := by
  unfold ballR
  refine ifH_le (boxR_le _) (ifH_le (two_le (subR_le _ _) (subR_le _ _)) ?_)
  unfold ballU
  refine ifH_le (unitR_le _ _) ?_
  split
  · exact crateR_le _ _
  · exact ifH_le (subR_le _ _) le40
theorem flipR_le (h : Ht) : (flipR h).2 ≤ 4 := by
  unfold flipR
  split
  · exact le40
  · exact two_le (subR_le _ _) (subR_le _ _)
theorem hitR_le (A B : Bd) : (hitR A B).2 ≤ 4 := by
  unfold hitR
  split
  · exact ballsR_le _ _
  split
  · exact crateR_le _ _
  split
  · exact ballR_le _ _
  split
  · exact ifH_le (ballR_le _ _) (ifH_le (flipR_le _) le40)
  · exact le40
theorem upE_le {f : Nat → List Bd → List Bd × Int} (hf : ∀ k L, (f k L).2 ≤ 4) : ∀ m k L, (upE f m k L).2 ≤ 4
  | 0, _, _ => le40
  | m + 1, k, L => by
    unfold upE
    split
    · exact upE_le hf m _ _
    · exact hf _ _
theorem thenE_le {r : List Bd × Int} {f : List Bd → List Bd × Int} (h : r.2 ≤ 4) (hf : ∀ L, (f L).2 ≤ 4) : (thenE r f).2 ≤ 4 := by unfold thenE; split; exact hf _; exact h
theorem putE_le {L : List Bd} {i : Nat} {r : Bd × Int} (h : r.2 ≤ 4) : (putE L i r).2 ≤ 4 := by unfold putE; split; exact le40; exact h
theorem pairE_le {L : List Bd} {a b : Nat} {r : (Bd × Bd) × Int} (h : r.2 ≤ 4) : (pairE L a b r).2 ≤ 4 := by unfold pairE; split; exact le40; exact h
theorem shareV_le {t : Int × Int × Int} (h : t.2.2 ≤ 4) : (shareV t).2.2 ≤ 4 := ifV_le h (two_le (partR_le _ _) (partR_le _ _))
theorem fallB_le (x y : Int) (B : Bd) : (fallB x y B).2 ≤ 4 := by
  unfold fallB
  split
  · exact le40
  · exact put_le (ifV_le (shareV_le (scaleV_le _ _ _)) (two_le (addR_le _ _) (addR_le _ _)))
theorem moveB_le (B : Bd) : (moveB B).2 ≤ 4 := by
  unfold moveB
  split
  · exact le40
  · exact put_le (ifV_le (shareV_le (speedR_le _)) (two_le (addR_le _ _) (addR_le _ _)))
theorem boxE_le : ∀ L, (boxE L).2 ≤ 4
  | [] => le40
  | B :: L => by
    unfold boxE
    split
    · split
      · exact le40
      · exact boxE_le L
    · exact boxR_le B
theorem hitE_le (P : List (Nat × Nat)) (k : Nat) (L : List Bd) : (hitE P k L).2 ≤ 4 := by
  unfold hitE
  split
  · split
    · exact pairE_le (contactR_le _ _ _)
    · exact le40
  · exact hitR_le _ _
theorem bounceE_le (L : List Bd) : (bounceE L).2 ≤ 4 := by
  unfold bounceE
  split
  · exact upE_le (hitE_le _) _ _ _
  · exact boxE_le L
theorem advE_le (x y : Int) (J : List Jt) (L : List Bd) : (advE x y J L).2 ≤ 4 :=
  thenE_le (upE_le (fun _ _ => putE_le (fallB_le _ _ _)) _ _ _) fun _ => thenE_le (upE_le (fun _ _ => upE_le (fun _ _ => pairE_le (jointR_le _ _ _)) _ _ _) _ _ _) fun _ => thenE_le (bounceE_le _) fun _ => upE_le (fun _ _ => putE_le (moveB_le _)) _ _ _
theorem endE_le (L : List Bd) : (endE L).2 ≤ 4 := by unfold endE; split; exact le40; (show (3 : Int) ≤ 4; decide)
theorem stepE_le {x y : Int} {J : List Jt} {L : List Bd} (h : rightW x y L J = true) : (stepE x y J L).2 ≤ 4 := by unfold stepE; rw [if_pos h]; exact thenE_le (advE_le _ _ _ _) endE_le

/-! ### What a body keeps -/
/-- The same shape, size, mass; without a mass the same body. -/
structure KeepB (A A' : Bd) : Prop where
  s : A'.s = A.s
  a : A'.a = A.a
  b : A'.b = A.b
  m : A'.m = A.m
  z : A.m = 0 → A' = A
theorem KeepB.refl (A : Bd) : KeepB A A := ⟨rfl, rfl, rfl, rfl, fun _ => rfl⟩
theorem KeepB.trans {A B C : Bd} (h : KeepB A B) (g : KeepB B C) : KeepB A C := ⟨g.s.trans h.s, g.a.trans h.a, g.b.trans h.b, g.m.trans h.m, fun e => (g.z (h.m.trans e)).trans (h.z e)⟩
theorem KeepB.mom {A : Bd} (h : ¬ A.m = 0) (x y : Int) : KeepB A (A.mom x y) := ⟨rfl, rfl, rfl, rfl, fun e => absurd e h⟩
theorem lessM_keep {A : Bd} {x y : Int} (h : (lessM A x y).2 = 0) : KeepB A (lessM A x y).1 := by
  by_cases hm : A.m = 0
  · rw [lessM_none hm]; exact KeepB.refl A
  · rw [lessM_val hm h]; exact KeepB.mom hm _ _
theorem plusM_keep {A : Bd} {x y : Int} (h : (plusM A x y).2 = 0) : KeepB A (plusM A x y).1 := by
  by_cases hm : A.m = 0
  · rw [plusM_none hm]; exact KeepB.refl A
  · rw [plusM_val hm h]; exact KeepB.mom hm _ _
theorem apply_keep {A B : Bd} {x y : Int} (h : (applyR A B x y).2 = 0) : KeepB A (applyR A B x y).1.1 ∧ KeepB B (applyR A B x y).1.2 := by
  obtain ⟨h1, h2, h3⟩ := apply_inv h
  rw [h3]
  exact ⟨lessM_keep h1, plusM_keep h2⟩
theorem joint_keep {A B : Bd} {n : Int} (h : (jointR A B n).2 = 0) : KeepB A (jointR A B n).1.1 ∧ KeepB B (jointR A B n).1.2 := by
  rcases joint_inv h with ⟨e, _⟩ | ⟨j, _, _, e⟩
  · rw [e]; exact ⟨KeepB.refl A, KeepB.refl B⟩
  · rw [e] at h ⊢; exact apply_keep h
theorem forth_none {A : Bd} (hA : A.ok) (h : A.m = 0) (x y c : Int) : forthV A x y c = (A.p, A.q, 0) := by
  unfold forthV offV offR
  rw [light_none h]
  simp only
  rw [mulR_zero]
  simp only
  rw [scale_zero]
  simp only
  rw [addR_zero hA.p, addR_zero hA.q]; rfl
theorem contact_keep {A B : Bd} {h : Ht} (hA : A.ok) (hB : B.ok) (g : (contactR A B h).2 = 0) : KeepB A (contactR A B h).1.1 ∧ KeepB B (contactR A B h).1.2 := by
  obtain ⟨_, ⟨_, e⟩ | ⟨_, v, M, c, _, hM, _, h4, e⟩⟩ := contact_inv g
  · rw [e]; exact ⟨KeepB.refl A, KeepB.refl B⟩
  have hk : KeepB A M.1 ∧ KeepB B M.2 ∧ M.1.ok ∧ M.2.ok := by
    have ho := metR_in hA hB h.x h.y v (kR A B).1
    rw [hM] at ho
    rcases met_inv (show (metR A B h.x h.y v (kR A B).1).2 = 0 by rw [hM]) with e1 | ⟨j, e1, _⟩
    · rw [hM] at e1
      obtain rfl : M = (A, B) := congrArg Prod.fst e1
      exact ⟨KeepB.refl A, KeepB.refl B, ho⟩
    · have := apply_keep (A := A) (B := B) (x := (scaleV h.x h.y j).1) (y := (scaleV h.x h.y j).2.1) (by rw [← e1, hM])
      rw [← e1, hM] at this
      exact ⟨this.1, this.2, ho⟩
  obtain ⟨k1, k2, o1, o2⟩ := hk
  rw [e, (apart_inv h4).2.2.2.2.2.2.2.2]
  refine ⟨k1.trans ⟨rfl, rfl, rfl, rfl, fun hz => ?_⟩, k2.trans ⟨rfl, rfl, rfl, rfl, fun hz => ?_⟩⟩
  · simp only
    rw [back_none o1 hz]; rfl
  · simp only
    rw [forth_none o2 hz]; rfl
theorem fallB_keep {x y : Int} {B : Bd} (h : (fallB x y B).2 = 0) : KeepB B (fallB x y B).1 := by
  unfold fallB at *
  by_cases hm : B.m = 0
  · rw [if_pos hm]; exact KeepB.refl B
  · rw [if_neg hm] at h ⊢
    rw [(put_inv h).2]; exact KeepB.mom hm _ _
theorem moveB_keep {B : Bd} (h : (moveB B).2 = 0) : KeepB B (moveB B).1 := by
  unfold moveB at *
  by_cases hm : B.m = 0
  · rw [if_pos hm]; exact KeepB.refl B
  · rw [if_neg hm] at h ⊢
    rw [(put_inv h).2]; exact ⟨rfl, rfl, rfl, rfl, fun e => absurd e hm⟩

/-! ### What is an int64 stays one -/
theorem fallB_ok {x y : Int} {B : Bd} (h : B.ok) : (fallB x y B).1.ok := by
  unfold fallB
  split
  · exact h
  · refine put_in (h.mom ?_ ?_)
    · unfold fallV ifV; split; exact (two_in (addR_in _ _) (addR_in _ _)).1; exact inF0
    · unfold fallV ifV; split; exact (two_in (addR_in _ _) (addR_in _ _)).2; exact inF0
theorem moveB_ok {B : Bd} (h : B.ok) : (moveB B).1.ok := by
  unfold moveB
  split
  · exact h
  · refine put_in (h.pos ?_ ?_)
    · unfold moveV ifV; split; exact (two_in (addR_in _ _) (addR_in _ _)).1; exact inF0
    · unfold moveV ifV; split; exact (two_in (addR_in _ _) (addR_in _ _)).2; exact inF0
theorem jointR_ok {A B : Bd} (hA : A.ok) (hB : B.ok) (n : Int) : (jointR A B n).1.1.ok ∧ (jointR A B n).1.2.ok := by
  unfold jointR
  refine ifP_in ?_
  unfold heldU
  refine ifP_in ?_
  split
  · exact ⟨hA, hB⟩
  refine ifP_in ?_
  split
  · exact ⟨hA, hB⟩
  exact ifP_in (ifP_in (ifP_in (ifP_in (ifP_in (applyR_in hA hB _ _)))))
theorem apartR_ok {A B : Bd} (hA : A.ok) (hB : B.ok) (x y c : Int) : (apartR A B x y c).1.1.ok ∧ (apartR A B x y c).1.2.ok :=
  ifP_in (ifP_in (ifP_in (ifP_in (ifP_in (ifP_in (ifP_in (ifP_in ⟨hA.pos (two_in (subR_in _ _) (subR_in _ _)).1 (two_in (subR_in _ _) (subR_in _ _)).2, hB.pos (two_in (addR_in _ _) (addR_in _ _)).1 (two_in (addR_in _ _) (addR_in _ _)).2⟩)))))))
theorem contactR_ok {A B : Bd} (hA : A.ok) (hB : B.ok) (h : Ht) : (contactR A B h).1.1.ok ∧ (contactR A B h).1.2.ok := by
  unfold contactR
  refine ifP_in ?_
  split
  · exact ⟨hA, hB⟩
  refine ifP_in ?_
  unfold thenR
  have := metR_in hA hB h.x h.y (vR A B h.x h.y).1 (kR A B).1
  exact ifP_in (ifP_in (apartR_ok this.1 this.2 _ _ _))

/-! ### What a list keeps -/
structure Keep (L C : List Bd) : Prop where
  len : C.length = L.length
  ok : ∀ x ∈ C, x.ok
  each : ∀ i, i < L.length → KeepB (bd L i) (bd C i)
theorem Keep.refl {L : List Bd} (h : ∀ x ∈ L, x.ok) : Keep L L := ⟨rfl, h, fun _ _ => KeepB.refl _⟩
theorem Keep.trans {L C D : List Bd} (h : Keep L C) (g : Keep C D) : Keep L D := ⟨g.len.trans h.len, g.ok, fun i hi => (h.each i hi).trans (g.each i (by rw [h.len]; exact hi))⟩
theorem Keep.bd {L C : List Bd} (h : Keep L C) {i : Nat} (hi : i < L.length) : (bd C i).ok := h.ok _ (bd_mem (by rw [h.len]; exact hi))
theorem bd_out {L : List Bd} {i : Nat} (h : ¬ i < L.length) : bd L i = noB := by simp [Go.Proofs.YtnkhknmpffcfbaaGreat.bd, List.getD, h]
theorem Keep.ok' {L C : List Bd} (h : Keep L C) (i : Nat) : (Go.Proofs.YtnkhknmpffcfbaaGreat.bd C i).ok := by
  by_cases hi : i < L.length
  · exact h.bd hi
  · rw [bd_out (by rw [h.len]; exact hi)]; exact noB_ok
theorem set_out {L : List Bd} {i : Nat} (h : ¬ i < L.length) (B : Bd) : L.set i B = L := List.set_eq_of_length_le (by omega)
theorem Keep.put {C : List Bd} (h : ∀ x ∈ C, x.ok) {i : Nat} {B : Bd} (hB : B.ok) (k : KeepB (Go.Proofs.YtnkhknmpffcfbaaGreat.bd C i) B) : Keep C (C.set i B) := by
  refine ⟨by simp, ok_set h hB i, fun j hj => ?_⟩
  by_cases e : i = j
  · subst e; rw [bd_set hj]; exact k
  · rw [bd_far e]; exact KeepB.refl _
theorem upE_keep {f : Nat → List Bd → List Bd × Int} {L : List Bd} {m k : Nat} {C : List Bd} (hf : ∀ j C, k ≤ j → j < k + m → Keep L C → (f j C).2 = 0 → Keep C (f j C).1) (h : Keep L C) (g : (upE f m k C).2 = 0) : Keep L (upE f m k C).1 :=
  upE_inv (I := Keep L) (fun j D h1 h2 hD he => hD.trans (hf j D h1 h2 hD he)) h g
theorem fallE_keep {x y : Int} {i : Nat} {C : List Bd} (h : ∀ x ∈ C, x.ok) (o : (bd C i).ok) (g : (fallE x y i C).2 = 0) : Keep C (fallE x y i C).1 := by
  unfold fallE at *
  obtain ⟨g1, g2⟩ := putE_inv g
  rw [g2]
  exact Keep.put h (fallB_ok o) (fallB_keep g1)
theorem moveE_keep {i : Nat} {C : List Bd} (h : ∀ x ∈ C, x.ok) (o : (bd C i).ok) (g : (moveE i C).2 = 0) : Keep C (moveE i C).1 := by
  unfold moveE at *
  obtain ⟨g1, g2⟩ := putE_inv g
  rw [g2]
  exact Keep.put h (moveB_ok o) (moveB_keep g1)
theorem pairE_keep {C : List Bd} {a b : Nat} {r : (Bd × Bd) × Int} (hab : a ≠ b) (h : ∀ x ∈ C, x.ok) (o : r.1.1.ok ∧ r.1.2.ok) (k : r.2 = 0 → KeepB (bd C a) r.1.1 ∧ KeepB (bd C b) r.1.2) (g : (pairE C a b r).2 = 0) : Keep C (pairE C a b r).1 := by
  obtain ⟨g1, g2⟩ := pairE_inv g
  rw [g2]
  refine (Keep.put h o.1 (k g1).1).trans (Keep.put (ok_set h o.1 a) o.2 ?_)
  rw [bd_far hab]
  exact (k g1).2
theorem falls_keep {x y : Int} {L : List Bd} (h : ∀ z ∈ L, z.ok) (g : (fallsE x y L).2 = 0) : Keep L (fallsE x y L).1 :=
  upE_keep (fun j _ _ _ hC he => fallE_keep hC.ok (hC.ok' j) he) (Keep.refl h) g
theorem moves_keep {L : List Bd} (h : ∀ z ∈ L, z.ok) (g : (movesE L).2 = 0) : Keep L (movesE L).1 :=
  upE_keep (fun j _ _ _ hC he => moveE_keep hC.ok (hC.ok' j) he) (Keep.refl h) g
theorem rightJ_ne {n : Nat} {j : Jt} (h : rightJ n j = true) : j.a.toNat ≠ j.b.toNat := by
  unfold rightJ at h
  rw [decide_eq_true_iff] at h
  omega
theorem pull_keep {J : List Jt} {L : List Bd} (hJ : J.all (rightJ L.length) = true) (h : ∀ z ∈ L, z.ok) (g : (pullE J L).2 = 0) : Keep L (pullE J L).1 :=
  upE_keep (fun j C _ hj hC he => by
    have hr := rightJ_ne (List.all_eq_true.1 hJ _ (jt_mem (i := j) (by omega)))
    exact pairE_keep hr hC.ok (jointR_ok (hC.ok' _) (hC.ok' _) _) (fun e => joint_keep e) he) (Keep.refl h) g
theorem round_keep {J : List Jt} {L : List Bd} (hJ : J.all (rightJ L.length) = true) (h : ∀ z ∈ L, z.ok) (g : (roundE J L).2 = 0) : Keep L (roundE J L).1 :=
  upE_keep (fun _ C _ _ hC he => pull_keep (by rw [hC.len]; exact hJ) hC.ok he) (Keep.refl h) g
theorem pr_mem {P : List (Nat × Nat)} {k : Nat} (h : k < P.length) : pr P k ∈ P := List.mem_of_getElem? (i := k) (by simp [pr, List.getD, h])
theorem hitE_keep {P : List (Nat × Nat)} {k : Nat} {C : List Bd} (hP : (pr P k).1 ≠ (pr P k).2) (h : ∀ z ∈ C, z.ok) (o : ∀ i, (bd C i).ok) (g : (hitE P k C).2 = 0) : Keep C (hitE P k C).1 := by
  unfold hitE at *
  split at g
  · rename_i h1
    rw [if_pos h1]
    split at g
    · rename_i h2
      rw [if_pos h2]
      exact pairE_keep hP h (contactR_ok (o _) (o _) _) (fun e => contact_keep (o _) (o _) e) g
    · rename_i h2
      rw [if_neg h2]; exact Keep.refl h
  · rename_i h1
    exact absurd g h1
theorem bounce_keep {L : List Bd} (h : ∀ z ∈ L, z.ok) (g : (bounceE L).2 = 0) : Keep L (bounceE L).1 := by
  unfold bounceE at *
  split at g
  · rename_i h1
    rw [if_pos h1]
    exact upE_keep (fun j C _ hj hC he => hitE_keep (by have := ((prs_mem _ _).1 (pr_mem (P := prs (boxE L).1) (k := j) (by omega))).1; omega) hC.ok hC.ok' he) (Keep.refl h) g
  · rename_i h1
    exact absurd g h1
theorem adv_keep {x y : Int} {J : List Jt} {L : List Bd} (hJ : J.all (rightJ L.length) = true) (h : ∀ z ∈ L, z.ok) (g : (advE x y J L).2 = 0) : Keep L (advE x y J L).1 := by
  unfold advE at *
  obtain ⟨h1, e1⟩ := thenE_inv g
  rw [e1] at g ⊢
  have k1 := falls_keep h h1
  obtain ⟨h2, e2⟩ := thenE_inv g
  rw [e2] at g ⊢
  have k2 := k1.trans (round_keep (by rw [k1.len]; exact hJ) k1.ok h2)
  obtain ⟨h3, e3⟩ := thenE_inv g
  rw [e3] at g ⊢
  have k3 := k2.trans (bounce_keep k2.ok h3)
  exact k3.trans (moves_keep k3.ok g)
/-- What a step that goes through is made of. -/
theorem step_inv {x y : Int} {J : List Jt} {L : List Bd} (g : (stepE x y J L).2 = 0) : rightW x y L J = true ∧ (advE x y J L).2 = 0 ∧ stepE x y J L = ((advE x y J L).1, 0) ∧ (advE x y J L).1.all rightB = true := by
  unfold stepE at *
  split at g
  · rename_i h
    rw [if_pos h]
    obtain ⟨h1, e1⟩ := thenE_inv g
    rw [e1] at g ⊢
    unfold endE at *
    split at g
    · rename_i h2
      rw [if_pos h2]
      exact ⟨h, h1, rfl, h2⟩
    · exact absurd g (by decide)
  · exact absurd g (by decide)
theorem rightW_iff {x y : Int} {L : List Bd} {J : List Jt} : rightW x y L J = true ↔ L.all rightB = true ∧ J.all (rightJ L.length) = true ∧ rightG x = true ∧ rightG y = true := by
  unfold rightW
  rw [Bool.and_eq_true, Bool.and_eq_true, Bool.and_eq_true, and_assoc]
theorem step_keep {x y : Int} {J : List Jt} {L : List Bd} (h : ∀ z ∈ L, z.ok) (g : (stepE x y J L).2 = 0) : Keep L (stepE x y J L).1 := by
  obtain ⟨h1, h2, h3, _⟩ := step_inv g
  rw [h3]
  exact adv_keep (rightW_iff.1 h1).2.1 h h2
theorem step_right {x y : Int} {J : List Jt} {L : List Bd} (h : ∀ z ∈ L, z.ok) (g : (stepE x y J L).2 = 0) : rightW x y (stepE x y J L).1 J = true := by
  have hk := step_keep h g
  obtain ⟨h1, h2, h3, h4⟩ := step_inv g
  obtain ⟨_, r2, r3, r4⟩ := rightW_iff.1 h1
  exact rightW_iff.2 ⟨by rw [h3]; exact h4, by rw [hk.len]; exact r2, r3, r4⟩
end Go.Proofs.YtnkhknmpffcfbaaGreat
