/-
  Plain numbers, no program in sight: the document's own answers (with an error that stands) are the plain functions' (that stop at the first error). Nothing is claimed here.
-/
import Derived.Test.YtcancbgaejekiaaJRef4
import Derived.Test.YtcancbgaejekiaaJLaw
namespace Go.Proofs.Ytcancbgaejekiaa
open Go.RowKit

/-- The same error; where there is none the same answer. -/
def SameP (K R : (Bd × Bd) × Int) : Prop := K.2 = R.2 ∧ (R.2 = 0 → K.1 = R.1)
theorem SameP.no {K R : (Bd × Bd) × Int} {e : Int} (h : ¬ e = 0) (h1 : K.2 = e) (h2 : R.2 = e) : SameP K R := ⟨h1.trans h2.symm, fun g => absurd (h2.symm.trans g) h⟩
theorem SameP.of {K R : (Bd × Bd) × Int} (h : K = R) : SameP K R := by rw [h]; exact ⟨rfl, fun _ => rfl⟩

theorem light0 (A : Bd) : lightK 0 A = lightR A := rfl
theorem lightE {k : Int} (h : ¬ k = 0) (A : Bd) : (lightK k A).2 = k := by unfold lightK; split; rfl; rw [ifK_no h]
theorem add0 {v : Int} {p : Int × Int} (h : p.2 = 0) : addT v p = addR v p.1 := by unfold addT; rw [h]; rfl
theorem addE {v : Int} {p : Int × Int} (h : ¬ p.2 = 0) : addT v p = (0, p.2) := ifK_no h _
theorem sub0 {p : Int × Int} (h : p.2 = 0) : subT p = subR 0 p.1 := by unfold subT; rw [h]; rfl
theorem subE {p : Int × Int} (h : ¬ p.2 = 0) : subT p = (0, p.2) := ifK_no h _
theorem div0 {k : Int} {p : Int × Int} (h : p.2 = 0) : divT k p = divR p.1 k := by unfold divT; rw [h]; rfl
theorem divE {k : Int} {p : Int × Int} (h : ¬ p.2 = 0) : divT k p = (0, p.2) := ifK_no h _
theorem part0 (v : Int) : partT 0 v = (v.tdiv 2, 0) := by
  unfold partT partR
  rw [ifK_ok, if_neg (by decide), if_neg (by omega)]
theorem partE {e : Int} (h : ¬ e = 0) (v : Int) : partT e v = (0, e) := ifK_no h _
theorem mul0 (m l : Int) : mulT 0 m l = mulR m l := rfl
theorem mulE {e : Int} (h : ¬ e = 0) (m l : Int) : mulT e m l = (0, e) := ifK_no h _
theorem scaleE {x y : Int} {t : Int × Int} (h : ¬ t.2 = 0) : scaleT x y t = (0, 0, t.2) := pairK_no h _ _
theorem scale_err {x y : Int} {t : Int × Int} (h : t.2 = 0) : (scaleT x y t).2.2 = (scaleV x y t.1).2.2 := by unfold scaleT; rw [h]; exact pairK_err _ _
theorem scale_val {x y : Int} {t : Int × Int} (h : t.2 = 0) (g : (scaleV x y t.1).2.2 = 0) : scaleT x y t = scaleV x y t.1 := by unfold scaleT; rw [h]; exact pairK_val g
theorem k_ref (A B : Bd) : addT (lightK 0 A).1 (lightK (lightK 0 A).2 B) = kR A B := by
  rw [light0]
  unfold kR
  by_cases h : (lightR A).2 = 0
  · rw [behind_ok h, h, light0]
    by_cases g : (lightR B).2 = 0
    · rw [behind_ok g, add0 g]
    · rw [behind_no g, addE g]
  · rw [behind_no h, addE (by rw [lightE h]; exact h), lightE h]
theorem dot0 (x y u v : Int) : dotK 0 x y u v = dotV x y u v := by
  unfold dotK dotV
  rw [ifK_ok]
  by_cases h : (mulR x u).2 = 0
  · rw [if_pos h, h, ifK_ok]
    by_cases g : (mulR y v).2 = 0
    · rw [if_pos g, g, ifK_ok]
    · rw [if_neg g, ifK_no g]
  · rw [if_neg h, ifK_no h]
    simp only
    rw [ifK_no h]
theorem dotE {k : Int} (h : ¬ k = 0) (x y u v : Int) : dotK k x y u v = (0, k) := by
  unfold dotK
  rw [ifK_no h]
  simp only
  rw [ifK_no h]
  simp only
  rw [ifK_no h]
theorem speed_err (B : Bd) : (speedK 0 B).2.2 = (speedR B).2.2 := by
  unfold speedK speedR
  split
  · rfl
  · exact pairK_err _ _
theorem speed_val {B : Bd} (h : (speedR B).2.2 = 0) : speedK 0 B = speedR B := by
  unfold speedK speedR at *
  split
  · rfl
  · rename_i g
    rw [if_neg g] at h
    exact pairK_val h
theorem speedE {k : Int} (h : ¬ k = 0) (B : Bd) : (speedK k B).2.2 = k := by
  unfold speedK
  split
  · rfl
  · rw [pairK_no h]
theorem gapE {r s : Int × Int × Int} (h : ¬ s.2.2 = 0) : gapT r s = (0, 0, s.2.2) := pairK_no h _ _
theorem v_ref (A B : Bd) (x y : Int) : vK 0 A B x y = vR A B x y := by
  unfold vK vR dotT
  by_cases h : (speedR B).2.2 = 0
  · rw [ifN_ok h, speed_val h, h]
    by_cases g : (speedR A).2.2 = 0
    · rw [ifN_ok g, speed_val g]
      unfold gapT
      rw [g]
      by_cases k : (two (subR (speedR B).1 (speedR A).1) (subR (speedR B).2.1 (speedR A).2.1)).2.2 = 0
      · rw [ifN_ok k, pairK_val k, k]; exact dot0 _ _ _ _
      · rw [ifN_no k, pairK_err, dotE k]
    · rw [ifN_no g, gapE (by rw [speed_err]; exact g)]
      simp only
      rw [speed_err, dotE g]
  · have e : (speedK (speedK 0 B).2.2 A).2.2 = (speedR B).2.2 := by rw [speed_err]; exact speedE h A
    rw [ifN_no h, gapE (by rw [e]; exact h)]
    simp only
    rw [e, dotE h]
theorem v_zero {A B : Bd} {x y : Int} (h : ¬ (vR A B x y).2 = 0) : (vR A B x y).1 = 0 := by
  have hd : ∀ a b c d, ¬ (dotV a b c d).2 = 0 → (dotV a b c d).1 = 0 := fun a b c d h => by
    unfold dotV at *
    split
    · rename_i g
      rw [if_pos g] at h
      split
      · rename_i g2
        rw [if_pos g2] at h
        unfold addR at *
        rcases inR_cases ((mulR a c).1 + (mulR b d).1) with ⟨e, _⟩ | ⟨e, _⟩
        · rw [e] at h; exact absurd rfl h
        · rw [e]
      · rfl
    · rfl
  have hi : ∀ (k : Int) (t : Int × Int), (¬ t.2 = 0 → t.1 = 0) → ¬ (ifN k t).2 = 0 → (ifN k t).1 = 0 := fun k t ht h => by
    unfold ifN at *
    split
    · rename_i g; rw [if_pos g] at h; exact ht h
    · rfl
  exact hi _ _ (hi _ _ (hi _ _ (hd _ _ _ _))) h

theorem less_err (A : Bd) (x y : Int) : (lessK 0 A x y).2 = (lessM A x y).2 := by
  unfold lessK lessM
  split
  · rfl
  · unfold put lessV
    rw [pairK_err]
    split
    · rename_i g; exact g
    · rfl
theorem less_val {A : Bd} {x y : Int} (h : (lessM A x y).2 = 0) : (lessK 0 A x y).1 = (lessM A x y).1 := by
  unfold lessK lessM at *
  split
  · rfl
  · rename_i g
    rw [if_neg g] at h
    obtain ⟨h1, h2⟩ := put_inv h
    rw [h2]
    unfold lessV at *
    rw [pairK_val h1]
theorem plus_err (A : Bd) (x y : Int) : (plusK 0 A x y).2 = (plusM A x y).2 := by
  unfold plusK plusM
  split
  · rfl
  · unfold put plusV
    rw [pairK_err]
    split
    · rename_i g; exact g
    · rfl
theorem plus_val {A : Bd} {x y : Int} (h : (plusM A x y).2 = 0) : (plusK 0 A x y).1 = (plusM A x y).1 := by
  unfold plusK plusM at *
  split
  · rfl
  · rename_i g
    rw [if_neg g] at h
    obtain ⟨h1, h2⟩ := put_inv h
    rw [h2]
    unfold plusV at *
    rw [pairK_val h1]
theorem lessE {k : Int} (h : ¬ k = 0) (A : Bd) (x y : Int) : (lessK k A x y).2 = k := by unfold lessK; split; rfl; rw [pairK_no h]
theorem plusE {k : Int} (h : ¬ k = 0) (A : Bd) (x y : Int) : (plusK k A x y).2 = k := by unfold plusK; split; rfl; rw [pairK_no h]
theorem applyE {k : Int} (h : ¬ k = 0) (A B : Bd) (x y : Int) : (applyK k A B x y).2 = k := by unfold applyK; simp only; rw [lessE h, plusE h]
theorem apply_ref (A B : Bd) (x y : Int) : SameP (applyK 0 A B x y) (applyR A B x y) := by
  by_cases h : (lessM A x y).2 = 0
  · by_cases g : (plusM B x y).2 = 0
    · have e : applyR A B x y = (((lessM A x y).1, (plusM B x y).1), 0) := by unfold applyR; rw [ifP_ok h, ifP_ok g]
      rw [e]
      unfold applyK
      refine ⟨?_, fun _ => ?_⟩
      · simp only; rw [less_err, h, plus_err, g]
      · simp only; rw [less_err, h, less_val h, plus_val g]
    · refine SameP.no g ?_ ?_
      · unfold applyK; simp only; rw [less_err, h, plus_err]
      · unfold applyR; rw [ifP_ok h, ifP_no g]
  · refine SameP.no h ?_ ?_
    · unfold applyK; simp only; rw [less_err, plusE h]
    · unfold applyR; rw [ifP_no h]
theorem appE {A B : Bd} {s : Int × Int × Int} (h : ¬ s.2.2 = 0) : (appT A B s).2 = s.2.2 := applyE h A B _ _
theorem app0 {A B : Bd} {x y : Int} {t : Int × Int} (h : t.2 = 0) : SameP (appT A B (scaleT x y t)) (ifP (scaleV x y t.1).2.2 (applyR A B (scaleV x y t.1).1 (scaleV x y t.1).2.1)) := by
  by_cases g : (scaleV x y t.1).2.2 = 0
  · rw [ifP_ok g, scale_val h g]
    unfold appT
    rw [g]
    exact apply_ref _ _ _ _
  · rw [ifP_no g]
    exact SameP.no g (by rw [appE (by rw [scale_err h]; exact g), scale_err h]) rfl
theorem app_bad {A B : Bd} {x y : Int} {t : Int × Int} (h : ¬ t.2 = 0) : (appT A B (scaleT x y t)).2 = t.2 := by rw [appE (by rw [scaleE h]; exact h), scaleE h]
theorem met_ref (A B : Bd) (x y v k : Int) : SameP (metK A B x y (v, 0) k) (metR A B x y v k) := by
  unfold metK metR
  simp only
  by_cases hv : v < 0
  · rw [if_pos hv, if_pos hv, part0, add0 rfl]
    show SameP (appT A B (scaleT x y (divT k (subT (halfR v))))) (pushR A B x y v k)
    unfold pushR
    by_cases h1 : (halfR v).2 = 0
    · rw [ifP_ok h1, sub0 h1]
      show SameP (appT A B (scaleT x y (divT k (turnR v)))) _
      by_cases h2 : (turnR v).2 = 0
      · rw [ifP_ok h2, div0 h2]
        show SameP (appT A B (scaleT x y (jR v k))) _
        by_cases h3 : (jR v k).2 = 0
        · rw [ifP_ok h3]; exact app0 h3
        · rw [ifP_no h3]; exact SameP.no h3 (app_bad h3) rfl
      · rw [ifP_no h2]
        exact SameP.no h2 (by rw [divE h2]; exact app_bad (t := (0, (turnR v).2)) h2) rfl
    · rw [ifP_no h1]
      exact SameP.no h1 (by rw [subE h1, divE (p := (0, (halfR v).2)) h1]; exact app_bad (t := (0, (halfR v).2)) h1) rfl
  · rw [if_neg hv, if_neg hv]; exact ⟨rfl, fun _ => rfl⟩
theorem mul_err {e : Int} (h : ¬ e = 0) (m l x y : Int) : scaleT x y (mulT e m l) = (0, 0, e) := by rw [mulE h, scaleE (t := (0, e)) h]
theorem lessTE {A : Bd} {s : Int × Int × Int} (h : ¬ s.2.2 = 0) : lessT A s = (0, 0, s.2.2) := pairK_no h _ _
theorem plusTE {A : Bd} {s : Int × Int × Int} (h : ¬ s.2.2 = 0) : plusT A s = (0, 0, s.2.2) := pairK_no h _ _
theorem forthE {e : Int} (h : ¬ e = 0) (M : (Bd × Bd) × Int) (m l x y : Int) : (forthK e M m l x y).2.2 = e := by unfold forthK; rw [mul_err h, plusTE (s := (0, 0, e)) h]
theorem apartE {M : (Bd × Bd) × Int} {m : Int × Int} (h : ¬ m.2 = 0) (l n x y : Int) : (apartK M m l n x y).2 = m.2 := by
  have e : (backK M m l x y).2.2 = m.2 := by unfold backK; rw [mul_err h, lessTE (s := (0, 0, m.2)) h]
  unfold apartK posK
  simp only
  rw [e, forthE h]
theorem light_of {A A1 : Bd} (h : A1.m = A.m) : lightR A1 = lightR A := by unfold lightR; rw [h]
theorem apart_ref {A1 B1 : Bd} {e l n x y c : Int} (ha : lightR A1 = (l, 0)) (hb : lightR B1 = (n, 0)) : SameP (apartK ((A1, B1), e) (c, 0) l n x y) (apartR A1 B1 x y c) := by
  have oa : mulT 0 c l = offR A1 c := by unfold offR; rw [ha]; rfl
  have ob : mulT 0 c n = offR B1 c := by unfold offR; rw [hb]; rfl
  have ra : (lightR A1).2 = 0 := by rw [ha]
  have rb : (lightR B1).2 = 0 := by rw [hb]
  unfold apartR
  rw [ifP_ok ra]
  unfold apartK posK backK forthK
  simp only
  rw [oa]
  by_cases h1 : (offR A1 c).2 = 0
  rotate_left
  · rw [ifP_no h1]
    refine SameP.no h1 ?_ rfl
    simp only
    rw [scaleE h1, lessTE (s := (0, 0, (offR A1 c).2)) h1]
    simp only
    rw [mul_err h1, plusTE (s := (0, 0, (offR A1 c).2)) h1]
  rw [ifP_ok h1]
  by_cases h2 : (offV A1 x y c).2.2 = 0
  rotate_left
  · have e2 : (scaleT x y (offR A1 c)).2.2 = (offV A1 x y c).2.2 := scale_err h1
    rw [ifP_no h2]
    refine SameP.no h2 ?_ rfl
    simp only
    rw [lessTE (by rw [e2]; exact h2)]
    simp only
    rw [e2, mul_err h2, plusTE (s := (0, 0, (offV A1 x y c).2.2)) h2]
  have e2 : scaleT x y (offR A1 c) = offV A1 x y c := scale_val h1 h2
  rw [ifP_ok h2, e2]
  have e3 : (lessT A1 (offV A1 x y c)).2.2 = (backV A1 x y c).2.2 := by unfold lessT; rw [h2]; exact pairK_err _ _
  by_cases h3 : (backV A1 x y c).2.2 = 0
  rotate_left
  · rw [ifP_no h3]
    refine SameP.no h3 ?_ rfl
    simp only
    rw [e3, mul_err h3, plusTE (s := (0, 0, (backV A1 x y c).2.2)) h3]
  have e4 : lessT A1 (offV A1 x y c) = backV A1 x y c := by unfold lessT; rw [h2]; exact pairK_val h3
  rw [ifP_ok h3, e4, h3, ob, ifP_ok rb]
  by_cases h4 : (offR B1 c).2 = 0
  rotate_left
  · rw [ifP_no h4]
    refine SameP.no h4 ?_ rfl
    simp only
    rw [scaleE h4, plusTE (s := (0, 0, (offR B1 c).2)) h4]
  rw [ifP_ok h4]
  by_cases h5 : (offV B1 x y c).2.2 = 0
  rotate_left
  · have e5 : (scaleT x y (offR B1 c)).2.2 = (offV B1 x y c).2.2 := scale_err h4
    rw [ifP_no h5]
    refine SameP.no h5 ?_ rfl
    simp only
    rw [plusTE (by rw [e5]; exact h5), e5]
  have e5 : scaleT x y (offR B1 c) = offV B1 x y c := scale_val h4 h5
  rw [ifP_ok h5, e5]
  have e6 : (plusT B1 (offV B1 x y c)).2.2 = (forthV B1 x y c).2.2 := by unfold plusT; rw [h5]; exact pairK_err _ _
  by_cases h6 : (forthV B1 x y c).2.2 = 0
  rotate_left
  · rw [ifP_no h6]
    exact SameP.no h6 e6 rfl
  have e7 : plusT B1 (offV B1 x y c) = forthV B1 x y c := by unfold plusT; rw [h5]; exact pairK_val h6
  rw [ifP_ok h6, e7]
  exact ⟨h6, fun _ => rfl⟩
theorem met_mass {A B : Bd} {x y v k : Int} {M : Bd × Bd} (h : metR A B x y v k = (M, 0)) : M.1.m = A.m ∧ M.2.m = B.m := by
  have km : ∀ A x y, (lessM A x y).2 = 0 → (lessM A x y).1.m = A.m := fun A x y h => by
    by_cases e : A.m = 0
    · rw [lessM_none e]
    · rw [lessM_val e h]; rfl
  have kp : ∀ A x y, (plusM A x y).2 = 0 → (plusM A x y).1.m = A.m := fun A x y h => by
    by_cases e : A.m = 0
    · rw [plusM_none e]
    · rw [plusM_val e h]; rfl
  rcases met_inv (show (metR A B x y v k).2 = 0 by rw [h]) with e | ⟨j, e, _⟩
  · rw [h] at e
    obtain rfl : M = (A, B) := congrArg Prod.fst e
    exact ⟨rfl, rfl⟩
  · obtain ⟨h1, h2, h3⟩ := apply_inv (A := A) (B := B) (x := (scaleV x y j).1) (y := (scaleV x y j).2.1) (by rw [← e, h])
    rw [← e, h] at h3
    rw [show M = _ from h3]
    exact ⟨km _ _ _ h1, kp _ _ _ h2⟩
theorem k_zero {A B : Bd} (hk : ¬ (kR A B).2 = 0) : (kR A B).1 = 0 := by
  unfold kR at *
  by_cases g : (lightR A).2 = 0
  · rw [behind_ok g] at *
    by_cases g2 : (lightR B).2 = 0
    · rw [behind_ok g2] at *
      unfold addR at *
      rcases inR_cases ((lightR A).1 + (lightR B).1) with ⟨e, _⟩ | ⟨e, _⟩
      · rw [e] at hk; exact absurd rfl hk
      · rw [e]
    · rw [behind_no g2]
  · rw [behind_no g]
theorem contact_ref (A B : Bd) (h : Ht) : SameP (contactK A B h) (contactR A B h) := by
  unfold contactK
  rw [k_ref]
  unfold contactR
  by_cases hk : (kR A B).2 = 0
  rotate_left
  · rw [ifP_no hk]
    have kz := k_zero hk
    rw [if_pos kz]
    exact SameP.no hk rfl rfl
  rw [ifP_ok hk]
  by_cases hz : (kR A B).1 = 0
  · rw [if_pos hz, if_pos hz]; exact ⟨hk, fun _ => rfl⟩
  rw [if_neg hz, if_neg hz, hk, v_ref]
  have hl : (lightR A).2 = 0 ∧ (lightR B).2 = 0 := by
    unfold kR at hk
    by_cases g : (lightR A).2 = 0
    · rw [behind_ok g] at hk
      by_cases g2 : (lightR B).2 = 0
      · exact ⟨g, g2⟩
      · rw [behind_no g2] at hk; exact absurd hk g2
    · rw [behind_no g] at hk; exact absurd hk g
  rw [light0, hl.1, light0]
  generalize kR A B = k at *
  by_cases hv : (vR A B h.x h.y).2 = 0
  rotate_left
  · have vz := v_zero hv
    rw [ifP_no hv]
    have e : metK A B h.x h.y (vR A B h.x h.y) k.1 = ((A, B), (vR A B h.x h.y).2) := by unfold metK; rw [if_neg (by omega)]
    rw [e]
    refine SameP.no hv ?_ rfl
    rw [partE hv, divE (p := (0, (vR A B h.x h.y).2)) hv]
    exact apartE (m := (0, (vR A B h.x h.y).2)) hv _ _ _ _
  rw [ifP_ok hv]
  obtain ⟨v, hv'⟩ : ∃ v, vR A B h.x h.y = (v, 0) := ⟨_, Prod.ext rfl hv⟩
  rw [hv']
  simp only
  obtain ⟨m1, m2⟩ := met_ref A B h.x h.y v k.1
  have mm := fun M => @met_mass A B h.x h.y v k.1 M
  generalize metK A B h.x h.y (v, 0) k.1 = MK at *
  generalize metR A B h.x h.y v k.1 = MR at *
  unfold thenR
  by_cases hm : MR.2 = 0
  rotate_left
  · rw [ifP_no hm]
    refine SameP.no hm ?_ rfl
    rw [m1, partE hm, divE (p := (0, MR.2)) hm]
    exact apartE (m := (0, MR.2)) hm _ _ _ _
  rw [ifP_ok hm, m1, hm, part0, div0 rfl]
  show SameP (apartK MK (cR h.d k.1) _ _ _ _) _
  by_cases hc : (cR h.d k.1).2 = 0
  rotate_left
  · rw [ifP_no hc]
    exact SameP.no hc (apartE hc _ _ _ _) rfl
  rw [ifP_ok hc]
  obtain ⟨c, hc'⟩ : ∃ c, cR h.d k.1 = (c, 0) := ⟨_, Prod.ext rfl hc⟩
  rw [hc']
  obtain ⟨q1, q2⟩ := mm MR.1 (Prod.ext rfl hm)
  have e : MK = ((MR.1.1, MR.1.2), MK.2) := Prod.ext (m2 hm) rfl
  rw [e]
  exact apart_ref (by rw [light_of q1]; exact Prod.ext rfl hl.1) (by rw [light_of q2]; exact Prod.ext rfl hl.2)
theorem unit_ref {x y : Int} (h : (unitR x y).2.2 = 0) : unitK 0 x y = unitR x y := by
  unfold unitK overT
  rw [ifK_ok]
  by_cases hl : (lenR x y).2 = 0
  rotate_left
  · unfold unitR at h; rw [if_neg hl] at h; exact absurd h hl
  by_cases hz : (lenR x y).1 = 0
  · rw [if_pos hz, unitR_zero hl hz, hl]
  · rw [if_neg hz, hl]
    have i : (two (divR x (lenR x y).1) (divR y (lenR x y).1)).2.2 = 0 := by
      unfold unitR at h
      rw [if_pos hl, if_neg hz] at h
      by_cases g : (two (divR x (lenR x y).1) (divR y (lenR x y).1)).2.2 = 0
      · exact g
      · rw [if_neg g] at h; exact absurd h g
    obtain ⟨_, _, e3, e4⟩ := two_vals i
    rw [unitR_ok hl hz i, pairK_val i, e3, e4, i]
theorem unit_err {x y : Int} (h : ¬ (unitR x y).2.2 = 0) : (unitK 0 x y).2.2 = (unitR x y).2.2 := by
  unfold unitK overT
  rw [ifK_ok]
  by_cases hl : (lenR x y).2 = 0
  rotate_left
  · rw [if_pos (len_zero hl)]
    unfold unitR; rw [if_neg hl]
  by_cases hz : (lenR x y).1 = 0
  · rw [unitR_zero hl hz] at h; exact absurd rfl h
  · rw [if_neg hz, hl]
    unfold unitR at *
    rw [if_pos hl, if_neg hz] at *
    by_cases g : (two (divR x (lenR x y).1) (divR y (lenR x y).1)).2.2 = 0
    · rw [if_pos g] at h; exact absurd rfl h
    · rw [if_neg g]; exact pairK_err _ _
theorem held_bad {A B : Bd} {u : (Int × Int) × Int × Int} (h : ¬ u.2.2 = 0) (n : Int) : (heldK A B u n).2 = u.2.2 := by
  unfold heldK
  by_cases hl : u.2.1 = 0
  · rw [if_pos hl]
  · have e : addT (lightK u.2.2 A).1 (lightK (lightK u.2.2 A).2 B) = (0, u.2.2) := by
      rw [addE (by rw [lightE h, lightE h]; exact h), lightE h, lightE h]
    rw [if_neg hl, e, if_pos rfl]
theorem pull_ref (v l n : Int) : pullT (v, 0) l n = pullR v l n := by
  unfold pullT pullR
  rw [ifK_ok]
  by_cases h : (subR l n).2 = 0
  · rw [ifN_ok h, h, mul0]
    by_cases g : (mulR (subR l n).1 34359738368).2 = 0
    · rw [ifN_ok g, add0 g]
    · rw [ifN_no g, addE g]
  · rw [ifN_no h, mulE h, addE (p := (0, (subR l n).2)) h]
theorem hold_bad {A B : Bd} {u : (Int × Int) × Int × Int} {n : Int} {k v : Int × Int} (h : ¬ (pullT v u.2.1 n).2 = 0) : (holdK A B u n k v).2 = (pullT v u.2.1 n).2 := by
  unfold holdK
  rw [subE h, divE (p := (0, (pullT v u.2.1 n).2)) h]
  exact app_bad (t := (0, (pullT v u.2.1 n).2)) h
theorem hold_ref {A B : Bd} {u : (Int × Int) × Int × Int} {n : Int} {k v : Int × Int} (h : (pullT v u.2.1 n).2 = 0) : SameP (holdK A B u n k v) (heldR A B u.1.1 u.1.2 (pullT v u.2.1 n).1 k.1) := by
  unfold holdK heldR
  generalize pullT v u.2.1 n = t at *
  rw [sub0 h]
  by_cases h1 : (subR 0 t.1).2 = 0
  · rw [ifP_ok h1, div0 h1]
    by_cases h2 : (divR (subR 0 t.1).1 k.1).2 = 0
    · rw [ifP_ok h2]; exact app0 h2
    · rw [ifP_no h2]; exact SameP.no h2 (app_bad h2) rfl
  · rw [ifP_no h1]
    exact SameP.no h1 (by rw [divE h1]; exact app_bad (t := (0, (subR 0 t.1).2)) h1) rfl
theorem joint_ref (A B : Bd) (n : Int) : SameP (jointK A B n) (jointR A B n) := by
  unfold jointK jointR
  by_cases h1 : (wayV A B).2.2 = 0
  rotate_left
  · have e : (wayK A B).2.2 = (wayV A B).2.2 := pairK_err _ _
    rw [ifP_no h1]
    have e2 : ∀ x y, unitK (wayV A B).2.2 x y = ((0, 0), 0, (wayV A B).2.2) := fun x y => by
      unfold unitK overT
      rw [ifK_no h1, if_pos rfl]
    rw [e, e2]
    exact SameP.no h1 rfl rfl
  have e : wayK A B = wayV A B := pairK_val h1
  rw [ifP_ok h1, e, h1]
  unfold heldU
  by_cases h2 : (unitR (wayV A B).1 (wayV A B).2.1).2.2 = 0
  rotate_left
  · rw [ifP_no h2]
    have e2 := unit_err h2
    exact SameP.no h2 (by rw [held_bad (by rw [e2]; exact h2), e2]) rfl
  rw [ifP_ok h2, unit_ref h2]
  generalize unitR (wayV A B).1 (wayV A B).2.1 = u at *
  unfold heldK
  by_cases hl : u.2.1 = 0
  · rw [if_pos hl, if_pos hl]; exact ⟨h2, fun _ => rfl⟩
  rw [if_neg hl, if_neg hl, h2, k_ref]
  by_cases hk : (kR A B).2 = 0
  rotate_left
  · rw [ifP_no hk, if_pos (k_zero hk)]; exact SameP.no hk rfl rfl
  rw [ifP_ok hk]
  by_cases hz : (kR A B).1 = 0
  · rw [if_pos hz, if_pos hz]; exact ⟨hk, fun _ => rfl⟩
  rw [if_neg hz, if_neg hz, hk, v_ref]
  generalize kR A B = k at *
  by_cases hv : (vR A B u.1.1 u.1.2).2 = 0
  rotate_left
  · rw [ifP_no hv]
    have e3 : pullT (vR A B u.1.1 u.1.2) u.2.1 n = (0, (vR A B u.1.1 u.1.2).2) := by
      unfold pullT
      rw [ifK_no hv, mulE hv, addE (p := (0, (vR A B u.1.1 u.1.2).2)) hv]
    exact SameP.no hv (by rw [hold_bad (by rw [e3]; exact hv), e3]) rfl
  rw [ifP_ok hv]
  obtain ⟨v, hv'⟩ : ∃ v, vR A B u.1.1 u.1.2 = (v, 0) := ⟨_, Prod.ext rfl hv⟩
  rw [hv']
  simp only
  have e4 := pull_ref v u.2.1 n
  by_cases ht : (pullR v u.2.1 n).2 = 0
  · rw [ifP_ok ht, ← e4]
    exact hold_ref (by rw [e4]; exact ht)
  · rw [ifP_no ht]
    exact SameP.no ht (by rw [hold_bad (by rw [e4]; exact ht), e4]) rfl
end Go.Proofs.Ytcancbgaejekiaa
