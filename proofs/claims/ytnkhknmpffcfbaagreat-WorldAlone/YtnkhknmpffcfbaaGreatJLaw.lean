/-
  Plain numbers, no program in sight: what chapter 11's calls keep. Nothing is claimed here.
-/
import Derived.Test.YtnkhknmpffcfbaaGreatJNum
namespace Go.Proofs.YtnkhknmpffcfbaaGreat
open Go Go.RowKit

theorem ifP_inv {k : Int} {r : (Bd × Bd) × Int} (h : (ifP k r).2 = 0) : k = 0 ∧ ifP k r = r := by
  by_cases e : k = 0
  · exact ⟨e, ifP_ok e r⟩
  · rw [ifP_no e] at h; exact absurd h e
theorem inR_val {x : Int} (h : (inR x).2 = 0) : (inR x).1 = x := by
  rcases inR_cases x with ⟨e, _⟩ | ⟨e, _⟩
  · rw [e]
  · rw [e] at h; cases h
theorem addR_val {a b : Int} (h : (addR a b).2 = 0) : (addR a b).1 = a + b := inR_val h
theorem subR_val {a b : Int} (h : (subR a b).2 = 0) : (subR a b).1 = a - b := inR_val h
theorem two_vals {r s : Int × Int} (h : (two r s).2.2 = 0) : r.2 = 0 ∧ s.2 = 0 ∧ (two r s).1 = r.1 ∧ (two r s).2.1 = s.1 := by
  obtain ⟨h1, h2⟩ := two_fst h
  rw [two_ok h1 h2]
  exact ⟨h1, h2, rfl, rfl⟩
theorem put_inv {t : Int × Int × Int} {f : Int → Int → Bd} (h : (put t f).2 = 0) : t.2.2 = 0 ∧ (put t f).1 = f t.1 t.2.1 := by
  by_cases e : t.2.2 = 0
  · rw [put_ok e]; exact ⟨e, rfl⟩
  · rw [put_no e] at h; exact absurd h e
theorem lessM_val {A : Bd} {x y : Int} (hm : ¬ A.m = 0) (h : (lessM A x y).2 = 0) : (lessM A x y).1 = A.mom (A.u - x) (A.v - y) := by
  unfold lessM at *
  rw [if_neg hm] at *
  obtain ⟨h1, h2⟩ := put_inv h
  unfold lessV at *
  obtain ⟨e1, e2, e3, e4⟩ := two_vals h1
  rw [h2, e3, e4, subR_val e1, subR_val e2]
theorem plusM_val {A : Bd} {x y : Int} (hm : ¬ A.m = 0) (h : (plusM A x y).2 = 0) : (plusM A x y).1 = A.mom (A.u + x) (A.v + y) := by
  unfold plusM at *
  rw [if_neg hm] at *
  obtain ⟨h1, h2⟩ := put_inv h
  unfold plusV at *
  obtain ⟨e1, e2, e3, e4⟩ := two_vals h1
  rw [h2, e3, e4, addR_val e1, addR_val e2]
theorem lessM_none {A : Bd} {x y : Int} (hm : A.m = 0) : lessM A x y = (A, 0) := if_pos hm
theorem plusM_none {A : Bd} {x y : Int} (hm : A.m = 0) : plusM A x y = (A, 0) := if_pos hm
theorem apply_inv {A B : Bd} {x y : Int} (h : (applyR A B x y).2 = 0) : (lessM A x y).2 = 0 ∧ (plusM B x y).2 = 0 ∧ (applyR A B x y).1 = ((lessM A x y).1, (plusM B x y).1) := by
  unfold applyR at *
  obtain ⟨h1, e1⟩ := ifP_inv h
  rw [e1] at h ⊢
  obtain ⟨h2, e2⟩ := ifP_inv h
  rw [e2]
  exact ⟨h1, h2, rfl⟩

/-- Two bodies that keep shape, size, mass, and the sum of what moves them. -/
structure Keeps (A B A' B' : Bd) : Prop where
  u : A'.u + B'.u = A.u + B.u
  v : A'.v + B'.v = A.v + B.v
  am : A'.m = A.m
  bm : B'.m = B.m
  sa : A'.s = A.s
  sb : B'.s = B.s
  aa : A'.a = A.a
  ab : A'.b = A.b
  ba : B'.a = B.a
  bb : B'.b = B.b
theorem Keeps.refl (A B : Bd) : Keeps A B A B := ⟨rfl, rfl, rfl, rfl, rfl, rfl, rfl, rfl, rfl, rfl⟩
theorem Keeps.pos {A B A' B' : Bd} (h : Keeps A B A' B') (p q r s : Int) : Keeps A B (A'.pos p q) (B'.pos r s) := ⟨h.u, h.v, h.am, h.bm, h.sa, h.sb, h.aa, h.ab, h.ba, h.bb⟩
theorem apply_keeps {A B : Bd} {x y : Int} (hA : ¬ A.m = 0) (hB : ¬ B.m = 0) (h : (applyR A B x y).2 = 0) : Keeps A B (applyR A B x y).1.1 (applyR A B x y).1.2 := by
  obtain ⟨h1, h2, h3⟩ := apply_inv h
  rw [h3]
  simp only
  rw [lessM_val hA h1, plusM_val hB h2]
  refine ⟨?_, ?_, rfl, rfl, rfl, rfl, rfl, rfl, rfl, rfl⟩
  · show A.u - x + (B.u + x) = A.u + B.u; omega
  · show A.v - y + (B.v + y) = A.v + B.v; omega
theorem met_inv {A B : Bd} {x y v k : Int} (h : (metR A B x y v k).2 = 0) : metR A B x y v k = ((A, B), 0) ∨ ∃ j, metR A B x y v k = applyR A B (scaleV x y j).1 (scaleV x y j).2.1 ∧ (scaleV x y j).2.2 = 0 ∧ v < 0 ∧ (jR v k).1 = j ∧ (jR v k).2 = 0 ∧ (halfR v).2 = 0 ∧ (turnR v).2 = 0 := by
  by_cases hv : v < 0
  · refine .inr ⟨(jR v k).1, ?_⟩
    have e : metR A B x y v k = pushR A B x y v k := if_pos hv
    rw [e] at h ⊢
    unfold pushR at *
    obtain ⟨h1, e1⟩ := ifP_inv h
    rw [e1] at h ⊢
    obtain ⟨h2, e2⟩ := ifP_inv h
    rw [e2] at h ⊢
    obtain ⟨h3, e3⟩ := ifP_inv h
    rw [e3] at h ⊢
    obtain ⟨h4, e4⟩ := ifP_inv h
    rw [e4]
    exact ⟨rfl, h4, hv, rfl, h3, h1, h2⟩
  · exact .inl (if_neg hv)
theorem apart_inv {A B : Bd} {x y c : Int} (h : (apartR A B x y c).2 = 0) : (lightR A).2 = 0 ∧ (offR A c).2 = 0 ∧ (offV A x y c).2.2 = 0 ∧ (backV A x y c).2.2 = 0 ∧ (lightR B).2 = 0 ∧ (offR B c).2 = 0 ∧ (offV B x y c).2.2 = 0 ∧ (forthV B x y c).2.2 = 0 ∧ (apartR A B x y c).1 = (A.pos (backV A x y c).1 (backV A x y c).2.1, B.pos (forthV B x y c).1 (forthV B x y c).2.1) := by
  unfold apartR at *
  obtain ⟨h1, e⟩ := ifP_inv h; rw [e] at h ⊢
  obtain ⟨h2, e⟩ := ifP_inv h; rw [e] at h ⊢
  obtain ⟨h3, e⟩ := ifP_inv h; rw [e] at h ⊢
  obtain ⟨h4, e⟩ := ifP_inv h; rw [e] at h ⊢
  obtain ⟨h5, e⟩ := ifP_inv h; rw [e] at h ⊢
  obtain ⟨h6, e⟩ := ifP_inv h; rw [e] at h ⊢
  obtain ⟨h7, e⟩ := ifP_inv h; rw [e] at h ⊢
  obtain ⟨h8, e⟩ := ifP_inv h; rw [e]
  exact ⟨h1, h2, h3, h4, h5, h6, h7, h8, rfl⟩
/-- What a contact that goes through is made of. -/
theorem contact_inv {A B : Bd} {h : Ht} (g : (contactR A B h).2 = 0) : (kR A B).2 = 0 ∧ ((kR A B).1 = 0 ∧ contactR A B h = ((A, B), 0) ∨ ¬ (kR A B).1 = 0 ∧ ∃ v M c, vR A B h.x h.y = (v, 0) ∧ metR A B h.x h.y v (kR A B).1 = (M, 0) ∧ cR h.d (kR A B).1 = (c, 0) ∧ (apartR M.1 M.2 h.x h.y c).2 = 0 ∧ contactR A B h = apartR M.1 M.2 h.x h.y c) := by
  unfold contactR at *
  obtain ⟨h1, e⟩ := ifP_inv g; rw [e] at g ⊢
  refine ⟨h1, ?_⟩
  by_cases hz : (kR A B).1 = 0
  · rw [if_pos hz]; exact .inl ⟨hz, rfl⟩
  · rw [if_neg hz] at g ⊢
    refine .inr ⟨hz, ?_⟩
    obtain ⟨h2, e⟩ := ifP_inv g; rw [e] at g ⊢
    unfold thenR at *
    obtain ⟨h3, e⟩ := ifP_inv g; rw [e] at g ⊢
    obtain ⟨h4, e⟩ := ifP_inv g; rw [e] at g ⊢
    exact ⟨_, _, _, Prod.ext rfl h2, Prod.ext rfl h3, Prod.ext rfl h4, g, rfl⟩
theorem contact_keeps {A B : Bd} {h : Ht} (hA : ¬ A.m = 0) (hB : ¬ B.m = 0) (g : (contactR A B h).2 = 0) : Keeps A B (contactR A B h).1.1 (contactR A B h).1.2 := by
  obtain ⟨_, ⟨_, e⟩ | ⟨_, v, M, c, _, hM, _, h4, e⟩⟩ := contact_inv g
  · rw [e]; exact Keeps.refl A B
  · rw [e, (apart_inv h4).2.2.2.2.2.2.2.2]
    refine Keeps.pos ?_ _ _ _ _
    rcases met_inv (show (metR A B h.x h.y v (kR A B).1).2 = 0 by rw [hM]) with e1 | ⟨j, e1, _⟩
    · rw [hM] at e1
      obtain rfl : M = (A, B) := congrArg Prod.fst e1
      exact Keeps.refl A B
    · have := apply_keeps (A := A) (B := B) hA hB (x := (scaleV h.x h.y j).1) (y := (scaleV h.x h.y j).2.1) (by rw [← e1, hM])
      rw [← e1, hM] at this
      exact this
/-- What a joint that goes through is made of. -/
theorem joint_inv {A B : Bd} {n : Int} (g : (jointR A B n).2 = 0) : jointR A B n = ((A, B), 0) ∧ (¬ (unitR (wayV A B).1 (wayV A B).2.1).2.1 = 0 → (kR A B).1 = 0) ∨ ∃ j, (scaleV (unitR (wayV A B).1 (wayV A B).2.1).1.1 (unitR (wayV A B).1 (wayV A B).2.1).1.2 j).2.2 = 0 ∧ ¬ (kR A B).1 = 0 ∧ jointR A B n = applyR A B (scaleV (unitR (wayV A B).1 (wayV A B).2.1).1.1 (unitR (wayV A B).1 (wayV A B).2.1).1.2 j).1 (scaleV (unitR (wayV A B).1 (wayV A B).2.1).1.1 (unitR (wayV A B).1 (wayV A B).2.1).1.2 j).2.1 := by
  unfold jointR at *
  obtain ⟨_, e⟩ := ifP_inv g; rw [e] at g ⊢
  generalize unitR (wayV A B).1 (wayV A B).2.1 = u at *
  unfold heldU at *
  obtain ⟨_, e⟩ := ifP_inv g; rw [e] at g ⊢
  by_cases hl : u.2.1 = 0
  · rw [if_pos hl]; exact .inl ⟨rfl, fun h => absurd hl h⟩
  rw [if_neg hl] at g ⊢
  obtain ⟨_, e⟩ := ifP_inv g; rw [e] at g ⊢
  by_cases hz : (kR A B).1 = 0
  · rw [if_pos hz]; exact .inl ⟨rfl, fun _ => hz⟩
  rw [if_neg hz] at g ⊢
  obtain ⟨_, e⟩ := ifP_inv g; rw [e] at g ⊢
  obtain ⟨_, e⟩ := ifP_inv g; rw [e] at g ⊢
  unfold heldR at *
  obtain ⟨_, e⟩ := ifP_inv g; rw [e] at g ⊢
  obtain ⟨_, e⟩ := ifP_inv g; rw [e] at g ⊢
  obtain ⟨h1, e⟩ := ifP_inv g; rw [e] at g ⊢
  exact .inr ⟨_, h1, hz, rfl⟩
theorem joint_keeps {A B : Bd} {n : Int} (hA : ¬ A.m = 0) (hB : ¬ B.m = 0) (g : (jointR A B n).2 = 0) : Keeps A B (jointR A B n).1.1 (jointR A B n).1.2 := by
  rcases joint_inv g with ⟨e, _⟩ | ⟨j, _, _, e⟩
  · rw [e]; exact Keeps.refl A B
  · rw [e] at g ⊢; exact apply_keeps hA hB g

/-! ### A body without mass -/
theorem light_none {A : Bd} (h : A.m = 0) : lightR A = (0, 0) := if_pos h
theorem k_none {A B : Bd} (h : A.m = 0) (g : B.m = 0) : kR A B = (0, 0) := by unfold kR; rw [light_none h, light_none g]; rfl
theorem subR_zero {a : Int} (h : inF a) : subR a 0 = (a, 0) := by unfold subR; rw [Int.sub_zero]; exact inR_ok h
theorem addR_zero {a : Int} (h : inF a) : addR a 0 = (a, 0) := by unfold addR; rw [Int.add_zero]; exact inR_ok h
theorem mulR_zero_left (a : Int) : mulR 0 a = (0, 0) := by rw [mulR_comm]; exact mulR_zero a
theorem scale_zero (x y : Int) : scaleV x y 0 = (0, 0, 0) := by unfold scaleV; rw [mulR_zero, mulR_zero]; rfl
theorem pos_self (A : Bd) : A.pos A.p A.q = A := rfl
theorem mom_self (A : Bd) : A.mom A.u A.v = A := rfl
theorem back_none {A : Bd} (hA : A.ok) (h : A.m = 0) (x y c : Int) : backV A x y c = (A.p, A.q, 0) := by
  unfold backV offV offR
  rw [light_none h]
  simp only
  rw [mulR_zero]
  simp only
  rw [scale_zero]
  simp only
  rw [subR_zero hA.p, subR_zero hA.q]; rfl
theorem contact_fixed {A B : Bd} {h : Ht} (hA : A.ok) (ha : A.m = 0) (g : (contactR A B h).2 = 0) : (contactR A B h).1.1 = A ∧ (B.m = 0 → (contactR A B h).1.2 = B) := by
  obtain ⟨_, ⟨_, e⟩ | ⟨hz, v, M, c, _, hM, _, h4, e⟩⟩ := contact_inv g
  · rw [e]; exact ⟨rfl, fun _ => rfl⟩
  · refine ⟨?_, fun hb => absurd (by rw [k_none ha hb]) hz⟩
    have hM1 : M.1 = A := by
      rcases met_inv (show (metR A B h.x h.y v (kR A B).1).2 = 0 by rw [hM]) with e1 | ⟨j, e1, _⟩
      · rw [hM] at e1
        obtain rfl : M = (A, B) := congrArg Prod.fst e1
        rfl
      · have := (apply_inv (A := A) (B := B) (x := (scaleV h.x h.y j).1) (y := (scaleV h.x h.y j).2.1) (by rw [← e1, hM])).2.2
        rw [← e1, hM, lessM_none ha] at this
        rw [show M = _ from this]
    rw [e, (apart_inv h4).2.2.2.2.2.2.2.2, hM1]
    simp only
    rw [back_none hA ha]
    exact pos_self A
theorem joint_fixed {A B : Bd} {n : Int} (ha : A.m = 0) (g : (jointR A B n).2 = 0) : (jointR A B n).1.1 = A ∧ (B.m = 0 → (jointR A B n).1.2 = B) := by
  rcases joint_inv g with ⟨e, _⟩ | ⟨j, _, hz, e⟩
  · rw [e]; exact ⟨rfl, fun _ => rfl⟩
  · refine ⟨?_, fun hb => absurd (by rw [k_none ha hb]) hz⟩
    rw [e] at g ⊢
    rw [(apply_inv g).2.2, lessM_none ha]

/-! ### Along X -/
theorem mulR_one_left {a : Int} (h : inF a) : mulR 4294967296 a = (a, 0) := by rw [mulR_comm]; exact mulR_one h
theorem sgR_nonneg {m : Int} (h : 0 ≤ m) : 0 ≤ (sgR false m).1 := by
  unfold sgR
  rw [if_neg (by decide)]
  split
  · exact h
  · exact Int.le_refl 0
theorem mulR_nonneg {a b : Int} (ha : 0 ≤ a) (hb : 0 ≤ b) : 0 ≤ (mulR a b).1 := by
  unfold mulR
  rw [show sgn a b = false by unfold sgn; rw [decide_eq_false (by omega), decide_eq_false (by omega)]; rfl]
  exact sgR_nonneg (mulM_nonneg a b)
theorem divR_nonneg {a b : Int} (ha : 0 ≤ a) (hb : 0 ≤ b) : 0 ≤ (divR a b).1 := by
  unfold divR
  split
  · exact Int.le_refl 0
  · rw [show sgn a b = false by unfold sgn; rw [decide_eq_false (by omega), decide_eq_false (by omega)]; rfl]
    exact sgR_nonneg (divM_nonneg a b)
theorem light_nonneg {A : Bd} (h : 0 ≤ A.m) : 0 ≤ (lightR A).1 := by
  unfold lightR
  split
  · exact Int.le_refl 0
  · exact divR_nonneg (by decide) h
theorem k_nonneg {A B : Bd} (h : 0 ≤ A.m) (g : 0 ≤ B.m) : 0 ≤ (kR A B).1 := by
  unfold kR behind
  split
  · split
    · have := light_nonneg h
      have := light_nonneg g
      rcases inR_cases ((lightR A).1 + (lightR B).1) with ⟨e, _⟩ | ⟨e, _⟩
      · show 0 ≤ (inR _).1; rw [e]; simp only; omega
      · show 0 ≤ (inR _).1; rw [e]; exact Int.le_refl 0
    · exact Int.le_refl 0
  · exact Int.le_refl 0
theorem scale_x {j : Int} (h : inF j) : scaleV 4294967296 0 j = (j, 0, 0) := by unfold scaleV; rw [mulR_one_left h, mulR_zero_left]; rfl
theorem off_in (A : Bd) (c : Int) : inF (offR A c).1 := (mulR_in _ _).1
theorem back_x {A : Bd} {c : Int} (h : (backV A 4294967296 0 c).2.2 = 0) : (backV A 4294967296 0 c).1 = A.p - (offR A c).1 ∧ (backV A 4294967296 0 c).2.1 = A.q := by
  unfold backV offV at *
  rw [scale_x (off_in A c)] at *
  obtain ⟨h1, h2, h3, h4⟩ := two_vals h
  rw [h3, h4]
  exact ⟨subR_val h1, by rw [subR_val h2]; exact Int.sub_zero _⟩
theorem forth_x {A : Bd} {c : Int} (h : (forthV A 4294967296 0 c).2.2 = 0) : (forthV A 4294967296 0 c).1 = A.p + (offR A c).1 ∧ (forthV A 4294967296 0 c).2.1 = A.q := by
  unfold forthV offV at *
  rw [scale_x (off_in A c)] at *
  obtain ⟨h1, h2, h3, h4⟩ := two_vals h
  rw [h3, h4]
  exact ⟨addR_val h1, by rw [addR_val h2]; exact Int.add_zero _⟩
/-- A contact along X, a push of which is j: of two with a mass. -/
theorem met_x {A B : Bd} {v k : Int} {M : Bd × Bd} (hA : ¬ A.m = 0) (hB : ¬ B.m = 0) (h : metR A B 4294967296 0 v k = (M, 0)) : M = (A, B) ∨ v < 0 ∧ ∃ j, j = (jR v k).1 ∧ M = (A.mom (A.u - j) A.v, B.mom (B.u + j) B.v) := by
  rcases met_inv (show (metR A B 4294967296 0 v k).2 = 0 by rw [h]) with e1 | ⟨j, e1, _, hv, hj, _⟩
  · rw [h] at e1
    exact .inl (congrArg Prod.fst e1)
  · refine .inr ⟨hv, j, hj.symm, ?_⟩
    have ij : inF j := by rw [← hj]; exact (divR_in _ _).1
    rw [scale_x ij] at e1
    simp only at e1
    obtain ⟨h1, h2, h3⟩ := apply_inv (A := A) (B := B) (x := j) (y := 0) (by rw [← e1, h])
    rw [← e1, h] at h3
    rw [lessM_val hA h1, plusM_val hB h2, Int.sub_zero, Int.add_zero] at h3
    exact h3
theorem contact_apart {A B : Bd} {d : Int} (hA : 0 < A.m) (hB : 0 < B.m) (hd : 0 ≤ d) (g : (contactR A B ⟨4294967296, 0, d⟩).2 = 0) :
    (contactR A B ⟨4294967296, 0, d⟩).1.1.p ≤ A.p ∧ B.p ≤ (contactR A B ⟨4294967296, 0, d⟩).1.2.p ∧ (contactR A B ⟨4294967296, 0, d⟩).1.1.q = A.q ∧ (contactR A B ⟨4294967296, 0, d⟩).1.2.q = B.q ∧ (contactR A B ⟨4294967296, 0, d⟩).1.1.v = A.v ∧ (contactR A B ⟨4294967296, 0, d⟩).1.2.v = B.v := by
  have kn := k_nonneg (A := A) (B := B) (by omega) (by omega)
  obtain ⟨_, ⟨_, e⟩ | ⟨hz, v, M, c, _, hM, hc, h4, e⟩⟩ := contact_inv g
  · rw [e]; exact ⟨Int.le_refl _, Int.le_refl _, rfl, rfl, rfl, rfl⟩
  simp only at hM hc h4 e
  obtain ⟨_, _, _, hb, _, _, _, hf, e2⟩ := apart_inv h4
  obtain ⟨b1, b2⟩ := back_x hb
  obtain ⟨f1, f2⟩ := forth_x hf
  rw [e, e2]
  simp only [Bd.pos]
  rw [b1, b2, f1, f2]
  have hc0 : 0 ≤ c := by
    have : 0 ≤ (cR d (kR A B).1).1 := divR_nonneg (Int.tdiv_nonneg hd (by decide)) kn
    rw [hc] at this; exact this
  have key : M.1.p = A.p ∧ M.2.p = B.p ∧ M.1.q = A.q ∧ M.2.q = B.q ∧ M.1.v = A.v ∧ M.2.v = B.v ∧ M.1.m = A.m ∧ M.2.m = B.m := by
    rcases met_x (by omega) (by omega) hM with rfl | ⟨_, j, _, rfl⟩
    · exact ⟨rfl, rfl, rfl, rfl, rfl, rfl, rfl, rfl⟩
    · exact ⟨rfl, rfl, rfl, rfl, rfl, rfl, rfl, rfl⟩
  obtain ⟨k1, k2, k3, k4, k5, k6, k7, k8⟩ := key
  have o1 : 0 ≤ (offR M.1 c).1 := mulR_nonneg hc0 (light_nonneg (by omega))
  have o2 : 0 ≤ (offR M.2 c).1 := mulR_nonneg hc0 (light_nonneg (by omega))
  rw [k1, k2]
  exact ⟨by omega, by omega, k3, k4, k5, k6⟩

/-! ### A push of nothing; joints between two at rest -/
theorem apply_none {A B : Bd} (hA : A.ok) (hB : B.ok) : applyR A B 0 0 = ((A, B), 0) := by
  have h1 : lessM A 0 0 = (A, 0) := by
    unfold lessM lessV
    rw [subR_zero hA.u, subR_zero hA.v]
    split
    · rfl
    · rfl
  have h2 : plusM B 0 0 = (B, 0) := by
    unfold plusM plusV
    rw [addR_zero hB.u, addR_zero hB.v]
    split
    · rfl
    · rfl
  unfold applyR
  rw [h1, h2]; rfl
end Go.Proofs.YtnkhknmpffcfbaaGreat
