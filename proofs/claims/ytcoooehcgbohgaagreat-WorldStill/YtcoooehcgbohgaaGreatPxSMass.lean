/-
  Plain numbers, no program in sight: without gravity, and where each body has a mass, a step keeps the sum of what moves.
-/
import Derived.Test.YtcoooehcgbohgaaGreatPk13
namespace Go.Proofs.YtcoooehcgbohgaaGreat
open Go Go.RowKit

def su : List Bd → Int
  | [] => 0
  | B :: L => B.u + su L
def sv : List Bd → Int
  | [] => 0
  | B :: L => B.v + sv L
theorem su_set : ∀ {L : List Bd} {i : Nat} (_ : i < L.length) (B : Bd), su (L.set i B) = su L - (bd L i).u + B.u
  | A :: L, 0, _, B => by show B.u + su L = A.u + su L - A.u + B.u; omega
  | A :: L, i + 1, h, B => by
    have := su_set (L := L) (i := i) (by simpa using h) B
    show A.u + su (L.set i B) = A.u + su L - (bd L i).u + B.u
    omega
theorem sv_set : ∀ {L : List Bd} {i : Nat} (_ : i < L.length) (B : Bd), sv (L.set i B) = sv L - (bd L i).v + B.v
  | A :: L, 0, _, B => by show B.v + sv L = A.v + sv L - A.v + B.v; omega
  | A :: L, i + 1, h, B => by
    have := sv_set (L := L) (i := i) (by simpa using h) B
    show A.v + sv (L.set i B) = A.v + sv L - (bd L i).v + B.v
    omega
theorem sum_is : ∀ (L : List Bd) (k : Int) (x y : Int), L.length + k ≤ 1000 → 0 ≤ k → -(k * 4294967296000000) ≤ x ∧ x ≤ k * 4294967296000000 → -(k * 4294967296000000) ≤ y ∧ y ≤ k * 4294967296000000 →
    (∀ B ∈ L, (-4294967296000000 ≤ B.u ∧ B.u ≤ 4294967296000000) ∧ -4294967296000000 ≤ B.v ∧ B.v ≤ 4294967296000000) → sumE L x y = (x + su L, y + sv L, 0)
  | [], _, x, y, _, _, _, _, _ => by simp [sumE, su, sv]
  | B :: L, k, x, y, hl, hk, hx, hy, h => by
    have hb := h B (by simp)
    have hl' : (L.length : Int) + (k + 1) ≤ 1000 := by simp at hl; omega
    have hk1 : k ≤ 1000 := by omega
    unfold sumE
    rw [addR_is (by constructor <;> omega), addR_is (by constructor <;> omega)]
    rw [twoOk, if_pos rfl]
    show sumE L (x + B.u) (y + B.v) = _
    rw [sum_is L (k + 1) _ _ hl' (by omega) (by omega) (by omega) (fun C hC => h C (by simp [hC]))]
    show (x + B.u + su L, y + B.v + sv L, (0 : Int)) = (x + (B.u + su L), y + (B.v + sv L), 0)
    rw [Int.add_assoc, Int.add_assoc]
theorem right_mom {B : Bd} (h : rightB B = true) : (-4294967296000000 ≤ B.u ∧ B.u ≤ 4294967296000000) ∧ -4294967296000000 ≤ B.v ∧ B.v ≤ 4294967296000000 := by
  have := (rightB_iff B).1 h
  omega
theorem sum_right {L : List Bd} (hl : L.length ≤ 500) (h : L.all rightB = true) : sumE L 0 0 = (su L, sv L, 0) := by
  have := sum_is L 0 0 0 (by omega) (by omega) (by omega) (by omega) (fun B hB => right_mom (List.all_eq_true.1 h B hB))
  rw [Int.zero_add, Int.zero_add] at this
  exact this

/-- The same sums, the same kinds. -/
structure SumK (L C : List Bd) : Prop where
  k : Keep L C
  u : su C = su L
  v : sv C = sv L
theorem SumK.refl {L : List Bd} (h : ∀ z ∈ L, z.ok) : SumK L L := ⟨Keep.refl h, rfl, rfl⟩
theorem pair_sum {C : List Bd} {a b : Nat} {A B : Bd} (hab : a ≠ b) (ha : a < C.length) (hb : b < C.length) (hu : A.u + B.u = (bd C a).u + (bd C b).u) (hv : A.v + B.v = (bd C a).v + (bd C b).v) : su ((C.set a A).set b B) = su C ∧ sv ((C.set a A).set b B) = sv C := by
  have hb' : b < (C.set a A).length := by rw [List.length_set]; exact hb
  rw [su_set hb', sv_set hb', su_set ha, sv_set ha, bd_far hab]
  omega
theorem mass_bd {L C : List Bd} (h : Keep L C) (hm : ∀ B ∈ L, ¬ B.m = 0) {i : Nat} (hi : i < C.length) : ¬ (bd C i).m = 0 := by
  have hi' : i < L.length := by rw [← h.len]; exact hi
  rw [(h.each i hi').m]
  exact hm _ (bd_mem hi')
theorem falls_none {L : List Bd} (h : ∀ z ∈ L, z.ok) : fallsE 0 0 L = (L, 0) := by
  have : ∀ m k, k + m ≤ L.length → upE (fallE 0 0) m k L = (L, 0) := by
    intro m
    induction m with
    | zero => exact fun _ _ => rfl
    | succ m ih =>
      intro k hk
      have e : fallE 0 0 k L = (L, 0) := by
        show putE L k (fallB 0 0 (bd L k)) = _
        rw [fall_none (h _ (bd_mem (by omega)))]
        show (L.set k (bd L k), (0 : Int)) = _
        rw [set_bd (by omega)]
      unfold upE
      rw [e, if_pos rfl]
      exact ih (k + 1) (by omega)
  exact this _ 0 (by omega)
theorem moveB_mom {B : Bd} (h : (moveB B).2 = 0) : (moveB B).1.u = B.u ∧ (moveB B).1.v = B.v := by
  unfold moveB at *
  by_cases hm : B.m = 0
  · rw [if_pos hm]; exact ⟨rfl, rfl⟩
  · rw [if_neg hm] at h ⊢
    rw [(put_inv h).2]; exact ⟨rfl, rfl⟩
theorem moves_sum {L C : List Bd} (h : SumK L C) (g : (movesE C).2 = 0) : SumK L (movesE C).1 := by
  refine upE_inv (I := SumK L) (fun j D _ hj hD he => ?_) h g
  have hj : j < C.length := by omega
  have hl : D.length = C.length := hD.k.len.trans h.k.len.symm
  have hk := moveE_keep hD.k.ok (hD.k.ok' j) he
  refine ⟨hD.k.trans hk, ?_, ?_⟩
  all_goals
    unfold moveE at *
    obtain ⟨g1, g2⟩ := putE_inv he
    have hm := moveB_mom g1
    rw [g2]
  · show su (D.set j _) = _
    rw [su_set (by omega), hm.1, ← hD.u]; omega
  · show sv (D.set j _) = _
    rw [sv_set (by omega), hm.2, ← hD.v]; omega
theorem rightJ_lt {n : Nat} {j : Jt} (h : rightJ n j = true) : j.a.toNat < n ∧ j.b.toNat < n := by
  unfold rightJ at h
  rw [decide_eq_true_iff] at h
  omega
theorem pull_sum {J : List Jt} {L C : List Bd} (hm : ∀ B ∈ L, ¬ B.m = 0) (hJ : J.all (rightJ L.length) = true) (h : SumK L C) (g : (pullE J C).2 = 0) : SumK L (pullE J C).1 := by
  refine upE_inv (I := SumK L) (fun j D _ hj hD he => ?_) h g
  have hr := List.all_eq_true.1 hJ _ (jt_mem (i := j) (by omega))
  have h1 := rightJ_ne hr
  obtain ⟨h2, h3⟩ := rightJ_lt hr
  rw [← hD.k.len] at h2 h3
  have hk : Keep D (jointE J j D).1 := pairE_keep h1 hD.k.ok (jointR_ok (hD.k.ok' _) (hD.k.ok' _) _) (fun e => joint_keep e) he
  obtain ⟨g1, g2⟩ := pairE_inv (show (pairE D _ _ _).2 = 0 from he)
  have ks := joint_keeps (mass_bd hD.k hm h2) (mass_bd hD.k hm h3) g1
  have hs := pair_sum h1 h2 h3 ks.u ks.v
  refine ⟨hD.k.trans hk, ?_, ?_⟩
  · have : (jointE J j D).1 = _ := congrArg Prod.fst g2
    rw [this]; exact hs.1.trans hD.u
  · have : (jointE J j D).1 = _ := congrArg Prod.fst g2
    rw [this]; exact hs.2.trans hD.v
theorem round_sum {J : List Jt} {L C : List Bd} (hm : ∀ B ∈ L, ¬ B.m = 0) (hJ : J.all (rightJ L.length) = true) (h : SumK L C) (g : (roundE J C).2 = 0) : SumK L (roundE J C).1 :=
  upE_inv (I := SumK L) (fun _ _ _ _ hD he => pull_sum hm hJ hD he) h g
theorem boxE_len : ∀ {L : List Bd}, (boxE L).2 = 0 → (boxE L).1.length = L.length
  | [], _ => rfl
  | B :: L, h => by
    unfold boxE at *
    split at h
    · rename_i h1
      rw [if_pos h1]
      split at h
      · rename_i h2
        rw [if_pos h2]
        show _ + 1 = _ + 1
        rw [boxE_len h2]
      · rename_i h2; exact absurd h h2
    · rename_i h1; exact absurd h h1
theorem bounce_sum {L C : List Bd} (hm : ∀ B ∈ L, ¬ B.m = 0) (h : SumK L C) (g : (bounceE C).2 = 0) : SumK L (bounceE C).1 := by
  unfold bounceE at *
  split at g
  · rename_i h1
    rw [if_pos h1]
    refine upE_inv (I := SumK L) (fun j D _ hj hD he => ?_) h g
    have hp := (prs_mem _ _).1 (pr_mem (P := prs (boxE C).1) (k := j) (by omega))
    have hl : D.length = C.length := hD.k.len.trans h.k.len.symm
    rw [boxE_len h1] at hp
    have hk := hitE_keep (P := prs (boxE C).1) (k := j) (by omega) hD.k.ok hD.k.ok' he
    suffices hh : su (hitE (prs (boxE C).1) j D).1 = su L ∧ sv (hitE (prs (boxE C).1) j D).1 = sv L from ⟨hD.k.trans hk, hh.1, hh.2⟩
    unfold hitE at *
    split at he
    · rename_i g1
      rw [if_pos g1]
      split at he
      · rename_i g2
        rw [if_pos g2]
        obtain ⟨g3, g4⟩ := pairE_inv he
        have ks := contact_keeps (mass_bd hD.k hm (i := (pr (prs (boxE C).1) j).1) (by omega)) (mass_bd hD.k hm (i := (pr (prs (boxE C).1) j).2) (by omega)) g3
        have hs := pair_sum (C := D) (a := (pr (prs (boxE C).1) j).1) (b := (pr (prs (boxE C).1) j).2) (by omega) (by omega) (by omega) ks.u ks.v
        rw [g4]
        exact ⟨hs.1.trans hD.u, hs.2.trans hD.v⟩
      · rename_i g2
        rw [if_neg g2]
        exact ⟨hD.u, hD.v⟩
    · rename_i g1
      exact absurd he g1
  · rename_i h1
    exact absurd g h1
theorem step_sum {J : List Jt} {L C : List Bd} (hm : ∀ B ∈ L, ¬ B.m = 0) (h : SumK L C) (g : (stepE 0 0 J C).2 = 0) : SumK L (stepE 0 0 J C).1 := by
  obtain ⟨h1, h2, h3, _⟩ := step_inv g
  have hJ := (rightW_iff.1 h1).2.1
  rw [h.k.len] at hJ
  rw [h3]
  show SumK L (advE 0 0 J C).1
  unfold advE at *
  rw [falls_none h.k.ok, thenE_ok rfl] at h2 ⊢
  obtain ⟨k1, e1⟩ := thenE_inv h2
  rw [e1] at h2 ⊢
  have s1 := round_sum hm hJ h k1
  obtain ⟨k2, e2⟩ := thenE_inv h2
  rw [e2] at h2 ⊢
  exact moves_sum (bounce_sum hm s1 k2) h2
theorem go_sum {J : List Jt} : ∀ {m k : Nat} {L C D : List Bd}, (∀ B ∈ L, ¬ B.m = 0) → SumK L C → goE 0 0 J m k C = ((D, 0), 0) → SumK L D
  | 0, k, L, C, D, _, h, e => by
    have e : ((C, (0 : Int)), (0 : Int)) = ((D, 0), 0) := e
    cases e
    exact h
  | m + 1, k, L, C, D, hm, h, g => by
    by_cases e : (stepE 0 0 J C).2 = 0
    · have e1 : goE 0 0 J (m + 1) k C = goE 0 0 J m (k + 1) (stepE 0 0 J C).1 := if_pos e
      rw [e1] at g
      exact go_sum hm (step_sum hm h e) g
    · have e1 : goE 0 0 J (m + 1) k C = (([], (k : Int) + 1), (stepE 0 0 J C).2) := if_neg e
      rw [e1] at g
      exact absurd (congrArg Prod.snd g) e
theorem run_sum {J : List Jt} {L D : List Bd} {n : Nat} (hn : n ≤ 200) (ho : ∀ z ∈ L, z.ok) (hm : ∀ B ∈ L, ¬ B.m = 0) (hl : L.length ≤ 500) (e : runE 0 0 J L n = ((D, 0), 0)) : ∃ p q, sumE L 0 0 = (p, q, 0) ∧ sumE D 0 0 = (p, q, 0) := by
  have hr := runE_right hn e
  have hk := runE_keep hn ho e
  have hs : SumK L D := by
    by_cases h0 : n = 0
    · subst h0
      have e : restE 0 0 J L = ((D, 0), 0) := e
      unfold restE at e
      rw [if_pos hr] at e
      cases e
      exact SumK.refl ho
    · rw [runE_go (by omega) hn] at e
      exact go_sum hm (SumK.refl ho) e
  refine ⟨su L, sv L, sum_right hl (rightW_iff.1 hr).1, ?_⟩
  rw [sum_right (by rw [hk.1.len]; exact hl) (rightW_iff.1 hk.2).1, hs.u, hs.v]
end Go.Proofs.YtcoooehcgbohgaaGreat
