/-
  What world.rest and world.Run do; nothing that was there is written. What world.Momentum does: the sum of what moves, or its error; nothing that was there is written. The statements' own first look ('alive' of stage 12's laws): it returns true; what was there stays. Plain numbers, no program in sight: worlds of one body; what goes alone, what falls alone. world.Run of one body, as the statements call it; whether two bodies are the same.
-/
import Derived.Test.YtcoooehcgbohgaaGreatPk11
import Derived.OwnWalk
import Derived.Test.YtcoooehcgbohgaaGreatPk06
import Derived.Test.YtcoooehcgbohgaaGreatPk01
namespace Go.Proofs.YtcoooehcgbohgaaGreat
open Go Go.RowKit

theorem Bodies.far {S : Nat → Prop} {w W : World} {a : Option Addr} {L : List Bd} (h : Bodies w a L) (g : But S w W) (hS : ∀ z off, a = some ⟨z, off, none⟩ → L ≠ [] → ¬ S z) : Bodies W a L := by
  refine ⟨h.ok, ?_⟩
  rcases h.at' with e | ⟨b, off, e, k⟩
  · exact .inl e
  · by_cases hL : L = []
    · exact .inl hL
    · exact .inr ⟨b, off, e, fun i hi => (k i hi).heap (g.block _ (k i hi).size (hS _ _ e hL))⟩
theorem Joints.far {S : Nat → Prop} {w W : World} {a : Option Addr} {J : List Jt} (h : Joints w a J) (g : But S w W) (hS : ∀ z off, a = some ⟨z, off, none⟩ → J ≠ [] → ¬ S z) : Joints W a J := by
  refine ⟨h.ok, ?_⟩
  rcases h.at' with e | ⟨b, off, e, k⟩
  · exact .inl e
  · by_cases hL : J = []
    · exact .inl hL
    · exact .inr ⟨b, off, e, fun i hi => (k i hi).heap (g.block _ (k i hi).size (hS _ _ e hL))⟩
theorem Bodies.in' {w : World} {a : Option Addr} {L : List Bd} (h : Bodies w a L) : ∀ z off, a = some ⟨z, off, none⟩ → L ≠ [] → z < w.heap.size := fun z off e hL => by
  obtain ⟨b, o, e2, k⟩ := h.block (i := 0) (List.length_pos_iff.2 hL)
  rw [e] at e2
  cases e2
  exact k.size
theorem Joints.in' {w : World} {a : Option Addr} {J : List Jt} (h : Joints w a J) : ∀ z off, a = some ⟨z, off, none⟩ → J ≠ [] → z < w.heap.size := fun z off e hL => by
  obtain ⟨b, o, e2, k⟩ := h.block (i := 0) (List.length_pos_iff.2 hL)
  rw [e] at e2
  cases e2
  exact k.size

/-- How a call ends that answers a world, at which step it failed, and the error. -/
def RunTo (x y : Int) (r : (List Bd × Int) × Int) (J : List Jt) (w : World) (e : Ending) (w' : World) : Prop := Below w.heap.size w w' ∧
      ((r.2 = 0 ∧ r.1.2 = 0 ∧ ∃ a' c' b' d', e = .returned (.tuple #[worldV x y a' r.1.1.length c' b' J.length d', .int .i64 0, .int .i64 0]) ∧ Bodies w' a' r.1.1 ∧ Joints w' b' J ∧ (∀ z off, a' = some ⟨z, off, none⟩ → r.1.1 ≠ [] → w.heap.size ≤ z) ∧ ∀ z off, b' = some ⟨z, off, none⟩ → J ≠ [] → w.heap.size ≤ z) ∨
       (¬ r.2 = 0 ∧ e = .returned (.tuple #[noneV, .int .i64 r.1.2, .int .i64 r.2])))
def restE (x y : Int) (J : List Jt) (L : List Bd) : (List Bd × Int) × Int := if rightW x y L J = true then ((L, 0), 0) else (([], 0), 9)

set_option maxRecDepth 10000 in
set_option maxHeartbeats 4000000 in
theorem rest_any (x y : Int) (L : List Bd) (J : List Jt) (a : Option Addr) (c : Nat) (b : Option Addr) (d : Nat) (w : World) (hL : Bodies w a L) (hJ : Joints w b J) (hn : L.length ≤ 500) (hm : J.length ≤ 1000) :
    Calls Tryz.prog 21 #[worldV x y a L.length c b J.length d] w (RunTo x y (restE x y J L) J w) := by
  suffices H : ∀ R : Ending → World → Prop, (∀ e w', RunTo x y (restE x y J L) J w e w' → R e w') → Calls Tryz.prog 21 #[worldV x y a L.length c b J.length d] w R from H _ (fun _ _ h => h)
  intro R hRR
  have HRR : Hid (∀ e w', RunTo x y (restE x y J L) J w e w' → R e w') := hRR
  have G0 : ∀ c' d', Grew w ((w.alloc (.cells c' 39)).alloc (.cells d' 39)) := fun c' d' => ((Grew.refl w).alloc _ _).alloc _ _
  have HG : Hid (∀ c' d', Grew w ((w.alloc (.cells c' 39)).alloc (.cells d' 39))) := G0
  have HR : Hid (∀ W, Grew w W → Calls Tryz.prog 22 #[worldV x y a L.length c b J.length d] W fun e w' => e = .returned (.bool (rightW x y L J)) ∧ Grew W w') := fun W g => right_any x y L J a c b d W (hL.grew g) (hJ.grew g) (by omega) hm
  have HC : Hid (∀ W, Grew w W → Calls Tryz.prog 23 #[worldV x y a L.length c b J.length d] W fun e w' => Below W.heap.size W w' ∧
      ∃ a' c' g b' d', e = .returned (worldV x y a' L.length c' b' J.length d') ∧ Own w' W.heap.size a' g c' L ∧ W.heap.size ≤ g ∧ g < w'.heap.size ∧ Joints w' b' J ∧ ∀ z off, b' = some ⟨z, off, none⟩ → z ≠ g ∧ W.heap.size ≤ z) := fun W g => copied_any x y L J a c b d W (hL.grew g) (hJ.grew g) (by omega) hm
  have HS : Hid (restE x y J L = if rightW x y L J = true then ((L, 0), 0) else (([], 0), 9)) := rfl
  clear hL hJ G0 hRR
  generalize rightW x y L J = r at *
  obtain ⟨n, en⟩ : ∃ n, L.length = n := ⟨_, rfl⟩
  obtain ⟨m, em⟩ : ∃ m, J.length = m := ⟨_, rfl⟩
  unfold worldV at HR HC ⊢
  rw [en, em] at HR HC ⊢
  cases r
  · clear HC
    go_enter Tryz.func21, Tryz.ntmps21
    go_wp2_with (first
      | (go_at_call 22; go_fit (HR.out _ (HG.out _ _)); rintro e V ⟨rfl, U⟩; (have k0 := U.cell (p := ⟨w.heap.size + 1, 0, none⟩) (v := .int .i64 0) (by simp [go_sem])); (have k1 := U.cell (p := ⟨w.heap.size + 1, 1, none⟩) (v := .int .i64 0) (by simp [go_sem])); (have k2 := U.cell (p := ⟨w.heap.size + 1, 2, none⟩) (v := .slice none 0 0) (by simp [go_sem])); (have k3 := U.cell (p := ⟨w.heap.size + 1, 3, none⟩) (v := .slice none 0 0) (by simp [go_sem])); (have z0 := U.frozen (p := ⟨w.heap.size + 1, 0, none⟩) (by simp [go_sem])); (have z1 := U.frozen (p := ⟨w.heap.size + 1, 1, none⟩) (by simp [go_sem])); (have z2 := U.frozen (p := ⟨w.heap.size + 1, 2, none⟩) (by simp [go_sem])); (have z3 := U.frozen (p := ⟨w.heap.size + 1, 3, none⟩) (by simp [go_sem]))))
    obtain ⟨WF, hWF⟩ : ∃ X, X = (((V.setCell ⟨w.heap.size + 1, 0, none⟩ (.int .i64 0)).setCell ⟨w.heap.size + 1, 1, none⟩ (.int .i64 0)).setCell ⟨w.heap.size + 1, 2, none⟩ (.slice none 0 0)).setCell ⟨w.heap.size + 1, 3, none⟩ (.slice none 0 0) := ⟨_, rfl⟩
    rw [← hWF]
    obtain ⟨f0, f1, f2, f3, hF⟩ := set4_at k0 k1 k2 k3 _ _ _ _ WF hWF
    have GV : Grew w V := (HG.out _ _).trans U
    have hB := but_on GV.below hF (by omega) GV.size
    clear hWF k0 k1 k2 k3 z0 z1 z2 z3 U
    have hE : restE x y J L = (([], 0), 9) := HS.out
    simp [bodyPost, results, Tryz.results21, go_sem, f0, f1, f2, f3]
    exact HRR.out _ _ ⟨hB, .inr ⟨by rw [hE]; show ¬ (9 : Int) = 0; decide, by rw [hE]; rfl⟩⟩
  go_enter Tryz.func21, Tryz.ntmps21
  have hsz : ∀ c' d', w.heap.size + 1 < ((w.alloc (.cells c' 39)).alloc (.cells d' 39)).heap.size := fun c' d' => by simp
  have HZ : Hid _ := hsz
  clear hsz
  go_wp2_with (first
    | (go_at_call 22; go_fit (HR.out _ (HG.out _ _)); rintro e V ⟨rfl, U⟩; (have k0 := U.cell (p := ⟨w.heap.size + 1, 0, none⟩) (v := .int .i64 0) (by simp [go_sem])); (have k1 := U.cell (p := ⟨w.heap.size + 1, 1, none⟩) (v := .int .i64 0) (by simp [go_sem])); (have k2 := U.cell (p := ⟨w.heap.size + 1, 2, none⟩) (v := .slice none 0 0) (by simp [go_sem])); (have k3 := U.cell (p := ⟨w.heap.size + 1, 3, none⟩) (v := .slice none 0 0) (by simp [go_sem])); (have z0 := U.frozen (p := ⟨w.heap.size + 1, 0, none⟩) (by simp [go_sem])); (have z1 := U.frozen (p := ⟨w.heap.size + 1, 1, none⟩) (by simp [go_sem])); (have z2 := U.frozen (p := ⟨w.heap.size + 1, 2, none⟩) (by simp [go_sem])); (have z3 := U.frozen (p := ⟨w.heap.size + 1, 3, none⟩) (by simp [go_sem])); (have b0 := U.cell (p := ⟨w.heap.size, 0, none⟩) (v := .int .i64 x) (by simp [go_sem])); (have b1 := U.cell (p := ⟨w.heap.size, 1, none⟩) (v := .int .i64 y) (by simp [go_sem])); (have b2 := U.cell (p := ⟨w.heap.size, 2, none⟩) (v := .slice a n c) (by simp [go_sem])); (have b3 := U.cell (p := ⟨w.heap.size, 3, none⟩) (v := .slice b m d) (by simp [go_sem])); (have GV : Hid (Grew w V) := (HG.out _ _).trans U); (have hsV : w.heap.size + 1 < V.heap.size := Nat.lt_of_lt_of_le (HZ.out _ _) U.size))
    | (go_at_call 23; go_fit (HC.out _ GV.out); rintro e V2 ⟨U2, a2, c2, g, j2, d2, rfl, hO, hg1, hg2, hJ2, hz⟩; (have l0 := (U2.cell (p := ⟨w.heap.size + 1, 0, none⟩) hsV).trans k0); (have l1 := (U2.cell (p := ⟨w.heap.size + 1, 1, none⟩) hsV).trans k1); (have l2 := (U2.cell (p := ⟨w.heap.size + 1, 2, none⟩) hsV).trans k2); (have l3 := (U2.cell (p := ⟨w.heap.size + 1, 3, none⟩) hsV).trans k3); (have y0 := (U2.frozen (p := ⟨w.heap.size + 1, 0, none⟩) hsV).trans z0); (have y1 := (U2.frozen (p := ⟨w.heap.size + 1, 1, none⟩) hsV).trans z1); (have y2 := (U2.frozen (p := ⟨w.heap.size + 1, 2, none⟩) hsV).trans z2); (have y3 := (U2.frozen (p := ⟨w.heap.size + 1, 3, none⟩) hsV).trans z3)))
  obtain ⟨WF, hWF⟩ : ∃ X, X = (((V2.setCell ⟨w.heap.size + 1, 0, none⟩ (.int .i64 x)).setCell ⟨w.heap.size + 1, 1, none⟩ (.int .i64 y)).setCell ⟨w.heap.size + 1, 2, none⟩ (.slice a2 n c2)).setCell ⟨w.heap.size + 1, 3, none⟩ (.slice j2 m d2) := ⟨_, rfl⟩
  rw [← hWF]
  obtain ⟨f0, f1, f2, f3, hF⟩ := set4_at l0 l1 l2 l3 _ _ _ _ WF hWF
  have hs := GV.out.size
  have hs2 := U2.size
  have hB := but_on (GV.out.below.trans (U2.mono hs)) hF (by omega) (by omega)
  have hBd := (hO.but hF (by omega)).bodies
  have hJt := hJ2.but hF (fun z off e => by have := (hz z off e).2; omega)
  have hz5 : ∀ z off, j2 = some ⟨z, off, none⟩ → J ≠ [] → w.heap.size ≤ z := fun z off e _ => by have := (hz z off e).2; omega
  have hE : restE x y J L = ((L, 0), 0) := HS.out
  clear hWF k0 k1 k2 k3 z0 z1 z2 z3 l0 l1 l2 l3 y0 y1 y2 y3 b0 b1 b2 b3 U U2
  simp [bodyPost, results, Tryz.results21, go_sem, f0, f1, f2, f3]
  exact HRR.out _ _ ⟨hB, .inl ⟨by rw [hE], by rw [hE], a2, c2, j2, d2, by rw [hE, em]; subst en; rfl, by rw [hE]; exact hBd, hJt, fun z off e _ => (by rcases hO.at' with ⟨e1, _⟩ | e1 <;> rw [e1] at e <;> cases e; omega), hz5⟩⟩
theorem goE_ok {x y : Int} {J : List Jt} {n k : Nat} {C : List Bd} (h : k < n) (g : (stepE x y J C).2 = 0) : goE x y J (n - k) k C = goE x y J (n - (k + 1)) (k + 1) (stepE x y J C).1 := by
  rw [show n - k = (n - (k + 1)) + 1 by omega]
  exact if_pos g
theorem goE_no {x y : Int} {J : List Jt} {n k : Nat} {C : List Bd} (h : k < n) (g : ¬ (stepE x y J C).2 = 0) : goE x y J (n - k) k C = (([], (k : Int) + 1), (stepE x y J C).2) := by
  rw [show n - k = (n - (k + 1)) + 1 by omega]
  exact if_neg g
theorem runE_arg {x y : Int} {J : List Jt} {L : List Bd} {n : Int} (h : n < 0 ∨ 200 < n) : runE x y J L n = (([], 0), 9) := if_pos h
theorem runE_zero {x y : Int} {J : List Jt} {L : List Bd} : runE x y J L 0 = restE x y J L := rfl
theorem runE_go {x y : Int} {J : List Jt} {L : List Bd} {n : Nat} (h : 0 < n) (g : n ≤ 200) : runE x y J L n = goE x y J n 0 L := by
  unfold runE
  rw [if_neg (by omega), if_neg (by omega), Int.toNat_natCast]

set_option maxRecDepth 10000 in
set_option maxHeartbeats 4000000 in
theorem run_any (x y : Int) (hx : inF x) (hy : inF y) (L : List Bd) (J : List Jt) (N : Int) (a : Option Addr) (c : Nat) (b : Option Addr) (d : Nat) (w : World) (hL : Bodies w a L) (hJ : Joints w b J) (hn : L.length ≤ 500) (hm : J.length ≤ 1000) :
    Calls Tryz.prog 7 #[worldV x y a L.length c b J.length d, .int .i64 N] w (RunTo x y (runE x y J L N) J w) := by
  suffices H : ∀ R : Ending → World → Prop, (∀ e w', RunTo x y (runE x y J L N) J w e w' → R e w') → Calls Tryz.prog 7 #[worldV x y a L.length c b J.length d, .int .i64 N] w R from H _ (fun _ _ h => h)
  intro R hRR
  have HRR : Hid (∀ e w', RunTo x y (runE x y J L N) J w e w' → R e w') := hRR
  have G0 : ∀ c' d', Grew w ((w.alloc (.cells c' 39)).alloc (.cells d' 39)) := fun c' d' => ((Grew.refl w).alloc _ _).alloc _ _
  have HG : Hid (∀ c' d', Grew w ((w.alloc (.cells c' 39)).alloc (.cells d' 39))) := G0
  clear hRR G0
  obtain ⟨m, em⟩ : ∃ m, J.length = m := ⟨_, rfl⟩
  obtain ⟨s, hs⟩ : ∃ s, w.heap.size = s := ⟨_, rfl⟩
  by_cases hN1 : N < 0 ∨ 200 < N
  · have hE : Hid (runE x y J L N = (([], 0), 9)) := runE_arg hN1
    unfold worldV
    rw [em]
    clear hL hJ
    rcases hN1 with h | h
    all_goals
      go_enter Tryz.func7, Tryz.ntmps7
      go_wp2_with (fail)
      simp [bodyPost, results, Tryz.results7, go_sem, hs]
      exact HRR.out _ _ ⟨(HG.out _ _).below, .inr ⟨by rw [hE.out]; show ¬ (9 : Int) = 0; decide, by rw [hE.out]; rfl⟩⟩
  obtain ⟨V, hV⟩ : ∃ V, V = (w.alloc (.cells #[.int .i64 x, .int .i64 y, .slice a L.length c, .slice b m d] 39)).alloc (.cells #[.int .i64 0, .int .i64 0, .slice none 0 0, .slice none 0 0] 39) := ⟨_, rfl⟩
  have GV : Grew w V := by rw [hV]; exact HG.out _ _
  have hL1 := hL.grew GV
  have hJ1 := hJ.grew GV
  have hLs := hL.in'
  have hJs := hJ.in'
  rw [hs] at hLs hJs
  have hVs : V.heap.size = s + 1 + 1 := by rw [hV, ← hs]; simp
  have hb : W4 V s x y a L.length c b m d := by rw [hV, ← hs]; constructor <;> simp [go_sem]
  have hr : W4 V (s + 1) 0 0 none 0 0 none 0 0 := by rw [hV, ← hs]; constructor <;> simp [go_sem]
  have hzz : ∀ i o, s ≤ i → V.frozen? ⟨i, o, none⟩ = false := fun i o h => GV.free (by rw [hs]; exact h)
  have HV : Hid (V = _) := hV
  have hBV : Below s w V := by rw [← hs]; exact GV.below
  have HF : Hid (∀ i o, s ≤ i → V.frozen? ⟨i, o, none⟩ = false) := hzz
  clear hL hJ GV HG hzz
  by_cases hN2 : N = 0
  · subst hN2
    rw [runE_zero] at HRR
    have HC := rest_any x y L J a c b d V hL1 hJ1 hn hm
    generalize restE x y J L = T at *
    unfold RunTo noneV at HC
    rw [em] at HC
    unfold worldV at HC ⊢
    replace HC : Hid (Calls Tryz.prog 21 _ _ _) := HC
    clear hL1 hJ1
    rw [em]
    go_enter Tryz.func7, Tryz.ntmps7
    go_upto_region 4 with (fail)
    rw [← HV.out]
    obtain ⟨b0, b1, b2, b3⟩ := hb
    obtain ⟨r0, r1, r2, r3⟩ := hr
    have hs1 : s + 1 < V.heap.size := by omega
    clear HV hVs hV
    go_wp2_with (first
      | (go_at_call 21; go_fit HC.out; rintro e V2 ⟨U2, (⟨h1, h2, a2, c2, j2, d2, rfl, hB2, hJ2, hz1, hz2⟩ | ⟨h1, rfl⟩)⟩; all_goals ((have k0 := (U2.cell (p := ⟨s + 1, 0, none⟩) hs1).trans r0); (have k1 := (U2.cell (p := ⟨s + 1, 1, none⟩) hs1).trans r1); (have k2 := (U2.cell (p := ⟨s + 1, 2, none⟩) hs1).trans r2); (have k3 := (U2.cell (p := ⟨s + 1, 3, none⟩) hs1).trans r3); (have z0 := (U2.frozen (p := ⟨s + 1, 0, none⟩) hs1).trans (HF.out (s + 1) 0 (by omega))); (have z1 := (U2.frozen (p := ⟨s + 1, 1, none⟩) hs1).trans (HF.out (s + 1) 1 (by omega))); (have z2 := (U2.frozen (p := ⟨s + 1, 2, none⟩) hs1).trans (HF.out (s + 1) 2 (by omega))); (have z3 := (U2.frozen (p := ⟨s + 1, 3, none⟩) hs1).trans (HF.out (s + 1) 3 (by omega)))))
      | fail)
    · have hU := U2.size
      obtain ⟨WF, hWF⟩ : ∃ X, X = (((V2.setCell ⟨s + 1, 0, none⟩ (.int .i64 x)).setCell ⟨s + 1, 1, none⟩ (.int .i64 y)).setCell ⟨s + 1, 2, none⟩ (.slice a2 T.1.1.length c2)).setCell ⟨s + 1, 3, none⟩ (.slice j2 m d2) := ⟨_, rfl⟩
      rw [← hWF]
      obtain ⟨f0, f1, f2, f3, hF⟩ := set4_at k0 k1 k2 k3 _ _ _ _ WF hWF
      have hB := but_on (hBV.trans (U2.mono (by omega))) hF (by omega) (by omega)
      have hBd := hB2.far hF (fun z off e hne => by have := hz1 z off e hne; omega)
      have hJt := hJ2.far hF (fun z off e hne => by have := hz2 z off e hne; omega)
      clear hWF
      simp [bodyPost, results, Tryz.results7, go_sem, f0, f1, f2, f3]
      exact HRR.out _ _ ⟨by rw [hs]; exact hB, .inl ⟨h1, h2, a2, c2, j2, d2, by rw [em]; rfl, hBd, hJt, fun z off e hne => by have := hz1 z off e hne; omega, fun z off e hne => by have := hz2 z off e hne; omega⟩⟩
    · have hU := U2.size
      obtain ⟨WF, hWF⟩ : ∃ X, X = (((V2.setCell ⟨s + 1, 0, none⟩ (.int .i64 0)).setCell ⟨s + 1, 1, none⟩ (.int .i64 0)).setCell ⟨s + 1, 2, none⟩ (.slice none 0 0)).setCell ⟨s + 1, 3, none⟩ (.slice none 0 0) := ⟨_, rfl⟩
      rw [← hWF]
      obtain ⟨f0, f1, f2, f3, hF⟩ := set4_at k0 k1 k2 k3 _ _ _ _ WF hWF
      have hB := but_on (hBV.trans (U2.mono (by omega))) hF (by omega) (by omega)
      clear hWF
      simp [bodyPost, results, Tryz.results7, go_sem, f0, f1, f2, f3]
      exact HRR.out _ _ ⟨by rw [hs]; exact hB, .inr ⟨h1, rfl⟩⟩
  obtain ⟨n, rfl⟩ : ∃ n : Nat, N = n := ⟨N.toNat, by omega⟩
  have hn0 : 0 < n := by omega
  have hn2 : n ≤ 200 := by omega
  rw [runE_go hn0 hn2] at HRR
  have hg1 : ¬ (n : Int) < 0 := by omega
  have hg2 : ¬ (200 : Int) < (n : Int) := by omega
  have hg3 : ((n : Int) == 0) = false := by simp; omega
  have HSt : Hid (∀ C a c b d W, C.length ≤ 500 → Bodies W a C → Joints W b J → Calls Tryz.prog 9 #[.agg #[.int .i64 x, .int .i64 y, .slice a C.length c, .slice b m d]] W fun e w' => Below W.heap.size W w' ∧
      (((stepE x y J C).2 = 0 ∧ ∃ a' c' b' d', e = .returned (.tuple #[.agg #[.int .i64 x, .int .i64 y, .slice a' (stepE x y J C).1.length c', .slice b' m d'], .int .i64 0]) ∧ Bodies w' a' (stepE x y J C).1 ∧ Joints w' b' J ∧ (∀ z off, a' = some ⟨z, off, none⟩ → W.heap.size ≤ z) ∧ ∀ z off, b' = some ⟨z, off, none⟩ → W.heap.size ≤ z) ∨
       (¬ (stepE x y J C).2 = 0 ∧ e = .returned (.tuple #[.agg #[.int .i64 0, .int .i64 0, .slice none 0 0, .slice none 0 0], .int .i64 (stepE x y J C).2])))) := fun C a c b d W hC h1 h2 => by
    have := step_any x y hx hy C J a c b d W h1 h2 hC hm
    unfold StepTo noneV worldV at this
    rw [em] at this
    exact this
  have HKp : Hid (∀ C, (∀ z ∈ C, z.ok) → (stepE x y J C).2 = 0 → (stepE x y J C).1.length = C.length) := fun C h g => (step_keep h g).len
  have HFar1 : Hid (∀ z off, a = some ⟨z, off, none⟩ → L ≠ [] → z ≠ s ∧ z ≠ s + 1) := fun z off e h => by have := hLs z off e h; omega
  have HFar2 : Hid (∀ z off, b = some ⟨z, off, none⟩ → J ≠ [] → z ≠ s ∧ z ≠ s + 1) := fun z off e h => by have := hJs z off e h; omega
  unfold worldV
  rw [em]
  clear hLs hJs hN1 hN2
  go_enter Tryz.func7, Tryz.ntmps7
  go_upto_region 5 with (fail)
  rw [← HV.out]
  have hs1 : s + 1 < V.heap.size := by omega
  clear HV hVs hV
  go_wp2_with (fail)
  have HZ0 : Hid (∀ i o, i = s ∨ i = s + 1 → V.frozen? ⟨i, o, none⟩ = false) := fun i o h => HF.out i o (by omega)
  go_loopw [25] (fun i wr => ∃ (k : Nat) (C : List Bd) (a' : Option Addr) (c' : Nat) (b' : Option Addr) (d' : Nat), k ≤ n ∧ i = .int .i64 k ∧ C.length ≤ 500 ∧ W4 wr s x y a' C.length c' b' m d' ∧ W4 wr (s + 1) 0 0 none 0 0 none 0 0 ∧ Bodies wr a' C ∧ Joints wr b' J ∧ Hid (∀ z off, a' = some ⟨z, off, none⟩ → C ≠ [] → (z ≠ s ∧ z ≠ s + 1) ∧ (k ≠ 0 → s ≤ z)) ∧ Hid (∀ z off, b' = some ⟨z, off, none⟩ → J ≠ [] → (z ≠ s ∧ z ≠ s + 1) ∧ (k ≠ 0 → s ≤ z)) ∧ Hid (∀ i o, i = s ∨ i = s + 1 → wr.frozen? ⟨i, o, none⟩ = false) ∧ Below s w wr ∧ Hid (goE x y J n 0 L = goE x y J (n - k) k C)) (fun i _ => n - (intOf i).toNat)
  case atStart => exact ⟨0, L, a, c, b, d, by omega, rfl, hn, hb, hr, hL1, hJ1, fun z off e h => ⟨HFar1.out z off e h, fun e => absurd rfl e⟩, fun z off e h => ⟨HFar2.out z off e h, fun e => absurd rfl e⟩, HZ0, hBV, rfl⟩
  case round =>
    obtain ⟨k, C, a', c', b', d', hk, rfl, hC, hb4, hr4, hBd, hJt, hf1, hf2, HZ, hBw, HU⟩ := hrel
    clear hL1 hJ1 hb hr hBV HF HZ0 hs1 HFar1 HFar2
    have hw0 := hb4.size
    have hw1 := hr4.size
    obtain ⟨b0, b1, b2, b3⟩ := hb4
    obtain ⟨r0, r1, r2, r3⟩ := hr4
    by_cases hlt : k < n
    · have hi : (k : Int) < (n : Int) := by omega
      have HF := HSt.out C a' c' b' d' wr hC hBd hJt
      have HYes : Hid ((stepE x y J C).2 = 0 → goE x y J n 0 L = goE x y J (n - (k + 1)) (k + 1) (stepE x y J C).1) := fun h => by rw [HU.out, goE_ok hlt h]
      have HNo : Hid (¬ (stepE x y J C).2 = 0 → goE x y J n 0 L = (([], (k : Int) + 1), (stepE x y J C).2)) := fun h => by rw [HU.out, goE_no hlt h]
      have HK : Hid ((stepE x y J C).2 = 0 → (stepE x y J C).1.length = C.length) := HKp.out C hBd.ok
      generalize stepE x y J C = T at *
      obtain ⟨T1, te⟩ := T
      simp only at HF HYes HNo HK
      by_cases hte : te = 0
      rotate_left
      · have HF : Hid (Calls Tryz.prog 9 #[.agg #[.int .i64 x, .int .i64 y, .slice a' C.length c', .slice b' m d']] wr fun e w' => Below wr.heap.size wr w' ∧ e = .returned (.tuple #[.agg #[.int .i64 0, .int .i64 0, .slice none 0 0, .slice none 0 0], .int .i64 te])) := HF.mono (by
          rintro e w' ⟨h, ⟨h0, _⟩ | ⟨_, h2⟩⟩
          · exact absurd h0 hte
          · exact ⟨h, h2⟩)
        have HE := HNo.out hte
        have HR2 : Hid (∀ W, Below s w W → R (.returned (.tuple #[.agg #[.int .i64 0, .int .i64 0, .slice none 0 0, .slice none 0 0], .int .i64 ((k : Int) + 1), .int .i64 te])) W) := fun W h => HRR.out _ _ ⟨by rw [hs]; exact h, .inr ⟨by rw [HE]; exact hte, by rw [HE]; rfl⟩⟩
        clear HE HNo HYes HK HSt HRR HU hf1 hf2 hBd hJt
        go_wp2_with (first
          | (go_at_call 9; go_fit HF.out; rintro e V2 ⟨U2, rfl⟩; (have k0 := (U2.cell (p := ⟨s + 1, 0, none⟩) hw1).trans r0); (have k1 := (U2.cell (p := ⟨s + 1, 1, none⟩) hw1).trans r1); (have k2 := (U2.cell (p := ⟨s + 1, 2, none⟩) hw1).trans r2); (have k3 := (U2.cell (p := ⟨s + 1, 3, none⟩) hw1).trans r3); (have l0 := (U2.cell (p := ⟨s, 0, none⟩) hw0).trans b0); (have l1 := (U2.cell (p := ⟨s, 1, none⟩) hw0).trans b1); (have l2 := (U2.cell (p := ⟨s, 2, none⟩) hw0).trans b2); (have l3 := (U2.cell (p := ⟨s, 3, none⟩) hw0).trans b3); (have z0 := (U2.frozen (p := ⟨s + 1, 0, none⟩) hw1).trans (HZ.out (s + 1) 0 (by omega))); (have z1 := (U2.frozen (p := ⟨s + 1, 1, none⟩) hw1).trans (HZ.out (s + 1) 1 (by omega))); (have z2 := (U2.frozen (p := ⟨s + 1, 2, none⟩) hw1).trans (HZ.out (s + 1) 2 (by omega))); (have z3 := (U2.frozen (p := ⟨s + 1, 3, none⟩) hw1).trans (HZ.out (s + 1) 3 (by omega))); (have y0 := (U2.frozen (p := ⟨s, 0, none⟩) hw0).trans (HZ.out (s) 0 (by omega))); (have y1 := (U2.frozen (p := ⟨s, 1, none⟩) hw0).trans (HZ.out (s) 1 (by omega))); (have y2 := (U2.frozen (p := ⟨s, 2, none⟩) hw0).trans (HZ.out (s) 2 (by omega))); (have y3 := (U2.frozen (p := ⟨s, 3, none⟩) hw0).trans (HZ.out (s) 3 (by omega))); (have hv0 : s < V2.heap.size := Nat.lt_of_lt_of_le hw0 U2.size); (have hv1 : s + 1 < V2.heap.size := Nat.lt_of_lt_of_le hw1 U2.size))
          | fail)
        obtain ⟨WF, hWF⟩ : ∃ X, X = (((V2.setCell ⟨s + 1, 0, none⟩ (.int .i64 0)).setCell ⟨s + 1, 1, none⟩ (.int .i64 0)).setCell ⟨s + 1, 2, none⟩ (.slice none 0 0)).setCell ⟨s + 1, 3, none⟩ (.slice none 0 0) := ⟨_, rfl⟩
        rw [← hWF]
        obtain ⟨f0, f1, f2, f3, hF⟩ := set4_at k0 k1 k2 k3 _ _ _ _ WF hWF
        obtain ⟨WA, hWA⟩ : ∃ X, X = WF.alloc (.cells #[.int .i64 0, .int .i64 0, .slice none 0 0, .slice none 0 0] 39) := ⟨_, rfl⟩
        rw [← hWA]
        have GA : Grew WF WA := by rw [hWA]; exact (Grew.refl WF).alloc _ _
        have hU := U2.size
        have hFs := hF.size
        have hB := (but_on (hBw.trans (U2.mono (by omega))) hF (by omega) (by omega)).trans (GA.below.mono (by omega))
        have i0 := GA.cell f0
        have i1 := GA.cell f1
        have i2 := GA.cell f2
        have i3 := GA.cell f3
        clear hWF hWA
        simp [bodyPost, results, Tryz.results7, go_sem, i0, i1, i2, i3]
        exact HR2.out _ hB
      subst hte
      have HF : Hid (Calls Tryz.prog 9 #[.agg #[.int .i64 x, .int .i64 y, .slice a' C.length c', .slice b' m d']] wr fun e w' => Below wr.heap.size wr w' ∧ ∃ a' c' b' d', e = .returned (.tuple #[.agg #[.int .i64 x, .int .i64 y, .slice a' T1.length c', .slice b' m d'], .int .i64 0]) ∧ Bodies w' a' T1 ∧ Joints w' b' J ∧ (∀ z off, a' = some ⟨z, off, none⟩ → wr.heap.size ≤ z) ∧ ∀ z off, b' = some ⟨z, off, none⟩ → wr.heap.size ≤ z) := HF.mono (by
        rintro e w' ⟨h, ⟨_, h2⟩ | ⟨h0, _⟩⟩
        · exact ⟨h, h2⟩
        · exact absurd rfl h0)
      have HU2 : Hid (goE x y J n 0 L = goE x y J (n - (k + 1)) (k + 1) T1) := HYes.out rfl
      have HT1 : Hid (T1.length = C.length) := HK.out rfl
      clear HNo HYes HK HU hf1 hf2 hBd hJt
      go_wp2_with (first
        | (go_at_call 9; go_fit HF.out; rintro e V2 ⟨U2, a2, c2, j2, d2, rfl, hB2, hJ2, g1, g2⟩; (have k0 := (U2.cell (p := ⟨s + 1, 0, none⟩) hw1).trans r0); (have k1 := (U2.cell (p := ⟨s + 1, 1, none⟩) hw1).trans r1); (have k2 := (U2.cell (p := ⟨s + 1, 2, none⟩) hw1).trans r2); (have k3 := (U2.cell (p := ⟨s + 1, 3, none⟩) hw1).trans r3); (have l0 := (U2.cell (p := ⟨s, 0, none⟩) hw0).trans b0); (have l1 := (U2.cell (p := ⟨s, 1, none⟩) hw0).trans b1); (have l2 := (U2.cell (p := ⟨s, 2, none⟩) hw0).trans b2); (have l3 := (U2.cell (p := ⟨s, 3, none⟩) hw0).trans b3); (have z0 := (U2.frozen (p := ⟨s + 1, 0, none⟩) hw1).trans (HZ.out (s + 1) 0 (by omega))); (have z1 := (U2.frozen (p := ⟨s + 1, 1, none⟩) hw1).trans (HZ.out (s + 1) 1 (by omega))); (have z2 := (U2.frozen (p := ⟨s + 1, 2, none⟩) hw1).trans (HZ.out (s + 1) 2 (by omega))); (have z3 := (U2.frozen (p := ⟨s + 1, 3, none⟩) hw1).trans (HZ.out (s + 1) 3 (by omega))); (have y0 := (U2.frozen (p := ⟨s, 0, none⟩) hw0).trans (HZ.out (s) 0 (by omega))); (have y1 := (U2.frozen (p := ⟨s, 1, none⟩) hw0).trans (HZ.out (s) 1 (by omega))); (have y2 := (U2.frozen (p := ⟨s, 2, none⟩) hw0).trans (HZ.out (s) 2 (by omega))); (have y3 := (U2.frozen (p := ⟨s, 3, none⟩) hw0).trans (HZ.out (s) 3 (by omega))); (have hv0 : s < V2.heap.size := Nat.lt_of_lt_of_le hw0 U2.size); (have hv1 : s + 1 < V2.heap.size := Nat.lt_of_lt_of_le hw1 U2.size))
        | fail)
      obtain ⟨WF, hWF⟩ : ∃ X, X = (((V2.setCell ⟨s, 0, none⟩ (.int .i64 x)).setCell ⟨s, 1, none⟩ (.int .i64 y)).setCell ⟨s, 2, none⟩ (.slice a2 T1.length c2)).setCell ⟨s, 3, none⟩ (.slice j2 m d2) := ⟨_, rfl⟩
      rw [← hWF]
      obtain ⟨f0, f1, f2, f3, hF⟩ := set4_at l0 l1 l2 l3 _ _ _ _ WF hWF
      obtain ⟨WA, hWA⟩ : ∃ X, X = WF.alloc (.cells #[.int .i64 x, .int .i64 y, .slice a2 T1.length c2, .slice j2 m d2] 39) := ⟨_, rfl⟩
      rw [← hWA]
      have GA : Grew WF WA := by rw [hWA]; exact (Grew.refl WF).alloc _ _
      have hU := U2.size
      have hFs := hF.size
      have hB := (but_on (hBw.trans (U2.mono (by omega))) hF (by omega) (by omega)).trans (GA.below.mono (by omega))
      refine ⟨⟨k + 1, T1, a2, c2, j2, d2, by omega, rfl, by have := HT1.out; omega, ⟨GA.cell f0, GA.cell f1, GA.cell f2, GA.cell f3⟩, ?_, ?_, ?_, ?_, ?_, ?_, hB, HU2.out⟩, ?_⟩
      · have := (W4.mk k0 k1 k2 k3).but hF (by omega)
        exact this.heap (GA.heap this.size)
      · exact (hB2.far hF (fun z off e _ => by have := g1 z off e; omega)).grew GA
      · exact (hJ2.far hF (fun z off e _ => by have := g2 z off e; omega)).grew GA
      · exact fun z off e _ => by have := g1 z off e; omega
      · exact fun z off e _ => by have := g2 z off e; omega
      · intro i o h
        rw [GA.grown.2.1, hWF]
        simp only [World.frozen?_setCell]
        rcases h with rfl | rfl
        · exact (U2.frozen (p := ⟨_, o, none⟩) hw0).trans (HZ.out _ o (by omega))
        · exact (U2.frozen (p := ⟨_, o, none⟩) hw1).trans (HZ.out _ o (by omega))
      · simp [intOf]; omega
    · have hi : ¬ (k : Int) < (n : Int) := by omega
      obtain rfl : k = n := by omega
      have hE : goE x y J k 0 L = ((C, 0), 0) := by rw [HU.out, Nat.sub_self]; rfl
      have HR2 : Hid (∀ W a'' c'' b'' d'', Below s w W → Bodies W a'' C → Joints W b'' J → (∀ z off, a'' = some ⟨z, off, none⟩ → C ≠ [] → s ≤ z) → (∀ z off, b'' = some ⟨z, off, none⟩ → J ≠ [] → s ≤ z) → R (.returned (.tuple #[.agg #[.int .i64 x, .int .i64 y, .slice a'' C.length c'', .slice b'' m d''], .int .i64 0, .int .i64 0])) W) := fun W a'' c'' b'' d'' h1 h2 h3 h4 h5 => HRR.out _ _ ⟨by rw [hs]; exact h1, .inl ⟨by rw [hE], by rw [hE], a'', c'', b'', d'', by rw [hE, em]; rfl, by rw [hE]; exact h2, h3, by rw [hE, hs]; exact h4, by rw [hs]; exact h5⟩⟩
      clear HRR HU hE HSt HKp
      have z0 := HZ.out (s + 1) 0 (by omega)
      have z1 := HZ.out (s + 1) 1 (by omega)
      have z2 := HZ.out (s + 1) 2 (by omega)
      have z3 := HZ.out (s + 1) 3 (by omega)
      go_wp2_with (fail)
      obtain ⟨WF, hWF⟩ : ∃ X, X = (((wr.setCell ⟨s + 1, 0, none⟩ (.int .i64 x)).setCell ⟨s + 1, 1, none⟩ (.int .i64 y)).setCell ⟨s + 1, 2, none⟩ (.slice a' C.length c')).setCell ⟨s + 1, 3, none⟩ (.slice b' m d') := ⟨_, rfl⟩
      rw [← hWF]
      obtain ⟨f0, f1, f2, f3, hF⟩ := set4_at r0 r1 r2 r3 _ _ _ _ WF hWF
      have hB := but_on hBw hF (by omega) (by omega)
      clear hWF z0 z1 z2 z3
      simp [bodyPost, results, Tryz.results7, go_sem, f0, f1, f2, f3]
      exact HR2.out _ _ _ _ _ hB (hBd.far hF (fun z off e h => by have := hf1.out z off e h; omega)) (hJt.far hF (fun z off e h => by have := hf2.out z off e h; omega)) (fun z off e h => (hf1.out z off e h).2 (by omega)) (fun z off e h => (hf2.out z off e h).2 (by omega))
end Go.Proofs.YtcoooehcgbohgaaGreat

namespace Go.Proofs.YtcoooehcgbohgaaGreat
open Go Go.RowKit

theorem sumE_drop {L : List Bd} {k : Nat} (h : k < L.length) (x y : Int) : sumE (L.drop k) x y = if (two (addR x (bd L k).u) (addR y (bd L k).v)).2.2 = 0 then sumE (L.drop (k + 1)) (two (addR x (bd L k).u) (addR y (bd L k).v)).1 (two (addR x (bd L k).u) (addR y (bd L k).v)).2.1 else (0, 0, (two (addR x (bd L k).u) (addR y (bd L k).v)).2.2) := by
  have e : L.drop k = bd L k :: L.drop (k + 1) := by
    rw [List.drop_eq_getElem_cons h]
    simp [bd, List.getD, h]
  rw [e]; rfl

set_option maxRecDepth 10000 in
set_option maxHeartbeats 4000000 in
theorem sumc_any (L : List Bd) (a : Option Addr) (c t q : Nat) (x y : Int) (b : Option Addr) (m d : Nat) (w : World) (hq : W4 w q x y a L.length c b m d) (hL : Bodies w a L) (hn : L.length ≤ 500) (hLt : ∀ z off, a = some ⟨z, off, none⟩ → L ≠ [] → z ≠ t) (ht : At w t 0 0) (hz : Free w t) :
    Calls Tryz.prog 28 #[.pointer (some ⟨q, 0, none⟩), .pointer (some ⟨t, 0, none⟩)] w fun e w' => But (fun n => n = t) w w' ∧ ∃ k, (e = .returned (.tuple #[]) ∧ k = 0 ∨ e = .panicked [fault k]) ∧ k = (sumE L 0 0).2.2 ∧ (k = 0 → At w' t (sumE L 0 0).1 (sumE L 0 0).2.1) := by
  obtain ⟨c0, c1, c2, c3⟩ := hq
  go_enter Tryz.func28, Tryz.ntmps28
  go_wp2_with (fail)
  go_loopw [7] (fun i wr => ∃ (k : Nat) (p r : Int), k ≤ L.length ∧ i = .int .i64 k ∧ inF p ∧ inF r ∧ At wr t p r ∧ Hid (Free wr t) ∧ Hid (sumE L 0 0 = sumE (L.drop k) p r) ∧ But (fun n => n = t) w wr) (fun i _ => L.length - (intOf i).toNat)
  case atStart => exact ⟨0, 0, 0, by omega, rfl, inF0, inF0, ht, hz, rfl, But.refl _ _⟩
  case round =>
    obtain ⟨k, p, r, hk, rfl, hp, hr, ha, HZ, HU, hW⟩ := hrel
    clear ht hz
    by_cases hlt : k < L.length
    · have hi : (k : Int) < (L.length : Int) := by omega
      have hne : L ≠ [] := fun e => by rw [e] at hlt; simp at hlt
      have hLw := hL.far hW (fun z off e h => hLt z off e h)
      obtain ⟨jb, off, rfl, hc⟩ := hLw.block hlt
      have ho := hL.ok _ (bd_mem hlt)
      have HS := sumE_drop hlt p r
      obtain ⟨B, eB⟩ : ∃ B, bd L k = B := ⟨_, rfl⟩
      rw [eB] at hc ho HS
      have C1 : Hid (∀ W, _) := fun W => waysV_of (t := two (addR p B.u) (addR r B.v)) (vadd_any p r B.u B.v W hp hr ho.u ho.v)
      have hin : inF (two (addR p B.u) (addR r B.v)).1 ∧ inF (two (addR p B.u) (addR r B.v)).2.1 := two_in (addR_in _ _) (addR_in _ _)
      generalize two (addR p B.u) (addR r B.v) = T at *
      have HS : Hid (sumE L 0 0 = if T.2.2 = 0 then sumE (L.drop (k + 1)) T.1 T.2.1 else (0, 0, T.2.2)) := HU.out.trans HS
      have HI : Hid (inF T.1 ∧ inF T.2.1) := hin
      unfold vec at C1
      have hbt := hc.size
      have hta := ha.size
      obtain ⟨b0, b1, b2, b3, b4, b5, b6, b7⟩ := hc
      obtain ⟨a0, a1⟩ := ha
      have HL : Hid (Bodies w (some ⟨jb, off, none⟩) L) := hL
      clear hLw HU hin ho hp hr eB hL hLt
      go_upto_region 3 with (fail)
      obtain ⟨V, hV⟩ : ∃ X, X = wr.alloc (.cells #[.int .i64 B.s, .int .i64 B.a, .int .i64 B.b, .int .i64 B.m, .int .i64 B.p, .int .i64 B.q, .int .i64 B.u, .int .i64 B.v] 28) := ⟨_, rfl⟩
      rw [← hV]
      have GV : Grew wr V := by rw [hV]; exact (Grew.refl wr).alloc _ _
      obtain ⟨s, hs⟩ : ∃ s, wr.heap.size = s := ⟨_, rfl⟩
      have d6 : V.cell? ⟨s, 6, none⟩ = some (.int .i64 B.u) := by rw [hV, ← hs]; simp [go_sem]
      have d7 : V.cell? ⟨s, 7, none⟩ = some (.int .i64 B.v) := by rw [hV, ← hs]; simp [go_sem]
      have e0 := GV.cell a0
      have e1 := GV.cell a1
      rw [hs]
      clear hV hs b0 b1 b2 b3 b4 b5 b6 b7
      go_wp2_with (first
        | (go_at_call 29; go_fit (C1.out _); rintro e V1 ⟨(⟨rfl, h1⟩ | ⟨rfl, h1⟩), U1⟩; (have f0 := U1.cell e0); (have f1 := U1.cell e1); (have z0 := U1.frozen (GV.frozen (HZ.out 0 none))); (have z1 := U1.frozen (GV.frozen (HZ.out 1 none)))))
      · refine ⟨⟨k + 1, T.1, T.2.1, by omega, rfl, HI.out.1, HI.out.2, at_set _ _ _ _ _ _ ⟨f0, f1⟩, fun o sp => by rw [World.frozen?_setCell, World.frozen?_setCell]; exact U1.frozen (GV.frozen (HZ.out o sp)), ?_, ((hW.trans (GV.trans U1).but).set rfl _ _ _).set rfl _ _ _⟩, ?_⟩
        · show _ = _
          rw [HS.out, if_pos h1.out]
        · simp [intOf]; omega
      · exact ⟨rfl, hW.trans (GV.trans U1).but, _, .inr rfl, by rw [HS.out, if_neg h1.out], fun e => absurd e h1.out⟩
    · have hi : ¬ (k : Int) < (L.length : Int) := by omega
      obtain rfl : k = L.length := by omega
      have hE : Hid (sumE L 0 0 = (p, r, 0)) := by show _ = _; rw [HU.out, List.drop_eq_nil_of_le (Nat.le_refl _)]; rfl
      clear HU
      go_wp2_with (fail)
      go_end0
      exact ⟨hW, 0, .inl ⟨rfl, rfl⟩, by rw [hE.out], fun _ => by rw [hE.out]; exact ha⟩

theorem sumE_bad : ∀ (L : List Bd) (x y : Int), ¬ (sumE L x y).2.2 = 0 → (sumE L x y).1 = 0 ∧ (sumE L x y).2.1 = 0
  | [], _, _, h => absurd rfl h
  | B :: L, x, y, h => by
    unfold sumE at *
    split
    · rename_i g; rw [if_pos g] at h; exact sumE_bad L _ _ h
    · exact ⟨rfl, rfl⟩

set_option maxRecDepth 10000 in
set_option maxHeartbeats 4000000 in
theorem momentum_any (x y : Int) (L : List Bd) (a : Option Addr) (c : Nat) (b : Option Addr) (m d : Nat) (w : World) (hL : Bodies w a L) (hn : L.length ≤ 500) :
    Calls Tryz.prog 10 #[worldV x y a L.length c b m d] w fun e w' => e = .returned (.tuple #[vec (sumE L 0 0).1 (sumE L 0 0).2.1, .int .i64 (sumE L 0 0).2.2]) ∧ Below w.heap.size w w' := by
  suffices H : ∀ R : Ending → World → Prop, (∀ w', Below w.heap.size w w' → R (.returned (.tuple #[vec (sumE L 0 0).1 (sumE L 0 0).2.1, .int .i64 (sumE L 0 0).2.2])) w') → Calls Tryz.prog 10 #[worldV x y a L.length c b m d] w R from H _ (fun _ h => ⟨rfl, h⟩)
  intro R hR
  have HRR : Hid (∀ w', Below w.heap.size w w' → R (.returned (.tuple #[vec (sumE L 0 0).1 (sumE L 0 0).2.1, .int .i64 (sumE L 0 0).2.2])) w') := hR
  have hmf := mk_func
  have hin := hL.in'
  obtain ⟨V, hV⟩ : ∃ V, V = ((w.alloc (.cells #[.int .i64 x, .int .i64 y, .slice a L.length c, .slice b m d] 39)).alloc (.cells #[.int .i64 0, .int .i64 0] 26)).alloc (.cells #[.int .i64 0, .int .i64 0] 26) := ⟨_, rfl⟩
  obtain ⟨s, hs⟩ : ∃ s, w.heap.size = s := ⟨_, rfl⟩
  have GV : Grew w V := by rw [hV]; exact (((Grew.refl w).alloc _ _).alloc _ _).alloc _ _
  have hVs : V.heap.size = s + 1 + 1 + 1 := by rw [hV, ← hs]; simp
  have hb : W4 V s x y a L.length c b m d := by rw [hV, ← hs]; constructor <;> simp [go_sem]
  have hr : At V (s + 1) 0 0 := by rw [hV, ← hs]; constructor <;> simp [go_sem]
  have ht : At V (s + 1 + 1) 0 0 := by rw [hV, ← hs]; constructor <;> simp [go_sem]
  have hzr : ∀ i, s ≤ i → Free V i := fun i h => GV.freeB (by omega)
  have hL1 := hL.grew GV
  have HT : Hid (Calls Tryz.prog 24 #[.func (.func 28) #[] #[.pointer (some ⟨s, 0, none⟩), .pointer (some ⟨s + 1 + 1, 0, none⟩)]] V fun e w' => But (fun n => n = s + 1 + 1) V w' ∧ ∃ k, e = .returned (.int .i64 k) ∧ k = (sumE L 0 0).2.2 ∧ (k = 0 → At w' (s + 1 + 1) (sumE L 0 0).1 (sumE L 0 0).2.1)) :=
    try_but (S := fun n => n = s + 1 + 1) (P := fun k W => k = (sumE L 0 0).2.2 ∧ (k = 0 → At W (s + 1 + 1) (sumE L 0 0).1 (sumE L 0 0).2.1)) _ _ _ (fun _ => by simp [go_sem]) (fun n hn => by omega) (fun k W W' hh h => ⟨h.1, fun e => (h.2 e).heap (hh _ (by omega))⟩) (fun W0 G =>
      sumc_any L a c (s + 1 + 1) s x y b m d W0 (hb.heap (G.heap hb.size)) (hL1.grew G) hn (fun z off e h => by have := hin z off e h; omega) (ht.grew G) ((hzr _ (by omega)).grew G))
  have HBad := sumE_bad L 0 0
  have HV : Hid (V = _) := hV
  have hB : Hid (Below w.heap.size w V) := GV.below
  have hr1 := hr.size
  obtain ⟨r0, r1⟩ := hr
  have y0 := hzr (s + 1) (by omega) 0 none
  have y1 := hzr (s + 1) (by omega) 1 none
  clear hR hL hL1 hzr hb ht GV hin hV
  generalize sumE L 0 0 = T at *
  unfold worldV
  unfold vec at HRR
  go_enter Tryz.func10, Tryz.ntmps10
  go_upto_region 2 with (fail)
  rw [← HV.out]
  clear HV
  obtain ⟨T1, T2, te⟩ := T
  simp only at HT HBad HRR
  by_cases hte : te = 0
  · subst hte
    go_wp2_with (first
      | (go_at_call 24; go_fit HT.out; rintro e V2 ⟨U2, k, rfl, rfl, hk⟩; (have ⟨t0, t1⟩ : At V2 (s + 1 + 1) T1 T2 := hk rfl); (have k0 := U2.cell r0 (by simp)); (have k1 := U2.cell r1 (by simp)); (have z0 := U2.frozen (p := ⟨s + 1, 0, none⟩) hr1 (by simp) y0); (have z1 := U2.frozen (p := ⟨s + 1, 1, none⟩) hr1 (by simp) y1)))
    have hU := U2.size
    have hW : Below w.heap.size w V2 := hB.out.trans (U2.below (fun n e => by omega) (by omega))
    simp [bodyPost, results, Tryz.results10, go_sem, k0, k1]
    exact HRR.out _ ((hW.setCell (p := ⟨s + 1, 0, none⟩) (by simp; omega) _).setCell (p := ⟨s + 1, 1, none⟩) (by simp; omega) _)
  · obtain ⟨rfl, rfl⟩ := HBad hte
    go_wp2_with (first
      | (go_at_call 24; go_fit HT.out; rintro e V2 ⟨U2, k, rfl, rfl, _⟩; (have k0 := U2.cell r0 (by simp)); (have k1 := U2.cell r1 (by simp)); (have z0 := U2.frozen (p := ⟨s + 1, 0, none⟩) hr1 (by simp) y0); (have z1 := U2.frozen (p := ⟨s + 1, 1, none⟩) hr1 (by simp) y1)))
    have hU := U2.size
    have hW : Below w.heap.size w V2 := hB.out.trans (U2.below (fun n e => by omega) (by omega))
    simp [bodyPost, results, Tryz.results10, go_sem, k0, k1]
    exact HRR.out _ ((hW.setCell (p := ⟨s + 1, 0, none⟩) (by simp; omega) _).setCell (p := ⟨s + 1, 1, none⟩) (by simp; omega) _)
end Go.Proofs.YtcoooehcgbohgaaGreat

namespace Go.Proofs.YtcoooehcgbohgaaGreat
open Go Go.RowKit

def alS : Bd := ⟨1, 4294967296, 0, 4294967296, 0, 0, 4294967296, 0⟩
theorem alS_ok : alS.ok := by constructor <;> exact ⟨by decide, by decide⟩
theorem alS_step : stepE 0 0 [] [alS] = ([⟨1, 4294967296, 0, 4294967296, 67108864, 0, 4294967296, 0⟩], 0) := by kernel_rfl
theorem alS_sum : sumE [⟨1, 4294967296, 0, 4294967296, 67108864, 0, 4294967296, 0⟩] 0 0 = (4294967296, 0, 0) := by kernel_rfl
theorem bodies_one {B : Bd} (h : B.ok) (w : World) : Bodies (w.alloc (.cells #[.int .i64 B.s, .int .i64 B.a, .int .i64 B.b, .int .i64 B.m, .int .i64 B.p, .int .i64 B.q, .int .i64 B.u, .int .i64 B.v] 28)) (some ⟨w.heap.size, 0, none⟩) [B] := by
  refine ⟨fun z hz => by rw [List.mem_singleton.1 hz]; exact h, .inr ⟨w.heap.size, 0, rfl, fun i hi => ?_⟩⟩
  obtain rfl : i = 0 := by simpa using hi
  show BatO _ _ 0 B
  constructor <;> simp [go_sem]
theorem joints_none (w : World) (a : Option Addr) : Joints w a [] := ⟨fun z hz => (by cases hz), .inl rfl⟩
/-- A body laid in a list behind one block more. -/
theorem bodies_two {B : Bd} (h : B.ok) (w : World) (c : Array Value) (t : TypeId) : Bodies ((w.alloc (.cells c t)).alloc (.cells #[.int .i64 B.s, .int .i64 B.a, .int .i64 B.b, .int .i64 B.m, .int .i64 B.p, .int .i64 B.q, .int .i64 B.u, .int .i64 B.v] 28)) (some ⟨w.heap.size + 1, 0, none⟩) [B] := by
  have := bodies_one h (w.alloc (.cells c t))
  rw [show (w.alloc (.cells c t)).heap.size = w.heap.size + 1 by simp] at this
  exact this
theorem below_alloc {B : Nat} {w V : World} (h : Below B w V) (hB : B ≤ V.heap.size) (o : Obj) : Below B w (V.alloc o) := Go.RowKit.Below.alloc h hB o

theorem onto {a b c : World} (h : Below a.heap.size a b) (g : Below b.heap.size b c) : Below a.heap.size a c := h.trans (g.mono h.size)
theorem onto_alloc {a b : World} (h : Below a.heap.size a b) (o : Obj) : Below a.heap.size a (b.alloc o) := below_alloc h h.size o

set_option maxRecDepth 10000 in
set_option maxHeartbeats 2000000 in
theorem alive_any (w : World) :
    Calls Tryz.prog 4 #[] w fun e w' => e = .returned (.bool true) ∧ Below w.heap.size w w' := by
  have HS : Hid (∀ q W, Bodies W (some ⟨q, 0, none⟩) [alS] → Calls Tryz.prog 9 #[.agg #[.int .i64 0, .int .i64 0, .slice (some ⟨q, 0, none⟩) 1 1, .slice none 0 0]] W fun e w' => Below W.heap.size W w' ∧ ∃ a' c' b' d', e = .returned (.tuple #[.agg #[.int .i64 0, .int .i64 0, .slice a' 1 c', .slice b' 0 d'], .int .i64 0]) ∧ Bodies w' a' [⟨1, 4294967296, 0, 4294967296, 67108864, 0, 4294967296, 0⟩]) := fun q W h => by
    have := step_any 0 0 inF0 inF0 [alS] [] (some ⟨q, 0, none⟩) 1 none 0 W h (joints_none W _) (by simp) (by simp)
    unfold StepTo worldV at this
    rw [alS_step] at this
    refine this.mono ?_
    rintro e w' ⟨h1, ⟨_, a', c', b', d', rfl, h2, _⟩ | ⟨h0, _⟩⟩
    · exact ⟨h1, a', c', b', d', rfl, h2⟩
    · exact absurd rfl h0
  have HM : Hid (∀ a c b d W, Bodies W a [⟨1, 4294967296, 0, 4294967296, 67108864, 0, 4294967296, 0⟩] → Calls Tryz.prog 10 #[.agg #[.int .i64 0, .int .i64 0, .slice a 1 c, .slice b 0 d]] W fun e w' => e = .returned (.tuple #[.agg #[.int .i64 4294967296, .int .i64 0], .int .i64 0]) ∧ Below W.heap.size W w') := fun a c b d W h => by
    have := momentum_any 0 0 _ a c b 0 d W h (by simp)
    rw [alS_sum] at this
    exact this
  have HB0 : Hid (∀ c, Bodies ((w.alloc (.cells c 28)).alloc (.cells #[.int .i64 1, .int .i64 4294967296, .int .i64 0, .int .i64 4294967296, .int .i64 0, .int .i64 0, .int .i64 4294967296, .int .i64 0] 28)) (some ⟨w.heap.size + 1, 0, none⟩) [alS]) := fun c => bodies_two alS_ok w c _
  go_enter Tryz.func4, Tryz.ntmps4
  go_wp2_with (first
    | (go_at_call 9; go_fit (HS.out _ _ (HB0.out _)); rintro e V ⟨U, a2, c2, b2, d2, rfl, hB⟩; (have hB2 := hB.below (below_alloc (Below.refl _ V) (Nat.le_refl _) (.cells #[.int .i64 0, .int .i64 0, .slice a2 1 c2, .slice b2 0 d2] 39))); obtain ⟨z, off, rfl, hc⟩ := hB.block (i := 0) (by simp))
    | (go_at_call 10; go_fit (HM.out _ _ _ _ _ hB2); rintro e V2 ⟨rfl, U2⟩; (have hv : V.heap.size < V2.heap.size := by (have h9 := U2.size; simp at h9; omega)); (have hcv : V2.cell? ⟨V.heap.size, 2, none⟩ = some (.slice (some ⟨z, off, none⟩) 1 c2) := (U2.cell (by simp)).trans (by simp [go_sem])); obtain ⟨z2, off2, e2, hc2⟩ := (hB2.below U2).block (i := 0) (by simp); cases e2; (have hz2 := hc2.size); (have hc4 : V2.cell? ⟨z, off + 4, none⟩ = some (.int .i64 67108864) := by (have h9 := hc2.c4; simpa [bd] using h9))))
  go_ret
  exact ⟨rfl, onto_alloc (onto (onto_alloc (onto (onto_alloc (onto_alloc (Below.refl _ _) _) _) U) _) U2) _⟩
end Go.Proofs.YtcoooehcgbohgaaGreat

namespace Go.Proofs.YtcoooehcgbohgaaGreat
open Go Go.RowKit

theorem roundE_none (L : List Bd) : roundE [] L = (L, 0) := rfl
theorem fallsE_one {x y : Int} {B B1 : Bd} (h : fallB x y B = (B1, 0)) : fallsE x y [B] = ([B1], 0) := by
  have e : fallE x y 0 [B] = ([B1], 0) := by
    show putE [B] 0 (fallB x y B) = _
    rw [h]; rfl
  show (if (fallE x y 0 [B]).2 = 0 then upE (fallE x y) 0 1 (fallE x y 0 [B]).1 else ([], (fallE x y 0 [B]).2)) = _
  rw [e]; rfl
theorem movesE_one {B B1 : Bd} (h : moveB B = (B1, 0)) : movesE [B] = ([B1], 0) := by
  have e : moveE 0 [B] = ([B1], 0) := by
    show putE [B] 0 (moveB B) = _
    rw [h]; rfl
  show (if (moveE 0 [B]).2 = 0 then upE moveE 0 1 (moveE 0 [B]).1 else ([], (moveE 0 [B]).2)) = _
  rw [e]; rfl
theorem bounceE_one {B : Bd} (h : (boxR B).2 = 0) : bounceE [B] = ([B], 0) := by
  have e : boxE [B] = ([(boxR B).1], 0) := by
    show (if (boxR B).2 = 0 then _ else _) = _
    rw [if_pos h]; rfl
  unfold bounceE
  rw [e]; rfl
theorem rightW_one {x y : Int} {B : Bd} (h : rightB B = true) (hx : -4294967296000 ≤ x ∧ x ≤ 4294967296000) (hy : -4294967296000 ≤ y ∧ y ≤ 4294967296000) : rightW x y [B] [] = true :=
  rightW_iff.2 ⟨by rw [List.all_cons, h]; rfl, rfl, decide_eq_true hx, decide_eq_true hy⟩
theorem step_one {x y : Int} {B B1 B2 : Bd} (h0 : rightB B = true) (hx : -4294967296000 ≤ x ∧ x ≤ 4294967296000) (hy : -4294967296000 ≤ y ∧ y ≤ 4294967296000) (h1 : fallB x y B = (B1, 0)) (h2 : (boxR B1).2 = 0) (h3 : moveB B1 = (B2, 0)) (h4 : rightB B2 = true) : stepE x y [] [B] = ([B2], 0) := by
  have ha : advE x y [] [B] = ([B2], 0) := by
    unfold advE
    rw [fallsE_one h1, thenE_ok rfl, roundE_none, thenE_ok rfl, bounceE_one h2, thenE_ok rfl, movesE_one h3]
  unfold stepE
  rw [if_pos (rightW_one h0 hx hy), ha, thenE_ok rfl]
  unfold endE
  rw [if_pos (by rw [List.all_cons, h4]; rfl)]
/-- Step by step. -/
theorem go_each {x y : Int} {J : List Jt} {F : Nat → List Bd} {n : Nat} (h : ∀ k, k < n → stepE x y J (F k) = (F (k + 1), 0)) : ∀ m k, k + m ≤ n → goE x y J m k (F k) = ((F (k + m), 0), 0)
  | 0, _, _ => rfl
  | m + 1, k, hk => by
    have h1 := h k (by omega)
    unfold goE
    rw [h1, if_pos rfl]
    have := go_each h m (k + 1) (by omega)
    rw [show k + 1 + m = k + (m + 1) by omega] at this
    exact this
theorem run_each {x y : Int} {J : List Jt} {F : Nat → List Bd} {n : Nat} (hn : n ≤ 200) (hr : rightW x y (F 0) J = true) (h : ∀ k, k < n → stepE x y J (F k) = (F (k + 1), 0)) : runE x y J (F 0) n = ((F n, 0), 0) := by
  unfold runE
  rw [if_neg (by omega)]
  by_cases h0 : n = 0
  · subst h0
    rw [if_pos (by rfl), if_pos hr]
  · rw [if_neg (by omega), Int.toNat_natCast]
    have := go_each h n 0 (by omega)
    rw [Nat.zero_add] at this
    exact this

theorem addR_is {a b : Int} (h : inF (a + b)) : addR a b = (a + b, 0) := inR_ok h
theorem partR_is (a : Int) : partR (a * 64) 64 = (a, 0) := by
  unfold partR
  rw [if_neg (by decide), if_neg (by omega), Int.mul_tdiv_cancel _ (by decide)]
theorem shareV_is (a b : Int) : shareV (a * 64, b * 64, 0) = (a, b, 0) := by
  unfold shareV
  rw [ifV_ok rfl]
  simp only
  rw [partR_is, partR_is]; rfl
theorem mulR_zl (a : Int) : mulR 0 a = (0, 0) := by rw [mulR_comm]; exact mulR_zero a
/-- Gravity of nothing gives nothing. -/
theorem fall_none {B : Bd} (h : B.ok) : fallB 0 0 B = (B, 0) := by
  unfold fallB
  by_cases hm : B.m = 0
  · rw [if_pos hm]
  · rw [if_neg hm]
    have e : gainV 0 0 B.m = (0, 0, 0) := by
      unfold gainV scaleV
      rw [mulR_zl]; rfl
    unfold fallV
    rw [e, ifV_ok rfl]
    simp only
    rw [addR_zero h.u, addR_zero h.v]; rfl
theorem box_ok {B : Bd} (hp : -1125899906842624 ≤ B.p ∧ B.p ≤ 1125899906842624) (hq : -1125899906842624 ≤ B.q ∧ B.q ≤ 1125899906842624) (ha : 0 ≤ B.a ∧ B.a ≤ 4294967296000) (hb : 0 ≤ B.b ∧ B.b ≤ 4294967296000) : (boxR B).2 = 0 := by
  have hr : 0 ≤ reachY B ∧ reachY B ≤ 4294967296000 := by unfold reachY; split <;> assumption
  unfold boxR
  rw [sOk (by omega), sOk (by omega), aOk (by omega), aOk (by omega)]; rfl

/-! ### What goes alone -/
def alone (x y : Int) (k : Nat) : Bd := ⟨2, 4294967296, 4294967296, 8589934592, x * k * 67108864, y * k * 67108864, 2 * (x * 4294967296), 2 * (y * 4294967296)⟩
theorem mul_small {x : Int} {k : Nat} (hx : -100 ≤ x ∧ x ≤ 100) (hk : k ≤ 51) : -5100 ≤ x * k ∧ x * k ≤ 5100 := by
  have h1 : x * k ≤ 100 * k := Int.mul_le_mul_of_nonneg_right hx.2 (by omega)
  have h2 : -100 * (k : Int) ≤ x * k := Int.mul_le_mul_of_nonneg_right hx.1 (by omega)
  omega
theorem alone_ok {x y : Int} {k : Nat} (hx : -100 ≤ x ∧ x ≤ 100) (hy : -100 ≤ y ∧ y ≤ 100) (hk : k ≤ 51) : (alone x y k).ok := by
  have := mul_small hx hk
  have := mul_small hy hk
  constructor <;> simp only [alone] <;> exact ⟨by omega, by omega⟩
theorem alone_right {x y : Int} {k : Nat} (hx : -100 ≤ x ∧ x ≤ 100) (hy : -100 ≤ y ∧ y ≤ 100) (hk : k ≤ 51) : rightB (alone x y k) = true := by
  have := mul_small hx hk
  have := mul_small hy hk
  rw [rightB_iff]
  simp only [alone]
  refine ⟨.inr ⟨by trivial, by decide, by decide⟩, by decide, by decide, .inr ⟨by decide, by decide⟩, ?_, ?_, ?_, ?_, ?_, ?_, ?_, ?_⟩ <;> omega
theorem div_two {y : Int} (h : inF y) : divR (2 * y) 8589934592 = (y, 0) := by
  unfold divR
  rw [if_neg (by decide)]
  have e : divM (2 * y) 8589934592 = ab y := by
    unfold divM
    rw [show ab (8589934592 : Int) = 8589934592 by decide, show ab (2 * y) = 2 * ab y by have := ab_of y; have := ab_of (2 * y); omega]
    omega
  rw [e]
  have hs : sgn (2 * y) 8589934592 = decide (y < 0) := by
    unfold sgn
    rw [show decide ((8589934592 : Int) < 0) = false by decide]
    by_cases hy : y < 0
    · rw [decide_eq_true hy, decide_eq_true (by omega)]; rfl
    · rw [decide_eq_false hy, decide_eq_false (by omega)]; rfl
  rw [hs]
  unfold sgR
  unfold inF at h
  by_cases hy : y < 0
  · rw [decide_eq_true hy, if_pos rfl, if_pos (by have := ab_of y; omega)]
    have := ab_of y
    exact Prod.ext (by show -ab y = y; omega) rfl
  · rw [decide_eq_false hy, if_neg (by decide), if_pos (by have := ab_of y; omega)]
    have := ab_of y
    exact Prod.ext (by show ab y = y; omega) rfl
theorem alone_move {x y : Int} {k : Nat} (hx : -100 ≤ x ∧ x ≤ 100) (hy : -100 ≤ y ∧ y ≤ 100) (hk : k ≤ 50) : moveB (alone x y k) = (alone x y (k + 1), 0) := by
  have b1 := mul_small hx (show k ≤ 51 by omega)
  have b2 := mul_small hy (show k ≤ 51 by omega)
  have hs : speedR (alone x y k) = (x * 67108864 * 64, y * 67108864 * 64, 0) := by
    unfold speedR
    rw [if_neg (by simp only [alone]; decide)]
    simp only [alone]
    rw [div_two ⟨by omega, by omega⟩, div_two ⟨by omega, by omega⟩]
    show (x * 4294967296, y * 4294967296, (0 : Int)) = _
    rw [Int.mul_assoc, Int.mul_assoc]; rfl
  unfold moveB
  rw [if_neg (by simp only [alone]; decide)]
  unfold moveV
  rw [hs, shareV_is, ifV_ok rfl]
  have e1 : (alone x y k).p + x * 67108864 = x * ((k + 1 : Nat) : Int) * 67108864 := by
    simp only [alone]
    rw [show ((k + 1 : Nat) : Int) = (k : Int) + 1 by omega, Int.mul_add, Int.mul_one, Int.add_mul]
  have e2 : (alone x y k).q + y * 67108864 = y * ((k + 1 : Nat) : Int) * 67108864 := by
    simp only [alone]
    rw [show ((k + 1 : Nat) : Int) = (k : Int) + 1 by omega, Int.mul_add, Int.mul_one, Int.add_mul]
  have c1 := mul_small hx (show k + 1 ≤ 51 by omega)
  have c2 := mul_small hy (show k + 1 ≤ 51 by omega)
  simp only
  rw [addR_is (by rw [e1]; exact ⟨by omega, by omega⟩), addR_is (by rw [e2]; exact ⟨by omega, by omega⟩), e1, e2]
  rfl
theorem alone_step {x y : Int} (hx : -100 ≤ x ∧ x ≤ 100) (hy : -100 ≤ y ∧ y ≤ 100) {k : Nat} (hk : k ≤ 50) : stepE 0 0 [] [alone x y k] = ([alone x y (k + 1)], 0) := by
  have b1 := mul_small hx (show k ≤ 51 by omega)
  have b2 := mul_small hy (show k ≤ 51 by omega)
  refine step_one (alone_right hx hy (by omega)) (by decide) (by decide) (fall_none (alone_ok hx hy (by omega))) (box_ok ?_ ?_ ?_ ?_) (alone_move hx hy hk) (alone_right hx hy (by omega)) <;> simp only [alone] <;> omega
theorem alone_run {x y : Int} (hx : -100 ≤ x ∧ x ≤ 100) (hy : -100 ≤ y ∧ y ≤ 100) {n : Nat} (hn : n ≤ 50) : runE 0 0 [] [alone x y 0] n = (([alone x y n], 0), 0) :=
  run_each (F := fun k => [alone x y k]) (by omega) (rightW_one (alone_right hx hy (by omega)) (by decide) (by decide)) fun k hk => alone_step hx hy (by omega)

/-! ### What falls alone -/
def tri (n : Nat) : Int := match n with | 0 => 0 | n + 1 => tri n + (n + 1 : Nat)
theorem tri_le : ∀ n : Nat, 0 ≤ tri n ∧ tri n ≤ n * 61 ∨ 60 < n
  | 0 => .inl ⟨Int.le_refl _, Int.le_refl _⟩
  | n + 1 => by
    rcases tri_le n with h | h
    · by_cases hn : 60 < n + 1
      · exact .inr hn
      · left
        unfold tri
        omega
    · exact .inr (by omega)
def drop1 (g : Int) (k : Nat) : Bd := ⟨1, 4294967296, 0, 4294967296, 0, g * tri k * 1048576, 0, g * k * 67108864⟩
theorem tri_small {g : Int} {k : Nat} (hg : -100 ≤ g ∧ g ≤ 100) (hk : k ≤ 60) : -366000 ≤ g * tri k ∧ g * tri k ≤ 366000 := by
  have ht : 0 ≤ tri k ∧ tri k ≤ 3660 := by
    rcases tri_le k with h | h <;> omega
  have h1 : g * tri k ≤ 100 * tri k := Int.mul_le_mul_of_nonneg_right hg.2 ht.1
  have h2 : -100 * tri k ≤ g * tri k := Int.mul_le_mul_of_nonneg_right hg.1 ht.1
  omega
theorem mul_small2 {x : Int} {k : Nat} (hx : -100 ≤ x ∧ x ≤ 100) (hk : k ≤ 60) : -6000 ≤ x * k ∧ x * k ≤ 6000 := by
  have h1 : x * k ≤ 100 * k := Int.mul_le_mul_of_nonneg_right hx.2 (by omega)
  have h2 : -100 * (k : Int) ≤ x * k := Int.mul_le_mul_of_nonneg_right hx.1 (by omega)
  omega
theorem drop_ok {g : Int} {k : Nat} (hg : -100 ≤ g ∧ g ≤ 100) (hk : k ≤ 60) : (drop1 g k).ok := by
  have := tri_small hg hk
  have := mul_small2 hg hk
  constructor <;> simp only [drop1] <;> exact ⟨by omega, by omega⟩
theorem drop_right {g : Int} {k : Nat} (hg : -100 ≤ g ∧ g ≤ 100) (hk : k ≤ 60) : rightB (drop1 g k) = true := by
  have := tri_small hg hk
  have := mul_small2 hg hk
  rw [rightB_iff]
  simp only [drop1]
  refine ⟨.inl ⟨by trivial, by trivial⟩, by decide, by decide, .inr ⟨by decide, by decide⟩, ?_, ?_, ?_, ?_, ?_, ?_, ?_, ?_⟩ <;> omega
def dropM (g : Int) (k : Nat) : Bd := ⟨1, 4294967296, 0, 4294967296, 0, g * tri k * 1048576, 0, g * (k + 1 : Nat) * 67108864⟩
theorem drop_fall {g : Int} {k : Nat} (hg : -100 ≤ g ∧ g ≤ 100) (hk : k < 60) : fallB 0 (g * 4294967296) (drop1 g k) = (dropM g k, 0) := by
  have b1 := mul_small2 hg (show k ≤ 60 by omega)
  have b2 := mul_small2 hg (show k + 1 ≤ 60 by omega)
  unfold fallB
  rw [if_neg (by simp only [drop1]; decide)]
  have e : gainV 0 (g * 4294967296) (drop1 g k).m = (0, g * 67108864, 0) := by
    unfold gainV scaleV
    simp only [drop1]
    rw [mulR_zl, mulR_one ⟨by omega, by omega⟩]
    show shareV (0 * 64, g * 4294967296, 0) = _
    rw [show g * 4294967296 = g * 67108864 * 64 by rw [Int.mul_assoc]; rfl, shareV_is]
  unfold fallV
  rw [e, ifV_ok rfl]
  have e2 : (drop1 g k).v + g * 67108864 = g * ((k + 1 : Nat) : Int) * 67108864 := by
    simp only [drop1]
    rw [show ((k + 1 : Nat) : Int) = (k : Int) + 1 by omega, Int.mul_add, Int.mul_one, Int.add_mul]
  simp only
  rw [addR_zero (drop_ok hg (show k ≤ 60 by omega)).u, addR_is (by rw [e2]; exact ⟨by omega, by omega⟩), e2]
  rfl
theorem drop_move {g : Int} {k : Nat} (hg : -100 ≤ g ∧ g ≤ 100) (hk : k < 60) : moveB (dropM g k) = (drop1 g (k + 1), 0) := by
  have b1 := tri_small hg (show k ≤ 60 by omega)
  have b2 := tri_small hg (show k + 1 ≤ 60 by omega)
  have b3 := mul_small2 hg (show k + 1 ≤ 60 by omega)
  have hs : speedR (dropM g k) = (0 * 64, g * ((k + 1 : Nat) : Int) * 1048576 * 64, 0) := by
    unfold speedR
    rw [if_neg (by simp only [dropM]; decide)]
    simp only [dropM]
    rw [divR_one ⟨by omega, by omega⟩, divR_one ⟨by omega, by omega⟩]
    show ((0 : Int), g * ((k + 1 : Nat) : Int) * 67108864, (0 : Int)) = _
    rw [Int.mul_assoc _ 1048576 64]; rfl
  unfold moveB
  rw [if_neg (by simp only [dropM]; decide)]
  unfold moveV
  rw [hs, shareV_is, ifV_ok rfl]
  have e2 : (dropM g k).q + g * ((k + 1 : Nat) : Int) * 1048576 = g * tri (k + 1) * 1048576 := by
    simp only [dropM]
    rw [show tri (k + 1) = tri k + ((k + 1 : Nat) : Int) from rfl, Int.mul_add, Int.add_mul]
  simp only
  rw [addR_zero (show inF (dropM g k).p from inF0), addR_is (by rw [e2]; exact ⟨by omega, by omega⟩), e2]
  rfl
theorem drop_step {g : Int} (hg : -100 ≤ g ∧ g ≤ 100) {k : Nat} (hk : k < 60) : stepE 0 (g * 4294967296) [] [drop1 g k] = ([drop1 g (k + 1)], 0) := by
  have b1 := tri_small hg (show k ≤ 60 by omega)
  refine step_one (drop_right hg (by omega)) (by decide) (by omega) (drop_fall hg hk) (box_ok ?_ ?_ ?_ ?_) (drop_move hg hk) (drop_right hg (by omega)) <;> simp only [dropM] <;> omega
theorem drop_run {g : Int} (hg : -100 ≤ g ∧ g ≤ 100) {n : Nat} (hn : n ≤ 60) : runE 0 (g * 4294967296) [] [drop1 g 0] n = (([drop1 g n], 0), 0) :=
  run_each (F := fun k => [drop1 g k]) (by omega) (rightW_one (drop_right hg (by omega)) (by decide) (by omega)) fun k hk => drop_step hg (by omega)
end Go.Proofs.YtcoooehcgbohgaaGreat

namespace Go.Proofs.YtcoooehcgbohgaaGreat
open Go Go.RowKit

theorem runone_any {x y : Int} (hx : inF x) (hy : inF y) {B Bn : Bd} {N : Int} (h : runE x y [] [B] N = (([Bn], 0), 0)) (q : Nat) (W : World) (hB : Bodies W (some ⟨q, 0, none⟩) [B]) :
    Calls Tryz.prog 7 #[.agg #[.int .i64 x, .int .i64 y, .slice (some ⟨q, 0, none⟩) 1 1, .slice none 0 0], .int .i64 N] W fun e w' => Below W.heap.size W w' ∧ ∃ z off c' b' d', e = .returned (.tuple #[.agg #[.int .i64 x, .int .i64 y, .slice (some ⟨z, off, none⟩) 1 c', .slice b' 0 d'], .int .i64 0, .int .i64 0]) ∧ BatO w' z off Bn := by
  have := run_any x y hx hy [B] [] N (some ⟨q, 0, none⟩) 1 none 0 W hB (joints_none W _) (by simp) (by simp)
  unfold RunTo worldV at this
  rw [h] at this
  refine this.mono ?_
  rintro e w' ⟨h1, ⟨_, _, a', c', b', d', rfl, h2, _⟩ | ⟨h0, _⟩⟩
  · obtain ⟨z, off, rfl, hc⟩ := h2.block (i := 0) (by simp)
    refine ⟨h1, z, off, c', b', d', rfl, ?_⟩
    simpa [bd] using hc
  · exact absurd rfl h0
theorem behind_at (B : Bd) (w : World) (o : Obj) : BAt ((w.alloc (.cells #[.int .i64 B.s, .int .i64 B.a, .int .i64 B.b, .int .i64 B.m, .int .i64 B.p, .int .i64 B.q, .int .i64 B.u, .int .i64 B.v] 28)).alloc o) w.heap.size B := by
  constructor <;> simp [go_sem]
theorem lt_two (w : World) (o p : Obj) : w.heap.size < ((w.alloc o).alloc p).heap.size := by
  have : ((w.alloc o).alloc p).heap.size = w.heap.size + 1 + 1 := by simp
  omega
theorem same_bodyS (A : Bd) (w : World) : (binOp .eql 28 A.val A.val).run Tryz.prog w = .ok (.bool true) w := by
  have hu := run_underlying Tryz.underlying28 w
  have hd : ∀ t x y, Op.equal t x y = Op.equalIn (9997 + 1 + 1 + 1) t x y := fun _ _ _ => rfl
  unfold Bd.val
  simp only [binOp, hd]
  rw [Op.equalIn]
  simp [go_sem, hu]
end Go.Proofs.YtcoooehcgbohgaaGreat
