/-
  What world.rest and world.Run do; nothing that was there is written.
-/
import Derived.Test.YtnkhknmpffcfbaaGreatSStep
import Derived.OwnWalk
namespace Go.Proofs.YtnkhknmpffcfbaaGreat
open Go Go.RowKit

theorem Bodies.far {S : Nat → Prop} {w W : World} {a : Option Addr} {L : List Bd} (h : Bodies w a L) (g : But S w W) (hS : ∀ z off, a = some ⟨z, off, none⟩ → L ≠ [] → ¬ S z) : Bodies W a L := by
  refine ⟨h.ok, ?_⟩
  rcases h.at' with e | ⟨b, off, e, k⟩
  · exact .inl e
  · by_cases hL : L = []
    · exact .inl hL
    · exact .inr ⟨b, off, e, fun i hi => (k i hi).heap (g.block _ (k i hi).size (hS _ _ e hL))⟩
theorem Joints.far {S : Nat → Prop} {w W : World} {a : Option Addr} {J : List Jt} (h : Joints w a J) (g : But S w W) (hS : ∀ z off, a = some ⟨z, off, none⟩ → J ≠ [] → ¬ S z) : Joints W a J := by
  refine ⟨h.ok, ?_⟩
  rcases h.at' with e | ⟨b, off, e, k⟩
  · exact .inl e
  · by_cases hL : J = []
    · exact .inl hL
    · exact .inr ⟨b, off, e, fun i hi => (k i hi).heap (g.block _ (k i hi).size (hS _ _ e hL))⟩
theorem Bodies.in' {w : World} {a : Option Addr} {L : List Bd} (h : Bodies w a L) : ∀ z off, a = some ⟨z, off, none⟩ → L ≠ [] → z < w.heap.size := fun z off e hL => by
  obtain ⟨b, o, e2, k⟩ := h.block (i := 0) (List.length_pos_iff.2 hL)
  rw [e] at e2
  cases e2
  exact k.size
theorem Joints.in' {w : World} {a : Option Addr} {J : List Jt} (h : Joints w a J) : ∀ z off, a = some ⟨z, off, none⟩ → J ≠ [] → z < w.heap.size := fun z off e hL => by
  obtain ⟨b, o, e2, k⟩ := h.block (i := 0) (List.length_pos_iff.2 hL)
  rw [e] at e2
  cases e2
  exact k.size

/-- How a call ends that answers a world, at which step it failed, and the error. -/
def RunTo (x y : Int) (r : (List Bd × Int) × Int) (J : List Jt) (w : World) (e : Ending) (w' : World) : Prop := Below w.heap.size w w' ∧
      ((r.2 = 0 ∧ r.1.2 = 0 ∧ ∃ a' c' b' d', e = .returned (.tuple #[worldV x y a' r.1.1.length c' b' J.length d', .int .i64 0, .int .i64 0]) ∧ Bodies w' a' r.1.1 ∧ Joints w' b' J ∧ (∀ z off, a' = some ⟨z, off, none⟩ → r.1.1 ≠ [] → w.heap.size ≤ z) ∧ ∀ z off, b' = some ⟨z, off, none⟩ → J ≠ [] → w.heap.size ≤ z) ∨
       (¬ r.2 = 0 ∧ e = .returned (.tuple #[noneV, .int .i64 r.1.2, .int .i64 r.2])))
def restE (x y : Int) (J : List Jt) (L : List Bd) : (List Bd × Int) × Int := if rightW x y L J = true then ((L, 0), 0) else (([], 0), 9)

set_option maxRecDepth 10000 in
set_option maxHeartbeats 4000000 in
theorem rest_any (x y : Int) (L : List Bd) (J : List Jt) (a : Option Addr) (c : Nat) (b : Option Addr) (d : Nat) (w : World) (hL : Bodies w a L) (hJ : Joints w b J) (hn : L.length ≤ 500) (hm : J.length ≤ 1000) :
    Calls Tryz.prog 19 #[worldV x y a L.length c b J.length d] w (RunTo x y (restE x y J L) J w) := by
  suffices H : ∀ R : Ending → World → Prop, (∀ e w', RunTo x y (restE x y J L) J w e w' → R e w') → Calls Tryz.prog 19 #[worldV x y a L.length c b J.length d] w R from H _ (fun _ _ h => h)
  intro R hRR
  have HRR : Hid (∀ e w', RunTo x y (restE x y J L) J w e w' → R e w') := hRR
  have G0 : ∀ c' d', Grew w ((w.alloc (.cells c' 29)).alloc (.cells d' 29)) := fun c' d' => ((Grew.refl w).alloc _ _).alloc _ _
  have HG : Hid (∀ c' d', Grew w ((w.alloc (.cells c' 29)).alloc (.cells d' 29))) := G0
  have HR : Hid (∀ W, Grew w W → Calls Tryz.prog 11 #[worldV x y a L.length c b J.length d] W fun e w' => e = .returned (.bool (rightW x y L J)) ∧ Grew W w') := fun W g => right_any x y L J a c b d W (hL.grew g) (hJ.grew g) (by omega) hm
  have HC : Hid (∀ W, Grew w W → Calls Tryz.prog 36 #[worldV x y a L.length c b J.length d] W fun e w' => Below W.heap.size W w' ∧
      ∃ a' c' g b' d', e = .returned (worldV x y a' L.length c' b' J.length d') ∧ Own w' W.heap.size a' g c' L ∧ W.heap.size ≤ g ∧ g < w'.heap.size ∧ Joints w' b' J ∧ ∀ z off, b' = some ⟨z, off, none⟩ → z ≠ g ∧ W.heap.size ≤ z) := fun W g => copied_any x y L J a c b d W (hL.grew g) (hJ.grew g) (by omega) hm
  have HS : Hid (restE x y J L = if rightW x y L J = true then ((L, 0), 0) else (([], 0), 9)) := rfl
  clear hL hJ G0 hRR
  generalize rightW x y L J = r at *
  obtain ⟨n, en⟩ : ∃ n, L.length = n := ⟨_, rfl⟩
  obtain ⟨m, em⟩ : ∃ m, J.length = m := ⟨_, rfl⟩
  unfold worldV at HR HC ⊢
  rw [en, em] at HR HC ⊢
  cases r
  · clear HC
    go_enter Tryz.func19, Tryz.ntmps19
    go_wp2_with (first
      | (go_at_call 11; go_fit (HR.out _ (HG.out _ _)); rintro e V ⟨rfl, U⟩; (have k0 := U.cell (p := ⟨w.heap.size + 1, 0, none⟩) (v := .int .i64 0) (by simp [go_sem])); (have k1 := U.cell (p := ⟨w.heap.size + 1, 1, none⟩) (v := .int .i64 0) (by simp [go_sem])); (have k2 := U.cell (p := ⟨w.heap.size + 1, 2, none⟩) (v := .slice none 0 0) (by simp [go_sem])); (have k3 := U.cell (p := ⟨w.heap.size + 1, 3, none⟩) (v := .slice none 0 0) (by simp [go_sem])); (have z0 := U.frozen (p := ⟨w.heap.size + 1, 0, none⟩) (by simp [go_sem])); (have z1 := U.frozen (p := ⟨w.heap.size + 1, 1, none⟩) (by simp [go_sem])); (have z2 := U.frozen (p := ⟨w.heap.size + 1, 2, none⟩) (by simp [go_sem])); (have z3 := U.frozen (p := ⟨w.heap.size + 1, 3, none⟩) (by simp [go_sem]))))
    obtain ⟨WF, hWF⟩ : ∃ X, X = (((V.setCell ⟨w.heap.size + 1, 0, none⟩ (.int .i64 0)).setCell ⟨w.heap.size + 1, 1, none⟩ (.int .i64 0)).setCell ⟨w.heap.size + 1, 2, none⟩ (.slice none 0 0)).setCell ⟨w.heap.size + 1, 3, none⟩ (.slice none 0 0) := ⟨_, rfl⟩
    rw [← hWF]
    obtain ⟨f0, f1, f2, f3, hF⟩ := set4_at k0 k1 k2 k3 _ _ _ _ WF hWF
    have GV : Grew w V := (HG.out _ _).trans U
    have hB := but_on GV.below hF (by omega) GV.size
    clear hWF k0 k1 k2 k3 z0 z1 z2 z3 U
    have hE : restE x y J L = (([], 0), 9) := HS.out
    simp [bodyPost, results, Tryz.results19, go_sem, f0, f1, f2, f3]
    exact HRR.out _ _ ⟨hB, .inr ⟨by rw [hE]; show ¬ (9 : Int) = 0; decide, by rw [hE]; rfl⟩⟩
  go_enter Tryz.func19, Tryz.ntmps19
  have hsz : ∀ c' d', w.heap.size + 1 < ((w.alloc (.cells c' 29)).alloc (.cells d' 29)).heap.size := fun c' d' => by simp
  have HZ : Hid _ := hsz
  clear hsz
  go_wp2_with (first
    | (go_at_call 11; go_fit (HR.out _ (HG.out _ _)); rintro e V ⟨rfl, U⟩; (have k0 := U.cell (p := ⟨w.heap.size + 1, 0, none⟩) (v := .int .i64 0) (by simp [go_sem])); (have k1 := U.cell (p := ⟨w.heap.size + 1, 1, none⟩) (v := .int .i64 0) (by simp [go_sem])); (have k2 := U.cell (p := ⟨w.heap.size + 1, 2, none⟩) (v := .slice none 0 0) (by simp [go_sem])); (have k3 := U.cell (p := ⟨w.heap.size + 1, 3, none⟩) (v := .slice none 0 0) (by simp [go_sem])); (have z0 := U.frozen (p := ⟨w.heap.size + 1, 0, none⟩) (by simp [go_sem])); (have z1 := U.frozen (p := ⟨w.heap.size + 1, 1, none⟩) (by simp [go_sem])); (have z2 := U.frozen (p := ⟨w.heap.size + 1, 2, none⟩) (by simp [go_sem])); (have z3 := U.frozen (p := ⟨w.heap.size + 1, 3, none⟩) (by simp [go_sem])); (have b0 := U.cell (p := ⟨w.heap.size, 0, none⟩) (v := .int .i64 x) (by simp [go_sem])); (have b1 := U.cell (p := ⟨w.heap.size, 1, none⟩) (v := .int .i64 y) (by simp [go_sem])); (have b2 := U.cell (p := ⟨w.heap.size, 2, none⟩) (v := .slice a n c) (by simp [go_sem])); (have b3 := U.cell (p := ⟨w.heap.size, 3, none⟩) (v := .slice b m d) (by simp [go_sem])); (have GV : Hid (Grew w V) := (HG.out _ _).trans U); (have hsV : w.heap.size + 1 < V.heap.size := Nat.lt_of_lt_of_le (HZ.out _ _) U.size))
    | (go_at_call 36; go_fit (HC.out _ GV.out); rintro e V2 ⟨U2, a2, c2, g, j2, d2, rfl, hO, hg1, hg2, hJ2, hz⟩; (have l0 := (U2.cell (p := ⟨w.heap.size + 1, 0, none⟩) hsV).trans k0); (have l1 := (U2.cell (p := ⟨w.heap.size + 1, 1, none⟩) hsV).trans k1); (have l2 := (U2.cell (p := ⟨w.heap.size + 1, 2, none⟩) hsV).trans k2); (have l3 := (U2.cell (p := ⟨w.heap.size + 1, 3, none⟩) hsV).trans k3); (have y0 := (U2.frozen (p := ⟨w.heap.size + 1, 0, none⟩) hsV).trans z0); (have y1 := (U2.frozen (p := ⟨w.heap.size + 1, 1, none⟩) hsV).trans z1); (have y2 := (U2.frozen (p := ⟨w.heap.size + 1, 2, none⟩) hsV).trans z2); (have y3 := (U2.frozen (p := ⟨w.heap.size + 1, 3, none⟩) hsV).trans z3)))
  obtain ⟨WF, hWF⟩ : ∃ X, X = (((V2.setCell ⟨w.heap.size + 1, 0, none⟩ (.int .i64 x)).setCell ⟨w.heap.size + 1, 1, none⟩ (.int .i64 y)).setCell ⟨w.heap.size + 1, 2, none⟩ (.slice a2 n c2)).setCell ⟨w.heap.size + 1, 3, none⟩ (.slice j2 m d2) := ⟨_, rfl⟩
  rw [← hWF]
  obtain ⟨f0, f1, f2, f3, hF⟩ := set4_at l0 l1 l2 l3 _ _ _ _ WF hWF
  have hs := GV.out.size
  have hs2 := U2.size
  have hB := but_on (GV.out.below.trans (U2.mono hs)) hF (by omega) (by omega)
  have hBd := (hO.but hF (by omega)).bodies
  have hJt := hJ2.but hF (fun z off e => by have := (hz z off e).2; omega)
  have hz5 : ∀ z off, j2 = some ⟨z, off, none⟩ → J ≠ [] → w.heap.size ≤ z := fun z off e _ => by have := (hz z off e).2; omega
  have hE : restE x y J L = ((L, 0), 0) := HS.out
  clear hWF k0 k1 k2 k3 z0 z1 z2 z3 l0 l1 l2 l3 y0 y1 y2 y3 b0 b1 b2 b3 U U2
  simp [bodyPost, results, Tryz.results19, go_sem, f0, f1, f2, f3]
  exact HRR.out _ _ ⟨hB, .inl ⟨by rw [hE], by rw [hE], a2, c2, j2, d2, by rw [hE, em]; subst en; rfl, by rw [hE]; exact hBd, hJt, fun z off e _ => (by rcases hO.at' with ⟨e1, _⟩ | e1 <;> rw [e1] at e <;> cases e; omega), hz5⟩⟩
theorem goE_ok {x y : Int} {J : List Jt} {n k : Nat} {C : List Bd} (h : k < n) (g : (stepE x y J C).2 = 0) : goE x y J (n - k) k C = goE x y J (n - (k + 1)) (k + 1) (stepE x y J C).1 := by
  rw [show n - k = (n - (k + 1)) + 1 by omega]
  exact if_pos g
theorem goE_no {x y : Int} {J : List Jt} {n k : Nat} {C : List Bd} (h : k < n) (g : ¬ (stepE x y J C).2 = 0) : goE x y J (n - k) k C = (([], (k : Int) + 1), (stepE x y J C).2) := by
  rw [show n - k = (n - (k + 1)) + 1 by omega]
  exact if_neg g
theorem runE_arg {x y : Int} {J : List Jt} {L : List Bd} {n : Int} (h : n < 0 ∨ 200 < n) : runE x y J L n = (([], 0), 9) := if_pos h
theorem runE_zero {x y : Int} {J : List Jt} {L : List Bd} : runE x y J L 0 = restE x y J L := rfl
theorem runE_go {x y : Int} {J : List Jt} {L : List Bd} {n : Nat} (h : 0 < n) (g : n ≤ 200) : runE x y J L n = goE x y J n 0 L := by
  unfold runE
  rw [if_neg (by omega), if_neg (by omega), Int.toNat_natCast]

set_option maxRecDepth 10000 in
set_option maxHeartbeats 4000000 in
theorem run_any (x y : Int) (hx : inF x) (hy : inF y) (L : List Bd) (J : List Jt) (N : Int) (a : Option Addr) (c : Nat) (b : Option Addr) (d : Nat) (w : World) (hL : Bodies w a L) (hJ : Joints w b J) (hn : L.length ≤ 500) (hm : J.length ≤ 1000) :
    Calls Tryz.prog 10 #[worldV x y a L.length c b J.length d, .int .i64 N] w (RunTo x y (runE x y J L N) J w) := by
  suffices H : ∀ R : Ending → World → Prop, (∀ e w', RunTo x y (runE x y J L N) J w e w' → R e w') → Calls Tryz.prog 10 #[worldV x y a L.length c b J.length d, .int .i64 N] w R from H _ (fun _ _ h => h)
  intro R hRR
  have HRR : Hid (∀ e w', RunTo x y (runE x y J L N) J w e w' → R e w') := hRR
  have G0 : ∀ c' d', Grew w ((w.alloc (.cells c' 29)).alloc (.cells d' 29)) := fun c' d' => ((Grew.refl w).alloc _ _).alloc _ _
  have HG : Hid (∀ c' d', Grew w ((w.alloc (.cells c' 29)).alloc (.cells d' 29))) := G0
  clear hRR G0
  obtain ⟨m, em⟩ : ∃ m, J.length = m := ⟨_, rfl⟩
  obtain ⟨s, hs⟩ : ∃ s, w.heap.size = s := ⟨_, rfl⟩
  by_cases hN1 : N < 0 ∨ 200 < N
  · have hE : Hid (runE x y J L N = (([], 0), 9)) := runE_arg hN1
    unfold worldV
    rw [em]
    clear hL hJ
    rcases hN1 with h | h
    all_goals
      go_enter Tryz.func10, Tryz.ntmps10
      go_wp2_with (fail)
      simp [bodyPost, results, Tryz.results10, go_sem, hs]
      exact HRR.out _ _ ⟨(HG.out _ _).below, .inr ⟨by rw [hE.out]; show ¬ (9 : Int) = 0; decide, by rw [hE.out]; rfl⟩⟩
  obtain ⟨V, hV⟩ : ∃ V, V = (w.alloc (.cells #[.int .i64 x, .int .i64 y, .slice a L.length c, .slice b m d] 29)).alloc (.cells #[.int .i64 0, .int .i64 0, .slice none 0 0, .slice none 0 0] 29) := ⟨_, rfl⟩
  have GV : Grew w V := by rw [hV]; exact HG.out _ _
  have hL1 := hL.grew GV
  have hJ1 := hJ.grew GV
  have hLs := hL.in'
  have hJs := hJ.in'
  rw [hs] at hLs hJs
  have hVs : V.heap.size = s + 1 + 1 := by rw [hV, ← hs]; simp
  have hb : W4 V s x y a L.length c b m d := by rw [hV, ← hs]; constructor <;> simp [go_sem]
  have hr : W4 V (s + 1) 0 0 none 0 0 none 0 0 := by rw [hV, ← hs]; constructor <;> simp [go_sem]
  have hzz : ∀ i o, s ≤ i → V.frozen? ⟨i, o, none⟩ = false := fun i o h => GV.free (by rw [hs]; exact h)
  have HV : Hid (V = _) := hV
  have hBV : Below s w V := by rw [← hs]; exact GV.below
  have HF : Hid (∀ i o, s ≤ i → V.frozen? ⟨i, o, none⟩ = false) := hzz
  clear hL hJ GV HG hzz
  by_cases hN2 : N = 0
  · subst hN2
    rw [runE_zero] at HRR
    have HC := rest_any x y L J a c b d V hL1 hJ1 hn hm
    generalize restE x y J L = T at *
    unfold RunTo noneV at HC
    rw [em] at HC
    unfold worldV at HC ⊢
    replace HC : Hid (Calls Tryz.prog 19 _ _ _) := HC
    clear hL1 hJ1
    rw [em]
    go_enter Tryz.func10, Tryz.ntmps10
    go_upto_region 4 with (fail)
    rw [← HV.out]
    obtain ⟨b0, b1, b2, b3⟩ := hb
    obtain ⟨r0, r1, r2, r3⟩ := hr
    have hs1 : s + 1 < V.heap.size := by omega
    clear HV hVs hV
    go_wp2_with (first
      | (go_at_call 19; go_fit HC.out; rintro e V2 ⟨U2, (⟨h1, h2, a2, c2, j2, d2, rfl, hB2, hJ2, hz1, hz2⟩ | ⟨h1, rfl⟩)⟩; all_goals ((have k0 := (U2.cell (p := ⟨s + 1, 0, none⟩) hs1).trans r0); (have k1 := (U2.cell (p := ⟨s + 1, 1, none⟩) hs1).trans r1); (have k2 := (U2.cell (p := ⟨s + 1, 2, none⟩) hs1).trans r2); (have k3 := (U2.cell (p := ⟨s + 1, 3, none⟩) hs1).trans r3); (have z0 := (U2.frozen (p := ⟨s + 1, 0, none⟩) hs1).trans (HF.out (s + 1) 0 (by omega))); (have z1 := (U2.frozen (p := ⟨s + 1, 1, none⟩) hs1).trans (HF.out (s + 1) 1 (by omega))); (have z2 := (U2.frozen (p := ⟨s + 1, 2, none⟩) hs1).trans (HF.out (s + 1) 2 (by omega))); (have z3 := (U2.frozen (p := ⟨s + 1, 3, none⟩) hs1).trans (HF.out (s + 1) 3 (by omega)))))
      | fail)
    · have hU := U2.size
      obtain ⟨WF, hWF⟩ : ∃ X, X = (((V2.setCell ⟨s + 1, 0, none⟩ (.int .i64 x)).setCell ⟨s + 1, 1, none⟩ (.int .i64 y)).setCell ⟨s + 1, 2, none⟩ (.slice a2 T.1.1.length c2)).setCell ⟨s + 1, 3, none⟩ (.slice j2 m d2) := ⟨_, rfl⟩
      rw [← hWF]
      obtain ⟨f0, f1, f2, f3, hF⟩ := set4_at k0 k1 k2 k3 _ _ _ _ WF hWF
      have hB := but_on (hBV.trans (U2.mono (by omega))) hF (by omega) (by omega)
      have hBd := hB2.far hF (fun z off e hne => by have := hz1 z off e hne; omega)
      have hJt := hJ2.far hF (fun z off e hne => by have := hz2 z off e hne; omega)
      clear hWF
      simp [bodyPost, results, Tryz.results10, go_sem, f0, f1, f2, f3]
      exact HRR.out _ _ ⟨by rw [hs]; exact hB, .inl ⟨h1, h2, a2, c2, j2, d2, by rw [em]; rfl, hBd, hJt, fun z off e hne => by have := hz1 z off e hne; omega, fun z off e hne => by have := hz2 z off e hne; omega⟩⟩
    · have hU := U2.size
      obtain ⟨WF, hWF⟩ : ∃ X, X = (((V2.setCell ⟨s + 1, 0, none⟩ (.int .i64 0)).setCell ⟨s + 1, 1, none⟩ (.int .i64 0)).setCell ⟨s + 1, 2, none⟩ (.slice none 0 0)).setCell ⟨s + 1, 3, none⟩ (.slice none 0 0) := ⟨_, rfl⟩
      rw [← hWF]
      obtain ⟨f0, f1, f2, f3, hF⟩ := set4_at k0 k1 k2 k3 _ _ _ _ WF hWF
      have hB := but_on (hBV.trans (U2.mono (by omega))) hF (by omega) (by omega)
      clear hWF
      simp [bodyPost, results, Tryz.results10, go_sem, f0, f1, f2, f3]
      exact HRR.out _ _ ⟨by rw [hs]; exact hB, .inr ⟨h1, rfl⟩⟩
  obtain ⟨n, rfl⟩ : ∃ n : Nat, N = n := ⟨N.toNat, by omega⟩
  have hn0 : 0 < n := by omega
  have hn2 : n ≤ 200 := by omega
  rw [runE_go hn0 hn2] at HRR
  have hg1 : ¬ (n : Int) < 0 := by omega
  have hg2 : ¬ (200 : Int) < (n : Int) := by omega
  have hg3 : ((n : Int) == 0) = false := by simp; omega
  have HSt : Hid (∀ C a c b d W, C.length ≤ 500 → Bodies W a C → Joints W b J → Calls Tryz.prog 18 #[.agg #[.int .i64 x, .int .i64 y, .slice a C.length c, .slice b m d]] W fun e w' => Below W.heap.size W w' ∧
      (((stepE x y J C).2 = 0 ∧ ∃ a' c' b' d', e = .returned (.tuple #[.agg #[.int .i64 x, .int .i64 y, .slice a' (stepE x y J C).1.length c', .slice b' m d'], .int .i64 0]) ∧ Bodies w' a' (stepE x y J C).1 ∧ Joints w' b' J ∧ (∀ z off, a' = some ⟨z, off, none⟩ → W.heap.size ≤ z) ∧ ∀ z off, b' = some ⟨z, off, none⟩ → W.heap.size ≤ z) ∨
       (¬ (stepE x y J C).2 = 0 ∧ e = .returned (.tuple #[.agg #[.int .i64 0, .int .i64 0, .slice none 0 0, .slice none 0 0], .int .i64 (stepE x y J C).2])))) := fun C a c b d W hC h1 h2 => by
    have := step_any x y hx hy C J a c b d W h1 h2 hC hm
    unfold StepTo noneV worldV at this
    rw [em] at this
    exact this
  have HKp : Hid (∀ C, (∀ z ∈ C, z.ok) → (stepE x y J C).2 = 0 → (stepE x y J C).1.length = C.length) := fun C h g => (step_keep h g).len
  have HFar1 : Hid (∀ z off, a = some ⟨z, off, none⟩ → L ≠ [] → z ≠ s ∧ z ≠ s + 1) := fun z off e h => by have := hLs z off e h; omega
  have HFar2 : Hid (∀ z off, b = some ⟨z, off, none⟩ → J ≠ [] → z ≠ s ∧ z ≠ s + 1) := fun z off e h => by have := hJs z off e h; omega
  unfold worldV
  rw [em]
  clear hLs hJs hN1 hN2
  go_enter Tryz.func10, Tryz.ntmps10
  go_upto_region 5 with (fail)
  rw [← HV.out]
  have hs1 : s + 1 < V.heap.size := by omega
  clear HV hVs hV
  go_wp2_with (fail)
  have HZ0 : Hid (∀ i o, i = s ∨ i = s + 1 → V.frozen? ⟨i, o, none⟩ = false) := fun i o h => HF.out i o (by omega)
  go_loopw [25] (fun i wr => ∃ (k : Nat) (C : List Bd) (a' : Option Addr) (c' : Nat) (b' : Option Addr) (d' : Nat), k ≤ n ∧ i = .int .i64 k ∧ C.length ≤ 500 ∧ W4 wr s x y a' C.length c' b' m d' ∧ W4 wr (s + 1) 0 0 none 0 0 none 0 0 ∧ Bodies wr a' C ∧ Joints wr b' J ∧ Hid (∀ z off, a' = some ⟨z, off, none⟩ → C ≠ [] → (z ≠ s ∧ z ≠ s + 1) ∧ (k ≠ 0 → s ≤ z)) ∧ Hid (∀ z off, b' = some ⟨z, off, none⟩ → J ≠ [] → (z ≠ s ∧ z ≠ s + 1) ∧ (k ≠ 0 → s ≤ z)) ∧ Hid (∀ i o, i = s ∨ i = s + 1 → wr.frozen? ⟨i, o, none⟩ = false) ∧ Below s w wr ∧ Hid (goE x y J n 0 L = goE x y J (n - k) k C)) (fun i _ => n - (intOf i).toNat)
  case atStart => exact ⟨0, L, a, c, b, d, by omega, rfl, hn, hb, hr, hL1, hJ1, fun z off e h => ⟨HFar1.out z off e h, fun e => absurd rfl e⟩, fun z off e h => ⟨HFar2.out z off e h, fun e => absurd rfl e⟩, HZ0, hBV, rfl⟩
  case round =>
    obtain ⟨k, C, a', c', b', d', hk, rfl, hC, hb4, hr4, hBd, hJt, hf1, hf2, HZ, hBw, HU⟩ := hrel
    clear hL1 hJ1 hb hr hBV HF HZ0 hs1 HFar1 HFar2
    have hw0 := hb4.size
    have hw1 := hr4.size
    obtain ⟨b0, b1, b2, b3⟩ := hb4
    obtain ⟨r0, r1, r2, r3⟩ := hr4
    by_cases hlt : k < n
    · have hi : (k : Int) < (n : Int) := by omega
      have HF := HSt.out C a' c' b' d' wr hC hBd hJt
      have HYes : Hid ((stepE x y J C).2 = 0 → goE x y J n 0 L = goE x y J (n - (k + 1)) (k + 1) (stepE x y J C).1) := fun h => by rw [HU.out, goE_ok hlt h]
      have HNo : Hid (¬ (stepE x y J C).2 = 0 → goE x y J n 0 L = (([], (k : Int) + 1), (stepE x y J C).2)) := fun h => by rw [HU.out, goE_no hlt h]
      have HK : Hid ((stepE x y J C).2 = 0 → (stepE x y J C).1.length = C.length) := HKp.out C hBd.ok
      generalize stepE x y J C = T at *
      obtain ⟨T1, te⟩ := T
      simp only at HF HYes HNo HK
      by_cases hte : te = 0
      rotate_left
      · have HF : Hid (Calls Tryz.prog 18 #[.agg #[.int .i64 x, .int .i64 y, .slice a' C.length c', .slice b' m d']] wr fun e w' => Below wr.heap.size wr w' ∧ e = .returned (.tuple #[.agg #[.int .i64 0, .int .i64 0, .slice none 0 0, .slice none 0 0], .int .i64 te])) := HF.mono (by
          rintro e w' ⟨h, ⟨h0, _⟩ | ⟨_, h2⟩⟩
          · exact absurd h0 hte
          · exact ⟨h, h2⟩)
        have HE := HNo.out hte
        have HR2 : Hid (∀ W, Below s w W → R (.returned (.tuple #[.agg #[.int .i64 0, .int .i64 0, .slice none 0 0, .slice none 0 0], .int .i64 ((k : Int) + 1), .int .i64 te])) W) := fun W h => HRR.out _ _ ⟨by rw [hs]; exact h, .inr ⟨by rw [HE]; exact hte, by rw [HE]; rfl⟩⟩
        clear HE HNo HYes HK HSt HRR HU hf1 hf2 hBd hJt
        go_wp2_with (first
          | (go_at_call 18; go_fit HF.out; rintro e V2 ⟨U2, rfl⟩; (have k0 := (U2.cell (p := ⟨s + 1, 0, none⟩) hw1).trans r0); (have k1 := (U2.cell (p := ⟨s + 1, 1, none⟩) hw1).trans r1); (have k2 := (U2.cell (p := ⟨s + 1, 2, none⟩) hw1).trans r2); (have k3 := (U2.cell (p := ⟨s + 1, 3, none⟩) hw1).trans r3); (have l0 := (U2.cell (p := ⟨s, 0, none⟩) hw0).trans b0); (have l1 := (U2.cell (p := ⟨s, 1, none⟩) hw0).trans b1); (have l2 := (U2.cell (p := ⟨s, 2, none⟩) hw0).trans b2); (have l3 := (U2.cell (p := ⟨s, 3, none⟩) hw0).trans b3); (have z0 := (U2.frozen (p := ⟨s + 1, 0, none⟩) hw1).trans (HZ.out (s + 1) 0 (by omega))); (have z1 := (U2.frozen (p := ⟨s + 1, 1, none⟩) hw1).trans (HZ.out (s + 1) 1 (by omega))); (have z2 := (U2.frozen (p := ⟨s + 1, 2, none⟩) hw1).trans (HZ.out (s + 1) 2 (by omega))); (have z3 := (U2.frozen (p := ⟨s + 1, 3, none⟩) hw1).trans (HZ.out (s + 1) 3 (by omega))); (have y0 := (U2.frozen (p := ⟨s, 0, none⟩) hw0).trans (HZ.out (s) 0 (by omega))); (have y1 := (U2.frozen (p := ⟨s, 1, none⟩) hw0).trans (HZ.out (s) 1 (by omega))); (have y2 := (U2.frozen (p := ⟨s, 2, none⟩) hw0).trans (HZ.out (s) 2 (by omega))); (have y3 := (U2.frozen (p := ⟨s, 3, none⟩) hw0).trans (HZ.out (s) 3 (by omega))); (have hv0 : s < V2.heap.size := Nat.lt_of_lt_of_le hw0 U2.size); (have hv1 : s + 1 < V2.heap.size := Nat.lt_of_lt_of_le hw1 U2.size))
          | fail)
        obtain ⟨WF, hWF⟩ : ∃ X, X = (((V2.setCell ⟨s + 1, 0, none⟩ (.int .i64 0)).setCell ⟨s + 1, 1, none⟩ (.int .i64 0)).setCell ⟨s + 1, 2, none⟩ (.slice none 0 0)).setCell ⟨s + 1, 3, none⟩ (.slice none 0 0) := ⟨_, rfl⟩
        rw [← hWF]
        obtain ⟨f0, f1, f2, f3, hF⟩ := set4_at k0 k1 k2 k3 _ _ _ _ WF hWF
        obtain ⟨WA, hWA⟩ : ∃ X, X = WF.alloc (.cells #[.int .i64 0, .int .i64 0, .slice none 0 0, .slice none 0 0] 29) := ⟨_, rfl⟩
        rw [← hWA]
        have GA : Grew WF WA := by rw [hWA]; exact (Grew.refl WF).alloc _ _
        have hU := U2.size
        have hFs := hF.size
        have hB := (but_on (hBw.trans (U2.mono (by omega))) hF (by omega) (by omega)).trans (GA.below.mono (by omega))
        have i0 := GA.cell f0
        have i1 := GA.cell f1
        have i2 := GA.cell f2
        have i3 := GA.cell f3
        clear hWF hWA
        simp [bodyPost, results, Tryz.results10, go_sem, i0, i1, i2, i3]
        exact HR2.out _ hB
      subst hte
      have HF : Hid (Calls Tryz.prog 18 #[.agg #[.int .i64 x, .int .i64 y, .slice a' C.length c', .slice b' m d']] wr fun e w' => Below wr.heap.size wr w' ∧ ∃ a' c' b' d', e = .returned (.tuple #[.agg #[.int .i64 x, .int .i64 y, .slice a' T1.length c', .slice b' m d'], .int .i64 0]) ∧ Bodies w' a' T1 ∧ Joints w' b' J ∧ (∀ z off, a' = some ⟨z, off, none⟩ → wr.heap.size ≤ z) ∧ ∀ z off, b' = some ⟨z, off, none⟩ → wr.heap.size ≤ z) := HF.mono (by
        rintro e w' ⟨h, ⟨_, h2⟩ | ⟨h0, _⟩⟩
        · exact ⟨h, h2⟩
        · exact absurd rfl h0)
      have HU2 : Hid (goE x y J n 0 L = goE x y J (n - (k + 1)) (k + 1) T1) := HYes.out rfl
      have HT1 : Hid (T1.length = C.length) := HK.out rfl
      clear HNo HYes HK HU hf1 hf2 hBd hJt
      go_wp2_with (first
        | (go_at_call 18; go_fit HF.out; rintro e V2 ⟨U2, a2, c2, j2, d2, rfl, hB2, hJ2, g1, g2⟩; (have k0 := (U2.cell (p := ⟨s + 1, 0, none⟩) hw1).trans r0); (have k1 := (U2.cell (p := ⟨s + 1, 1, none⟩) hw1).trans r1); (have k2 := (U2.cell (p := ⟨s + 1, 2, none⟩) hw1).trans r2); (have k3 := (U2.cell (p := ⟨s + 1, 3, none⟩) hw1).trans r3); (have l0 := (U2.cell (p := ⟨s, 0, none⟩) hw0).trans b0); (have l1 := (U2.cell (p := ⟨s, 1, none⟩) hw0).trans b1); (have l2 := (U2.cell (p := ⟨s, 2, none⟩) hw0).trans b2); (have l3 := (U2.cell (p := ⟨s, 3, none⟩) hw0).trans b3); (have z0 := (U2.frozen (p := ⟨s + 1, 0, none⟩) hw1).trans (HZ.out (s + 1) 0 (by omega))); (have z1 := (U2.frozen (p := ⟨s + 1, 1, none⟩) hw1).trans (HZ.out (s + 1) 1 (by omega))); (have z2 := (U2.frozen (p := ⟨s + 1, 2, none⟩) hw1).trans (HZ.out (s + 1) 2 (by omega))); (have z3 := (U2.frozen (p := ⟨s + 1, 3, none⟩) hw1).trans (HZ.out (s + 1) 3 (by omega))); (have y0 := (U2.frozen (p := ⟨s, 0, none⟩) hw0).trans (HZ.out (s) 0 (by omega))); (have y1 := (U2.frozen (p := ⟨s, 1, none⟩) hw0).trans (HZ.out (s) 1 (by omega))); (have y2 := (U2.frozen (p := ⟨s, 2, none⟩) hw0).trans (HZ.out (s) 2 (by omega))); (have y3 := (U2.frozen (p := ⟨s, 3, none⟩) hw0).trans (HZ.out (s) 3 (by omega))); (have hv0 : s < V2.heap.size := Nat.lt_of_lt_of_le hw0 U2.size); (have hv1 : s + 1 < V2.heap.size := Nat.lt_of_lt_of_le hw1 U2.size))
        | fail)
      obtain ⟨WF, hWF⟩ : ∃ X, X = (((V2.setCell ⟨s, 0, none⟩ (.int .i64 x)).setCell ⟨s, 1, none⟩ (.int .i64 y)).setCell ⟨s, 2, none⟩ (.slice a2 T1.length c2)).setCell ⟨s, 3, none⟩ (.slice j2 m d2) := ⟨_, rfl⟩
      rw [← hWF]
      obtain ⟨f0, f1, f2, f3, hF⟩ := set4_at l0 l1 l2 l3 _ _ _ _ WF hWF
      obtain ⟨WA, hWA⟩ : ∃ X, X = WF.alloc (.cells #[.int .i64 x, .int .i64 y, .slice a2 T1.length c2, .slice j2 m d2] 29) := ⟨_, rfl⟩
      rw [← hWA]
      have GA : Grew WF WA := by rw [hWA]; exact (Grew.refl WF).alloc _ _
      have hU := U2.size
      have hFs := hF.size
      have hB := (but_on (hBw.trans (U2.mono (by omega))) hF (by omega) (by omega)).trans (GA.below.mono (by omega))
      refine ⟨⟨k + 1, T1, a2, c2, j2, d2, by omega, rfl, by have := HT1.out; omega, ⟨GA.cell f0, GA.cell f1, GA.cell f2, GA.cell f3⟩, ?_, ?_, ?_, ?_, ?_, ?_, hB, HU2.out⟩, ?_⟩
      · have := (W4.mk k0 k1 k2 k3).but hF (by omega)
        exact this.heap (GA.heap this.size)
      · exact (hB2.far hF (fun z off e _ => by have := g1 z off e; omega)).grew GA
      · exact (hJ2.far hF (fun z off e _ => by have := g2 z off e; omega)).grew GA
      · exact fun z off e _ => by have := g1 z off e; omega
      · exact fun z off e _ => by have := g2 z off e; omega
      · intro i o h
        rw [GA.grown.2.1, hWF]
        simp only [World.frozen?_setCell]
        rcases h with rfl | rfl
        · exact (U2.frozen (p := ⟨_, o, none⟩) hw0).trans (HZ.out _ o (by omega))
        · exact (U2.frozen (p := ⟨_, o, none⟩) hw1).trans (HZ.out _ o (by omega))
      · simp [intOf]; omega
    · have hi : ¬ (k : Int) < (n : Int) := by omega
      obtain rfl : k = n := by omega
      have hE : goE x y J k 0 L = ((C, 0), 0) := by rw [HU.out, Nat.sub_self]; rfl
      have HR2 : Hid (∀ W a'' c'' b'' d'', Below s w W → Bodies W a'' C → Joints W b'' J → (∀ z off, a'' = some ⟨z, off, none⟩ → C ≠ [] → s ≤ z) → (∀ z off, b'' = some ⟨z, off, none⟩ → J ≠ [] → s ≤ z) → R (.returned (.tuple #[.agg #[.int .i64 x, .int .i64 y, .slice a'' C.length c'', .slice b'' m d''], .int .i64 0, .int .i64 0])) W) := fun W a'' c'' b'' d'' h1 h2 h3 h4 h5 => HRR.out _ _ ⟨by rw [hs]; exact h1, .inl ⟨by rw [hE], by rw [hE], a'', c'', b'', d'', by rw [hE, em]; rfl, by rw [hE]; exact h2, h3, by rw [hE, hs]; exact h4, by rw [hs]; exact h5⟩⟩
      clear HRR HU hE HSt HKp
      have z0 := HZ.out (s + 1) 0 (by omega)
      have z1 := HZ.out (s + 1) 1 (by omega)
      have z2 := HZ.out (s + 1) 2 (by omega)
      have z3 := HZ.out (s + 1) 3 (by omega)
      go_wp2_with (fail)
      obtain ⟨WF, hWF⟩ : ∃ X, X = (((wr.setCell ⟨s + 1, 0, none⟩ (.int .i64 x)).setCell ⟨s + 1, 1, none⟩ (.int .i64 y)).setCell ⟨s + 1, 2, none⟩ (.slice a' C.length c')).setCell ⟨s + 1, 3, none⟩ (.slice b' m d') := ⟨_, rfl⟩
      rw [← hWF]
      obtain ⟨f0, f1, f2, f3, hF⟩ := set4_at r0 r1 r2 r3 _ _ _ _ WF hWF
      have hB := but_on hBw hF (by omega) (by omega)
      clear hWF z0 z1 z2 z3
      simp [bodyPost, results, Tryz.results10, go_sem, f0, f1, f2, f3]
      exact HR2.out _ _ _ _ _ hB (hBd.far hF (fun z off e h => by have := hf1.out z off e h; omega)) (hJt.far hF (fun z off e h => by have := hf2.out z off e h; omega)) (fun z off e h => (hf1.out z off e h).2 (by omega)) (fun z off e h => (hf2.out z off e h).2 (by omega))
end Go.Proofs.YtnkhknmpffcfbaaGreat
