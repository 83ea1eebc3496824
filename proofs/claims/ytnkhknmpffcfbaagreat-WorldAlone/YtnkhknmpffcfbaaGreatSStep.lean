/-
  What world.Step does: the bodies behind a step, or its error; nothing that was there is written.
-/
import Derived.Test.YtnkhknmpffcfbaaGreatSCopied
import Derived.Test.YtnkhknmpffcfbaaGreatSTry
namespace Go.Proofs.YtnkhknmpffcfbaaGreat
open Go Go.RowKit

theorem Own.heap {w W : World} {base : Nat} {a : Option Addr} {g cap : Nat} {L : List Bd} (h : Own w base a g cap L) (e : W.heap[g]? = w.heap[g]?) : Own W base a g cap L := by
  refine ⟨h.ok, ⟨h.row.1, ?_⟩, h.at'⟩
  rcases h.at' with ⟨rfl, hL⟩ | rfl
  · subst hL
    rcases h.row.2 with k | ⟨_, _, _, k, _⟩
    · exact .inl k
    · cases k
  · rcases h.row.2 with k | ⟨b, c, cur, k, hb, hg, r⟩
    · exact .inl k
    · have k2 := k
      simp only [Value.slice.injEq, Option.some.injEq, Addr.mk.injEq, and_true, true_and] at k2
      obtain ⟨rfl, rfl⟩ := k2
      exact .inr ⟨g, cap, cur, k, hb, e.trans hg, r⟩

theorem stepc_any (x y : Int) (hx : inF x) (hy : inF y) (J : List Jt) (L : List Bd) (base : Nat) (a : Option Addr) (g c : Nat) (b : Option Addr) (d q : Nat) (w : World) (hq : W4 w q x y a L.length c b J.length d) (hg : g < w.heap.size) (hO : Own w base a g c L) (hJ : Joints w b J)
    (hne : ∀ z off, b = some ⟨z, off, none⟩ → z ≠ g) (hR : J.all (rightJ L.length) = true) (hn : L.length ≤ 500) (hm : J.length ≤ 1000) :
    Calls Tryz.prog 37 #[.pointer (some ⟨q, 0, none⟩)] w fun e w' => Done base a g c (advE x y J L) w e w' := by
  have HF : Hid (Calls Tryz.prog 38 #[worldV x y a L.length c b J.length d] w fun e w' => Done base a g c (advE x y J L) w e w') := advance_any x y hx hy J L base a g c b d w hg hO hJ hne hR hn hm
  obtain ⟨c0, c1, c2, c3⟩ := hq
  clear hO hJ
  unfold worldV at HF
  go_enter Tryz.func37, Tryz.ntmps37
  go_wp2_with (first
    | (go_at_call 38; go_fit HF.out; rintro e V2 ⟨W2, (⟨h2, rfl, O2⟩ | ⟨h2, rfl⟩)⟩))
  · go_end0
    exact ⟨W2, .inl ⟨h2, rfl, O2⟩⟩
  · exact ⟨rfl, W2, .inr ⟨h2, rfl⟩⟩

theorem trystep_any (x y : Int) (hx : inF x) (hy : inF y) (J : List Jt) (L : List Bd) (base : Nat) (a : Option Addr) (g c : Nat) (b : Option Addr) (d q : Nat) (w : World) (hq : W4 w q x y a L.length c b J.length d) (hg : g < w.heap.size) (hO : Own w base a g c L) (hJ : Joints w b J)
    (hne : ∀ z off, b = some ⟨z, off, none⟩ → z ≠ g) (hR : J.all (rightJ L.length) = true) (hn : L.length ≤ 500) (hm : J.length ≤ 1000) :
    Calls Tryz.prog 23 #[.func (.func 37) #[] #[.pointer (some ⟨q, 0, none⟩)]] w fun e w' => But (fun n => n = g) w w' ∧ e = .returned (.int .i64 (advE x y J L).2) ∧ ((advE x y J L).2 = 0 → Own w' base a g c (advE x y J L).1) := by
  refine (try_but (S := fun n => n = g) (P := fun k W => k = (advE x y J L).2 ∧ (k = 0 → Own W base a g c (advE x y J L).1)) _ _ _ (fun _ => by simp [go_sem]) (fun n hn => by omega) ?_ ?_).mono ?_
  · rintro k W W' hh ⟨h1, h2⟩
    exact ⟨h1, fun e => (h2 e).heap (hh g hg)⟩
  · intro W0 G
    refine (stepc_any x y hx hy J L base a g c b d q W0 (hq.heap (G.heap hq.size)) (by have := G.size; omega) (hO.grew G) (hJ.grew G) hne hR hn hm).mono ?_
    rintro e w1 ⟨hW, (⟨h1, rfl, hO1⟩ | ⟨h1, rfl⟩)⟩
    · exact ⟨hW, 0, .inl ⟨rfl, rfl⟩, h1.symm, fun _ => hO1⟩
    · exact ⟨hW, _, .inr rfl, rfl, fun e => absurd e h1⟩
  · rintro e w' ⟨hW, k, rfl, rfl, hk⟩
    exact ⟨hW, rfl, hk⟩

theorem set4_at {V : World} {q : Nat} {u0 u1 u2 u3 : Value} (k0 : V.cell? ⟨q, 0, none⟩ = some u0) (k1 : V.cell? ⟨q, 1, none⟩ = some u1) (k2 : V.cell? ⟨q, 2, none⟩ = some u2) (k3 : V.cell? ⟨q, 3, none⟩ = some u3) (u v s t : Value) (WF : World)
    (h : WF = (((V.setCell ⟨q, 0, none⟩ u).setCell ⟨q, 1, none⟩ v).setCell ⟨q, 2, none⟩ s).setCell ⟨q, 3, none⟩ t) :
    WF.cell? ⟨q, 0, none⟩ = some u ∧ WF.cell? ⟨q, 1, none⟩ = some v ∧ WF.cell? ⟨q, 2, none⟩ = some s ∧ WF.cell? ⟨q, 3, none⟩ = some t ∧ But (fun n => n = q) V WF := by
  subst h
  refine ⟨by simp [go_sem, k0], by simp [go_sem, k1], by simp [go_sem, k2], by simp [go_sem, k3], ?_⟩
  exact ((((But.refl (fun n => n = q) V).set (b := q) rfl _ _ _).set (b := q) rfl _ _ _).set (b := q) rfl _ _ _).set (b := q) rfl _ _ _
theorem but_on {q B : Nat} {w V W : World} (h : Below B w V) (g : But (fun n => n = q) V W) (hq : B ≤ q) (hB : B ≤ V.heap.size) : Below B w W := h.trans (g.below (fun n e => by omega) hB)

/-- No world. -/
def noneV : Value := worldV 0 0 none 0 0 none 0 0
/-- How Step ends. -/
def StepTo (x y : Int) (L : List Bd) (J : List Jt) (w : World) (e : Ending) (w' : World) : Prop := Below w.heap.size w w' ∧
      (((stepE x y J L).2 = 0 ∧ ∃ a' c' b' d', e = .returned (.tuple #[worldV x y a' (stepE x y J L).1.length c' b' J.length d', .int .i64 0]) ∧ Bodies w' a' (stepE x y J L).1 ∧ Joints w' b' J ∧ (∀ z off, a' = some ⟨z, off, none⟩ → w.heap.size ≤ z) ∧ ∀ z off, b' = some ⟨z, off, none⟩ → w.heap.size ≤ z) ∨
       (¬ (stepE x y J L).2 = 0 ∧ e = .returned (.tuple #[noneV, .int .i64 (stepE x y J L).2])))
set_option maxRecDepth 10000 in
set_option maxHeartbeats 4000000 in
theorem step_any (x y : Int) (hx : inF x) (hy : inF y) (L : List Bd) (J : List Jt) (a : Option Addr) (c : Nat) (b : Option Addr) (d : Nat) (w : World) (hL : Bodies w a L) (hJ : Joints w b J) (hn : L.length ≤ 500) (hm : J.length ≤ 1000) :
    Calls Tryz.prog 18 #[worldV x y a L.length c b J.length d] w (StepTo x y L J w) := by
  suffices H : ∀ R : Ending → World → Prop, (∀ e w', StepTo x y L J w e w' → R e w') → Calls Tryz.prog 18 #[worldV x y a L.length c b J.length d] w R from H _ (fun _ _ h => h)
  intro R hRR
  have HRR : Hid (∀ e w', StepTo x y L J w e w' → R e w') := hRR
  have G0 : ∀ c' d', Grew w ((w.alloc (.cells c' 29)).alloc (.cells d' 29)) := fun c' d' => ((Grew.refl w).alloc _ _).alloc _ _
  have HG : Hid (∀ c' d', Grew w ((w.alloc (.cells c' 29)).alloc (.cells d' 29))) := G0
  have HR : Hid (∀ W, Grew w W → Calls Tryz.prog 11 #[worldV x y a L.length c b J.length d] W fun e w' => e = .returned (.bool (rightW x y L J)) ∧ Grew W w') := fun W g => right_any x y L J a c b d W (hL.grew g) (hJ.grew g) (by omega) hm
  have HC : Hid (∀ W, Grew w W → Calls Tryz.prog 36 #[worldV x y a L.length c b J.length d] W fun e w' => Below W.heap.size W w' ∧
      ∃ a' c' g b' d', e = .returned (worldV x y a' L.length c' b' J.length d') ∧ Own w' W.heap.size a' g c' L ∧ W.heap.size ≤ g ∧ g < w'.heap.size ∧ Joints w' b' J ∧ ∀ z off, b' = some ⟨z, off, none⟩ → z ≠ g ∧ W.heap.size ≤ z) := fun W g => copied_any x y L J a c b d W (hL.grew g) (hJ.grew g) (by omega) hm
  have hS : stepE x y J L = if rightW x y L J = true then thenE (advE x y J L) endE else ([], 9) := rfl
  have hjr : rightW x y L J = true → J.all (rightJ L.length) = true := fun h => (rightW_iff.1 h).2.1
  have hkeep : rightW x y L J = true → (advE x y J L).2 = 0 → (advE x y J L).1.length = L.length := fun h g => (adv_keep (hjr h) hL.ok g).len
  clear hL hJ G0 hRR
  obtain ⟨r, hr⟩ : ∃ r, rightW x y L J = r := ⟨_, rfl⟩
  rw [hr] at HR hS hjr hkeep
  clear hr
  obtain ⟨n, en⟩ : ∃ n, L.length = n := ⟨_, rfl⟩
  obtain ⟨m, em⟩ : ∃ m, J.length = m := ⟨_, rfl⟩
  cases r
  · have HS : Hid (stepE x y J L = ([], 9)) := hS
    unfold worldV at HR ⊢
    clear hS HC hjr hkeep
    rw [en, em] at HR ⊢
    go_enter Tryz.func18, Tryz.ntmps18
    go_wp2_with (first
      | (go_at_call 11; go_fit (HR.out _ (HG.out _ _)); rintro e V ⟨rfl, U⟩; (have k0 := U.cell (p := ⟨w.heap.size + 1, 0, none⟩) (v := .int .i64 0) (by simp [go_sem])); (have k1 := U.cell (p := ⟨w.heap.size + 1, 1, none⟩) (v := .int .i64 0) (by simp [go_sem])); (have k2 := U.cell (p := ⟨w.heap.size + 1, 2, none⟩) (v := .slice none 0 0) (by simp [go_sem])); (have k3 := U.cell (p := ⟨w.heap.size + 1, 3, none⟩) (v := .slice none 0 0) (by simp [go_sem])); (have z0 := U.frozen (p := ⟨w.heap.size + 1, 0, none⟩) (by simp [go_sem])); (have z1 := U.frozen (p := ⟨w.heap.size + 1, 1, none⟩) (by simp [go_sem])); (have z2 := U.frozen (p := ⟨w.heap.size + 1, 2, none⟩) (by simp [go_sem])); (have z3 := U.frozen (p := ⟨w.heap.size + 1, 3, none⟩) (by simp [go_sem]))))
    obtain ⟨WF, hWF⟩ : ∃ X, X = (((V.setCell ⟨w.heap.size + 1, 0, none⟩ (.int .i64 0)).setCell ⟨w.heap.size + 1, 1, none⟩ (.int .i64 0)).setCell ⟨w.heap.size + 1, 2, none⟩ (.slice none 0 0)).setCell ⟨w.heap.size + 1, 3, none⟩ (.slice none 0 0) := ⟨_, rfl⟩
    rw [← hWF]
    obtain ⟨f0, f1, f2, f3, hF⟩ := set4_at k0 k1 k2 k3 _ _ _ _ WF hWF
    have GV : Grew w V := (HG.out _ _).trans U
    have hB := but_on GV.below hF (by omega) GV.size
    clear hWF k0 k1 k2 k3 z0 z1 z2 z3 U
    simp [bodyPost, results, Tryz.results18, go_sem, f0, f1, f2, f3]
    exact HRR.out _ _ ⟨hB, .inr ⟨by rw [HS.out]; decide, by rw [HS.out]; rfl⟩⟩
  have hjr := hjr rfl
  have hkeep := hkeep rfl
  rw [if_pos rfl] at hS
  have HT : Hid (∀ (base : Nat) (a : Option Addr) (g c : Nat) (b : Option Addr) (d q : Nat) (W : World), W4 W q x y a n c b m d → g < W.heap.size → Own W base a g c L → Joints W b J → (∀ z off, b = some ⟨z, off, none⟩ → z ≠ g) →
      Calls Tryz.prog 23 #[.func (.func 37) #[] #[.pointer (some ⟨q, 0, none⟩)]] W fun e w' => But (fun n => n = g) W w' ∧ e = .returned (.int .i64 (advE x y J L).2) ∧ ((advE x y J L).2 = 0 → Own w' base a g c (advE x y J L).1)) := fun base a g c b d q W h1 h2 h3 h4 h5 => by
    subst en em
    exact trystep_any x y hx hy J L base a g c b d q W h1 h2 h3 h4 h5 hjr hn hm
  rw [en] at hkeep
  generalize advE x y J L = A at *
  have HS : Hid (stepE x y J L = thenE A endE) := hS
  have HK : Hid (A.2 = 0 → A.1.length = n) := hkeep
  have hmf := mk_func
  unfold worldV at HR HC ⊢
  rw [en, em] at HR HC ⊢
  clear hS hkeep hjr
  go_enter Tryz.func18, Tryz.ntmps18
  go_upto_region 4 with (first
    | (go_at_call 11; go_fit (HR.out _ (HG.out _ _)); rintro e V ⟨rfl, U⟩; (have k0 := U.cell (p := ⟨w.heap.size + 1, 0, none⟩) (v := .int .i64 0) (by simp [go_sem])); (have k1 := U.cell (p := ⟨w.heap.size + 1, 1, none⟩) (v := .int .i64 0) (by simp [go_sem])); (have k2 := U.cell (p := ⟨w.heap.size + 1, 2, none⟩) (v := .slice none 0 0) (by simp [go_sem])); (have k3 := U.cell (p := ⟨w.heap.size + 1, 3, none⟩) (v := .slice none 0 0) (by simp [go_sem])); (have z0 := U.frozen (p := ⟨w.heap.size + 1, 0, none⟩) (by simp [go_sem])); (have z1 := U.frozen (p := ⟨w.heap.size + 1, 1, none⟩) (by simp [go_sem])); (have z2 := U.frozen (p := ⟨w.heap.size + 1, 2, none⟩) (by simp [go_sem])); (have z3 := U.frozen (p := ⟨w.heap.size + 1, 3, none⟩) (by simp [go_sem])); (have b0 := U.cell (p := ⟨w.heap.size, 0, none⟩) (v := .int .i64 x) (by simp [go_sem])); (have b1 := U.cell (p := ⟨w.heap.size, 1, none⟩) (v := .int .i64 y) (by simp [go_sem])); (have b2 := U.cell (p := ⟨w.heap.size, 2, none⟩) (v := .slice a n c) (by simp [go_sem])); (have b3 := U.cell (p := ⟨w.heap.size, 3, none⟩) (v := .slice b m d) (by simp [go_sem])); (have GV : Hid (Grew w V) := (HG.out _ _).trans U))
    | (go_at_call 36; go_fit (HC.out _ GV.out); rintro e V2 ⟨U2, a2, c2, g, j2, d2, rfl, hO, hg1, hg2, hJ2, hz⟩))
  obtain ⟨s, hs⟩ : ∃ s, w.heap.size = s := ⟨_, rfl⟩
  rw [hs] at k0 k1 k2 k3 z0 z1 z2 z3 ⊢
  have hsV : s + 1 < V.heap.size := by have := U.size; simp at this; omega
  obtain ⟨V3, hV3⟩ : ∃ X, X = V2.alloc (.cells #[.int .i64 x, .int .i64 y, .slice a2 n c2, .slice j2 m d2] 29) := ⟨_, rfl⟩
  rw [← hV3]
  have G3 : Grew V2 V3 := by rw [hV3]; exact (Grew.refl V2).alloc _ _
  obtain ⟨q, hq⟩ : ∃ q, V2.heap.size = q := ⟨_, rfl⟩
  have hb4 : W4 V3 q x y a2 n c2 j2 m d2 := by rw [hV3, ← hq]; constructor <;> simp [go_sem]
  have hq3 : V3.heap.size = q + 1 := by rw [hV3, ← hq]; simp
  rw [hq] at hg2 ⊢
  have hBV : Hid (Below s w V3) := by
    rw [← hs]
    exact GV.out.below.trans ((U2.mono GV.out.size).trans (G3.below.mono (by have := GV.out.size; have := U2.size; omega)))
  have l0 : V3.cell? ⟨s + 1, 0, none⟩ = some (.int .i64 0) := G3.cell ((U2.cell (p := ⟨s + 1, 0, none⟩) hsV).trans k0)
  have l1 : V3.cell? ⟨s + 1, 1, none⟩ = some (.int .i64 0) := G3.cell ((U2.cell (p := ⟨s + 1, 1, none⟩) hsV).trans k1)
  have l2 : V3.cell? ⟨s + 1, 2, none⟩ = some (.slice none 0 0) := G3.cell ((U2.cell (p := ⟨s + 1, 2, none⟩) hsV).trans k2)
  have l3 : V3.cell? ⟨s + 1, 3, none⟩ = some (.slice none 0 0) := G3.cell ((U2.cell (p := ⟨s + 1, 3, none⟩) hsV).trans k3)
  have y0 : V3.frozen? ⟨s + 1, 0, none⟩ = false := G3.frozen ((U2.frozen (p := ⟨s + 1, 0, none⟩) hsV).trans z0)
  have y1 : V3.frozen? ⟨s + 1, 1, none⟩ = false := G3.frozen ((U2.frozen (p := ⟨s + 1, 1, none⟩) hsV).trans z1)
  have y2 : V3.frozen? ⟨s + 1, 2, none⟩ = false := G3.frozen ((U2.frozen (p := ⟨s + 1, 2, none⟩) hsV).trans z2)
  have y3 : V3.frozen? ⟨s + 1, 3, none⟩ = false := G3.frozen ((U2.frozen (p := ⟨s + 1, 3, none⟩) hsV).trans z3)
  have hsq : s + 1 < V3.heap.size := by have := U2.size; omega
  have hsg : ¬ s + 1 = g := by omega
  have hO3 := hO.grew G3
  have hJ3 := hJ2.grew G3
  have hz3 : ∀ z off, j2 = some ⟨z, off, none⟩ → z ≠ g := fun z off e => (hz z off e).1
  have hz5 : ∀ z off, j2 = some ⟨z, off, none⟩ → s ≤ z := fun z off e => by have := (hz z off e).2; omega
  have hz4 : ∀ z off, j2 = some ⟨z, off, none⟩ → ¬ z = s + 1 := fun z off e => by have := (hz z off e).2; omega
  have HTry : Hid (Calls Tryz.prog 23 #[.func (.func 37) #[] #[.pointer (some ⟨q, 0, none⟩)]] V3 fun e w' => But (fun n => n = g) V3 w' ∧ e = .returned (.int .i64 A.2) ∧ (A.2 = 0 → Own w' V.heap.size a2 g c2 A.1)) := HT.out _ _ _ _ _ _ _ V3 hb4 (by omega) hO3 hJ3 hz3
  clear hV3 hO hJ2 hz U U2 G3 HT HR HC HG GV k0 k1 k2 k3 z0 z1 z2 z3 b0 b1 b2 b3 hjr hkeep hq
  obtain ⟨A1, ka⟩ := A
  simp only at HTry HK
  by_cases hka : ka = 0
  rotate_left
  · have HE : Hid (stepE x y J L = ([], ka)) := by show _ = _; rw [HS.out, thenE_no hka]
    clear HK HS
    go_wp2_with (first
      | (go_at_call 23; go_fit HTry.out; rintro e V4 ⟨W4', rfl, _⟩; (have k0 := W4'.cell l0 hsg); (have k1 := W4'.cell l1 hsg); (have k2 := W4'.cell l2 hsg); (have k3 := W4'.cell l3 hsg); (have z0 := W4'.frozen hsq hsg y0); (have z1 := W4'.frozen hsq hsg y1); (have z2 := W4'.frozen hsq hsg y2); (have z3 := W4'.frozen hsq hsg y3)))
    obtain ⟨WF, hWF⟩ : ∃ X, X = (((V4.setCell ⟨s + 1, 0, none⟩ (.int .i64 0)).setCell ⟨s + 1, 1, none⟩ (.int .i64 0)).setCell ⟨s + 1, 2, none⟩ (.slice none 0 0)).setCell ⟨s + 1, 3, none⟩ (.slice none 0 0) := ⟨_, rfl⟩
    rw [← hWF]
    obtain ⟨f0, f1, f2, f3, hF⟩ := set4_at k0 k1 k2 k3 _ _ _ _ WF hWF
    clear hWF k0 k1 k2 k3 z0 z1 z2 z3
    have hB := but_on (hBV.out.trans (W4'.below (fun n e => by omega) (by omega))) hF (by omega) (by have := W4'.size; omega)
    simp [bodyPost, results, Tryz.results18, go_sem, f0, f1, f2, f3]
    exact HRR.out _ _ ⟨by rw [hs]; exact hB, .inr ⟨by rw [HE.out]; exact hka, by rw [HE.out]; rfl⟩⟩
  subst hka
  have hA1 := HK.out rfl
  have HE : Hid (stepE x y J L = if A1.all rightB = true then (A1, 0) else ([], 3)) := by show _ = _; rw [HS.out]; rfl
  have HB : Hid (∀ W, Own W V.heap.size a2 g c2 A1 → Calls Tryz.prog 20 #[.slice a2 n c2] W fun e w' => e = .returned (.bool (A1.all rightB)) ∧ Grew W w') := fun W h => by
    rw [← hA1]; exact rightbodies_any A1 a2 c2 W h.bodies (by omega)
  clear HK HS
  generalize A1.all rightB = r at *
  cases r
  · go_wp2_with (first
      | (go_at_call 23; go_fit HTry.out; rintro e V4 ⟨W4', rfl, hO0⟩; (have hO4 : Own V4 V.heap.size a2 g c2 A1 := hO0 rfl); clear hO0; (have hb5 := hb4.but W4' (by omega)); (have ⟨e0, e1, e2, e3⟩ := hb5))
      | (go_at_call 20; go_fit (HB.out _ hO4); rintro e V5 ⟨rfl, U5⟩; (have k0 := U5.cell (W4'.cell l0 hsg)); (have k1 := U5.cell (W4'.cell l1 hsg)); (have k2 := U5.cell (W4'.cell l2 hsg)); (have k3 := U5.cell (W4'.cell l3 hsg)); (have z0 := U5.frozen (W4'.frozen hsq hsg y0)); (have z1 := U5.frozen (W4'.frozen hsq hsg y1)); (have z2 := U5.frozen (W4'.frozen hsq hsg y2)); (have z3 := U5.frozen (W4'.frozen hsq hsg y3))))
    obtain ⟨WF, hWF⟩ : ∃ X, X = (((V5.setCell ⟨s + 1, 0, none⟩ (.int .i64 0)).setCell ⟨s + 1, 1, none⟩ (.int .i64 0)).setCell ⟨s + 1, 2, none⟩ (.slice none 0 0)).setCell ⟨s + 1, 3, none⟩ (.slice none 0 0) := ⟨_, rfl⟩
    rw [← hWF]
    obtain ⟨f0, f1, f2, f3, hF⟩ := set4_at k0 k1 k2 k3 _ _ _ _ WF hWF
    clear hWF k0 k1 k2 k3 z0 z1 z2 z3
    have hB4 := hBV.out.trans (W4'.below (fun n e => by omega) (by omega))
    have hB := but_on (hB4.trans (U5.below.mono (by have := W4'.size; omega))) hF (by omega) (by have := W4'.size; have := U5.size; omega)
    simp [bodyPost, results, Tryz.results18, go_sem, f0, f1, f2, f3]
    exact HRR.out _ _ ⟨by rw [hs]; exact hB, .inr ⟨by rw [HE.out]; show ¬ (3 : Int) = 0; decide, by rw [HE.out]; rfl⟩⟩
  go_wp2_with (first
    | (go_at_call 23; go_fit HTry.out; rintro e V4 ⟨W4', rfl, hO0⟩; (have hO4 : Own V4 V.heap.size a2 g c2 A1 := hO0 rfl); clear hO0; (have hb5 := hb4.but W4' (by omega)); (have ⟨e0, e1, e2, e3⟩ := hb5))
    | (go_at_call 20; go_fit (HB.out _ hO4); rintro e V5 ⟨rfl, U5⟩; (have ⟨i0, i1, i2, i3⟩ := hb5.heap (U5.heap hb5.size)); (have k0 := U5.cell (W4'.cell l0 hsg)); (have k1 := U5.cell (W4'.cell l1 hsg)); (have k2 := U5.cell (W4'.cell l2 hsg)); (have k3 := U5.cell (W4'.cell l3 hsg)); (have z0 := U5.frozen (W4'.frozen hsq hsg y0)); (have z1 := U5.frozen (W4'.frozen hsq hsg y1)); (have z2 := U5.frozen (W4'.frozen hsq hsg y2)); (have z3 := U5.frozen (W4'.frozen hsq hsg y3))))
  obtain ⟨WF, hWF⟩ : ∃ X, X = (((V5.setCell ⟨s + 1, 0, none⟩ (.int .i64 x)).setCell ⟨s + 1, 1, none⟩ (.int .i64 y)).setCell ⟨s + 1, 2, none⟩ (.slice a2 n c2)).setCell ⟨s + 1, 3, none⟩ (.slice j2 m d2) := ⟨_, rfl⟩
  rw [← hWF]
  obtain ⟨f0, f1, f2, f3, hF⟩ := set4_at k0 k1 k2 k3 _ _ _ _ WF hWF
  clear hWF k0 k1 k2 k3 z0 z1 z2 z3
  have hB4 := hBV.out.trans (W4'.below (fun n e => by omega) (by omega))
  have hB := but_on (hB4.trans (U5.below.mono (by have := W4'.size; omega))) hF (by omega) (by have := W4'.size; have := U5.size; omega)
  have hBd := ((hO4.grew U5).but hF (by omega)).bodies
  have hJt := ((hJ3.but W4' hz3).grew U5).but hF hz4
  have hE2 : stepE x y J L = (A1, 0) := HE.out
  simp [bodyPost, results, Tryz.results18, go_sem, f0, f1, f2, f3]
  exact HRR.out _ _ ⟨by rw [hs]; exact hB, .inl ⟨by rw [hE2], a2, c2, j2, d2, by rw [hE2, em, show ((A1, (0 : Int)) : List Bd × Int).1.length = n from hA1]; rfl, by rw [hE2]; exact hBd, hJt, fun z off e => (by rw [hs]; rcases hO4.at' with ⟨e1, _⟩ | e1 <;> rw [e1] at e <;> cases e; omega), by rw [hs]; exact hz5⟩⟩
end Go.Proofs.YtnkhknmpffcfbaaGreat
