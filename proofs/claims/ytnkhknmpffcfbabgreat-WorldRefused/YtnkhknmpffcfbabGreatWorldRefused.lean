/-
  Proved: maquettelaw12.WorldRefused returns true for every gravity, bodies, joints and number of steps, and leaves what it was given as it was; no condition.
-/
import Derived.Test.YtnkhknmpffcfbabGreatRows
import Derived.Test.YtnkhknmpffcfbabGreatPk13
import Derived.WalkKit
import Derived.Deep.QuietTactic
import Derived.BigQuiet
import Derived.WalkSpells
import Derived.Deep.CutRange
import Derived.Deep.CutBlock
import Derived.WalkLawsBesides
import Derived.ProofKit
import Derived.OpenShut
import Derived.ChangeOld
import Derived.Below
namespace Go.Proofs.YtnkhknmpffcfbabGreat.worldRefused
open Go.ChangeShapes Go.WideShapes Go.ChangeAt Go.RowKit
set_option linter.unusedVariables false

theorem own : ownKnob Tryz.prog.godebug = none := by kernel_rfl
theorem laidOut : laidOutB Tryz.prog = true := by kernel_rfl

/-- Steps of a world that may not be. -/
theorem run_bad {x y : Int} {J : List Jt} {L : List Bd} {n : Nat} (h : rightW x y L J = false) (hn : n ≤ 200) : runE x y J L n = (([], if n = 0 then 0 else 1), 9) := by
  by_cases h0 : n = 0
  · subst h0
    show restE x y J L = _
    unfold restE
    rw [if_neg (by rw [h]; decide)]
    rfl
  · rw [runE_go (by omega) hn, if_neg h0]
    obtain ⟨m, rfl⟩ : ∃ m, n = m + 1 := ⟨n - 1, by omega⟩
    have e : stepE x y J L = ([], 9) := if_neg (by rw [h]; decide)
    show (if (stepE x y J L).2 = 0 then goE x y J m (0 + 1) (stepE x y J L).1 else (([], ((0 : Nat) : Int) + 1), (stepE x y J L).2)) = _
    rw [e]
    rfl
/-- Steps of a world that may be are never refused. -/
theorem run_no9 {x y : Int} {J : List Jt} {L : List Bd} {n : Nat} (ho : ∀ z ∈ L, z.ok) (h : rightW x y L J = true) (hn : n ≤ 200) : ¬ (runE x y J L n).2 = 9 := by
  by_cases h0 : n = 0
  · subst h0
    have e : runE x y J L ((0 : Nat) : Int) = ((L, 0), 0) := if_pos h
    rw [e]
    exact (show ¬ (0 : Int) = 9 by decide)
  · intro e
    rw [runE_go (by omega) hn] at e
    have g : ¬ (goE x y J n 0 L).2 = 0 := by rw [e]; decide
    obtain ⟨j, C, h1, _, h3, h4⟩ := goE_err g
    have hr : rightW x y C J = true := by
      by_cases hj : j = 0
      · subst hj
        have h3 : ((L, (0 : Int)), (0 : Int)) = ((C, 0), 0) := h3
        cases h3
        exact h
      · exact (goE_keep ho h3).2 (by omega)
    have := stepE_le hr
    rw [h4, e] at this
    omega

set_option maxRecDepth 100000 in
set_option maxHeartbeats 16000000 in
theorem walk (x0 y0 : Int) (f0 : inF x0) (g0 : inF y0) (a1 : Option Addr) (cap1 : Nat) (L1 : List Bd) (a2 : Option Addr) (cap2 : Nat) (L2 : List Jt) (a3 : Int) (f3 : inF a3) (w : World)  (b1 : Bodies w a1 L1) (b2 : Joints w a2 L2) :
    Calls Tryz.prog 3 #[vec x0 y0, .slice a1 L1.length cap1, .slice a2 L2.length cap2, .int .i64 a3] w fun e w' => e = .returned (.bool true) ∧ Below w.heap.size w w' := by
  by_cases hc : L1.length ≤ 10 ∧ L2.length ≤ 8 ∧ (a3 < 0 ∨ 200 < a3 ∨ a3 ≤ 5)
  rotate_left
  · have HG : Hid (∀ c, Below w.heap.size w (w.alloc (.cells c 24))) := fun c => onto_alloc (Below.refl _ _) _
    clear b1 b2
    by_cases c1 : 10 < (L1.length : Int)
    all_goals (try by_cases c2 : 8 < (L2.length : Int))
    all_goals (try by_cases c3 : a3 < 0)
    all_goals (try by_cases c4 : 200 < a3)
    all_goals (try by_cases c5 : 5 < a3)
    all_goals first
      | (exfalso; omega)
      | (clear hc f0 g0 f3
         unfold vec
         go_enter Tryz.func3, Tryz.ntmps3
         go_wp2_with (first
           | (go_at_call 5; go_fit (alive_any _); rintro e V1 ⟨rfl, U1⟩))
         go_ret
         exact ⟨rfl, onto (HG.out _) U1⟩)
  obtain ⟨hl1, hl2, hn3⟩ := hc
  have HG : Hid (∀ c, Below w.heap.size w (w.alloc (.cells c 24))) := fun c => onto_alloc (Below.refl _ _) _
  have HR : Hid (∀ W, Below w.heap.size w W → Calls Tryz.prog 7 #[.agg #[.int .i64 x0, .int .i64 y0, .slice a1 L1.length cap1, .slice a2 L2.length cap2], .int .i64 a3] W (RanTo x0 y0 (runE x0 y0 L2 L1 a3) L2 W)) := fun W h => runv_any x0 y0 f0 g0 L1 L2 a3 a1 cap1 a2 cap2 W (b1.below h) (b2.below h) (by omega) (by omega)
  have HS : Hid (∀ W, Below w.heap.size w W → Calls Tryz.prog 6 #[.agg #[.int .i64 x0, .int .i64 y0, .slice a1 L1.length cap1, .slice a2 L2.length cap2]] W (StepsTo x0 y0 (stepE x0 y0 L2 L1) L2 W)) := fun W h => stepv_any x0 y0 f0 g0 L1 L2 a1 cap1 a2 cap2 W (b1.below h) (b2.below h) (by omega) (by omega)
  have HW : Hid (∀ W, Below w.heap.size w W → Calls Tryz.prog 8 #[.agg #[.int .i64 x0, .int .i64 y0, .slice a1 L1.length cap1, .slice a2 L2.length cap2]] W fun e w' => e = .returned (.bool (rightW x0 y0 L1 L2)) ∧ Grew W w') := fun W h => right_any x0 y0 L1 L2 a1 cap1 a2 cap2 W (b1.below h) (b2.below h) (by omega) (by omega)
  have HWC : Hid (∀ (C : List Bd) a c b d W, C.length ≤ 500 → Bodies W a C → Joints W b L2 → Calls Tryz.prog 8 #[.agg #[.int .i64 x0, .int .i64 y0, .slice a C.length c, .slice b L2.length d]] W fun e w' => e = .returned (.bool (rightW x0 y0 C L2)) ∧ Grew W w') := fun C a c b d W h h1 h2 => right_any x0 y0 C L2 a c b d W h1 h2 (by omega) (by omega)
  have c1 : ¬ 10 < (L1.length : Int) := by omega
  have c2 : ¬ 8 < (L2.length : Int) := by omega
  have hL1 := b1.ok
  have hbad := fun n => @run_bad x0 y0 L2 L1 n
  have hgood := fun n => @run_no9 x0 y0 L2 L1 n hL1
  have hkeep := @step_keep x0 y0 L2 L1 hL1
  have hright := @step_right x0 y0 L2 L1 hL1
  have hsbad : rightW x0 y0 L1 L2 = false → stepE x0 y0 L2 L1 = ([], 9) := fun h => if_neg (by rw [h]; decide)
  have hsle := @stepE_le x0 y0 L2 L1
  clear b1 b2 f0 g0 hL1
  unfold vec
  by_cases c6 : a3 < 0 ∨ 200 < a3
  · have e1 := @runE_arg x0 y0 L2 L1 a3 c6
    have HR1 : Hid (∀ W, Below w.heap.size w W → Calls Tryz.prog 7 #[.agg #[.int .i64 x0, .int .i64 y0, .slice a1 L1.length cap1, .slice a2 L2.length cap2], .int .i64 a3] W fun e w' => Below W.heap.size W w' ∧ e = .returned (.tuple #[.agg #[.int .i64 0, .int .i64 0, .slice none 0 0, .slice none 0 0], .int .i64 0, .int .i64 9])) := fun W h => by
      have := ran_no (HR.out W h) (by rw [e1]; exact by decide)
      rw [e1] at this
      exact this
    have HS1 : Hid (∀ W, Below w.heap.size w W → Calls Tryz.prog 6 #[.agg #[.int .i64 x0, .int .i64 y0, .slice a1 L1.length cap1, .slice a2 L2.length cap2]] W fun e w' => Below W.heap.size W w' ∧ ∃ (v0 v1 : Int) (v2 : Option Addr) (v3 v4 : Nat) (v5 : Option Addr) (v6 v7 : Nat) (p : Int), e = .returned (.tuple #[.agg #[.int .i64 v0, .int .i64 v1, .slice v2 v3 v4, .slice v5 v6 v7], .int .i64 p])) := fun W h => (HS.out W h).mono (by
      rintro e w' ⟨h1, ⟨_, a', c', b', d', rfl, _⟩ | ⟨_, rfl⟩⟩
      · exact ⟨h1, _, _, _, _, _, _, _, _, _, rfl⟩
      · exact ⟨h1, _, _, _, _, _, _, _, _, _, rfl⟩)
    clear HR HS HW HWC hbad hgood hkeep hright hsbad hsle hn3 e1
    by_cases c3 : a3 < 0
    · have c5 : ¬ 0 ≤ a3 := by omega
      clear c6
      go_enter Tryz.func3, Tryz.ntmps3
      go_wp2_with (first
        | (go_at_call 5; go_fit (alive_any _); rintro e V1 ⟨rfl, U1⟩; (have B1 : Hid (Below w.heap.size w V1) := onto (HG.out _) U1); (have ⟨⟨k0, k1⟩, kz⟩ := box_after U1))
        | (go_at_call 6; go_fit (HS1.out _ (onto_alloc B1.out _)); rintro e V2 ⟨U2, v0, v1, v2, v3, v4, v5, v6, v7, p, rfl⟩; (have B2 : Hid (Below w.heap.size w V2) := onto (onto_alloc B1.out _) U2); (have ⟨⟨m0, m1, m2, m3⟩, mz⟩ := w4_after U2))
        | (go_at_call 7; go_fit (HR1.out _ (onto_alloc B2.out _)); rintro e V3 ⟨U3, rfl⟩; (have B3 : Hid (Below w.heap.size w V3) := onto (onto_alloc B2.out _) U3); (have ⟨⟨n0, n1, n2, n3⟩, nz⟩ := (W4.mk m0 m1 m2 m3).later U3); (have ⟨⟨q0, q1, q2, q3⟩, qz⟩ := w4_after U3)))
      go_ret
      exact ⟨rfl, onto_alloc B3.out _⟩
    · have c4 : 200 < a3 := by omega
      have c5 : 0 ≤ a3 := by omega
      have c7 : ¬ a3 ≤ 200 := by omega
      clear c6
      go_enter Tryz.func3, Tryz.ntmps3
      go_wp2_with (first
        | (go_at_call 5; go_fit (alive_any _); rintro e V1 ⟨rfl, U1⟩; (have B1 : Hid (Below w.heap.size w V1) := onto (HG.out _) U1); (have ⟨⟨k0, k1⟩, kz⟩ := box_after U1))
        | (go_at_call 6; go_fit (HS1.out _ (onto_alloc B1.out _)); rintro e V2 ⟨U2, v0, v1, v2, v3, v4, v5, v6, v7, p, rfl⟩; (have B2 : Hid (Below w.heap.size w V2) := onto (onto_alloc B1.out _) U2); (have ⟨⟨m0, m1, m2, m3⟩, mz⟩ := w4_after U2))
        | (go_at_call 7; go_fit (HR1.out _ (onto_alloc B2.out _)); rintro e V3 ⟨U3, rfl⟩; (have B3 : Hid (Below w.heap.size w V3) := onto (onto_alloc B2.out _) U3); (have ⟨⟨n0, n1, n2, n3⟩, nz⟩ := (W4.mk m0 m1 m2 m3).later U3); (have ⟨⟨q0, q1, q2, q3⟩, qz⟩ := w4_after U3)))
      go_ret
      exact ⟨rfl, onto_alloc B3.out _⟩
  have c3 : ¬ a3 < 0 := by omega
  have c4 : ¬ 200 < a3 := by omega
  obtain ⟨n, rfl⟩ : ∃ n : Nat, a3 = n := ⟨a3.toNat, by omega⟩
  have c5 : ¬ 5 < (n : Int) := by omega
  have c8 : 0 ≤ (n : Int) := by omega
  have c9 : (n : Int) ≤ 200 := by omega
  have hl4 : L1.length ≤ 500 := by omega
  clear c6 hn3 f3
  by_cases hw : rightW x0 y0 L1 L2 = true
  rotate_left
  · replace hw : rightW x0 y0 L1 L2 = false := by simpa using hw
    have e1 := hbad n hw (by omega)
    have e2 := hsbad hw
    have HR1 : Hid (∀ W, Below w.heap.size w W → Calls Tryz.prog 7 #[.agg #[.int .i64 x0, .int .i64 y0, .slice a1 L1.length cap1, .slice a2 L2.length cap2], .int .i64 n] W fun e w' => Below W.heap.size W w' ∧ e = .returned (.tuple #[.agg #[.int .i64 0, .int .i64 0, .slice none 0 0, .slice none 0 0], .int .i64 (if n = 0 then 0 else 1), .int .i64 9])) := fun W h => by
      have := ran_no (HR.out W h) (by rw [e1]; exact (show ¬ (9 : Int) = 0 by decide))
      rw [e1] at this
      exact this
    have HS1 : Hid (∀ W, Below w.heap.size w W → Calls Tryz.prog 6 #[.agg #[.int .i64 x0, .int .i64 y0, .slice a1 L1.length cap1, .slice a2 L2.length cap2]] W fun e w' => Below W.heap.size W w' ∧ e = .returned (.tuple #[.agg #[.int .i64 0, .int .i64 0, .slice none 0 0, .slice none 0 0], .int .i64 9])) := fun W h => by
      have := stepped_no (HS.out W h) (by rw [e2]; exact (show ¬ (9 : Int) = 0 by decide))
      rw [e2] at this
      exact this
    rw [hw] at HW
    clear HR HS HWC hbad hgood hkeep hright hsbad hsle e1 e2 hw
    have hm : min (n : Int) 1 = if n = 0 then 0 else 1 := by split <;> omega
    by_cases h0 : n = 0
    · have e0 : (n : Int) = 0 := by omega
      rw [if_pos h0] at HR1 hm
      rw [e0] at HR1 hm ⊢
      clear c5 c8 c9 h0 e0
      go_enter Tryz.func3, Tryz.ntmps3
      go_wp2_with (first
        | (go_at_call 5; go_fit (alive_any _); rintro e V1 ⟨rfl, U1⟩; (have B1 : Hid (Below w.heap.size w V1) := onto (HG.out _) U1); (have ⟨⟨k0, k1⟩, kz⟩ := box_after U1))
        | (go_at_call 6; go_fit (HS1.out _ (onto_alloc B1.out _)); rintro e V2 ⟨U2, rfl⟩; (have B2 : Hid (Below w.heap.size w V2) := onto (onto_alloc B1.out _) U2); (have ⟨⟨m0, m1, m2, m3⟩, mz⟩ := w4_after U2))
        | (go_at_call 7; go_fit (HR1.out _ (onto_alloc B2.out _)); rintro e V3 ⟨U3, rfl⟩; (have B3 : Hid (Below w.heap.size w V3) := onto (onto_alloc B2.out _) U3); (have ⟨⟨n0, n1, n2, n3⟩, nz⟩ := (W4.mk m0 m1 m2 m3).later U3); (have ⟨⟨q0, q1, q2, q3⟩, qz⟩ := w4_after U3))
        | (go_at_call 8; go_fit (HW.out _ (onto_alloc B3.out _)); rintro e V4 ⟨rfl, U4⟩; (have B4 : Hid (Below w.heap.size w V4) := onto (onto_alloc B3.out _) U4.below); (have ⟨⟨p0, p1, p2, p3⟩, pz⟩ := (W4.mk q0 q1 q2 q3).later U4.below)))
      go_ret
      exact ⟨rfl, B4.out⟩
    · rw [if_neg h0] at HR1 hm
      have h1 : 1 ≤ (n : Int) := by omega
      go_enter Tryz.func3, Tryz.ntmps3
      go_wp2_with (first
        | (go_at_call 5; go_fit (alive_any _); rintro e V1 ⟨rfl, U1⟩; (have B1 : Hid (Below w.heap.size w V1) := onto (HG.out _) U1); (have ⟨⟨k0, k1⟩, kz⟩ := box_after U1))
        | (go_at_call 6; go_fit (HS1.out _ (onto_alloc B1.out _)); rintro e V2 ⟨U2, rfl⟩; (have B2 : Hid (Below w.heap.size w V2) := onto (onto_alloc B1.out _) U2); (have ⟨⟨m0, m1, m2, m3⟩, mz⟩ := w4_after U2))
        | (go_at_call 7; go_fit (HR1.out _ (onto_alloc B2.out _)); rintro e V3 ⟨U3, rfl⟩; (have B3 : Hid (Below w.heap.size w V3) := onto (onto_alloc B2.out _) U3); (have ⟨⟨n0, n1, n2, n3⟩, nz⟩ := (W4.mk m0 m1 m2 m3).later U3); (have ⟨⟨q0, q1, q2, q3⟩, qz⟩ := w4_after U3))
        | (go_at_call 8; go_fit (HW.out _ (onto_alloc B3.out _)); rintro e V4 ⟨rfl, U4⟩; (have B4 : Hid (Below w.heap.size w V4) := onto (onto_alloc B3.out _) U4.below); (have ⟨⟨p0, p1, p2, p3⟩, pz⟩ := (W4.mk q0 q1 q2 q3).later U4.below)))
      go_ret
      exact ⟨rfl, B4.out⟩
  have q1 := hgood n hw (by omega)
  rw [hw] at HW
  generalize runE x0 y0 L2 L1 (n : Nat) = r at *
  have HR1 : Hid (∀ W, Below w.heap.size w W → Calls Tryz.prog 7 #[.agg #[.int .i64 x0, .int .i64 y0, .slice a1 L1.length cap1, .slice a2 L2.length cap2], .int .i64 n] W fun e w' => Below W.heap.size W w' ∧ ∃ (v0 v1 : Int) (v2 : Option Addr) (v3 v4 : Nat) (v5 : Option Addr) (v6 v7 : Nat) (p : Int), e = .returned (.tuple #[.agg #[.int .i64 v0, .int .i64 v1, .slice v2 v3 v4, .slice v5 v6 v7], .int .i64 p, .int .i64 r.2])) := fun W h => (HR.out W h).mono (by
    rintro e w' ⟨h1, ⟨h2, _, a', c', b', d', rfl, _⟩ | ⟨_, rfl⟩⟩
    · exact ⟨h1, _, _, _, _, _, _, _, _, _, by rw [h2]⟩
    · exact ⟨h1, _, _, _, _, _, _, _, _, _, rfl⟩)
  have q2 : (r.2 == 9) = false := by simpa using q1
  have q3 : (r.2 != 9) = true := by simpa using q1
  generalize r.2 = re at *
  have hsle := hsle hw
  clear HR hbad hgood hsbad hw q1
  by_cases hs : (stepE x0 y0 L2 L1).2 = 0
  · have hk := (hkeep hs).len
    have hr := hright hs
    have HS1 : Hid (∀ W, Below w.heap.size w W → Calls Tryz.prog 6 #[.agg #[.int .i64 x0, .int .i64 y0, .slice a1 L1.length cap1, .slice a2 L2.length cap2]] W fun e w' => Below W.heap.size W w' ∧ ∃ a' c' b' d', e = .returned (.tuple #[.agg #[.int .i64 x0, .int .i64 y0, .slice a' (stepE x0 y0 L2 L1).1.length c', .slice b' L2.length d'], .int .i64 0]) ∧ Bodies w' a' (stepE x0 y0 L2 L1).1 ∧ Joints w' b' L2) := fun W h => (HS.out W h).mono (by
      rintro e w' ⟨h1, ⟨_, h2⟩ | ⟨h2, _⟩⟩
      · exact ⟨h1, h2⟩
      · exact absurd hs h2)
    generalize (stepE x0 y0 L2 L1).1 = C at *
    have HWC : Hid (∀ a c b d W, Bodies W a C → Joints W b L2 → Calls Tryz.prog 8 #[.agg #[.int .i64 x0, .int .i64 y0, .slice a C.length c, .slice b L2.length d]] W fun e w' => e = .returned (.bool true) ∧ Grew W w') := fun a c b d W h1 h2 => by
      have := HWC.out C a c b d W (by omega) h1 h2
      rw [hr] at this
      exact this
    have hkb : ((C.length : Int) == (L1.length : Int)) = true := by rw [hk]; simp
    clear HS hkeep hright hsle hs hr hk
    go_enter Tryz.func3, Tryz.ntmps3
    go_wp2_with (first
      | (go_at_call 5; go_fit (alive_any _); rintro e V1 ⟨rfl, U1⟩; (have B1 : Hid (Below w.heap.size w V1) := onto (HG.out _) U1); (have ⟨⟨k0, k1⟩, kz⟩ := box_after U1))
      | (go_at_call 6; go_fit (HS1.out _ (onto_alloc B1.out _)); rintro e V2 ⟨U2, a', c', b', d', rfl, hB2, hJ2⟩; (have B2 : Hid (Below w.heap.size w V2) := onto (onto_alloc B1.out _) U2); (have ⟨⟨m0, m1, m2, m3⟩, mz⟩ := w4_after U2))
      | (go_at_call 7; go_fit (HR1.out _ (onto_alloc B2.out _)); rintro e V3 ⟨U3, v0, v1, v2, v3, v4, v5, v6, v7, p, rfl⟩; (have B3 : Hid (Below w.heap.size w V3) := onto (onto_alloc B2.out _) U3); (have ⟨⟨n0, n1, n2, n3⟩, nz⟩ := (W4.mk m0 m1 m2 m3).later U3); (have ⟨⟨q0, q1, q2, q3⟩, qz⟩ := w4_after U3); (have X3 : Below V2.heap.size V2 V3 := onto (onto_alloc (Below.refl _ V2) _) U3))
      | (go_at_call 8; go_fit (HW.out _ (onto_alloc B3.out _)); rintro e V4 ⟨rfl, U4⟩; (have B4 : Hid (Below w.heap.size w V4) := onto (onto_alloc B3.out _) U4.below); (have ⟨⟨p0, p1, p2, p3⟩, pz⟩ := (W4.mk q0 q1 q2 q3).later U4.below); (have X4 : Below V2.heap.size V2 V4 := onto (onto_alloc X3 _) U4.below); (have hB4 := hB2.below X4); (have hJ4 := hJ2.below X4))
      | (go_at_call 8; go_fit (HWC.out _ _ _ _ _ hB4 hJ4); rintro e V5 ⟨rfl, U5⟩; (have R1 := U5.cell p2)))
    go_ret
    exact ⟨rfl, onto B4.out U5.below⟩
  · have HS1 : Hid (∀ W, Below w.heap.size w W → Calls Tryz.prog 6 #[.agg #[.int .i64 x0, .int .i64 y0, .slice a1 L1.length cap1, .slice a2 L2.length cap2]] W fun e w' => Below W.heap.size W w' ∧ e = .returned (.tuple #[.agg #[.int .i64 0, .int .i64 0, .slice none 0 0, .slice none 0 0], .int .i64 (stepE x0 y0 L2 L1).2])) := fun W h => stepped_no (HS.out W h) hs
    generalize (stepE x0 y0 L2 L1).2 = se at *
    have s1 : (se != 0) = true := by simpa using hs
    have s2 : (se == 9) = false := by simp; omega
    have s3 : (se != 9) = true := by simp; omega
    clear HS hkeep hright hsle hs HWC
    go_enter Tryz.func3, Tryz.ntmps3
    go_wp2_with (first
      | (go_at_call 5; go_fit (alive_any _); rintro e V1 ⟨rfl, U1⟩; (have B1 : Hid (Below w.heap.size w V1) := onto (HG.out _) U1); (have ⟨⟨k0, k1⟩, kz⟩ := box_after U1))
      | (go_at_call 6; go_fit (HS1.out _ (onto_alloc B1.out _)); rintro e V2 ⟨U2, rfl⟩; (have B2 : Hid (Below w.heap.size w V2) := onto (onto_alloc B1.out _) U2); (have ⟨⟨m0, m1, m2, m3⟩, mz⟩ := w4_after U2))
      | (go_at_call 7; go_fit (HR1.out _ (onto_alloc B2.out _)); rintro e V3 ⟨U3, v0, v1, v2, v3, v4, v5, v6, v7, p, rfl⟩; (have B3 : Hid (Below w.heap.size w V3) := onto (onto_alloc B2.out _) U3); (have ⟨⟨n0, n1, n2, n3⟩, nz⟩ := (W4.mk m0 m1 m2 m3).later U3); (have ⟨⟨q0, q1, q2, q3⟩, qz⟩ := w4_after U3))
      | (go_at_call 8; go_fit (HW.out _ (onto_alloc B3.out _)); rintro e V4 ⟨rfl, U4⟩; (have B4 : Hid (Below w.heap.size w V4) := onto (onto_alloc B3.out _) U4.below); (have ⟨⟨p0, p1, p2, p3⟩, pz⟩ := (W4.mk q0 q1 q2 q3).later U4.below)))
    go_ret
    exact ⟨rfl, B4.out⟩

set_option maxRecDepth 100000 in
theorem lifted (os : Os) (started : os.Started) (H : Type) (enc : TypeId × Value → H) :
    ReturnsInHanded {} Tryz.checked os 3 .any (Rows.worldRefusedSpec.pre6 enc Tryz.prog Tryz.f3 Rows.worldRefusedRow.domain false) (Rows.worldRefusedSpec.post enc Tryz.prog Tryz.f3 false true false false) := by
  refine returnsInHanded_of_change (C := Tryz.checked) own started (by kernel_rfl) Tryz.func3
    (ChangeSpec.witness6 (enc := enc) (C := Tryz.checked) false ⟨#[], #[.agg #[.int .i64 0, .int .i64 0], .slice none 0 0, .slice none 0 0, .int .i64 0], []⟩ 8 (by kernel_rfl) (by kernel_rfl) (by kernel_rfl) (by kernel_rfl)) ?_
  intro W base args ds gs before hval0 hW hcnd _
  have hval : ∀ (j : Nat) t v, Tryz.f3.params[j]? = some t → args[j]? = some v → Value.okWide Tryz.prog W .any base t v := hval0
  have hW' := hW
  obtain ⟨p, q, hA0, hV, rfl, hfz, hnd⟩ := hW
  have hA : DataW.TrodAll enc Tryz.prog W 0 (fun _ => true) true Tryz.f3.params.toList args.toList ds p := hA0
  rw [Tryz.params3] at hA hval
  obtain ⟨v0, vs0, d0, ds0, p0, q0, hargs, rfl, rfl, h0, r0⟩ := trodAll_cons hA
  obtain ⟨v1, vs1, d1, ds1, p1, q1, rfl, rfl, rfl, h1, r1⟩ := trodAll_cons r0
  obtain ⟨v2, vs2, d2, ds2, p2, q2, rfl, rfl, rfl, h2, r2⟩ := trodAll_cons r1
  obtain ⟨v3, vs3, d3, ds3, p3, q3, rfl, rfl, rfl, h3, r3⟩ := trodAll_cons r2
  obtain ⟨rfl, rfl, rfl⟩ := trodAll_nil r3
  obtain rfl : args = #[v0, v1, v2, v3] := by cases args; simp_all
  obtain ⟨rfl, rfl⟩ := trodVars_none hV
  obtain ⟨x0, y0, rfl, rfl, rfl, f0, g0⟩ := open_vec (hval 0 24 v0 rfl rfl) h0
  obtain ⟨a1, len1, cap1, rfl⟩ := okWide_slice Tryz.underlying25 (hval 1 25 v1 rfl rfl)
  have k1 := h1
  have lt1 : ∀ x ∈ p1, x.block < W.heap.size := by obtain ⟨m, hm⟩ := k1; exact DataW.trod_lt m _ _ _ hm
  obtain ⟨L1, rfl, b1⟩ := open_bodies h1
  obtain ⟨a2, len2, cap2, rfl⟩ := okWide_slice Tryz.underlying26 (hval 2 26 v2 rfl rfl)
  have k2 := h2
  have lt2 : ∀ x ∈ p2, x.block < W.heap.size := by obtain ⟨m, hm⟩ := k2; exact DataW.trod_lt m _ _ _ hm
  obtain ⟨L2, rfl, b2⟩ := open_joints h2
  obtain ⟨a3, rfl, rfl, rfl, w3⟩ := open_int Tryz.underlying3 (hval 3 3 v3 rfl rfl) h3
  have f3 := inF_wf w3
  clear hA0 hval0
  refine (walk x0 y0 f0 g0 a1 cap1 L1 a2 cap2 L2 a3 f3 W  b1 b2 ).mono fun e W' ⟨he, bel⟩ => ?_
  subst he
  exact ⟨_, rfl, _, _, _, [], _, [], hW', trodAll_mk1 (shut_bool Tryz.underlying4 _), (trodAll_cons_mk (shut_vec f0 g0) (trodAll_cons_mk (Below.trod laidOut (by kernel_rfl) (of_decide_eq_true (by kernel_rfl)) k1 bel lt1) (trodAll_cons_mk (Below.trod laidOut (by kernel_rfl) (of_decide_eq_true (by kernel_rfl)) k2 bel lt2) (trodAll_cons_mk (shut_int Tryz.underlying3 w3) trodAll_mk0)))), rfl, bel.frame _, fun h => by cases h⟩

theorem over : Rows.worldRefusedRow.holds Tryz.pinned (OpenSpec.ofChange Rows.worldRefusedSpec) :=
  OpenClaim.holds_of_wide 3 Tryz.f3 rfl rfl rfl rfl rfl rfl rfl ⟨rfl, rfl, rfl, rfl, rfl⟩ rfl rfl rfl rfl rfl (by kernel_rfl) Tryz.func3 (by kernel_rfl)
    (of_decide_eq_true (by kernel_rfl)) (by unfold Func.isWrapper; first | (rw [if_pos (by decide +kernel)]; kernel_rfl) | (rw [if_neg (by decide +kernel)]; exact ⟨rfl, rfl⟩))
    (fun os started H enc _ => lifted os started H enc)

theorem proved : Rows.WorldRefusedSaid :=
  over
end Go.Proofs.YtnkhknmpffcfbabGreat.worldRefused

namespace Go.Proofs.YtnkhknmpffcfbabGreat
theorem worldRefused_holds : Rows.WorldRefusedSaid := worldRefused.proved
end Go.Proofs.YtnkhknmpffcfbabGreat
