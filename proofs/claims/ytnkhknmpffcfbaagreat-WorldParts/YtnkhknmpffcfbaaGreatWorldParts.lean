/-
  Proved: maquettelaw12.WorldParts returns true for every gravity, bodies, joints and two numbers of steps (steps one behind the other are as many at once), and leaves what it was given as it was; no condition.
-/
import Derived.Test.YtnkhknmpffcfbaaGreatRows
import Derived.Test.YtnkhknmpffcfbaaGreatPk13
import Derived.Test.YtnkhknmpffcfbaaGreatPk06
import Derived.WalkKit
import Derived.Deep.QuietTactic
import Derived.BigQuiet
import Derived.WalkSpells
import Derived.Deep.CutRange
import Derived.Deep.CutBlock
import Derived.WalkLawsBesides
import Derived.ProofKit
import Derived.OpenShut
import Derived.ChangeOld
import Derived.Below
namespace Go.Proofs.YtnkhknmpffcfbaaGreat.worldParts
open Go.ChangeShapes Go.WideShapes Go.ChangeAt Go.RowKit
set_option linter.unusedVariables false

theorem own : ownKnob Tryz.prog.godebug = none := by kernel_rfl
theorem laidOut : laidOutB Tryz.prog = true := by kernel_rfl

theorem drew_below1 (w : World) : Below w.heap.size w w.drew := Go.RowKit.Below.drew (Below.refl _ _)
/-- Steps that fail: of a world that may not be, or at one of them. -/
theorem parts_no {x y : Int} {J : List Jt} {L : List Bd} {n : Nat} (h1 : n ≤ 200) (h : ¬ (runE x y J L n).2 = 0) : rightW x y L J = false ∨ 1 ≤ (runE x y J L n).1.2 ∧ (runE x y J L n).1.2 ≤ n := by
  by_cases h0 : n = 0
  · subst h0
    have e : runE x y J L ((0 : Nat) : Int) = restE x y J L := rfl
    rw [e] at h
    unfold restE at h
    split at h
    · exact absurd rfl h
    · rename_i g
      exact .inl (by simpa using g)
  · rw [runE_go (by omega) h1] at h ⊢
    obtain ⟨j, C, h2, h3, _⟩ := goE_err h
    exact .inr (by rw [h3]; simp only; omega)
theorem parts_of {x y : Int} {J : List Jt} {L C : List Bd} {m n : Nat} (hm : m ≤ 100) (hn : n ≤ 100) (ho : ∀ z ∈ L, z.ok) (h : runE x y J L m = ((C, 0), 0)) :
    (∃ D, runE x y J C n = ((D, 0), 0) ∧ runE x y J L ((m : Int) + n) = ((D, 0), 0) ∧ D.length = L.length) ∨ (¬ (runE x y J C n).2 = 0 ∧ (runE x y J L ((m : Int) + n)).2 = (runE x y J C n).2 ∧ (runE x y J L ((m : Int) + n)).1.2 = m + (runE x y J C n).1.2 ∧ 0 ≤ (runE x y J C n).1.2 ∧ (runE x y J C n).1.2 ≤ n) := by
  rw [show (m : Int) + (n : Int) = ((m + n : Nat) : Int) by omega]
  have hk := runE_keep (by omega) ho h
  by_cases h0 : n = 0
  · subst h0
    refine .inl ⟨C, ?_, h, hk.1.len⟩
    show restE x y J C = _
    exact if_pos hk.2
  · by_cases hm0 : m = 0
    · subst hm0
      have e : restE x y J L = ((C, 0), 0) := h
      unfold restE at e
      split at e
      · cases e
        rw [Nat.zero_add]
        by_cases g : (runE x y J L (n : Nat)).2 = 0
        · have := runE_ok g
          exact .inl ⟨_, this, this, runE_len (by omega) ho this⟩
        · right
          have hb := parts_no (by omega) g
          rcases hb with hb | hb
          · exact absurd hk.2 (by rw [hb]; decide)
          · exact ⟨g, rfl, by omega, by omega, hb.2⟩
      · exact absurd (show (9 : Int) = 0 from congrArg Prod.snd e) (by decide)
    · rw [runE_go (by omega) (by omega)] at h
      rw [runE_go (show 0 < n by omega) (by omega), runE_go (show 0 < m + n by omega) (by omega), goE_add h]
      have hs := @goE_shift x y J n 0 m C
      by_cases g : (goE x y J n 0 C).2 = 0
      · have e1 : goE x y J n 0 C = (((goE x y J n 0 C).1.1, 0), 0) := Prod.ext (Prod.ext rfl (goE_one g)) g
        refine .inl ⟨_, e1, by rw [hs.2.1 g]; exact e1, ?_⟩
        have := (goE_keep hk.1.ok e1).1.len
        rw [this]; exact hk.1.len
      · obtain ⟨j, C', h2, h3, _⟩ := goE_err g
        have h4 := hs.2.2 g
        refine .inr ⟨g, hs.1, by rw [h4]; omega, ?_, ?_⟩ <;> rw [h3] <;> simp only <;> omega

set_option maxRecDepth 100000 in
set_option maxHeartbeats 16000000 in
theorem walk (x0 y0 : Int) (f0 : inF x0) (g0 : inF y0) (a1 : Option Addr) (cap1 : Nat) (L1 : List Bd) (a2 : Option Addr) (cap2 : Nat) (L2 : List Jt) (a3 : Int) (f3 : inF a3) (a4 : Int) (f4 : inF a4) (w : World)  (b1 : Bodies w a1 L1) (b2 : Joints w a2 L2)  :
    Calls Tryz.prog 3 #[vec x0 y0, .slice a1 L1.length cap1, .slice a2 L2.length cap2, .int .i64 a3, .int .i64 a4] w fun e w' => e = .returned (.bool true) ∧ Below w.heap.size w w' := by
  by_cases hc : L1.length ≤ 10 ∧ L2.length ≤ 8 ∧ (0 ≤ a3 ∧ a3 ≤ 6) ∧ 0 ≤ a4 ∧ a4 ≤ 6
  rotate_left
  · have HG : Hid (∀ c, Below w.heap.size w (w.alloc (.cells c 24))) := fun c => onto_alloc (Below.refl _ _) _
    clear b1 b2
    by_cases c1 : 10 < (L1.length : Int)
    all_goals (try by_cases c2 : 8 < (L2.length : Int))
    all_goals (try by_cases c3 : a3 < 0)
    all_goals (try by_cases c4 : a4 < 0)
    all_goals (try by_cases c5 : 6 < a3)
    all_goals (try by_cases c6 : 6 < a4)
    all_goals first
      | (exfalso; omega)
      | (clear hc f0 g0 f3 f4
         unfold vec
         go_enter Tryz.func3, Tryz.ntmps3
         go_wp2_with (first
           | (go_at_call 9; go_fit (alive_any _); rintro e V1 ⟨rfl, U1⟩))
         go_ret
         exact ⟨rfl, onto (HG.out _) U1⟩)
  obtain ⟨hl1, hl2, ⟨h0, h1⟩, h2, h3⟩ := hc
  obtain ⟨m, rfl⟩ : ∃ m : Nat, a3 = m := ⟨a3.toNat, by omega⟩
  obtain ⟨n, rfl⟩ : ∃ n : Nat, a4 = n := ⟨a4.toNat, by omega⟩
  have HG : Hid (∀ c, Below w.heap.size w (w.alloc (.cells c 24))) := fun c => onto_alloc (Below.refl _ _) _
  have HR : Hid (∀ N W, Below w.heap.size w W → Calls Tryz.prog 10 #[.agg #[.int .i64 x0, .int .i64 y0, .slice a1 L1.length cap1, .slice a2 L2.length cap2], .int .i64 N] W (RanTo x0 y0 (runE x0 y0 L2 L1 N) L2 W)) := fun N W h => runv_any x0 y0 f0 g0 L1 L2 N a1 cap1 a2 cap2 W (b1.below h) (b2.below h) (by omega) (by omega)
  have HW : Hid (∀ W, Below w.heap.size w W → Calls Tryz.prog 11 #[.agg #[.int .i64 x0, .int .i64 y0, .slice a1 L1.length cap1, .slice a2 L2.length cap2]] W fun e w' => e = .returned (.bool (rightW x0 y0 L1 L2)) ∧ Grew W w') := fun W h => right_any x0 y0 L1 L2 a1 cap1 a2 cap2 W (b1.below h) (b2.below h) (by omega) (by omega)
  have c1 : ¬ 10 < (L1.length : Int) := by omega
  have c2 : ¬ 8 < (L2.length : Int) := by omega
  have hL1 := b1.ok
  have hno := @parts_no x0 y0 L2 L1 m (by omega)
  have hof := fun C => @parts_of x0 y0 L2 L1 C m n (by omega) (by omega) hL1
  have hok := @runE_ok x0 y0 L2 L1 m
  have hlen := fun C => @runE_len x0 y0 L2 L1 C m (by omega) hL1
  have HRC : Hid (∀ (C : List Bd) a c b d W, C.length ≤ 500 → Bodies W a C → Joints W b L2 → Calls Tryz.prog 10 #[.agg #[.int .i64 x0, .int .i64 y0, .slice a C.length c, .slice b L2.length d], .int .i64 n] W (RanTo x0 y0 (runE x0 y0 L2 C n) L2 W)) := fun C a c b d W h h1 h2 => runv_any x0 y0 f0 g0 C L2 n a c b d W h1 h2 h (by omega)
  have hl4 : L2.length ≤ 500 := by omega
  clear b1 b2 f0 g0 f3 f4 hL1
  unfold vec
  have HRm := fun W h => HR.out m W h
  generalize runE x0 y0 L2 L1 (m : Int) = r at *
  by_cases hr : r.2 = 0
  rotate_left
  · replace HRm : Hid (∀ W, Below w.heap.size w W → Calls Tryz.prog 10 #[.agg #[.int .i64 x0, .int .i64 y0, .slice a1 L1.length cap1, .slice a2 L2.length cap2], .int .i64 m] W fun e w' => Below W.heap.size W w' ∧ e = .returned (.tuple #[.agg #[.int .i64 0, .int .i64 0, .slice none 0 0, .slice none 0 0], .int .i64 r.1.2, .int .i64 r.2])) := fun W h => ran_no (HRm W h) hr
    have hno := hno hr
    have hr0 : (r.2 != 0) = true := by simpa using hr
    obtain ⟨⟨rc, rat⟩, re⟩ := r
    simp only at hno hr0 HRm hr
    clear hof hok hlen HRC HR hr
    generalize rightW x0 y0 L1 L2 = rw' at *
    cases rw'
    · clear hno
      go_enter Tryz.func3, Tryz.ntmps3
      go_wp2_with (first
        | (go_at_call 9; go_fit (alive_any _); rintro e V1 ⟨rfl, U1⟩; (have B1 : Hid (Below w.heap.size w V1) := onto (HG.out _) U1); (have ⟨⟨k0, k1⟩, kz⟩ := box_after U1))
        | (go_at_call 10; go_fit (HRm.out _ (onto_alloc B1.out _)); rintro e V2 ⟨U2, rfl⟩; (have B2 : Hid (Below w.heap.size w V2) := onto (onto_alloc B1.out _) U2); (have ⟨⟨m0, m1, m2, m3⟩, mz⟩ := w4_after U2))
        | (go_at_call 11; go_fit (HW.out _ (onto_alloc B2.out _)); rintro e V3 ⟨rfl, U3⟩))
      go_ret
      exact ⟨rfl, onto (onto_alloc B2.out _) U3.below⟩
    · have hno := hno.resolve_left (by decide)
      have n1 : 1 ≤ rat := hno.1
      have n2 : rat ≤ (m : Int) := hno.2
      clear hno
      go_enter Tryz.func3, Tryz.ntmps3
      go_wp2_with (first
        | (go_at_call 9; go_fit (alive_any _); rintro e V1 ⟨rfl, U1⟩; (have B1 : Hid (Below w.heap.size w V1) := onto (HG.out _) U1); (have ⟨⟨k0, k1⟩, kz⟩ := box_after U1))
        | (go_at_call 10; go_fit (HRm.out _ (onto_alloc B1.out _)); rintro e V2 ⟨U2, rfl⟩; (have B2 : Hid (Below w.heap.size w V2) := onto (onto_alloc B1.out _) U2); (have ⟨⟨m0, m1, m2, m3⟩, mz⟩ := w4_after U2))
        | (go_at_call 11; go_fit (HW.out _ (onto_alloc B2.out _)); rintro e V3 ⟨rfl, U3⟩))
      go_ret
      exact ⟨rfl, onto (onto_alloc B2.out _) U3.below⟩
  have hr1 := hok hr
  obtain ⟨⟨C, rat⟩, re⟩ := r
  simp only [Prod.mk.injEq, true_and] at hr1
  obtain ⟨rfl, rfl⟩ := hr1
  have hof := hof C rfl
  have hlC := hlen C rfl
  have hlC5 : C.length ≤ 500 := by omega
  replace HRm : Hid (∀ W, Below w.heap.size w W → Calls Tryz.prog 10 #[.agg #[.int .i64 x0, .int .i64 y0, .slice a1 L1.length cap1, .slice a2 L2.length cap2], .int .i64 m] W fun e w' => Below W.heap.size W w' ∧ ∃ a' c' b' d', e = .returned (.tuple #[.agg #[.int .i64 x0, .int .i64 y0, .slice a' C.length c', .slice b' L2.length d'], .int .i64 0, .int .i64 0]) ∧ Bodies w' a' C ∧ Joints w' b' L2) := fun W h => ran_ok (HRm W h)
  have HRC2 : Hid (∀ a c b d W, Bodies W a C → Joints W b L2 → Calls Tryz.prog 10 #[.agg #[.int .i64 x0, .int .i64 y0, .slice a C.length c, .slice b L2.length d], .int .i64 n] W (RanTo x0 y0 (runE x0 y0 L2 C n) L2 W)) := fun a c b d W h1 h2 => HRC.out C a c b d W hlC5 h1 h2
  have HRs := fun W h => HR.out ((m : Int) + n) W h
  have hlC6 : Hid (C.length = L1.length) := hlC
  clear hno hok hlen HRC HR HW hr hlC
  generalize runE x0 y0 L2 C (n : Int) = s at *
  generalize runE x0 y0 L2 L1 ((m : Int) + n) = u at *
  rcases hof with ⟨D, rfl, rfl, hD⟩ | ⟨g1, g2, g3, g4, g5⟩
  · replace HRC2 : Hid (∀ a c b d W, Bodies W a C → Joints W b L2 → Calls Tryz.prog 10 #[.agg #[.int .i64 x0, .int .i64 y0, .slice a C.length c, .slice b L2.length d], .int .i64 n] W fun e w' => Below W.heap.size W w' ∧ ∃ a' c' b' d', e = .returned (.tuple #[.agg #[.int .i64 x0, .int .i64 y0, .slice a' D.length c', .slice b' L2.length d'], .int .i64 0, .int .i64 0]) ∧ Bodies w' a' D ∧ Joints w' b' L2) := fun a c b d W h1 h2 => ran_ok (HRC2.out a c b d W h1 h2)
    replace HRs : Hid (∀ W, Below w.heap.size w W → Calls Tryz.prog 10 #[.agg #[.int .i64 x0, .int .i64 y0, .slice a1 L1.length cap1, .slice a2 L2.length cap2], .int .i64 ((m : Int) + n)] W fun e w' => Below W.heap.size W w' ∧ ∃ a' c' b' d', e = .returned (.tuple #[.agg #[.int .i64 x0, .int .i64 y0, .slice a' D.length c', .slice b' L2.length d'], .int .i64 0, .int .i64 0]) ∧ Bodies w' a' D ∧ Joints w' b' L2) := fun W h => ran_ok (HRs W h)
    have HD : Hid (D.length ≤ 500) := by show D.length ≤ 500; omega
    have HL4 : Hid (L2.length ≤ 500) := hl4
    clear hD hlC5 hl4
    go_enter Tryz.func3, Tryz.ntmps3
    go_upto_region 7 with (first
      | (go_at_call 9; go_fit (alive_any _); rintro e V1 ⟨rfl, U1⟩; (have B1 : Hid (Below w.heap.size w V1) := onto (HG.out _) U1); (have ⟨⟨k0, k1⟩, kz⟩ := box_after U1))
      | (go_at_call 10; go_fit (HRm.out _ (onto_alloc B1.out _)); rintro e V2 ⟨U2, a2', c2', b2', d2', rfl, hB2, hJ2⟩; (have B2 : Hid (Below w.heap.size w V2) := onto (onto_alloc B1.out _) U2); (have ⟨⟨m0, m1, m2, m3⟩, mz⟩ := w4_after U2)))
    have hB2' := hB2.below (below_alloc (Below.refl _ V2) (Nat.le_refl _) (.cells #[.int .i64 x0, .int .i64 y0, .slice a2' C.length c2', .slice b2' L2.length d2'] 29))
    have hJ2' := hJ2.below (below_alloc (Below.refl _ V2) (Nat.le_refl _) (.cells #[.int .i64 x0, .int .i64 y0, .slice a2' C.length c2', .slice b2' L2.length d2'] 29))
    go_upto_region 8 with (first
      | (go_at_call 10; go_fit (HRC2.out _ _ _ _ _ hB2' hJ2'); rintro e V3 ⟨U3, a3', c3, b3, d3, rfl, hB3, hJ3⟩; (have B3 : Hid (Below w.heap.size w V3) := onto (onto_alloc B2.out _) U3); (have ⟨⟨n0, n1, n2, n3⟩, nz⟩ := (W4.mk m0 m1 m2 m3).later U3)))
    go_upto_region 11 with (first
      | (go_at_call 10; go_fit (HRs.out _ (onto_alloc B3.out _)); rintro e V4 ⟨U4, a4, c4, b4, d4, rfl, hB4, hJ4⟩; (have B4 : Hid (Below w.heap.size w V4) := onto (onto_alloc B3.out _) U4)))
    obtain ⟨hy4, hyz⟩ := w4_after U4
    obtain ⟨V5, hV5⟩ : ∃ X, X = V4.alloc (.cells #[.int .i64 x0, .int .i64 y0, .slice a4 D.length c4, .slice b4 L2.length d4] 29) := ⟨_, rfl⟩
    rw [← hV5]
    have U5 : Below V4.heap.size V4 V5 := by rw [hV5]; exact onto_alloc (Below.refl _ _) _
    have hz5 : W4 V5 V4.heap.size x0 y0 a4 D.length c4 b4 L2.length d4 := by rw [hV5]; constructor <;> simp [go_sem]
    have hy5 := hy4.heap (U5.block _ hyz)
    have hBz := hB4.below U5
    have hJz := hJ4.below U5
    have hBy := (((hB3.below (below_alloc (Below.refl _ V3) (Nat.le_refl _) (.cells #[.int .i64 x0, .int .i64 y0, .slice a3' D.length c3, .slice b3 L2.length d3] 29))).below U4).below U5)
    have hJy := (((hJ3.below (below_alloc (Below.refl _ V3) (Nat.le_refl _) (.cells #[.int .i64 x0, .int .i64 y0, .slice a3' D.length c3, .slice b3 L2.length d3] 29))).below U4).below U5)
    have HQ : Hid (∀ W, Below V5.heap.size V5 W → Calls Tryz.prog 12 #[.agg #[.int .i64 x0, .int .i64 y0, .slice a4 D.length c4, .slice b4 L2.length d4], .agg #[.int .i64 x0, .int .i64 y0, .slice a3' D.length c3, .slice b3 L2.length d3]] W fun e w' => e = .returned (.bool true) ∧ Below W.heap.size W w') := fun W h => same_any x0 y0 D L2 a4 b4 a3' b3 c4 d4 c3 d3 W (hBz.below h) (hBy.below h) (hJz.below h) (hJy.below h) HD.out HL4.out
    have B5 : Hid (Below w.heap.size w V5) := onto B4.out U5
    generalize V4.heap.size = qz at *
    generalize V3.heap.size = qy at *
    clear hV5 U1 U2 U3 U4 U5 hB2 hJ2 hB2' hJ2' hB3 hJ3 hB4 hJ4 hBz hJz hBy hJy hy4 hyz m0 m1 m2 m3 n0 n1 n2 n3 k0 k1 kz mz nz
    refine lat_region (A := (fun w' => W4 w' qz x0 y0 a4 D.length c4 b4 L2.length d4 ∧ W4 w' qy x0 y0 a3' D.length c3 b3 L2.length d3 ∧ Below V5.heap.size V5 w')) (S := (fun _ => True)) [] (by kernel_rfl) ?_ (fun hH0 => ?_)
    · exact ⟨⟨hz5.heap rfl, hy5.heap rfl, drew_below1 V5⟩, trivial⟩
    refine lat_free (i := 0) (oi := { dst := some 105, op := Go.Op.load 29 (Go.Operand.tmp 18), type := 29, pos := "law.go:72", after := #[], guard := none }) (v := ?va1) rfl (by kernel_rfl) (by kernel_rfl) (by kernel_rfl) (by kernel_rfl) (fun _ _ _ h => h) (Or.inl ⟨by rfl, ?hya1⟩) ⟨hH0.1, fun _ => hH0.2⟩ ?resta1
    case hya1 => (intro w hAw; obtain ⟨⟨p0, p1, p2, p3⟩, ⟨r0, r1, r2, r3⟩, _⟩ := hAw; go_simp; try (with_reducible rfl))
    simp only [Act.put, List.setIfInBounds_toArray, List.set_cons_zero, List.set_cons_succ]
    refine lat_free (i := 1) (oi := { dst := some 106, op := Go.Op.load 29 (Go.Operand.tmp 15), type := 29, pos := "law.go:72", after := #[], guard := none }) (v := ?va2) rfl (by kernel_rfl) (by kernel_rfl) (by kernel_rfl) (by kernel_rfl) (fun _ _ _ h => h) (Or.inl ⟨by rfl, ?hya2⟩) ⟨hH0.1, fun _ => hH0.2⟩ ?resta2
    case hya2 => (intro w hAw; obtain ⟨⟨p0, p1, p2, p3⟩, ⟨r0, r1, r2, r3⟩, _⟩ := hAw; go_simp; try (with_reducible rfl))
    simp only [Act.put, List.setIfInBounds_toArray, List.set_cons_zero, List.set_cons_succ]
    refine lat_one (i := 2) (by kernel_rfl) ?_
    refine lat_run (o := { dst := some 107, op := Go.Op.call { callee := Go.Callee.value (Go.Operand.func 13), args := #[Go.Operand.tmp 106], argTypes := #[29] }, type := 35, pos := "law.go:72", after := #[{ on := 1, ground := Go.Ground.data }], guard := none }) rfl (fun K hK => ?_)
    go_simp
    go_wp2_with (first
      | (go_at_call 13; go_fit (ref_any _ _ _ _ _ _ _ _ _); rintro e V6 ⟨rfl, Uu⟩)
      | fail)
    refine hK.out _ _ (⟨⟨hH0.1.1.heap (Uu.block _ hH0.1.1.size), hH0.1.2.1.heap (Uu.block _ hH0.1.2.1.size), onto hH0.1.2.2 Uu⟩, trivial⟩) (fun hHa3 => ?_)
    clear hK K
    refine lat_one (i := 3) (by kernel_rfl) ?_
    refine lat_run (o := { dst := some 108, op := Go.Op.call { callee := Go.Callee.value (Go.Operand.func 12), args := #[Go.Operand.tmp 105, Go.Operand.tmp 107], argTypes := #[29, 35] }, type := 4, pos := "law.go:72", after := #[{ on := 0, ground := Go.Ground.data }, { on := 2, ground := Go.Ground.data }, { on := 2, ground := Go.Ground.chain }], guard := none }) rfl (fun K hK => ?_)
    clear Uu
    go_simp
    go_wp2_with (first
      | (go_at_call 12; go_fit (HQ.out _ hHa3.1.2.2); rintro e V7 ⟨rfl, Uu⟩)
      | fail)
    refine hK.out _ _ (⟨⟨hHa3.1.1.heap (Uu.block _ hHa3.1.1.size), hHa3.1.2.1.heap (Uu.block _ hHa3.1.2.1.size), onto hHa3.1.2.2 Uu⟩, trivial⟩) (fun hHa4 => ?_)
    clear hK K
    refine lat_free (i := 4) (oi := { dst := some 10, op := Go.Op.assign (Go.Operand.tmp 108), type := 4, pos := "law.go:72", after := #[{ on := 3, ground := Go.Ground.data }, { on := 3, ground := Go.Ground.chain }, { on := 0, ground := Go.Ground.phase }, { on := 1, ground := Go.Ground.phase }, { on := 2, ground := Go.Ground.phase }, { on := 3, ground := Go.Ground.phase }], guard := none }) (v := ?va5) rfl (by kernel_rfl) (by kernel_rfl) (by kernel_rfl) (by kernel_rfl) (fun _ _ _ h => h) (Or.inl ⟨by rfl, ?hya5⟩) ⟨hHa4.1, fun _ => hHa4.2⟩ ?resta5
    case hya5 => (intro w hAw; obtain ⟨⟨p0, p1, p2, p3⟩, ⟨r0, r1, r2, r3⟩, _⟩ := hAw; go_simp; try (with_reducible rfl))
    simp only [Act.put, List.setIfInBounds_toArray, List.set_cons_zero, List.set_cons_succ]
    refine lat_done (by kernel_rfl) ?_ _
    go_wp2_with (fail)
    go_ret
    exact ⟨rfl, (onto B5.out hHa4.1.2.2)⟩
  · replace HRC2 : Hid (∀ a c b d W, Bodies W a C → Joints W b L2 → Calls Tryz.prog 10 #[.agg #[.int .i64 x0, .int .i64 y0, .slice a C.length c, .slice b L2.length d], .int .i64 n] W fun e w' => Below W.heap.size W w' ∧ e = .returned (.tuple #[.agg #[.int .i64 0, .int .i64 0, .slice none 0 0, .slice none 0 0], .int .i64 s.1.2, .int .i64 s.2])) := fun a c b d W h1 h2 => ran_no (HRC2.out a c b d W h1 h2) g1
    replace HRs : Hid (∀ W, Below w.heap.size w W → Calls Tryz.prog 10 #[.agg #[.int .i64 x0, .int .i64 y0, .slice a1 L1.length cap1, .slice a2 L2.length cap2], .int .i64 ((m : Int) + n)] W fun e w' => Below W.heap.size W w' ∧ e = .returned (.tuple #[.agg #[.int .i64 0, .int .i64 0, .slice none 0 0, .slice none 0 0], .int .i64 ((m : Int) + s.1.2), .int .i64 s.2])) := fun W h => by
      have := ran_no (HRs W h) (by rw [g2]; exact g1)
      rw [g2, g3] at this
      exact this
    obtain ⟨⟨sc, st⟩, se⟩ := s
    simp only at g1 g4 g5 HRs HRC2
    have e1 : (se != 0) = true := by simpa using g1
    clear g1 g2 g3 hlC5 hl4
    go_enter Tryz.func3, Tryz.ntmps3
    go_upto_region 7 with (first
      | (go_at_call 9; go_fit (alive_any _); rintro e V1 ⟨rfl, U1⟩; (have B1 : Hid (Below w.heap.size w V1) := onto (HG.out _) U1); (have ⟨⟨k0, k1⟩, kz⟩ := box_after U1))
      | (go_at_call 10; go_fit (HRm.out _ (onto_alloc B1.out _)); rintro e V2 ⟨U2, a2', c2', b2', d2', rfl, hB2, hJ2⟩; (have B2 : Hid (Below w.heap.size w V2) := onto (onto_alloc B1.out _) U2); (have ⟨⟨m0, m1, m2, m3⟩, mz⟩ := w4_after U2)))
    have hB2' := hB2.below (below_alloc (Below.refl _ V2) (Nat.le_refl _) (.cells #[.int .i64 x0, .int .i64 y0, .slice a2' C.length c2', .slice b2' L2.length d2'] 29))
    have hJ2' := hJ2.below (below_alloc (Below.refl _ V2) (Nat.le_refl _) (.cells #[.int .i64 x0, .int .i64 y0, .slice a2' C.length c2', .slice b2' L2.length d2'] 29))
    go_upto_region 8 with (first
      | (go_at_call 10; go_fit (HRC2.out _ _ _ _ _ hB2' hJ2'); rintro e V3 ⟨U3, rfl⟩; (have B3 : Hid (Below w.heap.size w V3) := onto (onto_alloc B2.out _) U3); (have ⟨⟨n0, n1, n2, n3⟩, nz⟩ := (W4.mk m0 m1 m2 m3).later U3)))
    go_upto_region 11 with (first
      | (go_at_call 10; go_fit (HRs.out _ (onto_alloc B3.out _)); rintro e V4 ⟨U4, rfl⟩; (have B4 : Hid (Below w.heap.size w V4) := onto (onto_alloc B3.out _) U4)))
    obtain ⟨hy4, hyz⟩ := w4_after U4
    obtain ⟨V5, hV5⟩ : ∃ X, X = V4.alloc (.cells #[.int .i64 0, .int .i64 0, .slice none 0 0, .slice none 0 0] 29) := ⟨_, rfl⟩
    rw [← hV5]
    have U5 : Below V4.heap.size V4 V5 := by rw [hV5]; exact onto_alloc (Below.refl _ _) _
    have hz5 : W4 V5 V4.heap.size 0 0 none 0 0 none 0 0 := by rw [hV5]; constructor <;> simp [go_sem]
    have hy5 := hy4.heap (U5.block _ hyz)
    have HQ : Hid (∀ W, Below V5.heap.size V5 W → Calls Tryz.prog 12 #[.agg #[.int .i64 0, .int .i64 0, .slice none 0 0, .slice none 0 0], .agg #[.int .i64 0, .int .i64 0, .slice none 0 0, .slice none 0 0]] W fun e w' => e = .returned (.bool true) ∧ Below W.heap.size W w') := fun W _ => same_any 0 0 [] [] none none none none 0 0 0 0 W ⟨fun _ h => (by cases h), .inl rfl⟩ ⟨fun _ h => (by cases h), .inl rfl⟩ (joints_none _ _) (joints_none _ _) (by simp) (by simp)
    have B5 : Hid (Below w.heap.size w V5) := onto B4.out U5
    generalize V4.heap.size = qz at *
    generalize V3.heap.size = qy at *
    clear hV5 U1 U2 U3 U4 U5 hB2 hJ2 hB2' hJ2' hy4 hyz m0 m1 m2 m3 n0 n1 n2 n3 k0 k1 kz mz nz
    refine lat_region (A := (fun w' => W4 w' qz 0 0 none 0 0 none 0 0 ∧ W4 w' qy 0 0 none 0 0 none 0 0 ∧ Below V5.heap.size V5 w')) (S := (fun _ => True)) [] (by kernel_rfl) ?_ (fun hH0 => ?_)
    · exact ⟨⟨hz5.heap rfl, hy5.heap rfl, drew_below1 V5⟩, trivial⟩
    refine lat_free (i := 0) (oi := { dst := some 105, op := Go.Op.load 29 (Go.Operand.tmp 18), type := 29, pos := "law.go:72", after := #[], guard := none }) (v := ?vb1) rfl (by kernel_rfl) (by kernel_rfl) (by kernel_rfl) (by kernel_rfl) (fun _ _ _ h => h) (Or.inl ⟨by rfl, ?hyb1⟩) ⟨hH0.1, fun _ => hH0.2⟩ ?restb1
    case hyb1 => (intro w hAw; obtain ⟨⟨p0, p1, p2, p3⟩, ⟨r0, r1, r2, r3⟩, _⟩ := hAw; go_simp; try (with_reducible rfl))
    simp only [Act.put, List.setIfInBounds_toArray, List.set_cons_zero, List.set_cons_succ]
    refine lat_free (i := 1) (oi := { dst := some 106, op := Go.Op.load 29 (Go.Operand.tmp 15), type := 29, pos := "law.go:72", after := #[], guard := none }) (v := ?vb2) rfl (by kernel_rfl) (by kernel_rfl) (by kernel_rfl) (by kernel_rfl) (fun _ _ _ h => h) (Or.inl ⟨by rfl, ?hyb2⟩) ⟨hH0.1, fun _ => hH0.2⟩ ?restb2
    case hyb2 => (intro w hAw; obtain ⟨⟨p0, p1, p2, p3⟩, ⟨r0, r1, r2, r3⟩, _⟩ := hAw; go_simp; try (with_reducible rfl))
    simp only [Act.put, List.setIfInBounds_toArray, List.set_cons_zero, List.set_cons_succ]
    refine lat_one (i := 2) (by kernel_rfl) ?_
    refine lat_run (o := { dst := some 107, op := Go.Op.call { callee := Go.Callee.value (Go.Operand.func 13), args := #[Go.Operand.tmp 106], argTypes := #[29] }, type := 35, pos := "law.go:72", after := #[{ on := 1, ground := Go.Ground.data }], guard := none }) rfl (fun K hK => ?_)
    go_simp
    go_wp2_with (first
      | (go_at_call 13; go_fit (ref_any _ _ _ _ _ _ _ _ _); rintro e V6 ⟨rfl, Uu⟩)
      | fail)
    refine hK.out _ _ (⟨⟨hH0.1.1.heap (Uu.block _ hH0.1.1.size), hH0.1.2.1.heap (Uu.block _ hH0.1.2.1.size), onto hH0.1.2.2 Uu⟩, trivial⟩) (fun hHb3 => ?_)
    clear hK K
    refine lat_one (i := 3) (by kernel_rfl) ?_
    refine lat_run (o := { dst := some 108, op := Go.Op.call { callee := Go.Callee.value (Go.Operand.func 12), args := #[Go.Operand.tmp 105, Go.Operand.tmp 107], argTypes := #[29, 35] }, type := 4, pos := "law.go:72", after := #[{ on := 0, ground := Go.Ground.data }, { on := 2, ground := Go.Ground.data }, { on := 2, ground := Go.Ground.chain }], guard := none }) rfl (fun K hK => ?_)
    clear Uu
    go_simp
    go_wp2_with (first
      | (go_at_call 12; go_fit (HQ.out _ hHb3.1.2.2); rintro e V7 ⟨rfl, Uu⟩)
      | fail)
    refine hK.out _ _ (⟨⟨hHb3.1.1.heap (Uu.block _ hHb3.1.1.size), hHb3.1.2.1.heap (Uu.block _ hHb3.1.2.1.size), onto hHb3.1.2.2 Uu⟩, trivial⟩) (fun hHb4 => ?_)
    clear hK K
    refine lat_free (i := 4) (oi := { dst := some 10, op := Go.Op.assign (Go.Operand.tmp 108), type := 4, pos := "law.go:72", after := #[{ on := 3, ground := Go.Ground.data }, { on := 3, ground := Go.Ground.chain }, { on := 0, ground := Go.Ground.phase }, { on := 1, ground := Go.Ground.phase }, { on := 2, ground := Go.Ground.phase }, { on := 3, ground := Go.Ground.phase }], guard := none }) (v := ?vb5) rfl (by kernel_rfl) (by kernel_rfl) (by kernel_rfl) (by kernel_rfl) (fun _ _ _ h => h) (Or.inl ⟨by rfl, ?hyb5⟩) ⟨hHb4.1, fun _ => hHb4.2⟩ ?restb5
    case hyb5 => (intro w hAw; obtain ⟨⟨p0, p1, p2, p3⟩, ⟨r0, r1, r2, r3⟩, _⟩ := hAw; go_simp; try (with_reducible rfl))
    simp only [Act.put, List.setIfInBounds_toArray, List.set_cons_zero, List.set_cons_succ]
    refine lat_done (by kernel_rfl) ?_ _
    go_wp2_with (fail)
    go_ret
    exact ⟨rfl, (onto B5.out hHb4.1.2.2)⟩

set_option maxRecDepth 100000 in
theorem lifted (os : Os) (started : os.Started) (H : Type) (enc : TypeId × Value → H) :
    ReturnsInHanded {} Tryz.checked os 3 .any (Rows.worldPartsSpec.pre6 enc Tryz.prog Tryz.f3 Rows.worldPartsRow.domain false) (Rows.worldPartsSpec.post enc Tryz.prog Tryz.f3 false true false false) := by
  refine returnsInHanded_of_change (C := Tryz.checked) own started (by kernel_rfl) Tryz.func3
    (ChangeSpec.witness6 (enc := enc) (C := Tryz.checked) false ⟨#[], #[.agg #[.int .i64 0, .int .i64 0], .slice none 0 0, .slice none 0 0, .int .i64 0, .int .i64 0], []⟩ 8 (by kernel_rfl) (by kernel_rfl) (by kernel_rfl) (by kernel_rfl)) ?_
  intro W base args ds gs before hval0 hW hcnd _
  have hval : ∀ (j : Nat) t v, Tryz.f3.params[j]? = some t → args[j]? = some v → Value.okWide Tryz.prog W .any base t v := hval0
  have hW' := hW
  obtain ⟨p, q, hA0, hV, rfl, hfz, hnd⟩ := hW
  have hA : DataW.TrodAll enc Tryz.prog W 0 (fun _ => true) true Tryz.f3.params.toList args.toList ds p := hA0
  rw [Tryz.params3] at hA hval
  obtain ⟨v0, vs0, d0, ds0, p0, q0, hargs, rfl, rfl, h0, r0⟩ := trodAll_cons hA
  obtain ⟨v1, vs1, d1, ds1, p1, q1, rfl, rfl, rfl, h1, r1⟩ := trodAll_cons r0
  obtain ⟨v2, vs2, d2, ds2, p2, q2, rfl, rfl, rfl, h2, r2⟩ := trodAll_cons r1
  obtain ⟨v3, vs3, d3, ds3, p3, q3, rfl, rfl, rfl, h3, r3⟩ := trodAll_cons r2
  obtain ⟨v4, vs4, d4, ds4, p4, q4, rfl, rfl, rfl, h4, r4⟩ := trodAll_cons r3
  obtain ⟨rfl, rfl, rfl⟩ := trodAll_nil r4
  obtain rfl : args = #[v0, v1, v2, v3, v4] := by cases args; simp_all
  obtain ⟨rfl, rfl⟩ := trodVars_none hV
  obtain ⟨x0, y0, rfl, rfl, rfl, f0, g0⟩ := open_vec (hval 0 24 v0 rfl rfl) h0
  obtain ⟨a1, len1, cap1, rfl⟩ := okWide_slice Tryz.underlying25 (hval 1 25 v1 rfl rfl)
  have k1 := h1
  have lt1 : ∀ x ∈ p1, x.block < W.heap.size := by obtain ⟨m, hm⟩ := k1; exact DataW.trod_lt m _ _ _ hm
  obtain ⟨L1, rfl, b1⟩ := open_bodies h1
  obtain ⟨a2, len2, cap2, rfl⟩ := okWide_slice Tryz.underlying26 (hval 2 26 v2 rfl rfl)
  have k2 := h2
  have lt2 : ∀ x ∈ p2, x.block < W.heap.size := by obtain ⟨m, hm⟩ := k2; exact DataW.trod_lt m _ _ _ hm
  obtain ⟨L2, rfl, b2⟩ := open_joints h2
  obtain ⟨a3, rfl, rfl, rfl, w3⟩ := open_int Tryz.underlying3 (hval 3 3 v3 rfl rfl) h3
  have f3 := inF_wf w3
  obtain ⟨a4, rfl, rfl, rfl, w4⟩ := open_int Tryz.underlying3 (hval 4 3 v4 rfl rfl) h4
  have f4 := inF_wf w4
  clear hA0 hval0
  refine (walk x0 y0 f0 g0 a1 cap1 L1 a2 cap2 L2 a3 f3 a4 f4 W  b1 b2  ).mono fun e W' ⟨he, bel⟩ => ?_
  subst he
  exact ⟨_, rfl, _, _, _, [], _, [], hW', trodAll_mk1 (shut_bool Tryz.underlying4 _), (trodAll_cons_mk (shut_vec f0 g0) (trodAll_cons_mk (Below.trod laidOut (by kernel_rfl) (of_decide_eq_true (by kernel_rfl)) k1 bel lt1) (trodAll_cons_mk (Below.trod laidOut (by kernel_rfl) (of_decide_eq_true (by kernel_rfl)) k2 bel lt2) (trodAll_cons_mk (shut_int Tryz.underlying3 w3) (trodAll_cons_mk (shut_int Tryz.underlying3 w4) trodAll_mk0))))), rfl, bel.frame _, fun h => by cases h⟩

theorem over : Rows.worldPartsRow.holds Tryz.pinned (OpenSpec.ofChange Rows.worldPartsSpec) :=
  OpenClaim.holds_of_wide 3 Tryz.f3 rfl rfl rfl rfl rfl rfl rfl ⟨rfl, rfl, rfl, rfl, rfl⟩ rfl rfl rfl rfl rfl (by kernel_rfl) Tryz.func3 (by kernel_rfl)
    (of_decide_eq_true (by kernel_rfl)) (by unfold Func.isWrapper; first | (rw [if_pos (by decide +kernel)]; kernel_rfl) | (rw [if_neg (by decide +kernel)]; exact ⟨rfl, rfl⟩))
    (fun os started H enc _ => lifted os started H enc)

theorem proved : Rows.WorldPartsSaid :=
  over
end Go.Proofs.YtnkhknmpffcfbaaGreat.worldParts

namespace Go.Proofs.YtnkhknmpffcfbaaGreat
theorem worldParts_holds : Rows.WorldPartsSaid := worldParts.proved
end Go.Proofs.YtnkhknmpffcfbaaGreat
