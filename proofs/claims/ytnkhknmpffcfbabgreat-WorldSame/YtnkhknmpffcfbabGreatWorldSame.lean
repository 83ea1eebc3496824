/-
  Proved: maquettelaw12.WorldSame returns true for every gravity, bodies, joints and number of steps (the same world goes the same way twice; its bodies keep shape, size and mass, those without a mass stay as they are), and leaves what it was given as it was; no condition.
-/
import Derived.Test.YtnkhknmpffcfbabGreatRows
import Derived.Test.YtnkhknmpffcfbabGreatPk13
import Derived.Test.YtnkhknmpffcfbabGreatPk06
import Derived.WalkKit
import Derived.Deep.QuietTactic
import Derived.BigQuiet
import Derived.WalkSpells
import Derived.Deep.CutRange
import Derived.Deep.CutBlock
import Derived.WalkLawsBesides
import Derived.ProofKit
import Derived.OpenShut
import Derived.ChangeOld
import Derived.Below
namespace Go.Proofs.YtnkhknmpffcfbabGreat.worldSame
open Go.ChangeShapes Go.WideShapes Go.ChangeAt Go.RowKit
set_option linter.unusedVariables false

theorem own : ownKnob Tryz.prog.godebug = none := by kernel_rfl
theorem laidOut : laidOutB Tryz.prog = true := by kernel_rfl

theorem drew_below1 (w : World) : Below w.heap.size w w.drew := Go.RowKit.Below.drew (Below.refl _ _)

set_option maxRecDepth 100000 in
set_option maxHeartbeats 16000000 in
theorem walk (x0 y0 : Int) (f0 : inF x0) (g0 : inF y0) (a1 : Option Addr) (cap1 : Nat) (L1 : List Bd) (a2 : Option Addr) (cap2 : Nat) (L2 : List Jt) (a3 : Int) (f3 : inF a3) (w : World)  (b1 : Bodies w a1 L1) (b2 : Joints w a2 L2) :
    Calls Tryz.prog 4 #[vec x0 y0, .slice a1 L1.length cap1, .slice a2 L2.length cap2, .int .i64 a3] w fun e w' => e = .returned (.bool true) ∧ Below w.heap.size w w' := by
  by_cases hc : L1.length ≤ 10 ∧ L2.length ≤ 8 ∧ 0 ≤ a3 ∧ a3 ≤ 10
  rotate_left
  · have HG : Hid (∀ c, Below w.heap.size w (w.alloc (.cells c 24))) := fun c => onto_alloc (Below.refl _ _) _
    clear b1 b2
    by_cases c1 : 10 < (L1.length : Int)
    all_goals (try by_cases c2 : 8 < (L2.length : Int))
    all_goals (try by_cases c3 : a3 < 0)
    all_goals (try by_cases c4 : 10 < a3)
    all_goals first
      | (exfalso; omega)
      | (clear hc f0 g0 f3
         unfold vec
         go_enter Tryz.func4, Tryz.ntmps4
         go_wp2_with (first
           | (go_at_call 5; go_fit (alive_any _); rintro e V1 ⟨rfl, U1⟩))
         go_ret
         exact ⟨rfl, onto (HG.out _) U1⟩)
  obtain ⟨hl1, hl2, h0, h1⟩ := hc
  obtain ⟨n, rfl⟩ : ∃ n : Nat, a3 = n := ⟨a3.toNat, by omega⟩
  have HG : Hid (∀ c, Below w.heap.size w (w.alloc (.cells c 24))) := fun c => onto_alloc (Below.refl _ _) _
  have HR : Hid (∀ W, Below w.heap.size w W → Calls Tryz.prog 7 #[.agg #[.int .i64 x0, .int .i64 y0, .slice a1 L1.length cap1, .slice a2 L2.length cap2], .int .i64 n] W (RanTo x0 y0 (runE x0 y0 L2 L1 n) L2 W)) := fun W h => runv_any x0 y0 f0 g0 L1 L2 n a1 cap1 a2 cap2 W (b1.below h) (b2.below h) (by omega) (by omega)
  have HBd : Hid (∀ W, Below w.heap.size w W → Bodies W a1 L1) := fun W h => b1.below h
  have c1 : ¬ 10 < (L1.length : Int) := by omega
  have c2 : ¬ 8 < (L2.length : Int) := by omega
  have hL1 := b1.ok
  have hok := @runE_ok x0 y0 L2 L1 n
  have hkeep := fun C => @runE_keep x0 y0 L2 L1 C n (by omega) hL1
  have HL4 : Hid (L2.length ≤ 500) := (by omega : L2.length ≤ 500)
  clear b1 b2 f0 g0 f3 hL1
  unfold vec
  generalize runE x0 y0 L2 L1 (n : Int) = r at *
  by_cases hr : r.2 = 0
  rotate_left
  · have HRn : Hid (∀ W, Below w.heap.size w W → Calls Tryz.prog 7 #[.agg #[.int .i64 x0, .int .i64 y0, .slice a1 L1.length cap1, .slice a2 L2.length cap2], .int .i64 n] W fun e w' => Below W.heap.size W w' ∧ e = .returned (.tuple #[.agg #[.int .i64 0, .int .i64 0, .slice none 0 0, .slice none 0 0], .int .i64 r.1.2, .int .i64 r.2])) := fun W h => ran_no (HR.out W h) hr
    obtain ⟨⟨rc, rat⟩, re⟩ := r
    simp only at HRn hr
    have hr0 : (re != 0) = true := by simpa using hr
    clear HR hok hkeep hr HBd
    go_enter Tryz.func4, Tryz.ntmps4
    go_upto_region 5 with (first
      | (go_at_call 5; go_fit (alive_any _); rintro e V1 ⟨rfl, U1⟩; (have B1 : Hid (Below w.heap.size w V1) := onto (HG.out _) U1); (have ⟨⟨k0, k1⟩, kz⟩ := box_after U1))
      | (go_at_call 7; go_fit (HRn.out _ (onto_alloc B1.out _)); rintro e V2 ⟨U2, rfl⟩; (have B2 : Hid (Below w.heap.size w V2) := onto (onto_alloc B1.out _) U2); (have ⟨⟨m0, m1, m2, m3⟩, mz⟩ := w4_after U2)))
    go_upto_region 6 with (first
      | (go_at_call 7; go_fit (HRn.out _ (onto_alloc B2.out _)); rintro e V3 ⟨U3, rfl⟩; (have B3 : Hid (Below w.heap.size w V3) := onto (onto_alloc B2.out _) U3)))
    obtain ⟨hy4, hyz⟩ := w4_after U3
    obtain ⟨V5, hV5⟩ : ∃ X, X = V3.alloc (.cells #[.int .i64 0, .int .i64 0, .slice none 0 0, .slice none 0 0] 29) := ⟨_, rfl⟩
    rw [← hV5]
    have U5 : Below V3.heap.size V3 V5 := by rw [hV5]; exact onto_alloc (Below.refl _ _) _
    have hz5 : W4 V5 V3.heap.size 0 0 none 0 0 none 0 0 := by rw [hV5]; constructor <;> simp [go_sem]
    have hy5 := hy4.heap (U5.block _ hyz)
    have HQ : Hid (∀ W, Below V5.heap.size V5 W → Calls Tryz.prog 9 #[.agg #[.int .i64 0, .int .i64 0, .slice none 0 0, .slice none 0 0], .agg #[.int .i64 0, .int .i64 0, .slice none 0 0, .slice none 0 0]] W fun e w' => e = .returned (.bool true) ∧ Below W.heap.size W w') := fun W _ => same_any 0 0 [] [] none none none none 0 0 0 0 W ⟨fun _ h => (by cases h), .inl rfl⟩ ⟨fun _ h => (by cases h), .inl rfl⟩ (joints_none _ _) (joints_none _ _) (by simp) (by simp)
    have B5 : Hid (Below w.heap.size w V5) := onto B3.out U5
    generalize V3.heap.size = qz at *
    generalize V2.heap.size = qy at *
    clear hV5 U1 U2 U3 U5 hy4 hyz m0 m1 m2 m3 k0 k1 kz mz
    refine lat_region (A := (fun w' => W4 w' qz 0 0 none 0 0 none 0 0 ∧ W4 w' qy 0 0 none 0 0 none 0 0 ∧ Below V5.heap.size V5 w')) (S := (fun _ => True)) [] (by kernel_rfl) ?_ (fun hH0 => ?_)
    · exact ⟨⟨hz5.heap rfl, hy5.heap rfl, drew_below1 V5⟩, trivial⟩
    refine lat_free (i := 0) (oi := { dst := some 58, op := Go.Op.move (Go.Operand.tmp 11), type := 3, pos := "more2.go:47", after := #[], guard := none }) (v := ?vb1) rfl (by kernel_rfl) (by kernel_rfl) (by kernel_rfl) (by kernel_rfl) (fun _ _ _ h => h) (Or.inl ⟨by rfl, ?hyb1⟩) ⟨hH0.1, fun _ => hH0.2⟩ ?restb1
    case hyb1 => (intro w hAw; obtain ⟨⟨p0, p1, p2, p3⟩, ⟨r0, r1, r2, r3⟩, _⟩ := hAw; go_simp; try (with_reducible rfl))
    simp only [Act.put, List.setIfInBounds_toArray, List.set_cons_zero, List.set_cons_succ]
    refine lat_free (i := 1) (oi := { dst := some 59, op := Go.Op.move (Go.Operand.tmp 14), type := 3, pos := "more2.go:47", after := #[], guard := none }) (v := ?vb2) rfl (by kernel_rfl) (by kernel_rfl) (by kernel_rfl) (by kernel_rfl) (fun _ _ _ h => h) (Or.inl ⟨by rfl, ?hyb2⟩) ⟨hH0.1, fun _ => hH0.2⟩ ?restb2
    case hyb2 => (intro w hAw; obtain ⟨⟨p0, p1, p2, p3⟩, ⟨r0, r1, r2, r3⟩, _⟩ := hAw; go_simp; try (with_reducible rfl))
    simp only [Act.put, List.setIfInBounds_toArray, List.set_cons_zero, List.set_cons_succ]
    refine lat_free (i := 2) (oi := { dst := some 60, op := Go.Op.binOp Go.BinOp.neq 3 (Go.Operand.tmp 58) (Go.Operand.tmp 59) 3, type := 4, pos := "more2.go:47", after := #[{ on := 0, ground := Go.Ground.data }, { on := 1, ground := Go.Ground.data }], guard := none }) (v := ?vb3) rfl (by kernel_rfl) (by kernel_rfl) (by kernel_rfl) (by kernel_rfl) (fun _ _ _ h => h) (Or.inl ⟨by rfl, ?hyb3⟩) ⟨hH0.1, fun _ => hH0.2⟩ ?restb3
    case hyb3 => (intro w hAw; obtain ⟨⟨p0, p1, p2, p3⟩, ⟨r0, r1, r2, r3⟩, _⟩ := hAw; go_simp; try (with_reducible rfl))
    simp only [Act.put, List.setIfInBounds_toArray, List.set_cons_zero, List.set_cons_succ]
    refine lat_free (i := 3) (oi := { dst := some 61, op := Go.Op.move (Go.Operand.tmp 60), type := 4, pos := "more2.go:47", after := #[{ on := 2, ground := Go.Ground.data }], guard := none }) (v := ?vb4) rfl (by kernel_rfl) (by kernel_rfl) (by kernel_rfl) (by kernel_rfl) (fun _ _ _ h => h) (Or.inl ⟨by rfl, ?hyb4⟩) ⟨hH0.1, fun _ => hH0.2⟩ ?restb4
    case hyb4 => (intro w hAw; obtain ⟨⟨p0, p1, p2, p3⟩, ⟨r0, r1, r2, r3⟩, _⟩ := hAw; go_simp; try (with_reducible rfl))
    simp only [Act.put, List.setIfInBounds_toArray, List.set_cons_zero, List.set_cons_succ]
    refine lat_free (i := 4) (oi := { dst := some 62, op := Go.Op.move (Go.Operand.tmp 12), type := 30, pos := "more2.go:47", after := #[{ on := 3, ground := Go.Ground.guard }], guard := some (3, false) }) (v := ?vb5) rfl (by kernel_rfl) (by kernel_rfl) (by kernel_rfl) (by kernel_rfl) (fun _ _ _ h => h) (Or.inl ⟨by rfl, ?hyb5⟩) ⟨hH0.1, fun _ => hH0.2⟩ ?restb5
    case hyb5 => (intro w hAw; obtain ⟨⟨p0, p1, p2, p3⟩, ⟨r0, r1, r2, r3⟩, _⟩ := hAw; go_simp; try (with_reducible rfl))
    simp only [Act.put, List.setIfInBounds_toArray, List.set_cons_zero, List.set_cons_succ]
    refine lat_free (i := 5) (oi := { dst := some 63, op := Go.Op.move (Go.Operand.tmp 15), type := 30, pos := "more2.go:47", after := #[{ on := 3, ground := Go.Ground.guard }], guard := some (3, false) }) (v := ?vb6) rfl (by kernel_rfl) (by kernel_rfl) (by kernel_rfl) (by kernel_rfl) (fun _ _ _ h => h) (Or.inl ⟨by rfl, ?hyb6⟩) ⟨hH0.1, fun _ => hH0.2⟩ ?restb6
    case hyb6 => (intro w hAw; obtain ⟨⟨p0, p1, p2, p3⟩, ⟨r0, r1, r2, r3⟩, _⟩ := hAw; go_simp; try (with_reducible rfl))
    simp only [Act.put, List.setIfInBounds_toArray, List.set_cons_zero, List.set_cons_succ]
    refine lat_free (i := 6) (oi := { dst := some 64, op := Go.Op.binOp Go.BinOp.neq 30 (Go.Operand.tmp 62) (Go.Operand.tmp 63) 30, type := 4, pos := "more2.go:47", after := #[{ on := 4, ground := Go.Ground.data }, { on := 5, ground := Go.Ground.data }, { on := 3, ground := Go.Ground.guard }], guard := some (3, false) }) (v := ?vb7) rfl (by kernel_rfl) (by kernel_rfl) (by kernel_rfl) (by kernel_rfl) (fun _ _ _ h => h) (Or.inl ⟨by rfl, ?hyb7⟩) ⟨hH0.1, fun _ => hH0.2⟩ ?restb7
    case hyb7 => (intro w hAw; obtain ⟨⟨p0, p1, p2, p3⟩, ⟨r0, r1, r2, r3⟩, _⟩ := hAw; go_simp; try (with_reducible rfl))
    simp only [Act.put, List.setIfInBounds_toArray, List.set_cons_zero, List.set_cons_succ]
    refine lat_free (i := 7) (oi := { dst := some 65, op := Go.Op.pick (Go.Operand.tmp 61) (Go.Operand.const (Go.Value.bool true)) (Go.Operand.tmp 64), type := 4, pos := "more2.go:47", after := #[{ on := 3, ground := Go.Ground.data }, { on := 6, ground := Go.Ground.data }], guard := none }) (v := ?vb8) rfl (by kernel_rfl) (by kernel_rfl) (by kernel_rfl) (by kernel_rfl) (fun _ _ _ h => h) (Or.inl ⟨by rfl, ?hyb8⟩) ⟨hH0.1, fun _ => hH0.2⟩ ?restb8
    case hyb8 => (intro w hAw; obtain ⟨⟨p0, p1, p2, p3⟩, ⟨r0, r1, r2, r3⟩, _⟩ := hAw; go_simp; try (with_reducible rfl))
    simp only [Act.put, List.setIfInBounds_toArray, List.set_cons_zero, List.set_cons_succ]
    refine lat_free (i := 8) (oi := { dst := some 66, op := Go.Op.move (Go.Operand.tmp 65), type := 4, pos := "more2.go:47", after := #[{ on := 7, ground := Go.Ground.data }, { on := 3, ground := Go.Ground.chain }], guard := none }) (v := ?vb9) rfl (by kernel_rfl) (by kernel_rfl) (by kernel_rfl) (by kernel_rfl) (fun _ _ _ h => h) (Or.inl ⟨by rfl, ?hyb9⟩) ⟨hH0.1, fun _ => hH0.2⟩ ?restb9
    case hyb9 => (intro w hAw; obtain ⟨⟨p0, p1, p2, p3⟩, ⟨r0, r1, r2, r3⟩, _⟩ := hAw; go_simp; try (with_reducible rfl))
    simp only [Act.put, List.setIfInBounds_toArray, List.set_cons_zero, List.set_cons_succ]
    refine lat_free (i := 9) (oi := { dst := some 67, op := Go.Op.load 29 (Go.Operand.tmp 10), type := 29, pos := "more2.go:47", after := #[{ on := 8, ground := Go.Ground.guard }], guard := some (8, false) }) (v := ?vb10) rfl (by kernel_rfl) (by kernel_rfl) (by kernel_rfl) (by kernel_rfl) (fun _ _ _ h => h) (Or.inl ⟨by rfl, ?hyb10⟩) ⟨hH0.1, fun _ => hH0.2⟩ ?restb10
    case hyb10 => (intro w hAw; obtain ⟨⟨p0, p1, p2, p3⟩, ⟨r0, r1, r2, r3⟩, _⟩ := hAw; go_simp; try (with_reducible rfl))
    simp only [Act.put, List.setIfInBounds_toArray, List.set_cons_zero, List.set_cons_succ]
    refine lat_free (i := 10) (oi := { dst := some 68, op := Go.Op.load 29 (Go.Operand.tmp 13), type := 29, pos := "more2.go:47", after := #[{ on := 8, ground := Go.Ground.guard }], guard := some (8, false) }) (v := ?vb11) rfl (by kernel_rfl) (by kernel_rfl) (by kernel_rfl) (by kernel_rfl) (fun _ _ _ h => h) (Or.inl ⟨by rfl, ?hyb11⟩) ⟨hH0.1, fun _ => hH0.2⟩ ?restb11
    case hyb11 => (intro w hAw; obtain ⟨⟨p0, p1, p2, p3⟩, ⟨r0, r1, r2, r3⟩, _⟩ := hAw; go_simp; try (with_reducible rfl))
    simp only [Act.put, List.setIfInBounds_toArray, List.set_cons_zero, List.set_cons_succ]
    refine lat_one (i := 11) (by kernel_rfl) ?_
    refine lat_run (o := { dst := some 69, op := Go.Op.call { callee := Go.Callee.value (Go.Operand.func 10), args := #[Go.Operand.tmp 68], argTypes := #[29] }, type := 38, pos := "more2.go:47", after := #[{ on := 10, ground := Go.Ground.data }, { on := 8, ground := Go.Ground.chain }, { on := 8, ground := Go.Ground.guard }], guard := some (8, false) }) rfl (fun K hK => ?_)
    go_simp
    go_wp2_with (first
      | (go_at_call 10; go_fit (ref_any _ _ _ _ _ _ _ _ _); rintro e V6 ⟨rfl, Uu⟩)
      | fail)
    refine hK.out _ _ (⟨⟨hH0.1.1.heap (Uu.block _ hH0.1.1.size), hH0.1.2.1.heap (Uu.block _ hH0.1.2.1.size), onto hH0.1.2.2 Uu⟩, trivial⟩) (fun hHb12 => ?_)
    clear hK K
    refine lat_one (i := 12) (by kernel_rfl) ?_
    refine lat_run (o := { dst := some 70, op := Go.Op.call { callee := Go.Callee.value (Go.Operand.func 9), args := #[Go.Operand.tmp 67, Go.Operand.tmp 69], argTypes := #[29, 38] }, type := 4, pos := "more2.go:47", after := #[{ on := 9, ground := Go.Ground.data }, { on := 11, ground := Go.Ground.data }, { on := 11, ground := Go.Ground.chain }, { on := 8, ground := Go.Ground.guard }], guard := some (8, false) }) rfl (fun K hK => ?_)
    clear Uu
    go_simp
    go_wp2_with (first
      | (go_at_call 9; go_fit (HQ.out _ hHb12.1.2.2); rintro e V7 ⟨rfl, Uu⟩)
      | fail)
    refine hK.out _ _ (⟨⟨hHb12.1.1.heap (Uu.block _ hHb12.1.1.size), hHb12.1.2.1.heap (Uu.block _ hHb12.1.2.1.size), onto hHb12.1.2.2 Uu⟩, trivial⟩) (fun hHb13 => ?_)
    clear hK K
    refine lat_free (i := 13) (oi := { dst := some 71, op := Go.Op.unOp Go.UnOp.not 4 (Go.Operand.tmp 70), type := 4, pos := "more2.go:47", after := #[{ on := 12, ground := Go.Ground.data }, { on := 8, ground := Go.Ground.guard }], guard := some (8, false) }) (v := ?vb14) rfl (by kernel_rfl) (by kernel_rfl) (by kernel_rfl) (by kernel_rfl) (fun _ _ _ h => h) (Or.inl ⟨by rfl, ?hyb14⟩) ⟨hHb13.1, fun _ => hHb13.2⟩ ?restb14
    case hyb14 => (intro w hAw; obtain ⟨⟨p0, p1, p2, p3⟩, ⟨r0, r1, r2, r3⟩, _⟩ := hAw; go_simp; try (with_reducible rfl))
    simp only [Act.put, List.setIfInBounds_toArray, List.set_cons_zero, List.set_cons_succ]
    refine lat_free (i := 14) (oi := { dst := some 72, op := Go.Op.pick (Go.Operand.tmp 66) (Go.Operand.const (Go.Value.bool true)) (Go.Operand.tmp 71), type := 4, pos := "more2.go:47", after := #[{ on := 8, ground := Go.Ground.data }, { on := 13, ground := Go.Ground.data }], guard := none }) (v := ?vb15) rfl (by kernel_rfl) (by kernel_rfl) (by kernel_rfl) (by kernel_rfl) (fun _ _ _ h => h) (Or.inl ⟨by rfl, ?hyb15⟩) ⟨hHb13.1, fun _ => hHb13.2⟩ ?restb15
    case hyb15 => (intro w hAw; obtain ⟨⟨p0, p1, p2, p3⟩, ⟨r0, r1, r2, r3⟩, _⟩ := hAw; go_simp; try (with_reducible rfl))
    simp only [Act.put, List.setIfInBounds_toArray, List.set_cons_zero, List.set_cons_succ]
    refine lat_done (by kernel_rfl) ?_ _
    obtain ⟨⟨_, ⟨r0, r1, r2, r3⟩, hBV⟩, _⟩ := hHb13
    go_wp2_with (fail)
    go_ret
    exact ⟨rfl, onto B5.out hBV⟩
  have hr1 := hok hr
  obtain ⟨⟨C, rat⟩, re⟩ := r
  simp only [Prod.mk.injEq, true_and] at hr1
  obtain ⟨rfl, rfl⟩ := hr1
  have hk := (hkeep C rfl).1
  have HK : Hid (Keep L1 C) := hk
  have HC5 : Hid (C.length ≤ 500) := (by have := hk.len; omega : C.length ≤ 500)
  have HRn : Hid (∀ W, Below w.heap.size w W → Calls Tryz.prog 7 #[.agg #[.int .i64 x0, .int .i64 y0, .slice a1 L1.length cap1, .slice a2 L2.length cap2], .int .i64 n] W fun e w' => Below W.heap.size W w' ∧ ∃ a' c' b' d', e = .returned (.tuple #[.agg #[.int .i64 x0, .int .i64 y0, .slice a' C.length c', .slice b' L2.length d'], .int .i64 0, .int .i64 0]) ∧ Bodies w' a' C ∧ Joints w' b' L2) := fun W h => ran_ok (HR.out W h)
  clear HR hok hkeep hr hk
  go_enter Tryz.func4, Tryz.ntmps4
  go_upto_region 5 with (first
    | (go_at_call 5; go_fit (alive_any _); rintro e V1 ⟨rfl, U1⟩; (have B1 : Hid (Below w.heap.size w V1) := onto (HG.out _) U1); (have ⟨⟨k0, k1⟩, kz⟩ := box_after U1))
    | (go_at_call 7; go_fit (HRn.out _ (onto_alloc B1.out _)); rintro e V2 ⟨U2, a3', c3, b3, d3, rfl, hB3, hJ3⟩; (have B2 : Hid (Below w.heap.size w V2) := onto (onto_alloc B1.out _) U2); (have ⟨⟨m0, m1, m2, m3⟩, mz⟩ := w4_after U2)))
  go_upto_region 6 with (first
    | (go_at_call 7; go_fit (HRn.out _ (onto_alloc B2.out _)); rintro e V3 ⟨U3, a4, c4, b4, d4, rfl, hB4, hJ4⟩; (have B3 : Hid (Below w.heap.size w V3) := onto (onto_alloc B2.out _) U3)))
  obtain ⟨hy4, hyz⟩ := w4_after U3
  obtain ⟨V5, hV5⟩ : ∃ X, X = V3.alloc (.cells #[.int .i64 x0, .int .i64 y0, .slice a4 C.length c4, .slice b4 L2.length d4] 29) := ⟨_, rfl⟩
  rw [← hV5]
  have U5 : Below V3.heap.size V3 V5 := by rw [hV5]; exact onto_alloc (Below.refl _ _) _
  have hz5 : W4 V5 V3.heap.size x0 y0 a4 C.length c4 b4 L2.length d4 := by rw [hV5]; constructor <;> simp [go_sem]
  have hy5 := hy4.heap (U5.block _ hyz)
  have X3 : Below V2.heap.size V2 V3 := onto (onto_alloc (Below.refl _ V2) _) U3
  have hBz := hB4.below U5
  have hJz := hJ4.below U5
  have hBy := (hB3.below X3).below U5
  have hJy := (hJ3.below X3).below U5
  have HQ : Hid (∀ W, Below V5.heap.size V5 W → Calls Tryz.prog 9 #[.agg #[.int .i64 x0, .int .i64 y0, .slice a3' C.length c3, .slice b3 L2.length d3], .agg #[.int .i64 x0, .int .i64 y0, .slice a4 C.length c4, .slice b4 L2.length d4]] W fun e w' => e = .returned (.bool true) ∧ Below W.heap.size W w') := fun W h => same_any x0 y0 C L2 a3' b3 a4 b4 c3 d3 c4 d4 W (hBy.below h) (hBz.below h) (hJy.below h) (hJz.below h) HC5.out HL4.out
  have B5 : Hid (Below w.heap.size w V5) := onto B3.out U5
  have X5 : Below V1.heap.size V1 V5 := onto (onto (onto_alloc (onto (onto_alloc (Below.refl _ V1) _) U2) _) U3) U5
  have g0 := (X5.cell (cell_block k0)).trans k0
  have g1 := (X5.cell (cell_block k1)).trans k1
  clear X5
  have HB5 : Hid (Bodies V5 a1 L1 ∧ Bodies V5 a3' C) := ⟨(HBd.out _ B3.out).below U5, hBy⟩
  generalize V3.heap.size = qz at *
  generalize V2.heap.size = qy at *
  clear hV5 U1 U2 U3 U5 hy4 hyz m0 m1 m2 m3 k0 k1 kz mz hB3 hJ3 hB4 hJ4 hBz hJz hBy hJy X3
  refine lat_region (A := (fun w' => W4 w' qz x0 y0 a4 C.length c4 b4 L2.length d4 ∧ W4 w' qy x0 y0 a3' C.length c3 b3 L2.length d3 ∧ Below V5.heap.size V5 w')) (S := (fun _ => True)) [] (by kernel_rfl) ?_ (fun hH0 => ?_)
  · exact ⟨⟨hz5.heap rfl, hy5.heap rfl, drew_below1 V5⟩, trivial⟩
  refine lat_free (i := 0) (oi := { dst := some 58, op := Go.Op.move (Go.Operand.tmp 11), type := 3, pos := "more2.go:47", after := #[], guard := none }) (v := ?va1) rfl (by kernel_rfl) (by kernel_rfl) (by kernel_rfl) (by kernel_rfl) (fun _ _ _ h => h) (Or.inl ⟨by rfl, ?hya1⟩) ⟨hH0.1, fun _ => hH0.2⟩ ?resta1
  case hya1 => (intro w hAw; obtain ⟨⟨p0, p1, p2, p3⟩, ⟨r0, r1, r2, r3⟩, _⟩ := hAw; go_simp; try (with_reducible rfl))
  simp only [Act.put, List.setIfInBounds_toArray, List.set_cons_zero, List.set_cons_succ]
  refine lat_free (i := 1) (oi := { dst := some 59, op := Go.Op.move (Go.Operand.tmp 14), type := 3, pos := "more2.go:47", after := #[], guard := none }) (v := ?va2) rfl (by kernel_rfl) (by kernel_rfl) (by kernel_rfl) (by kernel_rfl) (fun _ _ _ h => h) (Or.inl ⟨by rfl, ?hya2⟩) ⟨hH0.1, fun _ => hH0.2⟩ ?resta2
  case hya2 => (intro w hAw; obtain ⟨⟨p0, p1, p2, p3⟩, ⟨r0, r1, r2, r3⟩, _⟩ := hAw; go_simp; try (with_reducible rfl))
  simp only [Act.put, List.setIfInBounds_toArray, List.set_cons_zero, List.set_cons_succ]
  refine lat_free (i := 2) (oi := { dst := some 60, op := Go.Op.binOp Go.BinOp.neq 3 (Go.Operand.tmp 58) (Go.Operand.tmp 59) 3, type := 4, pos := "more2.go:47", after := #[{ on := 0, ground := Go.Ground.data }, { on := 1, ground := Go.Ground.data }], guard := none }) (v := ?va3) rfl (by kernel_rfl) (by kernel_rfl) (by kernel_rfl) (by kernel_rfl) (fun _ _ _ h => h) (Or.inl ⟨by rfl, ?hya3⟩) ⟨hH0.1, fun _ => hH0.2⟩ ?resta3
  case hya3 => (intro w hAw; obtain ⟨⟨p0, p1, p2, p3⟩, ⟨r0, r1, r2, r3⟩, _⟩ := hAw; go_simp; try (with_reducible rfl))
  simp only [Act.put, List.setIfInBounds_toArray, List.set_cons_zero, List.set_cons_succ]
  refine lat_free (i := 3) (oi := { dst := some 61, op := Go.Op.move (Go.Operand.tmp 60), type := 4, pos := "more2.go:47", after := #[{ on := 2, ground := Go.Ground.data }], guard := none }) (v := ?va4) rfl (by kernel_rfl) (by kernel_rfl) (by kernel_rfl) (by kernel_rfl) (fun _ _ _ h => h) (Or.inl ⟨by rfl, ?hya4⟩) ⟨hH0.1, fun _ => hH0.2⟩ ?resta4
  case hya4 => (intro w hAw; obtain ⟨⟨p0, p1, p2, p3⟩, ⟨r0, r1, r2, r3⟩, _⟩ := hAw; go_simp; try (with_reducible rfl))
  simp only [Act.put, List.setIfInBounds_toArray, List.set_cons_zero, List.set_cons_succ]
  refine lat_free (i := 4) (oi := { dst := some 62, op := Go.Op.move (Go.Operand.tmp 12), type := 30, pos := "more2.go:47", after := #[{ on := 3, ground := Go.Ground.guard }], guard := some (3, false) }) (v := ?va5) rfl (by kernel_rfl) (by kernel_rfl) (by kernel_rfl) (by kernel_rfl) (fun _ _ _ h => h) (Or.inl ⟨by rfl, ?hya5⟩) ⟨hH0.1, fun _ => hH0.2⟩ ?resta5
  case hya5 => (intro w hAw; obtain ⟨⟨p0, p1, p2, p3⟩, ⟨r0, r1, r2, r3⟩, _⟩ := hAw; go_simp; try (with_reducible rfl))
  simp only [Act.put, List.setIfInBounds_toArray, List.set_cons_zero, List.set_cons_succ]
  refine lat_free (i := 5) (oi := { dst := some 63, op := Go.Op.move (Go.Operand.tmp 15), type := 30, pos := "more2.go:47", after := #[{ on := 3, ground := Go.Ground.guard }], guard := some (3, false) }) (v := ?va6) rfl (by kernel_rfl) (by kernel_rfl) (by kernel_rfl) (by kernel_rfl) (fun _ _ _ h => h) (Or.inl ⟨by rfl, ?hya6⟩) ⟨hH0.1, fun _ => hH0.2⟩ ?resta6
  case hya6 => (intro w hAw; obtain ⟨⟨p0, p1, p2, p3⟩, ⟨r0, r1, r2, r3⟩, _⟩ := hAw; go_simp; try (with_reducible rfl))
  simp only [Act.put, List.setIfInBounds_toArray, List.set_cons_zero, List.set_cons_succ]
  refine lat_free (i := 6) (oi := { dst := some 64, op := Go.Op.binOp Go.BinOp.neq 30 (Go.Operand.tmp 62) (Go.Operand.tmp 63) 30, type := 4, pos := "more2.go:47", after := #[{ on := 4, ground := Go.Ground.data }, { on := 5, ground := Go.Ground.data }, { on := 3, ground := Go.Ground.guard }], guard := some (3, false) }) (v := ?va7) rfl (by kernel_rfl) (by kernel_rfl) (by kernel_rfl) (by kernel_rfl) (fun _ _ _ h => h) (Or.inl ⟨by rfl, ?hya7⟩) ⟨hH0.1, fun _ => hH0.2⟩ ?resta7
  case hya7 => (intro w hAw; obtain ⟨⟨p0, p1, p2, p3⟩, ⟨r0, r1, r2, r3⟩, _⟩ := hAw; go_simp; try (with_reducible rfl))
  simp only [Act.put, List.setIfInBounds_toArray, List.set_cons_zero, List.set_cons_succ]
  refine lat_free (i := 7) (oi := { dst := some 65, op := Go.Op.pick (Go.Operand.tmp 61) (Go.Operand.const (Go.Value.bool true)) (Go.Operand.tmp 64), type := 4, pos := "more2.go:47", after := #[{ on := 3, ground := Go.Ground.data }, { on := 6, ground := Go.Ground.data }], guard := none }) (v := ?va8) rfl (by kernel_rfl) (by kernel_rfl) (by kernel_rfl) (by kernel_rfl) (fun _ _ _ h => h) (Or.inl ⟨by rfl, ?hya8⟩) ⟨hH0.1, fun _ => hH0.2⟩ ?resta8
  case hya8 => (intro w hAw; obtain ⟨⟨p0, p1, p2, p3⟩, ⟨r0, r1, r2, r3⟩, _⟩ := hAw; go_simp; try (with_reducible rfl))
  simp only [Act.put, List.setIfInBounds_toArray, List.set_cons_zero, List.set_cons_succ]
  refine lat_free (i := 8) (oi := { dst := some 66, op := Go.Op.move (Go.Operand.tmp 65), type := 4, pos := "more2.go:47", after := #[{ on := 7, ground := Go.Ground.data }, { on := 3, ground := Go.Ground.chain }], guard := none }) (v := ?va9) rfl (by kernel_rfl) (by kernel_rfl) (by kernel_rfl) (by kernel_rfl) (fun _ _ _ h => h) (Or.inl ⟨by rfl, ?hya9⟩) ⟨hH0.1, fun _ => hH0.2⟩ ?resta9
  case hya9 => (intro w hAw; obtain ⟨⟨p0, p1, p2, p3⟩, ⟨r0, r1, r2, r3⟩, _⟩ := hAw; go_simp; try (with_reducible rfl))
  simp only [Act.put, List.setIfInBounds_toArray, List.set_cons_zero, List.set_cons_succ]
  refine lat_free (i := 9) (oi := { dst := some 67, op := Go.Op.load 29 (Go.Operand.tmp 10), type := 29, pos := "more2.go:47", after := #[{ on := 8, ground := Go.Ground.guard }], guard := some (8, false) }) (v := ?va10) rfl (by kernel_rfl) (by kernel_rfl) (by kernel_rfl) (by kernel_rfl) (fun _ _ _ h => h) (Or.inl ⟨by rfl, ?hya10⟩) ⟨hH0.1, fun _ => hH0.2⟩ ?resta10
  case hya10 => (intro w hAw; obtain ⟨⟨p0, p1, p2, p3⟩, ⟨r0, r1, r2, r3⟩, _⟩ := hAw; go_simp; try (with_reducible rfl))
  simp only [Act.put, List.setIfInBounds_toArray, List.set_cons_zero, List.set_cons_succ]
  refine lat_free (i := 10) (oi := { dst := some 68, op := Go.Op.load 29 (Go.Operand.tmp 13), type := 29, pos := "more2.go:47", after := #[{ on := 8, ground := Go.Ground.guard }], guard := some (8, false) }) (v := ?va11) rfl (by kernel_rfl) (by kernel_rfl) (by kernel_rfl) (by kernel_rfl) (fun _ _ _ h => h) (Or.inl ⟨by rfl, ?hya11⟩) ⟨hH0.1, fun _ => hH0.2⟩ ?resta11
  case hya11 => (intro w hAw; obtain ⟨⟨p0, p1, p2, p3⟩, ⟨r0, r1, r2, r3⟩, _⟩ := hAw; go_simp; try (with_reducible rfl))
  simp only [Act.put, List.setIfInBounds_toArray, List.set_cons_zero, List.set_cons_succ]
  refine lat_one (i := 11) (by kernel_rfl) ?_
  refine lat_run (o := { dst := some 69, op := Go.Op.call { callee := Go.Callee.value (Go.Operand.func 10), args := #[Go.Operand.tmp 68], argTypes := #[29] }, type := 38, pos := "more2.go:47", after := #[{ on := 10, ground := Go.Ground.data }, { on := 8, ground := Go.Ground.chain }, { on := 8, ground := Go.Ground.guard }], guard := some (8, false) }) rfl (fun K hK => ?_)
  go_simp
  go_wp2_with (first
    | (go_at_call 10; go_fit (ref_any _ _ _ _ _ _ _ _ _); rintro e V6 ⟨rfl, Uu⟩)
    | fail)
  refine hK.out _ _ (⟨⟨hH0.1.1.heap (Uu.block _ hH0.1.1.size), hH0.1.2.1.heap (Uu.block _ hH0.1.2.1.size), onto hH0.1.2.2 Uu⟩, trivial⟩) (fun hHa12 => ?_)
  clear hK K
  refine lat_one (i := 12) (by kernel_rfl) ?_
  refine lat_run (o := { dst := some 70, op := Go.Op.call { callee := Go.Callee.value (Go.Operand.func 9), args := #[Go.Operand.tmp 67, Go.Operand.tmp 69], argTypes := #[29, 38] }, type := 4, pos := "more2.go:47", after := #[{ on := 9, ground := Go.Ground.data }, { on := 11, ground := Go.Ground.data }, { on := 11, ground := Go.Ground.chain }, { on := 8, ground := Go.Ground.guard }], guard := some (8, false) }) rfl (fun K hK => ?_)
  clear Uu
  go_simp
  go_wp2_with (first
    | (go_at_call 9; go_fit (HQ.out _ hHa12.1.2.2); rintro e V7 ⟨rfl, Uu⟩)
    | fail)
  refine hK.out _ _ (⟨⟨hHa12.1.1.heap (Uu.block _ hHa12.1.1.size), hHa12.1.2.1.heap (Uu.block _ hHa12.1.2.1.size), onto hHa12.1.2.2 Uu⟩, trivial⟩) (fun hHa13 => ?_)
  clear hK K
  refine lat_free (i := 13) (oi := { dst := some 71, op := Go.Op.unOp Go.UnOp.not 4 (Go.Operand.tmp 70), type := 4, pos := "more2.go:47", after := #[{ on := 12, ground := Go.Ground.data }, { on := 8, ground := Go.Ground.guard }], guard := some (8, false) }) (v := ?va14) rfl (by kernel_rfl) (by kernel_rfl) (by kernel_rfl) (by kernel_rfl) (fun _ _ _ h => h) (Or.inl ⟨by rfl, ?hya14⟩) ⟨hHa13.1, fun _ => hHa13.2⟩ ?resta14
  case hya14 => (intro w hAw; obtain ⟨⟨p0, p1, p2, p3⟩, ⟨r0, r1, r2, r3⟩, _⟩ := hAw; go_simp; try (with_reducible rfl))
  simp only [Act.put, List.setIfInBounds_toArray, List.set_cons_zero, List.set_cons_succ]
  refine lat_free (i := 14) (oi := { dst := some 72, op := Go.Op.pick (Go.Operand.tmp 66) (Go.Operand.const (Go.Value.bool true)) (Go.Operand.tmp 71), type := 4, pos := "more2.go:47", after := #[{ on := 8, ground := Go.Ground.data }, { on := 13, ground := Go.Ground.data }], guard := none }) (v := ?va15) rfl (by kernel_rfl) (by kernel_rfl) (by kernel_rfl) (by kernel_rfl) (fun _ _ _ h => h) (Or.inl ⟨by rfl, ?hya15⟩) ⟨hHa13.1, fun _ => hHa13.2⟩ ?resta15
  case hya15 => (intro w hAw; obtain ⟨⟨p0, p1, p2, p3⟩, ⟨r0, r1, r2, r3⟩, _⟩ := hAw; go_simp; try (with_reducible rfl))
  simp only [Act.put, List.setIfInBounds_toArray, List.set_cons_zero, List.set_cons_succ]
  refine lat_done (by kernel_rfl) ?_ _
  obtain ⟨⟨_, ⟨r0, r1, r2, r3⟩, hBV⟩, _⟩ := hHa13
  go_wp2_with (fail)
  go_loopw [82] (fun i wr => ∃ k : Nat, k ≤ C.length ∧ i = .int .i64 k ∧ Below V5.heap.size V5 wr) (fun i _ => C.length - (intOf i).toNat)
  case atStart => exact ⟨0, by omega, rfl, hBV⟩
  case round =>
    obtain ⟨k, hk, rfl, hB⟩ := hrel
    have hlen : C.length = L1.length := HK.out.len
    obtain ⟨y0', y1', y2', y3'⟩ := hy5
    have s0 := (hB.cell (cell_block y0')).trans y0'
    have s1 := (hB.cell (cell_block y1')).trans y1'
    have s2 := (hB.cell (cell_block y2')).trans y2'
    have s3 := (hB.cell (cell_block y3')).trans y3'
    have t0 := (hB.cell (cell_block g0)).trans g0
    have t1 := (hB.cell (cell_block g1)).trans g1
    clear r0 r1 r2 r3 y0' y1' y2' y3' g0 g1 hBV
    by_cases hlt : k < C.length
    · have hi : (k : Int) < (C.length : Int) := by omega
      have hi2 : (k : Int) < (L1.length : Int) := by omega
      have hK := HK.out.each k (by omega)
      have hin := HB5.out.1.below hB
      have hin2 := HB5.out.2.below hB
      obtain ⟨p, o, rfl, hc⟩ := hin.block (show k < L1.length by omega)
      obtain ⟨q, u, rfl, hd⟩ := hin2.block hlt
      clear hin hin2 hlen
      obtain ⟨A, eA⟩ : ∃ A, bd L1 k = A := ⟨_, rfl⟩
      obtain ⟨D, eD⟩ : ∃ D, bd C k = D := ⟨_, rfl⟩
      rw [eA, eD] at hK
      rw [eA] at hc
      rw [eD] at hd
      clear eA eD
      obtain ⟨kc, kd, ka, kb, kz⟩ := hK
      have hnv : ∀ w, (binOp .neq 24 (.agg #[.int .i64 A.a, .int .i64 A.b]) (.agg #[.int .i64 A.a, .int .i64 A.b])).run Tryz.prog w = .ok (.bool false) w := fun w => by rw [ne_vec]; simp
      obtain ⟨e0, e1, e2, e3, e4, e5, e6, e7⟩ := hd
      obtain ⟨d0, d1, d2, d3, d4, d5, d6, d7⟩ := hc
      go_upto_region 13 with (fail)
      have hs := same_bodyS A
      unfold Bd.val at hs
      have zq : q < wr.heap.size := cell_block e0
      have zp : p < wr.heap.size := cell_block d0
      have zy : qy < wr.heap.size := cell_block s2
      go_region
      all_goals by_cases hz : A.m = 0
      all_goals first
        | (have e := kz hz
           clear kc kd ka kb kz
           subst e
           go_wp2_with (fail)
           refine ⟨⟨k + 1, by omega, rfl, ?_⟩, ?_⟩
           · first
               | exact onto_alloc (onto_alloc (drew_below hB _) _) _
               | exact onto_alloc (onto_alloc hB _) _
               | (trace_state; sorry)
           · simp [intOf]; omega)
        | (rw [kc] at e0; rw [kd] at e1; rw [ka] at e2; rw [kb] at e3
           clear kc kd ka kb kz
           have hm : (A.m == 0) = false := by simpa using hz
           go_wp2_with (fail)
           refine ⟨⟨k + 1, by omega, rfl, ?_⟩, ?_⟩
           · first
               | exact onto_alloc (onto_alloc (drew_below hB _) _) _
               | exact onto_alloc (onto_alloc hB _) _
               | (trace_state; sorry)
           · simp [intOf]; omega)
    · have hi : ¬ (k : Int) < (C.length : Int) := by omega
      obtain rfl : k = C.length := by omega
      have hle : ((C.length : Int) == (L1.length : Int)) = true := by rw [hlen]; simp
      have hev : ∀ w, (binOp .eql 24 (.agg #[.int .i64 x0, .int .i64 y0]) (.agg #[.int .i64 x0, .int .i64 y0])).run Tryz.prog w = .ok (.bool true) w := fun w => by rw [eq_vec]; simp
      clear hlen
      go_wp2_with (fail)
      go_ret
      exact ⟨rfl, onto B5.out hB⟩

set_option maxRecDepth 100000 in
theorem lifted (os : Os) (started : os.Started) (H : Type) (enc : TypeId × Value → H) :
    ReturnsInHanded {} Tryz.checked os 4 .any (Rows.worldSameSpec.pre6 enc Tryz.prog Tryz.f4 Rows.worldSameRow.domain false) (Rows.worldSameSpec.post enc Tryz.prog Tryz.f4 false true false false) := by
  refine returnsInHanded_of_change (C := Tryz.checked) own started (by kernel_rfl) Tryz.func4
    (ChangeSpec.witness6 (enc := enc) (C := Tryz.checked) false ⟨#[], #[.agg #[.int .i64 0, .int .i64 0], .slice none 0 0, .slice none 0 0, .int .i64 0], []⟩ 8 (by kernel_rfl) (by kernel_rfl) (by kernel_rfl) (by kernel_rfl)) ?_
  intro W base args ds gs before hval0 hW hcnd _
  have hval : ∀ (j : Nat) t v, Tryz.f4.params[j]? = some t → args[j]? = some v → Value.okWide Tryz.prog W .any base t v := hval0
  have hW' := hW
  obtain ⟨p, q, hA0, hV, rfl, hfz, hnd⟩ := hW
  have hA : DataW.TrodAll enc Tryz.prog W 0 (fun _ => true) true Tryz.f4.params.toList args.toList ds p := hA0
  rw [Tryz.params4] at hA hval
  obtain ⟨v0, vs0, d0, ds0, p0, q0, hargs, rfl, rfl, h0, r0⟩ := trodAll_cons hA
  obtain ⟨v1, vs1, d1, ds1, p1, q1, rfl, rfl, rfl, h1, r1⟩ := trodAll_cons r0
  obtain ⟨v2, vs2, d2, ds2, p2, q2, rfl, rfl, rfl, h2, r2⟩ := trodAll_cons r1
  obtain ⟨v3, vs3, d3, ds3, p3, q3, rfl, rfl, rfl, h3, r3⟩ := trodAll_cons r2
  obtain ⟨rfl, rfl, rfl⟩ := trodAll_nil r3
  obtain rfl : args = #[v0, v1, v2, v3] := by cases args; simp_all
  obtain ⟨rfl, rfl⟩ := trodVars_none hV
  obtain ⟨x0, y0, rfl, rfl, rfl, f0, g0⟩ := open_vec (hval 0 24 v0 rfl rfl) h0
  obtain ⟨a1, len1, cap1, rfl⟩ := okWide_slice Tryz.underlying25 (hval 1 25 v1 rfl rfl)
  have k1 := h1
  have lt1 : ∀ x ∈ p1, x.block < W.heap.size := by obtain ⟨m, hm⟩ := k1; exact DataW.trod_lt m _ _ _ hm
  obtain ⟨L1, rfl, b1⟩ := open_bodies h1
  obtain ⟨a2, len2, cap2, rfl⟩ := okWide_slice Tryz.underlying26 (hval 2 26 v2 rfl rfl)
  have k2 := h2
  have lt2 : ∀ x ∈ p2, x.block < W.heap.size := by obtain ⟨m, hm⟩ := k2; exact DataW.trod_lt m _ _ _ hm
  obtain ⟨L2, rfl, b2⟩ := open_joints h2
  obtain ⟨a3, rfl, rfl, rfl, w3⟩ := open_int Tryz.underlying3 (hval 3 3 v3 rfl rfl) h3
  have f3 := inF_wf w3
  clear hA0 hval0
  refine (walk x0 y0 f0 g0 a1 cap1 L1 a2 cap2 L2 a3 f3 W  b1 b2 ).mono fun e W' ⟨he, bel⟩ => ?_
  subst he
  exact ⟨_, rfl, _, _, _, [], _, [], hW', trodAll_mk1 (shut_bool Tryz.underlying4 _), (trodAll_cons_mk (shut_vec f0 g0) (trodAll_cons_mk (Below.trod laidOut (by kernel_rfl) (of_decide_eq_true (by kernel_rfl)) k1 bel lt1) (trodAll_cons_mk (Below.trod laidOut (by kernel_rfl) (of_decide_eq_true (by kernel_rfl)) k2 bel lt2) (trodAll_cons_mk (shut_int Tryz.underlying3 w3) trodAll_mk0)))), rfl, bel.frame _, fun h => by cases h⟩

theorem over : Rows.worldSameRow.holds Tryz.pinned (OpenSpec.ofChange Rows.worldSameSpec) :=
  OpenClaim.holds_of_wide 4 Tryz.f4 rfl rfl rfl rfl rfl rfl rfl ⟨rfl, rfl, rfl, rfl, rfl⟩ rfl rfl rfl rfl rfl (by kernel_rfl) Tryz.func4 (by kernel_rfl)
    (of_decide_eq_true (by kernel_rfl)) (by unfold Func.isWrapper; first | (rw [if_pos (by decide +kernel)]; kernel_rfl) | (rw [if_neg (by decide +kernel)]; exact ⟨rfl, rfl⟩))
    (fun os started H enc _ => lifted os started H enc)

theorem proved : Rows.WorldSameSaid :=
  over
end Go.Proofs.YtnkhknmpffcfbabGreat.worldSame

namespace Go.Proofs.YtnkhknmpffcfbabGreat
theorem worldSame_holds : Rows.WorldSameSaid := worldSame.proved
end Go.Proofs.YtnkhknmpffcfbabGreat
