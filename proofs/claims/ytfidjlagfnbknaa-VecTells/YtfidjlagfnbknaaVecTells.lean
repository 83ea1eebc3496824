/-
  Proved: maquettelaw6.VecTells returns true for every two places, every number and every int (each call of package vec tells what the document's own answer is, or its error), and leaves what it was given as it was; no condition.
-/
import Derived.Test.YtfidjlagfnbknaaRows
import Derived.Test.YtfidjlagfnbknaaVAlive
import Derived.Test.YtfidjlagfnbknaaVData
import Derived.Test.YtfidjlagfnbknaaVRef
import Derived.WalkKit
import Derived.Deep.QuietTactic
import Derived.BigQuiet
import Derived.WalkSpells
import Derived.WalkLawsBesides
import Derived.ProofKit
import Derived.OpenShut
namespace Go.Proofs.Ytfidjlagfnbknaa.vecTells
open Go.ChangeShapes Go.WideShapes Go.ChangeAt Go.RowKit
set_option linter.unusedVariables false

theorem own : ownKnob Try.prog.godebug = none := by kernel_rfl

def pairT (t : Int × Int × Int) : (Int × Int) × Int × Int := ((t.1, t.2.1), 0, t.2.2)
def numT (d : Int × Int) : (Int × Int) × Int × Int := ((0, 0), d.1, d.2)
/-- What a call leaves: its error; a place and a number where there is none. -/
def LeftT (B Y : Nat) (t : (Int × Int) × Int × Int) (k : Int) (W : World) : Prop := k = t.2.2 ∧ (k = 0 → At W B t.1.1 t.1.2 ∧ W.cell? ⟨Y, 0, none⟩ = some (.int .i64 t.2.1))
theorem LeftT.keep {B Y n : Nat} {t : (Int × Int) × Int × Int} (hB : B < n) (hY : Y < n) : ∀ k W W', (∀ i, i < n → W'.heap[i]? = W.heap[i]?) → LeftT B Y t k W → LeftT B Y t k W' :=
  fun k W W' hh h => ⟨h.1, fun hk => ⟨(h.2 hk).1.heap (hh B hB), by rw [cell_of_heap (hh Y hY)]; exact (h.2 hk).2⟩⟩
theorem rlen_e (C : Nat) (x y : Int) (w : World) (hx : inF x) (hy : inF y) (h : Err w C 0 0) :
    Calls Try.prog 25 #[.pointer (some ⟨C, 0, none⟩), .int .i64 x, .int .i64 y] w fun e w' => (∃ p, e = .returned (.int .i64 p) ∧ ((lenR x y).2 = 0 → p = (lenR x y).1)) ∧ Err w' C 0 (lenR x y).2 ∧ Past C w w' :=
  (rlen_any C 0 x y w hx hy h.1 h.2).mono fun e w' ⟨he, hw⟩ => ⟨⟨_, he, fun _ => rfl⟩, by rw [hw]; exact h.set _, by rw [hw]; exact past_setCell _ _ _ _ _⟩
theorem ne_same (x y : Int) (w : World) : (binOp .neq 24 (.agg #[.int .i64 x, .int .i64 y]) (.agg #[.int .i64 x, .int .i64 y])).run Try.prog w = .ok (.bool false) w := by
  rw [ne_vec]; simp

set_option maxHeartbeats 1000000 in
theorem tells1_0 (O A D B K Y N : Nat) (hBY : B ≠ Y) (x y u v k n : Int) (W : World) (hO : W.cell? ⟨O, 0, none⟩ = some (.int .i64 0)) (hA : At W A x y) (hD : At W D u v) (hB : At W B 0 0) (cK : W.cell? ⟨K, 0, none⟩ = some (.int .i64 k)) (cY : W.cell? ⟨Y, 0, none⟩ = some (.int .i64 0)) (cN : W.cell? ⟨N, 0, none⟩ = some (.int .i64 n))
    (zB : Free W B) (zY : Free W Y) (fx : inF x) (fy : inF y) (fu : inF u) (fv : inF v) (fk : inF k) (fn : inF n) :
    Calls Try.prog 11 #[.pointer (some ⟨O, 0, none⟩), .pointer (some ⟨A, 0, none⟩), .pointer (some ⟨D, 0, none⟩), .pointer (some ⟨B, 0, none⟩), .pointer (some ⟨K, 0, none⟩), .pointer (some ⟨Y, 0, none⟩), .pointer (some ⟨N, 0, none⟩)] W fun e w1 =>
      Wrote (fun i => i = B ∨ i = Y) W w1 ∧ ∃ z, (e = .returned (.tuple #[]) ∧ z = 0 ∨ e = .panicked [fault z]) ∧ LeftT B Y (pairT (two (addR x u) (addR y v))) z w1 := by
  have HC : Hid (∀ W, Calls Try.prog 12 #[.agg #[.int .i64 x, .int .i64 y], .agg #[.int .i64 u, .int .i64 v]] W fun e w' => e = outV (two (addR x u) (addR y v)) ∧ Grew W w') := fun W => vadd_any x y u v W fx fy fu fv
  generalize (two (addR x u) (addR y v)) = t at *
  obtain ⟨a0, a1⟩ := hA
  obtain ⟨b0, b1⟩ := hD
  obtain ⟨v0, v1⟩ := hB
  have cY2 := cY
  by_cases ht : t.2.2 = 0
  · have HC' : Hid (∀ W, Calls Try.prog 12 #[.agg #[.int .i64 x, .int .i64 y], .agg #[.int .i64 u, .int .i64 v]] W fun e w' => e = .returned (.agg #[.int .i64 t.1, .int .i64 t.2.1]) ∧ Grew W w') := fun W => (HC.out W).mono fun e w' h => ⟨h.1.trans (if_pos ht), h.2⟩
    clear HC
    go_enter Try.func11, Try.ntmps11
    go_wp2_with (first
      | (go_at_call 12; go_fit (HC'.out _); rintro e V ⟨rfl, G⟩; have q0 := G.cell v0; have q1 := G.cell v1; have q2 := G.cell cY; have z0 := G.frozen (zB 0 none); have z1 := G.frozen (zB 1 none)))
    go_end0
    have K := G.set1 B (.int .i64 t.1) (.int .i64 t.2.1)
    exact ⟨K.more (fun i hi => .inl hi), 0, .inl ⟨rfl, rfl⟩, ht.symm, fun _ => ⟨at_set V B 0 0 t.1 t.2.1 ⟨q0, q1⟩, K.cell cY2 hBY.symm⟩⟩
  · have HC' : Hid (∀ W, Calls Try.prog 12 #[.agg #[.int .i64 x, .int .i64 y], .agg #[.int .i64 u, .int .i64 v]] W fun e w' => e = .panicked [fault t.2.2] ∧ Grew W w') := fun W => (HC.out W).mono fun e w' h => ⟨h.1.trans (if_neg ht), h.2⟩
    clear HC
    go_enter Try.func11, Try.ntmps11
    go_wp2_with (first
      | (go_at_call 12; go_fit (HC'.out _); rintro e V ⟨rfl, G⟩))
    exact ⟨rfl, G.wrote, _, .inr rfl, rfl, fun h => absurd h ht⟩
set_option maxHeartbeats 1000000 in
theorem tells1_1 (O A D B K Y N : Nat) (hBY : B ≠ Y) (x y u v k n : Int) (W : World) (hO : W.cell? ⟨O, 0, none⟩ = some (.int .i64 1)) (hA : At W A x y) (hD : At W D u v) (hB : At W B 0 0) (cK : W.cell? ⟨K, 0, none⟩ = some (.int .i64 k)) (cY : W.cell? ⟨Y, 0, none⟩ = some (.int .i64 0)) (cN : W.cell? ⟨N, 0, none⟩ = some (.int .i64 n))
    (zB : Free W B) (zY : Free W Y) (fx : inF x) (fy : inF y) (fu : inF u) (fv : inF v) (fk : inF k) (fn : inF n) :
    Calls Try.prog 11 #[.pointer (some ⟨O, 0, none⟩), .pointer (some ⟨A, 0, none⟩), .pointer (some ⟨D, 0, none⟩), .pointer (some ⟨B, 0, none⟩), .pointer (some ⟨K, 0, none⟩), .pointer (some ⟨Y, 0, none⟩), .pointer (some ⟨N, 0, none⟩)] W fun e w1 =>
      Wrote (fun i => i = B ∨ i = Y) W w1 ∧ ∃ z, (e = .returned (.tuple #[]) ∧ z = 0 ∨ e = .panicked [fault z]) ∧ LeftT B Y (pairT (two (subR x u) (subR y v))) z w1 := by
  have HC : Hid (∀ W, Calls Try.prog 13 #[.agg #[.int .i64 x, .int .i64 y], .agg #[.int .i64 u, .int .i64 v]] W fun e w' => e = outV (two (subR x u) (subR y v)) ∧ Grew W w') := fun W => vsub_any x y u v W fx fy fu fv
  generalize (two (subR x u) (subR y v)) = t at *
  obtain ⟨a0, a1⟩ := hA
  obtain ⟨b0, b1⟩ := hD
  obtain ⟨v0, v1⟩ := hB
  have cY2 := cY
  by_cases ht : t.2.2 = 0
  · have HC' : Hid (∀ W, Calls Try.prog 13 #[.agg #[.int .i64 x, .int .i64 y], .agg #[.int .i64 u, .int .i64 v]] W fun e w' => e = .returned (.agg #[.int .i64 t.1, .int .i64 t.2.1]) ∧ Grew W w') := fun W => (HC.out W).mono fun e w' h => ⟨h.1.trans (if_pos ht), h.2⟩
    clear HC
    go_enter Try.func11, Try.ntmps11
    go_wp2_with (first
      | (go_at_call 13; go_fit (HC'.out _); rintro e V ⟨rfl, G⟩; have q0 := G.cell v0; have q1 := G.cell v1; have q2 := G.cell cY; have z0 := G.frozen (zB 0 none); have z1 := G.frozen (zB 1 none)))
    go_end0
    have K := G.set1 B (.int .i64 t.1) (.int .i64 t.2.1)
    exact ⟨K.more (fun i hi => .inl hi), 0, .inl ⟨rfl, rfl⟩, ht.symm, fun _ => ⟨at_set V B 0 0 t.1 t.2.1 ⟨q0, q1⟩, K.cell cY2 hBY.symm⟩⟩
  · have HC' : Hid (∀ W, Calls Try.prog 13 #[.agg #[.int .i64 x, .int .i64 y], .agg #[.int .i64 u, .int .i64 v]] W fun e w' => e = .panicked [fault t.2.2] ∧ Grew W w') := fun W => (HC.out W).mono fun e w' h => ⟨h.1.trans (if_neg ht), h.2⟩
    clear HC
    go_enter Try.func11, Try.ntmps11
    go_wp2_with (first
      | (go_at_call 13; go_fit (HC'.out _); rintro e V ⟨rfl, G⟩))
    exact ⟨rfl, G.wrote, _, .inr rfl, rfl, fun h => absurd h ht⟩
set_option maxHeartbeats 1000000 in
theorem tells1_2 (O A D B K Y N : Nat) (hBY : B ≠ Y) (x y u v k n : Int) (W : World) (hO : W.cell? ⟨O, 0, none⟩ = some (.int .i64 2)) (hA : At W A x y) (hD : At W D u v) (hB : At W B 0 0) (cK : W.cell? ⟨K, 0, none⟩ = some (.int .i64 k)) (cY : W.cell? ⟨Y, 0, none⟩ = some (.int .i64 0)) (cN : W.cell? ⟨N, 0, none⟩ = some (.int .i64 n))
    (zB : Free W B) (zY : Free W Y) (fx : inF x) (fy : inF y) (fu : inF u) (fv : inF v) (fk : inF k) (fn : inF n) :
    Calls Try.prog 11 #[.pointer (some ⟨O, 0, none⟩), .pointer (some ⟨A, 0, none⟩), .pointer (some ⟨D, 0, none⟩), .pointer (some ⟨B, 0, none⟩), .pointer (some ⟨K, 0, none⟩), .pointer (some ⟨Y, 0, none⟩), .pointer (some ⟨N, 0, none⟩)] W fun e w1 =>
      Wrote (fun i => i = B ∨ i = Y) W w1 ∧ ∃ z, (e = .returned (.tuple #[]) ∧ z = 0 ∨ e = .panicked [fault z]) ∧ LeftT B Y (pairT (two (mulR x k) (mulR y k))) z w1 := by
  have HC : Hid (∀ W, Calls Try.prog 14 #[.agg #[.int .i64 x, .int .i64 y], .int .i64 k] W fun e w' => e = outV (two (mulR x k) (mulR y k)) ∧ Grew W w') := fun W => vscale_any x y k W fx fy fk
  generalize (two (mulR x k) (mulR y k)) = t at *
  obtain ⟨a0, a1⟩ := hA
  obtain ⟨b0, b1⟩ := hD
  obtain ⟨v0, v1⟩ := hB
  have cY2 := cY
  by_cases ht : t.2.2 = 0
  · have HC' : Hid (∀ W, Calls Try.prog 14 #[.agg #[.int .i64 x, .int .i64 y], .int .i64 k] W fun e w' => e = .returned (.agg #[.int .i64 t.1, .int .i64 t.2.1]) ∧ Grew W w') := fun W => (HC.out W).mono fun e w' h => ⟨h.1.trans (if_pos ht), h.2⟩
    clear HC
    go_enter Try.func11, Try.ntmps11
    go_wp2_with (first
      | (go_at_call 14; go_fit (HC'.out _); rintro e V ⟨rfl, G⟩; have q0 := G.cell v0; have q1 := G.cell v1; have q2 := G.cell cY; have z0 := G.frozen (zB 0 none); have z1 := G.frozen (zB 1 none)))
    go_end0
    have K := G.set1 B (.int .i64 t.1) (.int .i64 t.2.1)
    exact ⟨K.more (fun i hi => .inl hi), 0, .inl ⟨rfl, rfl⟩, ht.symm, fun _ => ⟨at_set V B 0 0 t.1 t.2.1 ⟨q0, q1⟩, K.cell cY2 hBY.symm⟩⟩
  · have HC' : Hid (∀ W, Calls Try.prog 14 #[.agg #[.int .i64 x, .int .i64 y], .int .i64 k] W fun e w' => e = .panicked [fault t.2.2] ∧ Grew W w') := fun W => (HC.out W).mono fun e w' h => ⟨h.1.trans (if_neg ht), h.2⟩
    clear HC
    go_enter Try.func11, Try.ntmps11
    go_wp2_with (first
      | (go_at_call 14; go_fit (HC'.out _); rintro e V ⟨rfl, G⟩))
    exact ⟨rfl, G.wrote, _, .inr rfl, rfl, fun h => absurd h ht⟩
set_option maxHeartbeats 1000000 in
theorem tells1_3 (O A D B K Y N : Nat) (hBY : B ≠ Y) (x y u v k n : Int) (W : World) (hO : W.cell? ⟨O, 0, none⟩ = some (.int .i64 3)) (hA : At W A x y) (hD : At W D u v) (hB : At W B 0 0) (cK : W.cell? ⟨K, 0, none⟩ = some (.int .i64 k)) (cY : W.cell? ⟨Y, 0, none⟩ = some (.int .i64 0)) (cN : W.cell? ⟨N, 0, none⟩ = some (.int .i64 n))
    (zB : Free W B) (zY : Free W Y) (fx : inF x) (fy : inF y) (fu : inF u) (fv : inF v) (fk : inF k) (fn : inF n) :
    Calls Try.prog 11 #[.pointer (some ⟨O, 0, none⟩), .pointer (some ⟨A, 0, none⟩), .pointer (some ⟨D, 0, none⟩), .pointer (some ⟨B, 0, none⟩), .pointer (some ⟨K, 0, none⟩), .pointer (some ⟨Y, 0, none⟩), .pointer (some ⟨N, 0, none⟩)] W fun e w1 =>
      Wrote (fun i => i = B ∨ i = Y) W w1 ∧ ∃ z, (e = .returned (.tuple #[]) ∧ z = 0 ∨ e = .panicked [fault z]) ∧ LeftT B Y (pairT (two (divR x k) (divR y k))) z w1 := by
  have HC : Hid (∀ W, Calls Try.prog 15 #[.agg #[.int .i64 x, .int .i64 y], .int .i64 k] W fun e w' => e = outV (two (divR x k) (divR y k)) ∧ Grew W w') := fun W => vover_any x y k W fx fy fk
  generalize (two (divR x k) (divR y k)) = t at *
  obtain ⟨a0, a1⟩ := hA
  obtain ⟨b0, b1⟩ := hD
  obtain ⟨v0, v1⟩ := hB
  have cY2 := cY
  by_cases ht : t.2.2 = 0
  · have HC' : Hid (∀ W, Calls Try.prog 15 #[.agg #[.int .i64 x, .int .i64 y], .int .i64 k] W fun e w' => e = .returned (.agg #[.int .i64 t.1, .int .i64 t.2.1]) ∧ Grew W w') := fun W => (HC.out W).mono fun e w' h => ⟨h.1.trans (if_pos ht), h.2⟩
    clear HC
    go_enter Try.func11, Try.ntmps11
    go_wp2_with (first
      | (go_at_call 15; go_fit (HC'.out _); rintro e V ⟨rfl, G⟩; have q0 := G.cell v0; have q1 := G.cell v1; have q2 := G.cell cY; have z0 := G.frozen (zB 0 none); have z1 := G.frozen (zB 1 none)))
    go_end0
    have K := G.set1 B (.int .i64 t.1) (.int .i64 t.2.1)
    exact ⟨K.more (fun i hi => .inl hi), 0, .inl ⟨rfl, rfl⟩, ht.symm, fun _ => ⟨at_set V B 0 0 t.1 t.2.1 ⟨q0, q1⟩, K.cell cY2 hBY.symm⟩⟩
  · have HC' : Hid (∀ W, Calls Try.prog 15 #[.agg #[.int .i64 x, .int .i64 y], .int .i64 k] W fun e w' => e = .panicked [fault t.2.2] ∧ Grew W w') := fun W => (HC.out W).mono fun e w' h => ⟨h.1.trans (if_neg ht), h.2⟩
    clear HC
    go_enter Try.func11, Try.ntmps11
    go_wp2_with (first
      | (go_at_call 15; go_fit (HC'.out _); rintro e V ⟨rfl, G⟩))
    exact ⟨rfl, G.wrote, _, .inr rfl, rfl, fun h => absurd h ht⟩
set_option maxHeartbeats 1000000 in
theorem tells1_4 (O A D B K Y N : Nat) (hBY : B ≠ Y) (x y u v k n : Int) (W : World) (hO : W.cell? ⟨O, 0, none⟩ = some (.int .i64 4)) (hA : At W A x y) (hD : At W D u v) (hB : At W B 0 0) (cK : W.cell? ⟨K, 0, none⟩ = some (.int .i64 k)) (cY : W.cell? ⟨Y, 0, none⟩ = some (.int .i64 0)) (cN : W.cell? ⟨N, 0, none⟩ = some (.int .i64 n))
    (zB : Free W B) (zY : Free W Y) (fx : inF x) (fy : inF y) (fu : inF u) (fv : inF v) (fk : inF k) (fn : inF n) :
    Calls Try.prog 11 #[.pointer (some ⟨O, 0, none⟩), .pointer (some ⟨A, 0, none⟩), .pointer (some ⟨D, 0, none⟩), .pointer (some ⟨B, 0, none⟩), .pointer (some ⟨K, 0, none⟩), .pointer (some ⟨Y, 0, none⟩), .pointer (some ⟨N, 0, none⟩)] W fun e w1 =>
      Wrote (fun i => i = B ∨ i = Y) W w1 ∧ ∃ z, (e = .returned (.tuple #[]) ∧ z = 0 ∨ e = .panicked [fault z]) ∧ LeftT B Y (numT (dotV x y u v)) z w1 := by
  have HC : Hid (∀ W, Calls Try.prog 16 #[.agg #[.int .i64 x, .int .i64 y], .agg #[.int .i64 u, .int .i64 v]] W fun e w' => e = outR (dotV x y u v) ∧ Grew W w') := fun W => vdot_any x y u v W fx fy fu fv
  generalize (dotV x y u v) = t at *
  obtain ⟨a0, a1⟩ := hA
  obtain ⟨b0, b1⟩ := hD
  obtain ⟨v0, v1⟩ := hB
  have cY2 := cY
  by_cases ht : t.2 = 0
  · have HC' : Hid (∀ W, Calls Try.prog 16 #[.agg #[.int .i64 x, .int .i64 y], .agg #[.int .i64 u, .int .i64 v]] W fun e w' => e = .returned (.int .i64 t.1) ∧ Grew W w') := fun W => (HC.out W).mono fun e w' h => ⟨h.1.trans (if_pos ht), h.2⟩
    clear HC
    go_enter Try.func11, Try.ntmps11
    go_wp2_with (first
      | (go_at_call 16; go_fit (HC'.out _); rintro e V ⟨rfl, G⟩; have q0 := G.cell v0; have q1 := G.cell v1; have q2 := G.cell cY; have z2 := G.frozen (zY 0 none)))
    go_end0
    have K : Wrote (fun i => i = Y) W (V.setCell ⟨Y, 0, none⟩ (.int .i64 t.1)) := G.wrote.set (S := fun i => i = Y) rfl _ _ _
    exact ⟨K.more (fun i hi => .inr hi), 0, .inl ⟨rfl, rfl⟩, ht.symm, fun _ => ⟨At.wrote ⟨v0, v1⟩ K hBY, World.cell?_setCell_same _ _ _ q2⟩⟩
  · have HC' : Hid (∀ W, Calls Try.prog 16 #[.agg #[.int .i64 x, .int .i64 y], .agg #[.int .i64 u, .int .i64 v]] W fun e w' => e = .panicked [fault t.2] ∧ Grew W w') := fun W => (HC.out W).mono fun e w' h => ⟨h.1.trans (if_neg ht), h.2⟩
    clear HC
    go_enter Try.func11, Try.ntmps11
    go_wp2_with (first
      | (go_at_call 16; go_fit (HC'.out _); rintro e V ⟨rfl, G⟩))
    exact ⟨rfl, G.wrote, _, .inr rfl, rfl, fun h => absurd h ht⟩
set_option maxHeartbeats 1000000 in
theorem tells1_5 (O A D B K Y N : Nat) (hBY : B ≠ Y) (x y u v k n : Int) (W : World) (hO : W.cell? ⟨O, 0, none⟩ = some (.int .i64 5)) (hA : At W A x y) (hD : At W D u v) (hB : At W B 0 0) (cK : W.cell? ⟨K, 0, none⟩ = some (.int .i64 k)) (cY : W.cell? ⟨Y, 0, none⟩ = some (.int .i64 0)) (cN : W.cell? ⟨N, 0, none⟩ = some (.int .i64 n))
    (zB : Free W B) (zY : Free W Y) (fx : inF x) (fy : inF y) (fu : inF u) (fv : inF v) (fk : inF k) (fn : inF n) :
    Calls Try.prog 11 #[.pointer (some ⟨O, 0, none⟩), .pointer (some ⟨A, 0, none⟩), .pointer (some ⟨D, 0, none⟩), .pointer (some ⟨B, 0, none⟩), .pointer (some ⟨K, 0, none⟩), .pointer (some ⟨Y, 0, none⟩), .pointer (some ⟨N, 0, none⟩)] W fun e w1 =>
      Wrote (fun i => i = B ∨ i = Y) W w1 ∧ ∃ z, (e = .returned (.tuple #[]) ∧ z = 0 ∨ e = .panicked [fault z]) ∧ LeftT B Y (numT (lenR x y)) z w1 := by
  have HC : Hid (∀ W, Calls Try.prog 17 #[.agg #[.int .i64 x, .int .i64 y]] W fun e w' => e = outR (lenR x y) ∧ Grew W w') := fun W => vlen_any x y W fx fy
  generalize (lenR x y) = t at *
  obtain ⟨a0, a1⟩ := hA
  obtain ⟨b0, b1⟩ := hD
  obtain ⟨v0, v1⟩ := hB
  have cY2 := cY
  by_cases ht : t.2 = 0
  · have HC' : Hid (∀ W, Calls Try.prog 17 #[.agg #[.int .i64 x, .int .i64 y]] W fun e w' => e = .returned (.int .i64 t.1) ∧ Grew W w') := fun W => (HC.out W).mono fun e w' h => ⟨h.1.trans (if_pos ht), h.2⟩
    clear HC
    go_enter Try.func11, Try.ntmps11
    go_wp2_with (first
      | (go_at_call 17; go_fit (HC'.out _); rintro e V ⟨rfl, G⟩; have q0 := G.cell v0; have q1 := G.cell v1; have q2 := G.cell cY; have z2 := G.frozen (zY 0 none)))
    go_end0
    have K : Wrote (fun i => i = Y) W (V.setCell ⟨Y, 0, none⟩ (.int .i64 t.1)) := G.wrote.set (S := fun i => i = Y) rfl _ _ _
    exact ⟨K.more (fun i hi => .inr hi), 0, .inl ⟨rfl, rfl⟩, ht.symm, fun _ => ⟨At.wrote ⟨v0, v1⟩ K hBY, World.cell?_setCell_same _ _ _ q2⟩⟩
  · have HC' : Hid (∀ W, Calls Try.prog 17 #[.agg #[.int .i64 x, .int .i64 y]] W fun e w' => e = .panicked [fault t.2] ∧ Grew W w') := fun W => (HC.out W).mono fun e w' h => ⟨h.1.trans (if_neg ht), h.2⟩
    clear HC
    go_enter Try.func11, Try.ntmps11
    go_wp2_with (first
      | (go_at_call 17; go_fit (HC'.out _); rintro e V ⟨rfl, G⟩))
    exact ⟨rfl, G.wrote, _, .inr rfl, rfl, fun h => absurd h ht⟩
set_option maxHeartbeats 1000000 in
theorem tells1_6 (O A D B K Y N : Nat) (hBY : B ≠ Y) (x y u v k n : Int) (W : World) (hO : W.cell? ⟨O, 0, none⟩ = some (.int .i64 6)) (hA : At W A x y) (hD : At W D u v) (hB : At W B 0 0) (cK : W.cell? ⟨K, 0, none⟩ = some (.int .i64 k)) (cY : W.cell? ⟨Y, 0, none⟩ = some (.int .i64 0)) (cN : W.cell? ⟨N, 0, none⟩ = some (.int .i64 n))
    (zB : Free W B) (zY : Free W Y) (fx : inF x) (fy : inF y) (fu : inF u) (fv : inF v) (fk : inF k) (fn : inF n) :
    Calls Try.prog 11 #[.pointer (some ⟨O, 0, none⟩), .pointer (some ⟨A, 0, none⟩), .pointer (some ⟨D, 0, none⟩), .pointer (some ⟨B, 0, none⟩), .pointer (some ⟨K, 0, none⟩), .pointer (some ⟨Y, 0, none⟩), .pointer (some ⟨N, 0, none⟩)] W fun e w1 =>
      Wrote (fun i => i = B ∨ i = Y) W w1 ∧ ∃ z, (e = .returned (.tuple #[]) ∧ z = 0 ∨ e = .panicked [fault z]) ∧ LeftT B Y (unitR x y) z w1 := by
  have HC : Hid (∀ W, Calls Try.prog 18 #[.agg #[.int .i64 x, .int .i64 y]] W fun e w' => e = outU (unitR x y) ∧ Grew W w') := fun W => vunit_any x y W fx fy
  generalize unitR x y = t at *
  obtain ⟨a0, a1⟩ := hA
  obtain ⟨b0, b1⟩ := hD
  obtain ⟨v0, v1⟩ := hB
  have cY2 := cY
  by_cases ht : t.2.2 = 0
  · have HC' : Hid (∀ W, Calls Try.prog 18 #[.agg #[.int .i64 x, .int .i64 y]] W fun e w' => e = .returned (.tuple #[.agg #[.int .i64 t.1.1, .int .i64 t.1.2], .int .i64 t.2.1]) ∧ Grew W w') := fun W => (HC.out W).mono fun e w' h => ⟨h.1.trans (if_pos ht), h.2⟩
    clear HC
    go_enter Try.func11, Try.ntmps11
    go_wp2_with (first
      | (go_at_call 18; go_fit (HC'.out _); rintro e V ⟨rfl, G⟩; have q0 := G.cell v0; have q1 := G.cell v1; have q2 := G.cell cY; have z0 := G.frozen (zB 0 none); have z1 := G.frozen (zB 1 none); have z2 := G.frozen (zY 0 none)))
    go_end0
    exact ⟨wrote_set2 G.wrote B Y (.inl rfl) (.inr rfl) _ _ _, 0, .inl ⟨rfl, rfl⟩, ht.symm, fun _ => at_set2 V B Y hBY 0 0 _ _ _ _ ⟨q0, q1⟩ q2⟩
  · have HC' : Hid (∀ W, Calls Try.prog 18 #[.agg #[.int .i64 x, .int .i64 y]] W fun e w' => e = .panicked [fault t.2.2] ∧ Grew W w') := fun W => (HC.out W).mono fun e w' h => ⟨h.1.trans (if_neg ht), h.2⟩
    clear HC
    go_enter Try.func11, Try.ntmps11
    go_wp2_with (first
      | (go_at_call 18; go_fit (HC'.out _); rintro e V ⟨rfl, G⟩))
    exact ⟨rfl, G.wrote, _, .inr rfl, rfl, fun h => absurd h ht⟩
set_option maxHeartbeats 1000000 in
theorem tells1_7 (O A D B K Y N : Nat) (hBY : B ≠ Y) (x y u v k n : Int) (W : World) (hO : W.cell? ⟨O, 0, none⟩ = some (.int .i64 7)) (hA : At W A x y) (hD : At W D u v) (hB : At W B 0 0) (cK : W.cell? ⟨K, 0, none⟩ = some (.int .i64 k)) (cY : W.cell? ⟨Y, 0, none⟩ = some (.int .i64 0)) (cN : W.cell? ⟨N, 0, none⟩ = some (.int .i64 n))
    (zB : Free W B) (zY : Free W Y) (fx : inF x) (fy : inF y) (fu : inF u) (fv : inF v) (fk : inF k) (fn : inF n) :
    Calls Try.prog 11 #[.pointer (some ⟨O, 0, none⟩), .pointer (some ⟨A, 0, none⟩), .pointer (some ⟨D, 0, none⟩), .pointer (some ⟨B, 0, none⟩), .pointer (some ⟨K, 0, none⟩), .pointer (some ⟨Y, 0, none⟩), .pointer (some ⟨N, 0, none⟩)] W fun e w1 =>
      Wrote (fun i => i = B ∨ i = Y) W w1 ∧ ∃ z, (e = .returned (.tuple #[]) ∧ z = 0 ∨ e = .panicked [fault z]) ∧ LeftT B Y (pairT (two (partR x n) (partR y n))) z w1 := by
  have HC : Hid (∀ W, Calls Try.prog 19 #[.agg #[.int .i64 x, .int .i64 y], .int .i64 n] W fun e w' => e = outV (two (partR x n) (partR y n)) ∧ Grew W w') := fun W => vshare_any x y n W fx fy fn
  generalize (two (partR x n) (partR y n)) = t at *
  obtain ⟨a0, a1⟩ := hA
  obtain ⟨b0, b1⟩ := hD
  obtain ⟨v0, v1⟩ := hB
  have cY2 := cY
  by_cases ht : t.2.2 = 0
  · have HC' : Hid (∀ W, Calls Try.prog 19 #[.agg #[.int .i64 x, .int .i64 y], .int .i64 n] W fun e w' => e = .returned (.agg #[.int .i64 t.1, .int .i64 t.2.1]) ∧ Grew W w') := fun W => (HC.out W).mono fun e w' h => ⟨h.1.trans (if_pos ht), h.2⟩
    clear HC
    go_enter Try.func11, Try.ntmps11
    go_wp2_with (first
      | (go_at_call 19; go_fit (HC'.out _); rintro e V ⟨rfl, G⟩; have q0 := G.cell v0; have q1 := G.cell v1; have q2 := G.cell cY; have z0 := G.frozen (zB 0 none); have z1 := G.frozen (zB 1 none)))
    go_end0
    have K := G.set1 B (.int .i64 t.1) (.int .i64 t.2.1)
    exact ⟨K.more (fun i hi => .inl hi), 0, .inl ⟨rfl, rfl⟩, ht.symm, fun _ => ⟨at_set V B 0 0 t.1 t.2.1 ⟨q0, q1⟩, K.cell cY2 hBY.symm⟩⟩
  · have HC' : Hid (∀ W, Calls Try.prog 19 #[.agg #[.int .i64 x, .int .i64 y], .int .i64 n] W fun e w' => e = .panicked [fault t.2.2] ∧ Grew W w') := fun W => (HC.out W).mono fun e w' h => ⟨h.1.trans (if_neg ht), h.2⟩
    clear HC
    go_enter Try.func11, Try.ntmps11
    go_wp2_with (first
      | (go_at_call 19; go_fit (HC'.out _); rintro e V ⟨rfl, G⟩))
    exact ⟨rfl, G.wrote, _, .inr rfl, rfl, fun h => absurd h ht⟩
theorem two_vals {r s : Int × Int} (h : (two r s).2.2 = 0) : r.1 = (two r s).1 ∧ s.1 = (two r s).2.1 := by
  rw [two_ok (two_fst h).1 (two_fst h).2]; exact ⟨rfl, rfl⟩
/-- The number of the way, as the loop's variable has it. -/
def wayAt : Value → World → Nat
  | .pointer (some a), w => match w.cell? a with
    | some v => (intOf v).toNat
    | none => 0
  | _, _ => 0

set_option maxRecDepth 10000 in
set_option maxHeartbeats 8000000 in
theorem walk (x0 y0 : Int) (f0 : inF x0) (g0 : inF y0) (x1 y1 : Int) (f1 : inF x1) (g1 : inF y1) (a2 : Int) (f2 : inF a2) (a3 : Int) (f3 : inF a3) (w : World) :
    Calls Try.prog 3 #[vec x0 y0, vec x1 y1, .int .i64 a2, .int .i64 a3] w fun e w' => e = .returned (.bool true) ∧ Grown w w' := by
  have hmf := mk_func
  have F0 : Hid (inF x0 ∧ inF y0 ∧ inF x1 ∧ inF y1 ∧ inF a2 ∧ inF a3) := ⟨f0, g0, f1, g1, f2, f3⟩
  clear f0 g0 f1 g1 f2 f3
  unfold vec
  go_enter Try.func3, Try.ntmps3
  go_wp2_with (first
    | (go_at_call 9; refine (alive_any _).mono ?_; rintro e V ⟨rfl, G⟩))
  have G1 : Grew w V := (((((Grew.refl w).alloc _ _).alloc _ _).alloc _ _).alloc _ _).trans G
  have ha : At V w.heap.size x0 y0 := ⟨G.cell (by simp [go_sem]), G.cell (by simp [go_sem])⟩
  have hb : At V (w.heap.size + 1) x1 y1 := ⟨G.cell (by simp [go_sem]), G.cell (by simp [go_sem])⟩
  have hk : V.cell? ⟨w.heap.size + 1 + 1, 0, none⟩ = some (.int .i64 a2) := G.cell (by simp [go_sem])
  have hn : V.cell? ⟨w.heap.size + 1 + 1 + 1, 0, none⟩ = some (.int .i64 a3) := G.cell (by simp [go_sem])
  have hsz : w.heap.size + 1 + 1 + 1 < V.heap.size := cell_block hn
  clear G
  go_loopw [9] (fun s wr => ∃ O j : Nat, s = .pointer (some ⟨O, 0, none⟩) ∧ j ≤ 8 ∧ wr.cell? ⟨O, 0, none⟩ = some (.int .i64 (j : Int)) ∧ V.heap.size ≤ O ∧ Grew V wr) (fun s wr => 8 - wayAt s wr)
  case atStart => exact ⟨V.heap.size, 0, rfl, by omega, by simp [go_sem], Nat.le_refl _, (Grew.refl V).alloc _ _⟩
  case round =>
    obtain ⟨O, j, rfl, hj, hO, hVO, g⟩ := hrel
    rename_i wr _
    have hO' : O < wr.heap.size := cell_block hO
    by_cases h8 : j = 8
    · subst h8
      go_wp2
      go_ret
      exact ⟨rfl, (G1.trans g).grown⟩
    have zO : ∀ o s, wr.frozen? ⟨O, o, s⟩ = false := fun o s => g.free hVO
    obtain ⟨W, hW⟩ : ∃ W, W = (((wr.alloc (.cells #[.int .i64 0] 28)).alloc (.cells #[.int .i64 0, .int .i64 0] 24)).alloc (.cells #[.int .i64 0, .int .i64 0] 24)).alloc (.cells #[.int .i64 0] 22) := ⟨_, rfl⟩
    have gW : Grew wr W := by rw [hW]; exact ((((Grew.refl wr).alloc _ _).alloc _ _).alloc _ _).alloc _ _
    have sW : W.heap.size = wr.heap.size + 4 := by rw [hW]; simp [go_sem]
    have cC : W.cell? ⟨wr.heap.size, 0, none⟩ = some (.int .i64 0) := by rw [hW]; simp [go_sem]
    have cW : At W (wr.heap.size + 1) 0 0 := by rw [hW]; constructor <;> simp [go_sem]
    have cB : At W (wr.heap.size + 1 + 1) 0 0 := by rw [hW]; constructor <;> simp [go_sem]
    have cY : W.cell? ⟨wr.heap.size + 1 + 1 + 1, 0, none⟩ = some (.int .i64 0) := by rw [hW]; simp [go_sem]
    have GV := g.trans gW
    have hO2 := gW.cell hO
    have hWe : Hid (_ = _) := hW
    obtain ⟨X, hX⟩ : ∃ X, X = wr.heap.size := ⟨_, rfl⟩
    have hXe : Hid (X = wr.heap.size) := hX
    rcases (by omega : j = 0 ∨ j = 1 ∨ j = 2 ∨ j = 3 ∨ j = 4 ∨ j = 5 ∨ j = 6 ∨ j = 7) with rfl | rfl | rfl | rfl | rfl | rfl | rfl | rfl
    · obtain ⟨T, hT⟩ : ∃ T, T = (two (addR x0 x1) (addR y0 y1)) := ⟨_, rfl⟩
      have HR : Hid (∀ U, Err U X 0 0 → Calls Try.prog 20 #[.pointer (some ⟨X, 0, none⟩), .agg #[.int .i64 x0, .int .i64 y0], .agg #[.int .i64 x1, .int .i64 y1]] U fun e w' => (∃ p q, e = .returned (.agg #[.int .i64 p, .int .i64 q]) ∧ (T.2.2 = 0 → p = T.1 ∧ q = T.2.1)) ∧ Err w' X 0 T.2.2 ∧ Past X U w') := fun U hE => by rw [hT]; exact (rplus_any X x0 y0 x1 y1 U F0.out.1 F0.out.2.1 F0.out.2.2.1 F0.out.2.2.2.1 hE).mono fun e w' ⟨⟨p, q, he, hv⟩, h2, h3⟩ => ⟨⟨p, q, he, fun h => ⟨(hv h).1.trans (two_vals h).1, (hv h).2.trans (two_vals h).2⟩⟩, h2, h3⟩
      go_wp2_with (fail)
      rw [← hW]
      clear hW hWe
      have hOr := hO
      rw [← hX] at cC cW cB cY sW hO' ⊢
      clear hX
      refine (try_set (S := fun i => i = X + 1 + 1 ∨ i = X + 1 + 1 + 1) (P := LeftT (X + 1 + 1) (X + 1 + 1 + 1) (pairT T)) _ _ _ (fun _ => by simp [go_sem]) (fun i hi => by omega) (LeftT.keep (by omega) (by omega)) (fun W0 g0 => ?_)).mono ?_
      · rw [hT]
        exact tells1_0 O w.heap.size (w.heap.size + 1) (X + 1 + 1) (w.heap.size + 1 + 1) (X + 1 + 1 + 1) (w.heap.size + 1 + 1 + 1) (by omega) x0 y0 x1 y1 a2 a3 W0 (g0.cell hO2) (ha.grew (GV.trans g0)) (hb.grew (GV.trans g0)) (cB.grew g0) ((GV.trans g0).cell hk) (g0.cell cY) ((GV.trans g0).cell hn) ((GV.trans g0).freeB (by omega)) ((GV.trans g0).freeB (by omega)) F0.out.1 F0.out.2.1 F0.out.2.2.1 F0.out.2.2.2.1 F0.out.2.2.2.2.1 F0.out.2.2.2.2.2
      rintro e V4 ⟨hw4, z, rfl, hz, hc⟩
      have G4 : Grew V V4 := hw4.to GV (fun i hi => by omega)
      have E4 : Err V4 X 0 0 := ⟨hw4.cell cC (by simp; omega), G4.free (by simp; omega)⟩
      obtain ⟨w40, w41⟩ := cW.wrote hw4 (by omega)
      have zw0 : V4.frozen? ⟨X + 1, 0, none⟩ = false := G4.free (by simp; omega)
      have zw1 : V4.frozen? ⟨X + 1, 1, none⟩ = false := G4.free (by simp; omega)
      have hO4 := hw4.cell hO2 (by simp; omega)
      obtain ⟨a40, a41⟩ := ha.grew G4
      obtain ⟨b40, b41⟩ := hb.grew G4
      have k40 := G4.cell hk
      have n40 := G4.cell hn
      clear hT hw4 cC cW cB cY sW GV gW hO hO2 ha hb hk hn zO
      obtain ⟨T1, T2, T3⟩ := T
      simp only [pairT] at hz hc HR
      by_cases h0 : T3 = 0
      · subst h0
        subst hz
        obtain ⟨bb, yy⟩ := hc rfl
        clear hc
        go_wp2_with (first
          | (go_at_call 20; go_fit (HR.out _ E4); rintro e V5 ⟨⟨p, q, rfl, hv⟩, E5, U5⟩; have o5 := U5.cell (by simp; omega) hO4; have w5 := U5.cell (by simp) w40; have w6 := U5.cell (by simp) w41; have v5 := U5.frozen (cell_block w40) (by simp) zw0; have v6 := U5.frozen (cell_block w41) (by simp) zw1; have p5 := U5.grew V (by omega) G4; have b5 := U5.cell (by simp; omega) bb.1; have b6 := U5.cell (by simp; omega) bb.2; have y5 := U5.cell (by simp; omega) yy; obtain ⟨rfl, rfl⟩ := hv (by simp); have c5 := E5.1; have hq := ne_same p q))
        go_roundw
        case rel => exact ⟨_, 1, rfl, by omega, by simp [go_sem], (by first | exact p5.size | (simp [go_sem]; exact p5.size)), ((p5.setCell (by simp; omega) _).setCell (by simp; omega) _).alloc _ _⟩
        case measure => simp [wayAt, hOr, go_sem, intOf]
      · subst hz
        have h0' : (z == 0) = false := by simp [h0]
        clear hc
        go_wp2_with (first
          | (go_at_call 20; go_fit (HR.out _ E4); rintro e V5 ⟨⟨p, q, rfl, hv⟩, E5, U5⟩; have o5 := U5.cell (by simp; omega) hO4; have w5 := U5.cell (by simp) w40; have w6 := U5.cell (by simp) w41; have v5 := U5.frozen (cell_block w40) (by simp) zw0; have v6 := U5.frozen (cell_block w41) (by simp) zw1; have p5 := U5.grew V (by omega) G4; clear hv; have c5 := E5.1))
        go_roundw
        case rel => exact ⟨_, 1, rfl, by omega, by simp [go_sem], (by first | exact p5.size | (simp [go_sem]; exact p5.size)), ((p5.setCell (by simp; omega) _).setCell (by simp; omega) _).alloc _ _⟩
        case measure => simp [wayAt, hOr, go_sem, intOf]
    · obtain ⟨T, hT⟩ : ∃ T, T = (two (subR x0 x1) (subR y0 y1)) := ⟨_, rfl⟩
      have HR : Hid (∀ U, Err U X 0 0 → Calls Try.prog 21 #[.pointer (some ⟨X, 0, none⟩), .agg #[.int .i64 x0, .int .i64 y0], .agg #[.int .i64 x1, .int .i64 y1]] U fun e w' => (∃ p q, e = .returned (.agg #[.int .i64 p, .int .i64 q]) ∧ (T.2.2 = 0 → p = T.1 ∧ q = T.2.1)) ∧ Err w' X 0 T.2.2 ∧ Past X U w') := fun U hE => by rw [hT]; exact (rless_any X x0 y0 x1 y1 U F0.out.1 F0.out.2.1 F0.out.2.2.1 F0.out.2.2.2.1 hE).mono fun e w' ⟨⟨p, q, he, hv⟩, h2, h3⟩ => ⟨⟨p, q, he, fun h => ⟨(hv h).1.trans (two_vals h).1, (hv h).2.trans (two_vals h).2⟩⟩, h2, h3⟩
      go_wp2_with (fail)
      rw [← hW]
      clear hW hWe
      have hOr := hO
      rw [← hX] at cC cW cB cY sW hO' ⊢
      clear hX
      refine (try_set (S := fun i => i = X + 1 + 1 ∨ i = X + 1 + 1 + 1) (P := LeftT (X + 1 + 1) (X + 1 + 1 + 1) (pairT T)) _ _ _ (fun _ => by simp [go_sem]) (fun i hi => by omega) (LeftT.keep (by omega) (by omega)) (fun W0 g0 => ?_)).mono ?_
      · rw [hT]
        exact tells1_1 O w.heap.size (w.heap.size + 1) (X + 1 + 1) (w.heap.size + 1 + 1) (X + 1 + 1 + 1) (w.heap.size + 1 + 1 + 1) (by omega) x0 y0 x1 y1 a2 a3 W0 (g0.cell hO2) (ha.grew (GV.trans g0)) (hb.grew (GV.trans g0)) (cB.grew g0) ((GV.trans g0).cell hk) (g0.cell cY) ((GV.trans g0).cell hn) ((GV.trans g0).freeB (by omega)) ((GV.trans g0).freeB (by omega)) F0.out.1 F0.out.2.1 F0.out.2.2.1 F0.out.2.2.2.1 F0.out.2.2.2.2.1 F0.out.2.2.2.2.2
      rintro e V4 ⟨hw4, z, rfl, hz, hc⟩
      have G4 : Grew V V4 := hw4.to GV (fun i hi => by omega)
      have E4 : Err V4 X 0 0 := ⟨hw4.cell cC (by simp; omega), G4.free (by simp; omega)⟩
      obtain ⟨w40, w41⟩ := cW.wrote hw4 (by omega)
      have zw0 : V4.frozen? ⟨X + 1, 0, none⟩ = false := G4.free (by simp; omega)
      have zw1 : V4.frozen? ⟨X + 1, 1, none⟩ = false := G4.free (by simp; omega)
      have hO4 := hw4.cell hO2 (by simp; omega)
      obtain ⟨a40, a41⟩ := ha.grew G4
      obtain ⟨b40, b41⟩ := hb.grew G4
      have k40 := G4.cell hk
      have n40 := G4.cell hn
      clear hT hw4 cC cW cB cY sW GV gW hO hO2 ha hb hk hn zO
      obtain ⟨T1, T2, T3⟩ := T
      simp only [pairT] at hz hc HR
      by_cases h0 : T3 = 0
      · subst h0
        subst hz
        obtain ⟨bb, yy⟩ := hc rfl
        clear hc
        go_wp2_with (first
          | (go_at_call 21; go_fit (HR.out _ E4); rintro e V5 ⟨⟨p, q, rfl, hv⟩, E5, U5⟩; have o5 := U5.cell (by simp; omega) hO4; have w5 := U5.cell (by simp) w40; have w6 := U5.cell (by simp) w41; have v5 := U5.frozen (cell_block w40) (by simp) zw0; have v6 := U5.frozen (cell_block w41) (by simp) zw1; have p5 := U5.grew V (by omega) G4; have b5 := U5.cell (by simp; omega) bb.1; have b6 := U5.cell (by simp; omega) bb.2; have y5 := U5.cell (by simp; omega) yy; obtain ⟨rfl, rfl⟩ := hv (by simp); have c5 := E5.1; have hq := ne_same p q))
        go_roundw
        case rel => exact ⟨_, 2, rfl, by omega, by simp [go_sem], (by first | exact p5.size | (simp [go_sem]; exact p5.size)), ((p5.setCell (by simp; omega) _).setCell (by simp; omega) _).alloc _ _⟩
        case measure => simp [wayAt, hOr, go_sem, intOf]
      · subst hz
        have h0' : (z == 0) = false := by simp [h0]
        clear hc
        go_wp2_with (first
          | (go_at_call 21; go_fit (HR.out _ E4); rintro e V5 ⟨⟨p, q, rfl, hv⟩, E5, U5⟩; have o5 := U5.cell (by simp; omega) hO4; have w5 := U5.cell (by simp) w40; have w6 := U5.cell (by simp) w41; have v5 := U5.frozen (cell_block w40) (by simp) zw0; have v6 := U5.frozen (cell_block w41) (by simp) zw1; have p5 := U5.grew V (by omega) G4; clear hv; have c5 := E5.1))
        go_roundw
        case rel => exact ⟨_, 2, rfl, by omega, by simp [go_sem], (by first | exact p5.size | (simp [go_sem]; exact p5.size)), ((p5.setCell (by simp; omega) _).setCell (by simp; omega) _).alloc _ _⟩
        case measure => simp [wayAt, hOr, go_sem, intOf]
    · obtain ⟨T, hT⟩ : ∃ T, T = (two (mulR x0 a2) (mulR y0 a2)) := ⟨_, rfl⟩
      have HR : Hid (∀ U, Err U X 0 0 → Calls Try.prog 22 #[.pointer (some ⟨X, 0, none⟩), .agg #[.int .i64 x0, .int .i64 y0], .int .i64 a2] U fun e w' => (∃ p q, e = .returned (.agg #[.int .i64 p, .int .i64 q]) ∧ (T.2.2 = 0 → p = T.1 ∧ q = T.2.1)) ∧ Err w' X 0 T.2.2 ∧ Past X U w') := fun U hE => by rw [hT]; exact (rtimes_any X x0 y0 a2 U F0.out.1 F0.out.2.1 F0.out.2.2.2.2.1 hE).mono fun e w' ⟨⟨p, q, he, hv⟩, h2, h3⟩ => ⟨⟨p, q, he, fun h => ⟨(hv h).1.trans (two_vals h).1, (hv h).2.trans (two_vals h).2⟩⟩, h2, h3⟩
      go_wp2_with (fail)
      rw [← hW]
      clear hW hWe
      have hOr := hO
      rw [← hX] at cC cW cB cY sW hO' ⊢
      clear hX
      refine (try_set (S := fun i => i = X + 1 + 1 ∨ i = X + 1 + 1 + 1) (P := LeftT (X + 1 + 1) (X + 1 + 1 + 1) (pairT T)) _ _ _ (fun _ => by simp [go_sem]) (fun i hi => by omega) (LeftT.keep (by omega) (by omega)) (fun W0 g0 => ?_)).mono ?_
      · rw [hT]
        exact tells1_2 O w.heap.size (w.heap.size + 1) (X + 1 + 1) (w.heap.size + 1 + 1) (X + 1 + 1 + 1) (w.heap.size + 1 + 1 + 1) (by omega) x0 y0 x1 y1 a2 a3 W0 (g0.cell hO2) (ha.grew (GV.trans g0)) (hb.grew (GV.trans g0)) (cB.grew g0) ((GV.trans g0).cell hk) (g0.cell cY) ((GV.trans g0).cell hn) ((GV.trans g0).freeB (by omega)) ((GV.trans g0).freeB (by omega)) F0.out.1 F0.out.2.1 F0.out.2.2.1 F0.out.2.2.2.1 F0.out.2.2.2.2.1 F0.out.2.2.2.2.2
      rintro e V4 ⟨hw4, z, rfl, hz, hc⟩
      have G4 : Grew V V4 := hw4.to GV (fun i hi => by omega)
      have E4 : Err V4 X 0 0 := ⟨hw4.cell cC (by simp; omega), G4.free (by simp; omega)⟩
      obtain ⟨w40, w41⟩ := cW.wrote hw4 (by omega)
      have zw0 : V4.frozen? ⟨X + 1, 0, none⟩ = false := G4.free (by simp; omega)
      have zw1 : V4.frozen? ⟨X + 1, 1, none⟩ = false := G4.free (by simp; omega)
      have hO4 := hw4.cell hO2 (by simp; omega)
      obtain ⟨a40, a41⟩ := ha.grew G4
      obtain ⟨b40, b41⟩ := hb.grew G4
      have k40 := G4.cell hk
      have n40 := G4.cell hn
      clear hT hw4 cC cW cB cY sW GV gW hO hO2 ha hb hk hn zO
      obtain ⟨T1, T2, T3⟩ := T
      simp only [pairT] at hz hc HR
      by_cases h0 : T3 = 0
      · subst h0
        subst hz
        obtain ⟨bb, yy⟩ := hc rfl
        clear hc
        go_wp2_with (first
          | (go_at_call 22; go_fit (HR.out _ E4); rintro e V5 ⟨⟨p, q, rfl, hv⟩, E5, U5⟩; have o5 := U5.cell (by simp; omega) hO4; have w5 := U5.cell (by simp) w40; have w6 := U5.cell (by simp) w41; have v5 := U5.frozen (cell_block w40) (by simp) zw0; have v6 := U5.frozen (cell_block w41) (by simp) zw1; have p5 := U5.grew V (by omega) G4; have b5 := U5.cell (by simp; omega) bb.1; have b6 := U5.cell (by simp; omega) bb.2; have y5 := U5.cell (by simp; omega) yy; obtain ⟨rfl, rfl⟩ := hv (by simp); have c5 := E5.1; have hq := ne_same p q))
        go_roundw
        case rel => exact ⟨_, 3, rfl, by omega, by simp [go_sem], (by first | exact p5.size | (simp [go_sem]; exact p5.size)), ((p5.setCell (by simp; omega) _).setCell (by simp; omega) _).alloc _ _⟩
        case measure => simp [wayAt, hOr, go_sem, intOf]
      · subst hz
        have h0' : (z == 0) = false := by simp [h0]
        clear hc
        go_wp2_with (first
          | (go_at_call 22; go_fit (HR.out _ E4); rintro e V5 ⟨⟨p, q, rfl, hv⟩, E5, U5⟩; have o5 := U5.cell (by simp; omega) hO4; have w5 := U5.cell (by simp) w40; have w6 := U5.cell (by simp) w41; have v5 := U5.frozen (cell_block w40) (by simp) zw0; have v6 := U5.frozen (cell_block w41) (by simp) zw1; have p5 := U5.grew V (by omega) G4; clear hv; have c5 := E5.1))
        go_roundw
        case rel => exact ⟨_, 3, rfl, by omega, by simp [go_sem], (by first | exact p5.size | (simp [go_sem]; exact p5.size)), ((p5.setCell (by simp; omega) _).setCell (by simp; omega) _).alloc _ _⟩
        case measure => simp [wayAt, hOr, go_sem, intOf]
    · obtain ⟨T, hT⟩ : ∃ T, T = (two (divR x0 a2) (divR y0 a2)) := ⟨_, rfl⟩
      have HR : Hid (∀ U, Err U X 0 0 → Calls Try.prog 23 #[.pointer (some ⟨X, 0, none⟩), .agg #[.int .i64 x0, .int .i64 y0], .int .i64 a2] U fun e w' => (∃ p q, e = .returned (.agg #[.int .i64 p, .int .i64 q]) ∧ (T.2.2 = 0 → p = T.1 ∧ q = T.2.1)) ∧ Err w' X 0 T.2.2 ∧ Past X U w') := fun U hE => by rw [hT]; exact (rover_any X x0 y0 a2 U F0.out.1 F0.out.2.1 F0.out.2.2.2.2.1 hE).mono fun e w' ⟨⟨p, q, he, hv⟩, h2, h3⟩ => ⟨⟨p, q, he, fun h => ⟨(hv h).1.trans (two_vals h).1, (hv h).2.trans (two_vals h).2⟩⟩, h2, h3⟩
      go_wp2_with (fail)
      rw [← hW]
      clear hW hWe
      have hOr := hO
      rw [← hX] at cC cW cB cY sW hO' ⊢
      clear hX
      refine (try_set (S := fun i => i = X + 1 + 1 ∨ i = X + 1 + 1 + 1) (P := LeftT (X + 1 + 1) (X + 1 + 1 + 1) (pairT T)) _ _ _ (fun _ => by simp [go_sem]) (fun i hi => by omega) (LeftT.keep (by omega) (by omega)) (fun W0 g0 => ?_)).mono ?_
      · rw [hT]
        exact tells1_3 O w.heap.size (w.heap.size + 1) (X + 1 + 1) (w.heap.size + 1 + 1) (X + 1 + 1 + 1) (w.heap.size + 1 + 1 + 1) (by omega) x0 y0 x1 y1 a2 a3 W0 (g0.cell hO2) (ha.grew (GV.trans g0)) (hb.grew (GV.trans g0)) (cB.grew g0) ((GV.trans g0).cell hk) (g0.cell cY) ((GV.trans g0).cell hn) ((GV.trans g0).freeB (by omega)) ((GV.trans g0).freeB (by omega)) F0.out.1 F0.out.2.1 F0.out.2.2.1 F0.out.2.2.2.1 F0.out.2.2.2.2.1 F0.out.2.2.2.2.2
      rintro e V4 ⟨hw4, z, rfl, hz, hc⟩
      have G4 : Grew V V4 := hw4.to GV (fun i hi => by omega)
      have E4 : Err V4 X 0 0 := ⟨hw4.cell cC (by simp; omega), G4.free (by simp; omega)⟩
      obtain ⟨w40, w41⟩ := cW.wrote hw4 (by omega)
      have zw0 : V4.frozen? ⟨X + 1, 0, none⟩ = false := G4.free (by simp; omega)
      have zw1 : V4.frozen? ⟨X + 1, 1, none⟩ = false := G4.free (by simp; omega)
      have hO4 := hw4.cell hO2 (by simp; omega)
      obtain ⟨a40, a41⟩ := ha.grew G4
      obtain ⟨b40, b41⟩ := hb.grew G4
      have k40 := G4.cell hk
      have n40 := G4.cell hn
      clear hT hw4 cC cW cB cY sW GV gW hO hO2 ha hb hk hn zO
      obtain ⟨T1, T2, T3⟩ := T
      simp only [pairT] at hz hc HR
      by_cases h0 : T3 = 0
      · subst h0
        subst hz
        obtain ⟨bb, yy⟩ := hc rfl
        clear hc
        go_wp2_with (first
          | (go_at_call 23; go_fit (HR.out _ E4); rintro e V5 ⟨⟨p, q, rfl, hv⟩, E5, U5⟩; have o5 := U5.cell (by simp; omega) hO4; have w5 := U5.cell (by simp) w40; have w6 := U5.cell (by simp) w41; have v5 := U5.frozen (cell_block w40) (by simp) zw0; have v6 := U5.frozen (cell_block w41) (by simp) zw1; have p5 := U5.grew V (by omega) G4; have b5 := U5.cell (by simp; omega) bb.1; have b6 := U5.cell (by simp; omega) bb.2; have y5 := U5.cell (by simp; omega) yy; obtain ⟨rfl, rfl⟩ := hv (by simp); have c5 := E5.1; have hq := ne_same p q))
        go_roundw
        case rel => exact ⟨_, 4, rfl, by omega, by simp [go_sem], (by first | exact p5.size | (simp [go_sem]; exact p5.size)), ((p5.setCell (by simp; omega) _).setCell (by simp; omega) _).alloc _ _⟩
        case measure => simp [wayAt, hOr, go_sem, intOf]
      · subst hz
        have h0' : (z == 0) = false := by simp [h0]
        clear hc
        go_wp2_with (first
          | (go_at_call 23; go_fit (HR.out _ E4); rintro e V5 ⟨⟨p, q, rfl, hv⟩, E5, U5⟩; have o5 := U5.cell (by simp; omega) hO4; have w5 := U5.cell (by simp) w40; have w6 := U5.cell (by simp) w41; have v5 := U5.frozen (cell_block w40) (by simp) zw0; have v6 := U5.frozen (cell_block w41) (by simp) zw1; have p5 := U5.grew V (by omega) G4; clear hv; have c5 := E5.1))
        go_roundw
        case rel => exact ⟨_, 4, rfl, by omega, by simp [go_sem], (by first | exact p5.size | (simp [go_sem]; exact p5.size)), ((p5.setCell (by simp; omega) _).setCell (by simp; omega) _).alloc _ _⟩
        case measure => simp [wayAt, hOr, go_sem, intOf]
    · obtain ⟨T, hT⟩ : ∃ T, T = (dotV x0 y0 x1 y1) := ⟨_, rfl⟩
      have HR : Hid (∀ U, Err U X 0 0 → Calls Try.prog 24 #[.pointer (some ⟨X, 0, none⟩), .agg #[.int .i64 x0, .int .i64 y0], .agg #[.int .i64 x1, .int .i64 y1]] U fun e w' => (∃ p, e = .returned (.int .i64 p) ∧ (T.2 = 0 → p = T.1)) ∧ Err w' X 0 T.2 ∧ Past X U w') := fun U hE => by rw [hT]; exact rdot_any X x0 y0 x1 y1 U F0.out.1 F0.out.2.1 F0.out.2.2.1 F0.out.2.2.2.1 hE
      go_wp2_with (fail)
      rw [← hW]
      clear hW hWe
      have hOr := hO
      rw [← hX] at cC cW cB cY sW hO' ⊢
      clear hX
      refine (try_set (S := fun i => i = X + 1 + 1 ∨ i = X + 1 + 1 + 1) (P := LeftT (X + 1 + 1) (X + 1 + 1 + 1) (numT T)) _ _ _ (fun _ => by simp [go_sem]) (fun i hi => by omega) (LeftT.keep (by omega) (by omega)) (fun W0 g0 => ?_)).mono ?_
      · rw [hT]
        exact tells1_4 O w.heap.size (w.heap.size + 1) (X + 1 + 1) (w.heap.size + 1 + 1) (X + 1 + 1 + 1) (w.heap.size + 1 + 1 + 1) (by omega) x0 y0 x1 y1 a2 a3 W0 (g0.cell hO2) (ha.grew (GV.trans g0)) (hb.grew (GV.trans g0)) (cB.grew g0) ((GV.trans g0).cell hk) (g0.cell cY) ((GV.trans g0).cell hn) ((GV.trans g0).freeB (by omega)) ((GV.trans g0).freeB (by omega)) F0.out.1 F0.out.2.1 F0.out.2.2.1 F0.out.2.2.2.1 F0.out.2.2.2.2.1 F0.out.2.2.2.2.2
      rintro e V4 ⟨hw4, z, rfl, hz, hc⟩
      have G4 : Grew V V4 := hw4.to GV (fun i hi => by omega)
      have E4 : Err V4 X 0 0 := ⟨hw4.cell cC (by simp; omega), G4.free (by simp; omega)⟩
      obtain ⟨w40, w41⟩ := cW.wrote hw4 (by omega)
      have zw0 : V4.frozen? ⟨X + 1, 0, none⟩ = false := G4.free (by simp; omega)
      have zw1 : V4.frozen? ⟨X + 1, 1, none⟩ = false := G4.free (by simp; omega)
      have hO4 := hw4.cell hO2 (by simp; omega)
      obtain ⟨a40, a41⟩ := ha.grew G4
      obtain ⟨b40, b41⟩ := hb.grew G4
      have k40 := G4.cell hk
      have n40 := G4.cell hn
      clear hT hw4 cC cW cB cY sW GV gW hO hO2 ha hb hk hn zO
      obtain ⟨T1, T3⟩ := T
      simp only [numT] at hz hc HR
      by_cases h0 : T3 = 0
      · subst h0
        subst hz
        obtain ⟨bb, yy⟩ := hc rfl
        clear hc
        go_wp2_with (first
          | (go_at_call 24; go_fit (HR.out _ E4); rintro e V5 ⟨⟨p, rfl, hv⟩, E5, U5⟩; have o5 := U5.cell (by simp; omega) hO4; have w5 := U5.cell (by simp) w40; have w6 := U5.cell (by simp) w41; have v5 := U5.frozen (cell_block w40) (by simp) zw0; have v6 := U5.frozen (cell_block w41) (by simp) zw1; have p5 := U5.grew V (by omega) G4; have b5 := U5.cell (by simp; omega) bb.1; have b6 := U5.cell (by simp; omega) bb.2; have y5 := U5.cell (by simp; omega) yy; obtain rfl := hv (by simp); have c5 := E5.1; have hq := ne_same 0 0))
        go_roundw
        case rel => exact ⟨_, 5, rfl, by omega, by simp [go_sem], (by first | exact p5.size | (simp [go_sem]; exact p5.size)), p5.alloc _ _⟩
        case measure => simp [wayAt, hOr, go_sem, intOf]
      · subst hz
        have h0' : (z == 0) = false := by simp [h0]
        clear hc
        go_wp2_with (first
          | (go_at_call 24; go_fit (HR.out _ E4); rintro e V5 ⟨⟨p, rfl, hv⟩, E5, U5⟩; have o5 := U5.cell (by simp; omega) hO4; have w5 := U5.cell (by simp) w40; have w6 := U5.cell (by simp) w41; have v5 := U5.frozen (cell_block w40) (by simp) zw0; have v6 := U5.frozen (cell_block w41) (by simp) zw1; have p5 := U5.grew V (by omega) G4; clear hv; have c5 := E5.1))
        go_roundw
        case rel => exact ⟨_, 5, rfl, by omega, by simp [go_sem], (by first | exact p5.size | (simp [go_sem]; exact p5.size)), p5.alloc _ _⟩
        case measure => simp [wayAt, hOr, go_sem, intOf]
    · obtain ⟨T, hT⟩ : ∃ T, T = (lenR x0 y0) := ⟨_, rfl⟩
      have HR : Hid (∀ U, Err U X 0 0 → Calls Try.prog 25 #[.pointer (some ⟨X, 0, none⟩), .int .i64 x0, .int .i64 y0] U fun e w' => (∃ p, e = .returned (.int .i64 p) ∧ (T.2 = 0 → p = T.1)) ∧ Err w' X 0 T.2 ∧ Past X U w') := fun U hE => by rw [hT]; exact rlen_e X x0 y0 U F0.out.1 F0.out.2.1 hE
      go_wp2_with (fail)
      rw [← hW]
      clear hW hWe
      have hOr := hO
      rw [← hX] at cC cW cB cY sW hO' ⊢
      clear hX
      refine (try_set (S := fun i => i = X + 1 + 1 ∨ i = X + 1 + 1 + 1) (P := LeftT (X + 1 + 1) (X + 1 + 1 + 1) (numT T)) _ _ _ (fun _ => by simp [go_sem]) (fun i hi => by omega) (LeftT.keep (by omega) (by omega)) (fun W0 g0 => ?_)).mono ?_
      · rw [hT]
        exact tells1_5 O w.heap.size (w.heap.size + 1) (X + 1 + 1) (w.heap.size + 1 + 1) (X + 1 + 1 + 1) (w.heap.size + 1 + 1 + 1) (by omega) x0 y0 x1 y1 a2 a3 W0 (g0.cell hO2) (ha.grew (GV.trans g0)) (hb.grew (GV.trans g0)) (cB.grew g0) ((GV.trans g0).cell hk) (g0.cell cY) ((GV.trans g0).cell hn) ((GV.trans g0).freeB (by omega)) ((GV.trans g0).freeB (by omega)) F0.out.1 F0.out.2.1 F0.out.2.2.1 F0.out.2.2.2.1 F0.out.2.2.2.2.1 F0.out.2.2.2.2.2
      rintro e V4 ⟨hw4, z, rfl, hz, hc⟩
      have G4 : Grew V V4 := hw4.to GV (fun i hi => by omega)
      have E4 : Err V4 X 0 0 := ⟨hw4.cell cC (by simp; omega), G4.free (by simp; omega)⟩
      obtain ⟨w40, w41⟩ := cW.wrote hw4 (by omega)
      have zw0 : V4.frozen? ⟨X + 1, 0, none⟩ = false := G4.free (by simp; omega)
      have zw1 : V4.frozen? ⟨X + 1, 1, none⟩ = false := G4.free (by simp; omega)
      have hO4 := hw4.cell hO2 (by simp; omega)
      obtain ⟨a40, a41⟩ := ha.grew G4
      obtain ⟨b40, b41⟩ := hb.grew G4
      have k40 := G4.cell hk
      have n40 := G4.cell hn
      clear hT hw4 cC cW cB cY sW GV gW hO hO2 ha hb hk hn zO
      obtain ⟨T1, T3⟩ := T
      simp only [numT] at hz hc HR
      by_cases h0 : T3 = 0
      · subst h0
        subst hz
        obtain ⟨bb, yy⟩ := hc rfl
        clear hc
        go_wp2_with (first
          | (go_at_call 25; go_fit (HR.out _ E4); rintro e V5 ⟨⟨p, rfl, hv⟩, E5, U5⟩; have o5 := U5.cell (by simp; omega) hO4; have w5 := U5.cell (by simp) w40; have w6 := U5.cell (by simp) w41; have v5 := U5.frozen (cell_block w40) (by simp) zw0; have v6 := U5.frozen (cell_block w41) (by simp) zw1; have p5 := U5.grew V (by omega) G4; have b5 := U5.cell (by simp; omega) bb.1; have b6 := U5.cell (by simp; omega) bb.2; have y5 := U5.cell (by simp; omega) yy; obtain rfl := hv (by simp); have c5 := E5.1; have hq := ne_same 0 0))
        go_roundw
        case rel => exact ⟨_, 6, rfl, by omega, by simp [go_sem], (by first | exact p5.size | (simp [go_sem]; exact p5.size)), p5.alloc _ _⟩
        case measure => simp [wayAt, hOr, go_sem, intOf]
      · subst hz
        have h0' : (z == 0) = false := by simp [h0]
        clear hc
        go_wp2_with (first
          | (go_at_call 25; go_fit (HR.out _ E4); rintro e V5 ⟨⟨p, rfl, hv⟩, E5, U5⟩; have o5 := U5.cell (by simp; omega) hO4; have w5 := U5.cell (by simp) w40; have w6 := U5.cell (by simp) w41; have v5 := U5.frozen (cell_block w40) (by simp) zw0; have v6 := U5.frozen (cell_block w41) (by simp) zw1; have p5 := U5.grew V (by omega) G4; clear hv; have c5 := E5.1))
        go_roundw
        case rel => exact ⟨_, 6, rfl, by omega, by simp [go_sem], (by first | exact p5.size | (simp [go_sem]; exact p5.size)), p5.alloc _ _⟩
        case measure => simp [wayAt, hOr, go_sem, intOf]
    · obtain ⟨T, hT⟩ : ∃ T, T = unitR x0 y0 := ⟨_, rfl⟩
      have HR : Hid (∀ U, Err U X 0 0 → Calls Try.prog 26 #[.pointer (some ⟨X, 0, none⟩), .agg #[.int .i64 x0, .int .i64 y0]] U fun e w' => (∃ p q n, e = .returned (.tuple #[.agg #[.int .i64 p, .int .i64 q], .int .i64 n]) ∧ (T.2.2 = 0 → p = T.1.1 ∧ q = T.1.2 ∧ n = T.2.1)) ∧ Err w' X 0 T.2.2 ∧ Past X U w') := fun U hE => by rw [hT]; exact runit_any X x0 y0 U F0.out.1 F0.out.2.1 hE
      go_wp2_with (fail)
      rw [← hW]
      clear hW hWe
      have hOr := hO
      rw [← hX] at cC cW cB cY sW hO' ⊢
      clear hX
      refine (try_set (S := fun i => i = X + 1 + 1 ∨ i = X + 1 + 1 + 1) (P := LeftT (X + 1 + 1) (X + 1 + 1 + 1) (T)) _ _ _ (fun _ => by simp [go_sem]) (fun i hi => by omega) (LeftT.keep (by omega) (by omega)) (fun W0 g0 => ?_)).mono ?_
      · rw [hT]
        exact tells1_6 O w.heap.size (w.heap.size + 1) (X + 1 + 1) (w.heap.size + 1 + 1) (X + 1 + 1 + 1) (w.heap.size + 1 + 1 + 1) (by omega) x0 y0 x1 y1 a2 a3 W0 (g0.cell hO2) (ha.grew (GV.trans g0)) (hb.grew (GV.trans g0)) (cB.grew g0) ((GV.trans g0).cell hk) (g0.cell cY) ((GV.trans g0).cell hn) ((GV.trans g0).freeB (by omega)) ((GV.trans g0).freeB (by omega)) F0.out.1 F0.out.2.1 F0.out.2.2.1 F0.out.2.2.2.1 F0.out.2.2.2.2.1 F0.out.2.2.2.2.2
      rintro e V4 ⟨hw4, z, rfl, hz, hc⟩
      have G4 : Grew V V4 := hw4.to GV (fun i hi => by omega)
      have E4 : Err V4 X 0 0 := ⟨hw4.cell cC (by simp; omega), G4.free (by simp; omega)⟩
      obtain ⟨w40, w41⟩ := cW.wrote hw4 (by omega)
      have zw0 : V4.frozen? ⟨X + 1, 0, none⟩ = false := G4.free (by simp; omega)
      have zw1 : V4.frozen? ⟨X + 1, 1, none⟩ = false := G4.free (by simp; omega)
      have hO4 := hw4.cell hO2 (by simp; omega)
      obtain ⟨a40, a41⟩ := ha.grew G4
      obtain ⟨b40, b41⟩ := hb.grew G4
      have k40 := G4.cell hk
      have n40 := G4.cell hn
      clear hT hw4 cC cW cB cY sW GV gW hO hO2 ha hb hk hn zO
      obtain ⟨⟨T1, T2⟩, T4, T3⟩ := T
      simp only at hz hc HR
      by_cases h0 : T3 = 0
      · subst h0
        subst hz
        obtain ⟨bb, yy⟩ := hc rfl
        clear hc
        go_wp2_with (first
          | (go_at_call 26; go_fit (HR.out _ E4); rintro e V5 ⟨⟨p, q, n, rfl, hv⟩, E5, U5⟩; have o5 := U5.cell (by simp; omega) hO4; have w5 := U5.cell (by simp) w40; have w6 := U5.cell (by simp) w41; have v5 := U5.frozen (cell_block w40) (by simp) zw0; have v6 := U5.frozen (cell_block w41) (by simp) zw1; have p5 := U5.grew V (by omega) G4; have b5 := U5.cell (by simp; omega) bb.1; have b6 := U5.cell (by simp; omega) bb.2; have y5 := U5.cell (by simp; omega) yy; obtain ⟨rfl, rfl, rfl⟩ := hv (by simp); have c5 := E5.1; have hq := ne_same p q))
        go_roundw
        case rel => exact ⟨_, 7, rfl, by omega, by simp [go_sem], (by first | exact p5.size | (simp [go_sem]; exact p5.size)), ((p5.setCell (by simp; omega) _).setCell (by simp; omega) _).alloc _ _⟩
        case measure => simp [wayAt, hOr, go_sem, intOf]
      · subst hz
        have h0' : (z == 0) = false := by simp [h0]
        clear hc
        go_wp2_with (first
          | (go_at_call 26; go_fit (HR.out _ E4); rintro e V5 ⟨⟨p, q, n, rfl, hv⟩, E5, U5⟩; have o5 := U5.cell (by simp; omega) hO4; have w5 := U5.cell (by simp) w40; have w6 := U5.cell (by simp) w41; have v5 := U5.frozen (cell_block w40) (by simp) zw0; have v6 := U5.frozen (cell_block w41) (by simp) zw1; have p5 := U5.grew V (by omega) G4; clear hv; have c5 := E5.1))
        go_roundw
        case rel => exact ⟨_, 7, rfl, by omega, by simp [go_sem], (by first | exact p5.size | (simp [go_sem]; exact p5.size)), ((p5.setCell (by simp; omega) _).setCell (by simp; omega) _).alloc _ _⟩
        case measure => simp [wayAt, hOr, go_sem, intOf]
    · obtain ⟨T, hT⟩ : ∃ T, T = (two (partR x0 a3) (partR y0 a3)) := ⟨_, rfl⟩
      have HR : Hid (∀ U, Err U X 0 0 → Calls Try.prog 27 #[.pointer (some ⟨X, 0, none⟩), .agg #[.int .i64 x0, .int .i64 y0], .int .i64 a3] U fun e w' => (∃ p q, e = .returned (.agg #[.int .i64 p, .int .i64 q]) ∧ (T.2.2 = 0 → p = T.1 ∧ q = T.2.1)) ∧ Err w' X 0 T.2.2 ∧ Past X U w') := fun U hE => by rw [hT]; exact (rshare_any X x0 y0 a3 U F0.out.1 F0.out.2.1 F0.out.2.2.2.2.2 hE).mono fun e w' ⟨⟨p, q, he, hv⟩, h2, h3⟩ => ⟨⟨p, q, he, fun h => ⟨(hv h).1.trans (two_vals h).1, (hv h).2.trans (two_vals h).2⟩⟩, h2, h3⟩
      go_wp2_with (fail)
      rw [← hW]
      clear hW hWe
      have hOr := hO
      rw [← hX] at cC cW cB cY sW hO' ⊢
      clear hX
      refine (try_set (S := fun i => i = X + 1 + 1 ∨ i = X + 1 + 1 + 1) (P := LeftT (X + 1 + 1) (X + 1 + 1 + 1) (pairT T)) _ _ _ (fun _ => by simp [go_sem]) (fun i hi => by omega) (LeftT.keep (by omega) (by omega)) (fun W0 g0 => ?_)).mono ?_
      · rw [hT]
        exact tells1_7 O w.heap.size (w.heap.size + 1) (X + 1 + 1) (w.heap.size + 1 + 1) (X + 1 + 1 + 1) (w.heap.size + 1 + 1 + 1) (by omega) x0 y0 x1 y1 a2 a3 W0 (g0.cell hO2) (ha.grew (GV.trans g0)) (hb.grew (GV.trans g0)) (cB.grew g0) ((GV.trans g0).cell hk) (g0.cell cY) ((GV.trans g0).cell hn) ((GV.trans g0).freeB (by omega)) ((GV.trans g0).freeB (by omega)) F0.out.1 F0.out.2.1 F0.out.2.2.1 F0.out.2.2.2.1 F0.out.2.2.2.2.1 F0.out.2.2.2.2.2
      rintro e V4 ⟨hw4, z, rfl, hz, hc⟩
      have G4 : Grew V V4 := hw4.to GV (fun i hi => by omega)
      have E4 : Err V4 X 0 0 := ⟨hw4.cell cC (by simp; omega), G4.free (by simp; omega)⟩
      obtain ⟨w40, w41⟩ := cW.wrote hw4 (by omega)
      have zw0 : V4.frozen? ⟨X + 1, 0, none⟩ = false := G4.free (by simp; omega)
      have zw1 : V4.frozen? ⟨X + 1, 1, none⟩ = false := G4.free (by simp; omega)
      have hO4 := hw4.cell hO2 (by simp; omega)
      obtain ⟨a40, a41⟩ := ha.grew G4
      obtain ⟨b40, b41⟩ := hb.grew G4
      have k40 := G4.cell hk
      have n40 := G4.cell hn
      clear hT hw4 cC cW cB cY sW GV gW hO hO2 ha hb hk hn zO
      obtain ⟨T1, T2, T3⟩ := T
      simp only [pairT] at hz hc HR
      by_cases h0 : T3 = 0
      · subst h0
        subst hz
        obtain ⟨bb, yy⟩ := hc rfl
        clear hc
        go_wp2_with (first
          | (go_at_call 27; go_fit (HR.out _ E4); rintro e V5 ⟨⟨p, q, rfl, hv⟩, E5, U5⟩; have o5 := U5.cell (by simp; omega) hO4; have w5 := U5.cell (by simp) w40; have w6 := U5.cell (by simp) w41; have v5 := U5.frozen (cell_block w40) (by simp) zw0; have v6 := U5.frozen (cell_block w41) (by simp) zw1; have p5 := U5.grew V (by omega) G4; have b5 := U5.cell (by simp; omega) bb.1; have b6 := U5.cell (by simp; omega) bb.2; have y5 := U5.cell (by simp; omega) yy; obtain ⟨rfl, rfl⟩ := hv (by simp); have c5 := E5.1; have hq := ne_same p q))
        go_roundw
        case rel => exact ⟨_, 8, rfl, by omega, by simp [go_sem], (by first | exact p5.size | (simp [go_sem]; exact p5.size)), ((p5.setCell (by simp; omega) _).setCell (by simp; omega) _).alloc _ _⟩
        case measure => simp [wayAt, hOr, go_sem, intOf]
      · subst hz
        have h0' : (z == 0) = false := by simp [h0]
        clear hc
        go_wp2_with (first
          | (go_at_call 27; go_fit (HR.out _ E4); rintro e V5 ⟨⟨p, q, rfl, hv⟩, E5, U5⟩; have o5 := U5.cell (by simp; omega) hO4; have w5 := U5.cell (by simp) w40; have w6 := U5.cell (by simp) w41; have v5 := U5.frozen (cell_block w40) (by simp) zw0; have v6 := U5.frozen (cell_block w41) (by simp) zw1; have p5 := U5.grew V (by omega) G4; clear hv; have c5 := E5.1))
        go_roundw
        case rel => exact ⟨_, 8, rfl, by omega, by simp [go_sem], (by first | exact p5.size | (simp [go_sem]; exact p5.size)), ((p5.setCell (by simp; omega) _).setCell (by simp; omega) _).alloc _ _⟩
        case measure => simp [wayAt, hOr, go_sem, intOf]

set_option maxRecDepth 100000 in
theorem lifted (os : Os) (started : os.Started) (H : Type) (enc : TypeId × Value → H) :
    ReturnsInHanded {} Try.checked os 3 .any (Rows.vecTellsSpec.pre6 enc Try.prog Try.f3 Rows.vecTellsRow.domain false) (Rows.vecTellsSpec.post enc Try.prog Try.f3 false true false false) := by
  refine returnsInHanded_of_change (C := Try.checked) own started (by kernel_rfl) Try.func3
    (ChangeSpec.witness6 (enc := enc) (C := Try.checked) false ⟨#[], #[.agg #[.int .i64 0, .int .i64 0], .agg #[.int .i64 0, .int .i64 0], .int .i64 0, .int .i64 0], []⟩ 8 (by kernel_rfl) (by kernel_rfl) (by kernel_rfl) (by kernel_rfl)) ?_
  intro W base args ds gs before hval0 hW hcnd _
  have hval : ∀ (j : Nat) t v, Try.f3.params[j]? = some t → args[j]? = some v → Value.okWide Try.prog W .any base t v := hval0
  have hW' := hW
  obtain ⟨p, q, hA0, hV, rfl, hfz, hnd⟩ := hW
  have hA : DataW.TrodAll enc Try.prog W 0 (fun _ => true) true Try.f3.params.toList args.toList ds p := hA0
  rw [Try.params3] at hA hval
  obtain ⟨v0, vs0, d0, ds0, p0, q0, hargs, rfl, rfl, h0, r0⟩ := trodAll_cons hA
  obtain ⟨v1, vs1, d1, ds1, p1, q1, rfl, rfl, rfl, h1, r1⟩ := trodAll_cons r0
  obtain ⟨v2, vs2, d2, ds2, p2, q2, rfl, rfl, rfl, h2, r2⟩ := trodAll_cons r1
  obtain ⟨v3, vs3, d3, ds3, p3, q3, rfl, rfl, rfl, h3, r3⟩ := trodAll_cons r2
  obtain ⟨rfl, rfl, rfl⟩ := trodAll_nil r3
  obtain rfl : args = #[v0, v1, v2, v3] := by cases args; simp_all
  obtain ⟨rfl, rfl⟩ := trodVars_none hV
  obtain ⟨x0, y0, rfl, rfl, rfl, f0, g0⟩ := open_vec (hval 0 24 v0 rfl rfl) h0
  obtain ⟨x1, y1, rfl, rfl, rfl, f1, g1⟩ := open_vec (hval 1 24 v1 rfl rfl) h1
  obtain ⟨a2, rfl, rfl, rfl, w2⟩ := open_int Try.underlying22 (hval 2 22 v2 rfl rfl) h2
  have f2 := inF_wf w2
  obtain ⟨a3, rfl, rfl, rfl, w3⟩ := open_int Try.underlying3 (hval 3 3 v3 rfl rfl) h3
  have f3 := inF_wf w3
  clear hA0 hval0
  simp only [List.append_nil] at hW'
  refine (walk x0 y0 f0 g0 x1 y1 f1 g1 a2 f2 a3 f3 W).mono fun e W' ⟨he, hg⟩ => ?_
  subst he
  exact ⟨_, rfl, post_of_same (pa := []) (pv := []) hW' (fun _ _ _ => (trodAll_cons_mk (shut_bool Try.underlying4 _) trodAll_mk0)) (fun sp _ => (trodAll_cons_mk (shut_vec f0 g0) (trodAll_cons_mk (shut_vec f1 g1) (trodAll_cons_mk (shut_int Try.underlying22 w2) (trodAll_cons_mk (shut_int Try.underlying3 w3) trodAll_mk0))))) (fun _ _ => rfl) rfl
    (hg.frame _) hg.2.1 (ok_one (by kernel_rfl) rfl (okWide_bool_mk Try.underlying4 _))⟩

theorem over : Rows.vecTellsRow.holds Try.pinned (OpenSpec.ofChange Rows.vecTellsSpec) :=
  OpenClaim.holds_of_wide 3 Try.f3 rfl rfl rfl rfl rfl rfl rfl ⟨rfl, rfl, rfl, rfl, rfl⟩ rfl rfl rfl rfl rfl (by kernel_rfl) Try.func3 (by kernel_rfl)
    (of_decide_eq_true (by kernel_rfl)) (by unfold Func.isWrapper; first | (rw [if_pos (by decide +kernel)]; kernel_rfl) | (rw [if_neg (by decide +kernel)]; exact ⟨rfl, rfl⟩))
    (fun os started H enc _ => lifted os started H enc)

theorem proved : Rows.VecTellsSaid :=
  over
end Go.Proofs.Ytfidjlagfnbknaa.vecTells

namespace Go.Proofs.Ytfidjlagfnbknaa
theorem vecTells_holds : Rows.VecTellsSaid := vecTells.proved
end Go.Proofs.Ytfidjlagfnbknaa
