/-
  Proved: maquettelaw8.BoundsClamps returns true for every box x and every two places v and w (the nearest place in a box is no further away than any other one in it, X and Y each by itself), and leaves what it was given as it was; no condition.
-/
import Derived.Test.YtlfncfjlfccfhaaRows
import Derived.Test.YtlfncfjlfccfhaaXAlive
import Derived.Test.YtlfncfjlfccfhaaXData
import Derived.Test.YtlfncfjlfccfhaaXQuiet
import Derived.WalkKit
import Derived.Deep.QuietTactic
import Derived.BigQuiet
import Derived.WalkSpells
import Derived.Deep.CutRange
import Derived.Deep.CutBlock
import Derived.WalkLawsBesides
import Derived.ProofKit
import Derived.OpenShut
namespace Go.Proofs.Ytlfncfjlfccfhaa.boundsClamps
open Go.ChangeShapes Go.WideShapes Go.ChangeAt Go.RowKit
set_option linter.unusedVariables false

theorem own : ownKnob Try.prog.godebug = none := by kernel_rfl

def farI (a b : Int) : Int := if b < a then a - b else b - a
theorem far_gt {a b : Int} (h : b < a) : farI a b = a - b := if_pos h
theorem far_le {a b : Int} (h : ¬ b < a) : farI a b = b - a := if_neg h
theorem wrap_sub {a b : Int} (ha : inF a) (hb : inF b) (h : b ≤ a) : IntKind.u64.wrap (IntKind.u64.wrap a - IntKind.u64.wrap b) = a - b := by
  unfold inF at ha hb
  simp [IntKind.wrap, IntKind.signed, IntKind.bits]
  omega
theorem far_any (a b : Int) (ha : inF a) (hb : inF b) (w : World) :
    Calls Try.prog 21 #[.int .i64 a, .int .i64 b] w fun e w' => e = .returned (.int .u64 (farI a b)) ∧ Grew w w' := by
  by_cases h : b < a
  · rw [far_gt h]
    have hw : Hid (_ = _) := wrap_sub ha hb (Int.le_of_lt h)
    clear ha hb
    go_enter Try.func21, Try.ntmps21
    go_wp2
    go_ret
    exact ⟨by rw [← hw.out]; rfl, Grew.refl w⟩
  · rw [far_le h]
    have hw : Hid (_ = _) := wrap_sub hb ha (Int.not_lt.1 h)
    clear ha hb
    go_enter Try.func21, Try.ntmps21
    go_wp2
    go_ret
    exact ⟨by rw [← hw.out]; rfl, Grew.refl w⟩
theorem far_cases (a b : Int) : (b < a ∧ farI a b = a - b) ∨ (a ≤ b ∧ farI a b = b - a) := by
  by_cases h : b < a
  · exact .inl ⟨h, far_gt h⟩
  · exact .inr ⟨Int.not_lt.1 h, far_le h⟩
theorem far_near {l h : Int} (g : l ≤ h) (x y : Int) : farI x (nearI x l h) ≤ farI x (nearI y l h) := by
  have h1 := near_cases x l h
  have h2 := near_cases y l h
  have h3 := far_cases x (nearI x l h)
  have h4 := far_cases x (nearI y l h)
  omega
/-- Two places laid into two new variables. -/
theorem laid2 {V W : World} {i j : Nat} (p q r s : Int) (G : Grew V W) (hi : V.heap.size ≤ i) (hj : V.heap.size ≤ j) (hij : i ≠ j) (Ai : At W i 0 0) (Aj : At W j 0 0) :
    At ((((W.setCell ⟨i, 0, none⟩ (.int .i64 p)).setCell ⟨i, 1, none⟩ (.int .i64 q)).setCell ⟨j, 0, none⟩ (.int .i64 r)).setCell ⟨j, 1, none⟩ (.int .i64 s)) i p q ∧
    At ((((W.setCell ⟨i, 0, none⟩ (.int .i64 p)).setCell ⟨i, 1, none⟩ (.int .i64 q)).setCell ⟨j, 0, none⟩ (.int .i64 r)).setCell ⟨j, 1, none⟩ (.int .i64 s)) j r s ∧
    Grew V ((((W.setCell ⟨i, 0, none⟩ (.int .i64 p)).setCell ⟨i, 1, none⟩ (.int .i64 q)).setCell ⟨j, 0, none⟩ (.int .i64 r)).setCell ⟨j, 1, none⟩ (.int .i64 s)) := by
  have K1 := (Grew.refl W).set1 i (.int .i64 p) (.int .i64 q)
  have A1 := at_set W i 0 0 p q Ai
  have B1 := Aj.wrote K1 (fun e => hij e.symm)
  refine ⟨A1.wrote ((Grew.refl _).set1 j (.int .i64 r) (.int .i64 s)) hij, at_set _ j 0 0 r s B1, ?_⟩
  exact (((G.setCell hi _).setCell hi _).setCell hj _).setCell hj _

set_option maxHeartbeats 8000000 in
theorem walk (X0 : Bx) (o0 : X0.ok) (x1 y1 : Int) (f1 : inF x1) (g1 : inF y1) (x2 y2 : Int) (f2 : inF x2) (g2 : inF y2) (w : World) :
    Calls Try.prog 7 #[X0.val, vec x1 y1, vec x2 y2] w fun e w' => e = .returned (.bool true) ∧ Grown w w' := by
  have HC : Hid (∀ W, _) := fun W => clamp_any x1 y1 X0 W
  have HD : Hid (∀ W, _) := fun W => clamp_any x2 y2 X0 W
  have ip := near_in f1 o0.l o0.h
  have iq := near_in g1 o0.m o0.k
  have ir := near_in f2 o0.l o0.h
  have is := near_in g2 o0.m o0.k
  have F1 : Hid (∀ W, _) := fun W => far_any x1 (nearI x1 X0.l X0.h) f1 ip W
  have F2 : Hid (∀ W, _) := fun W => far_any x1 (nearI x2 X0.l X0.h) f1 ir W
  have F3 : Hid (∀ W, _) := fun W => far_any y1 (nearI y1 X0.m X0.k) g1 iq W
  have F4 : Hid (∀ W, _) := fun W => far_any y1 (nearI y2 X0.m X0.k) g1 is W
  have n1 : Hid (X0.l ≤ X0.h → farI x1 (nearI x1 X0.l X0.h) ≤ farI x1 (nearI x2 X0.l X0.h)) := fun h => far_near h _ _
  have n2 : Hid (X0.m ≤ X0.k → farI y1 (nearI y1 X0.m X0.k) ≤ farI y1 (nearI y2 X0.m X0.k)) := fun h => far_near h _ _
  unfold Bx.val at HC HD ⊢
  unfold vec
  generalize farI x1 (nearI x1 X0.l X0.h) = t1 at *
  generalize farI x1 (nearI x2 X0.l X0.h) = t2 at *
  generalize farI y1 (nearI y1 X0.m X0.k) = t3 at *
  generalize farI y1 (nearI y2 X0.m X0.k) = t4 at *
  generalize nearI x1 X0.l X0.h = p at *
  generalize nearI y1 X0.m X0.k = q at *
  generalize nearI x2 X0.l X0.h = r at *
  generalize nearI y2 X0.m X0.k = s at *
  clear o0 f1 g1 f2 g2 ip iq ir is
  by_cases h1 : X0.l ≤ X0.h
  rotate_left
  · clear HC HD F1 F2 F3 F4 n1 n2
    have h2 : X0.h < X0.l := Int.not_le.1 h1
    clear h1
    go_enter Try.func7, Try.ntmps7
    go_wp2_with (first
      | (go_at_call 8; go_fit (alive_any _); rintro e V ⟨rfl, G⟩))
    go_ret
    exact ⟨rfl, (((((Grew.refl w).alloc _ _).alloc _ _).alloc _ _).trans G).grown⟩
  by_cases h3 : X0.m ≤ X0.k
  rotate_left
  · clear HC HD F1 F2 F3 F4 n1 n2
    have h2 : X0.k < X0.m := Int.not_le.1 h3
    clear h3
    go_enter Try.func7, Try.ntmps7
    go_wp2_with (first
      | (go_at_call 8; go_fit (alive_any _); rintro e V ⟨rfl, G⟩))
    go_ret
    exact ⟨rfl, (((((Grew.refl w).alloc _ _).alloc _ _).alloc _ _).trans G).grown⟩
  have u1 := n1.out h1
  have u2 := n2.out h3
  have d1 : decide (t1 ≤ t2) = true := decide_eq_true u1
  have d2 : decide (t3 ≤ t4) = true := decide_eq_true u2
  clear n1 n2
  go_enter Try.func7, Try.ntmps7
  go_wp2_with (first
    | (go_at_call 8; go_fit (alive_any _); rintro e V ⟨rfl, G⟩))
  have a0 := G.cell (p := ⟨w.heap.size, 0, none⟩) (v := .int .i64  X0.l) (by simp [go_sem])
  have a1 := G.cell (p := ⟨w.heap.size, 1, none⟩) (v := .int .i64  X0.m) (by simp [go_sem])
  have a2 := G.cell (p := ⟨w.heap.size, 2, none⟩) (v := .int .i64  X0.h) (by simp [go_sem])
  have a3 := G.cell (p := ⟨w.heap.size, 3, none⟩) (v := .int .i64  X0.k) (by simp [go_sem])
  have b0 := G.cell (p := ⟨w.heap.size + 1, 0, none⟩) (v := .int .i64  x1) (by simp [go_sem])
  have b1 := G.cell (p := ⟨w.heap.size + 1, 1, none⟩) (v := .int .i64  y1) (by simp [go_sem])
  have c0 := G.cell (p := ⟨w.heap.size + 2, 0, none⟩) (v := .int .i64  x2) (by simp [go_sem])
  have c1 := G.cell (p := ⟨w.heap.size + 2, 1, none⟩) (v := .int .i64  y2) (by simp [go_sem])
  have sz := G.size
  simp at sz
  have GV : Hid (Grew w V) := ((((Grew.refl w).alloc _ _).alloc _ _).alloc _ _).trans G
  clear G
  go_cut [7, 8] from 31 to 36 (fun c d wx => ∃ i j, c = .pointer (some ⟨i, 0, none⟩) ∧ d = .pointer (some ⟨j, 0, none⟩) ∧ At wx i p q ∧ At wx j r s ∧ Grew V wx)
  case first =>
    clear F1 F2 F3 F4 u1 u2 d1 d2
    have SG : Hid (∀ W W', Grew W W' → (fun w' => w'.cell? ⟨w.heap.size, 0, none⟩ = some (.int .i64 X0.l) ∧ w'.cell? ⟨w.heap.size, 1, none⟩ = some (.int .i64 X0.m) ∧ w'.cell? ⟨w.heap.size, 2, none⟩ = some (.int .i64 X0.h) ∧ w'.cell? ⟨w.heap.size, 3, none⟩ = some (.int .i64 X0.k) ∧ w'.cell? ⟨w.heap.size + 1, 0, none⟩ = some (.int .i64 x1) ∧ w'.cell? ⟨w.heap.size + 1, 1, none⟩ = some (.int .i64 y1) ∧ w'.cell? ⟨w.heap.size + 2, 0, none⟩ = some (.int .i64 x2) ∧ w'.cell? ⟨w.heap.size + 2, 1, none⟩ = some (.int .i64 y2)) W → (fun w' => w'.cell? ⟨w.heap.size, 0, none⟩ = some (.int .i64 X0.l) ∧ w'.cell? ⟨w.heap.size, 1, none⟩ = some (.int .i64 X0.m) ∧ w'.cell? ⟨w.heap.size, 2, none⟩ = some (.int .i64 X0.h) ∧ w'.cell? ⟨w.heap.size, 3, none⟩ = some (.int .i64 X0.k) ∧ w'.cell? ⟨w.heap.size + 1, 0, none⟩ = some (.int .i64 x1) ∧ w'.cell? ⟨w.heap.size + 1, 1, none⟩ = some (.int .i64 y1) ∧ w'.cell? ⟨w.heap.size + 2, 0, none⟩ = some (.int .i64 x2) ∧ w'.cell? ⟨w.heap.size + 2, 1, none⟩ = some (.int .i64 y2)) W') := fun W W' g h => ⟨g.cell h.1, g.cell h.2.1, g.cell h.2.2.1, g.cell h.2.2.2.1, g.cell h.2.2.2.2.1, g.cell h.2.2.2.2.2.1, g.cell h.2.2.2.2.2.2.1, g.cell h.2.2.2.2.2.2.2⟩
    have SW : Hid (∀ W W' i, Wrote (fun n => n = i) W W' → V.heap.size ≤ i → (fun w' => w'.cell? ⟨w.heap.size, 0, none⟩ = some (.int .i64 X0.l) ∧ w'.cell? ⟨w.heap.size, 1, none⟩ = some (.int .i64 X0.m) ∧ w'.cell? ⟨w.heap.size, 2, none⟩ = some (.int .i64 X0.h) ∧ w'.cell? ⟨w.heap.size, 3, none⟩ = some (.int .i64 X0.k) ∧ w'.cell? ⟨w.heap.size + 1, 0, none⟩ = some (.int .i64 x1) ∧ w'.cell? ⟨w.heap.size + 1, 1, none⟩ = some (.int .i64 y1) ∧ w'.cell? ⟨w.heap.size + 2, 0, none⟩ = some (.int .i64 x2) ∧ w'.cell? ⟨w.heap.size + 2, 1, none⟩ = some (.int .i64 y2)) W → (fun w' => w'.cell? ⟨w.heap.size, 0, none⟩ = some (.int .i64 X0.l) ∧ w'.cell? ⟨w.heap.size, 1, none⟩ = some (.int .i64 X0.m) ∧ w'.cell? ⟨w.heap.size, 2, none⟩ = some (.int .i64 X0.h) ∧ w'.cell? ⟨w.heap.size, 3, none⟩ = some (.int .i64 X0.k) ∧ w'.cell? ⟨w.heap.size + 1, 0, none⟩ = some (.int .i64 x1) ∧ w'.cell? ⟨w.heap.size + 1, 1, none⟩ = some (.int .i64 y1) ∧ w'.cell? ⟨w.heap.size + 2, 0, none⟩ = some (.int .i64 x2) ∧ w'.cell? ⟨w.heap.size + 2, 1, none⟩ = some (.int .i64 y2)) W') := fun W W' i g hi h => ⟨g.cell h.1 (by simp; omega), g.cell h.2.1 (by simp; omega), g.cell h.2.2.1 (by simp; omega), g.cell h.2.2.2.1 (by simp; omega), g.cell h.2.2.2.2.1 (by simp; omega), g.cell h.2.2.2.2.2.1 (by simp; omega), g.cell h.2.2.2.2.2.2.1 (by simp; omega), g.cell h.2.2.2.2.2.2.2 (by simp; omega)⟩
    refine wp_region_held_drew (S := (fun w' => w'.cell? ⟨w.heap.size, 0, none⟩ = some (.int .i64 X0.l) ∧ w'.cell? ⟨w.heap.size, 1, none⟩ = some (.int .i64 X0.m) ∧ w'.cell? ⟨w.heap.size, 2, none⟩ = some (.int .i64 X0.h) ∧ w'.cell? ⟨w.heap.size, 3, none⟩ = some (.int .i64 X0.k) ∧ w'.cell? ⟨w.heap.size + 1, 0, none⟩ = some (.int .i64 x1) ∧ w'.cell? ⟨w.heap.size + 1, 1, none⟩ = some (.int .i64 y1) ∧ w'.cell? ⟨w.heap.size + 2, 0, none⟩ = some (.int .i64 x2) ∧ w'.cell? ⟨w.heap.size + 2, 1, none⟩ = some (.int .i64 y2))) (by kernel_rfl) ?_ (fun hH0 => ?_)
    · exact SG.out V _ (Grew.refl V).drew ⟨a0, a1, a2, a3, b0, b1, c0, c1⟩
    clear a0 a1 a2 a3 b0 b1 c0 c1
    obtain ⟨W0, hW0⟩ : ∃ W0, W0 = V.drew := ⟨_, rfl⟩
    rw [← hW0] at hH0 ⊢
    have G0 : Hid (Grew V W0) := by rw [hW0]; exact (Grew.refl V).drew
    clear hW0
    refine wpAnyH_take (i := 0) (oi := { dst := some 31, op := Go.Op.load 24 (Go.Operand.tmp 4), type := 24, pos := "more2.go:31", after := #[], guard := none }) (v := ?v0) rfl (by kernel_rfl) (by kernel_rfl) (by kernel_rfl) (fun _ _ _ h => h) (Or.inl ⟨by rfl, ?hy0⟩) (by assumption) ?rest0
    case hy0 => (intro w hSw; (try dsimp only at hSw); go_simp; try (with_reducible rfl))
    simp only [Act.put, List.setIfInBounds_toArray, List.set_cons_zero, List.set_cons_succ]
    refine wpAnyH_take (i := 1) (oi := { dst := some 32, op := Go.Op.load 28 (Go.Operand.tmp 3), type := 28, pos := "more2.go:31", after := #[], guard := none }) (v := ?v1) rfl (by kernel_rfl) (by kernel_rfl) (by kernel_rfl) (fun _ _ _ h => h) (Or.inl ⟨by rfl, ?hy1⟩) (by assumption) ?rest1
    case hy1 => (intro w hSw; (try dsimp only at hSw); go_simp; try (with_reducible rfl))
    simp only [Act.put, List.setIfInBounds_toArray, List.set_cons_zero, List.set_cons_succ]
    refine wpAnyH_take (i := 3) (oi := { dst := some 34, op := Go.Op.load 24 (Go.Operand.tmp 5), type := 24, pos := "more2.go:31", after := #[], guard := none }) (v := ?v3) rfl (by kernel_rfl) (by kernel_rfl) (by kernel_rfl) (fun _ _ _ h => h) (Or.inl ⟨by rfl, ?hy3⟩) (by assumption) ?rest3
    case hy3 => (intro w hSw; (try dsimp only at hSw); go_simp; try (with_reducible rfl))
    simp only [Act.put, List.setIfInBounds_toArray, List.set_cons_zero, List.set_cons_succ]
    refine wpAnyH_take (i := 4) (oi := { dst := some 35, op := Go.Op.load 28 (Go.Operand.tmp 3), type := 28, pos := "more2.go:31", after := #[], guard := none }) (v := ?v4) rfl (by kernel_rfl) (by kernel_rfl) (by kernel_rfl) (fun _ _ _ h => h) (Or.inl ⟨by rfl, ?hy4⟩) (by assumption) ?rest4
    case hy4 => (intro w hSw; (try dsimp only at hSw); go_simp; try (with_reducible rfl))
    simp only [Act.put, List.setIfInBounds_toArray, List.set_cons_zero, List.set_cons_succ]
    refine wpAnyH_ready (rs := [2, 6, 7]) (by kernel_rfl) (by simp) ?_
    refine AllReadyH.cons (o := { dst := some 33, op := Go.Op.call { callee := Go.Callee.value (Go.Operand.func 17), args := #[Go.Operand.tmp 31, Go.Operand.tmp 32], argTypes := #[24, 28] }, type := 24, pos := "more2.go:31", after := #[{ on := 0, ground := Go.Ground.data }, { on := 1, ground := Go.Ground.data }], guard := none }) rfl (fun K hK => ?_) (AllReadyH.cons (o := { dst := some 7, op := Go.Op.alloc 24, type := 0, pos := "more2.go:31", after := #[], guard := none }) rfl (fun K hK => ?_) (AllReadyH.cons (o := { dst := some 8, op := Go.Op.alloc 24, type := 0, pos := "more2.go:31", after := #[], guard := none }) rfl (fun K hK => ?_) AllReadyH.nil))
    · go_simp
      go_wp2_with (first
        | (go_at_call 17; go_fit (HC.out _); rintro e W1 ⟨rfl, g1⟩))
      refine hK.out _ _ (SG.out _ _ g1 hH0) (fun hH1 => ?_)
      clear hK K
      have G1 : Hid (Grew V W1) := G0.out.trans g1
      refine wpAnyH_ready (rs := [5, 6, 7]) (by kernel_rfl) (by simp) ?_
      refine AllReadyH.cons (o := { dst := some 36, op := Go.Op.call { callee := Go.Callee.value (Go.Operand.func 17), args := #[Go.Operand.tmp 34, Go.Operand.tmp 35], argTypes := #[24, 28] }, type := 24, pos := "more2.go:31", after := #[{ on := 3, ground := Go.Ground.data }, { on := 4, ground := Go.Ground.data }, { on := 2, ground := Go.Ground.chain }], guard := none }) rfl (fun K hK => ?_) (AllReadyH.cons (o := { dst := some 7, op := Go.Op.alloc 24, type := 0, pos := "more2.go:31", after := #[], guard := none }) rfl (fun K hK => ?_) (AllReadyH.cons (o := { dst := some 8, op := Go.Op.alloc 24, type := 0, pos := "more2.go:31", after := #[], guard := none }) rfl (fun K hK => ?_) AllReadyH.nil))
      · go_simp
        go_wp2_with (first
          | (go_at_call 17; go_fit (HD.out _); rintro e W2 ⟨rfl, g2⟩))
        refine hK.out _ _ (SG.out _ _ g2 hH1) (fun hH2 => ?_)
        clear hK K
        have G2 : Hid (Grew V W2) := G1.out.trans g2
        refine wpAnyH_ready (rs := [6, 7]) (by kernel_rfl) (by simp) ?_
        refine AllReadyH.cons (o := { dst := some 7, op := Go.Op.alloc 24, type := 0, pos := "more2.go:31", after := #[], guard := none }) rfl (fun K hK => ?_) (AllReadyH.cons (o := { dst := some 8, op := Go.Op.alloc 24, type := 0, pos := "more2.go:31", after := #[], guard := none }) rfl (fun K hK => ?_) AllReadyH.nil)
        · go_simp
          obtain ⟨W3, hW3⟩ : ∃ X, X = W2.alloc (.cells #[.int .i64 0, .int .i64 0] 24) := ⟨_, rfl⟩
          have g3 : Grew W2 W3 := by rw [hW3]; exact (Grew.refl _).alloc _ _
          refine hK.out _ _ (SG.out _ _ ((Grew.refl W2).alloc _ _) hH2) (fun hH3 => ?_)
          clear hK K
          rw [← hW3] at hH3 ⊢
          have G3 : Hid (Grew V W3) := G2.out.trans g3
          have A3_3 : At W3 W2.heap.size 0 0 := by rw [hW3]; constructor <;> simp [go_sem]
          have Z3_3 : Free W3 W2.heap.size := g3.freeB (Nat.le_refl _)
          have M3 : V.heap.size ≤ W2.heap.size := G2.out.size
          obtain ⟨B3, hB3⟩ : ∃ B, W2.heap.size = B := ⟨_, rfl⟩
          rw [hB3] at A3_3 Z3_3 M3 ⊢
          clear hW3 hB3
          refine wpAnyH_ready (rs := [7]) (by kernel_rfl) (by simp) ?_
          refine AllReadyH.cons (o := { dst := some 8, op := Go.Op.alloc 24, type := 0, pos := "more2.go:31", after := #[], guard := none }) rfl (fun K hK => ?_) AllReadyH.nil
          · go_simp
            obtain ⟨W4, hW4⟩ : ∃ X, X = W3.alloc (.cells #[.int .i64 0, .int .i64 0] 24) := ⟨_, rfl⟩
            have g4 : Grew W3 W4 := by rw [hW4]; exact (Grew.refl _).alloc _ _
            refine hK.out _ _ (SG.out _ _ ((Grew.refl W3).alloc _ _) hH3) (fun hH4 => ?_)
            clear hK K
            rw [← hW4] at hH4 ⊢
            have G4 : Hid (Grew V W4) := G3.out.trans g4
            have A4_3 := A3_3.grew g4
            have Z4_3 := Z3_3.grew g4
            have E3 : W3.heap.size ≠ B3 := Nat.ne_of_gt A3_3.size
            have A4_4 : At W4 W3.heap.size 0 0 := by rw [hW4]; constructor <;> simp [go_sem]
            have Z4_4 : Free W4 W3.heap.size := g4.freeB (Nat.le_refl _)
            have M4 : V.heap.size ≤ W3.heap.size := G3.out.size
            obtain ⟨B4, hB4⟩ : ∃ B, W3.heap.size = B := ⟨_, rfl⟩
            rw [hB4] at A4_4 Z4_4 M4 E3 ⊢
            clear hW4 hB4
            refine wpAnyH_ready (rs := [8]) (by kernel_rfl) (by simp) ?_
            refine AllReadyH.cons (o := { dst := none, op := Go.Op.store 24 (Go.Operand.tmp 7) (Go.Operand.tmp 33), type := 0, pos := "more2.go:31", after := #[{ on := 6, ground := Go.Ground.data }, { on := 2, ground := Go.Ground.data }, { on := 5, ground := Go.Ground.chain }, { on := 0, ground := Go.Ground.phase }, { on := 1, ground := Go.Ground.phase }, { on := 2, ground := Go.Ground.phase }, { on := 3, ground := Go.Ground.textOnly Go.Departure.lateStores }, { on := 4, ground := Go.Ground.textOnly Go.Departure.lateStores }, { on := 5, ground := Go.Ground.textOnly Go.Departure.lateStoresUnsure }, { on := 6, ground := Go.Ground.phase }, { on := 7, ground := Go.Ground.phase }], guard := none }) rfl (fun K hK => ?_) AllReadyH.nil
            · have hne : B3 ≠ B4 := by omega
              obtain ⟨e0, e1⟩ := A4_3
              have z0 := Z4_3 0 none
              have z1 := Z4_3 1 none
              go_simp
              refine hK.out _ _ (SW.out _ _ B3 ((Grew.refl W4).set1 B3 _ _) M3 hH4) (fun hH5 => ?_)
              clear hK K
              have R5 := laid2 p q r s G4.out M3 M4 hne ⟨e0, e1⟩ A4_4
              have T5 := A4_4.wrote ((Grew.refl W4).set1 B3 (.int .i64 p) (.int .i64 q)) (fun e => hne e.symm)
              have TZ5 := Z4_4.wrote ((Grew.refl W4).set1 B3 (.int .i64 p) (.int .i64 q)) (fun e => hne e.symm) A4_4.size
              clear e0 e1 z0 z1
              obtain ⟨W5, hW5⟩ : ∃ X, X = (W4.setCell ⟨B3, 0, none⟩ (.int .i64 p)).setCell ⟨B3, 1, none⟩ (.int .i64 q) := ⟨_, rfl⟩
              rw [← hW5] at R5 T5 TZ5 hH5 ⊢
              clear hW5
              refine wpAnyH_ready (rs := [9]) (by kernel_rfl) (by simp) ?_
              refine AllReadyH.cons (o := { dst := none, op := Go.Op.store 24 (Go.Operand.tmp 8) (Go.Operand.tmp 36), type := 0, pos := "more2.go:31", after := #[{ on := 7, ground := Go.Ground.data }, { on := 5, ground := Go.Ground.data }, { on := 8, ground := Go.Ground.chain }, { on := 0, ground := Go.Ground.phase }, { on := 1, ground := Go.Ground.phase }, { on := 2, ground := Go.Ground.phase }, { on := 3, ground := Go.Ground.phase }, { on := 4, ground := Go.Ground.phase }, { on := 5, ground := Go.Ground.phase }, { on := 6, ground := Go.Ground.phase }, { on := 7, ground := Go.Ground.phase }, { on := 8, ground := Go.Ground.phase }], guard := none }) rfl (fun K hK => ?_) AllReadyH.nil
              · obtain ⟨e0, e1⟩ := T5
                have z0 := TZ5 0 none
                have z1 := TZ5 1 none
                go_simp
                refine hK.out _ _ (SW.out _ _ B4 ((Grew.refl W5).set1 B4 _ _) M4 hH5) (fun hH6 => ?_)
                clear hK K
                have R6 := R5
                refine wpAnyH_done (by kernel_rfl) ?_ _
                go_wp2
                go_meet
                case rel => exact ⟨_, _, rfl, rfl, R6⟩
        · go_simp
          obtain ⟨W7, hW7⟩ : ∃ X, X = W2.alloc (.cells #[.int .i64 0, .int .i64 0] 24) := ⟨_, rfl⟩
          have g7 : Grew W2 W7 := by rw [hW7]; exact (Grew.refl _).alloc _ _
          refine hK.out _ _ (SG.out _ _ ((Grew.refl W2).alloc _ _) hH2) (fun hH7 => ?_)
          clear hK K
          rw [← hW7] at hH7 ⊢
          have G7 : Hid (Grew V W7) := G2.out.trans g7
          have A7_7 : At W7 W2.heap.size 0 0 := by rw [hW7]; constructor <;> simp [go_sem]
          have Z7_7 : Free W7 W2.heap.size := g7.freeB (Nat.le_refl _)
          have M7 : V.heap.size ≤ W2.heap.size := G2.out.size
          obtain ⟨B7, hB7⟩ : ∃ B, W2.heap.size = B := ⟨_, rfl⟩
          rw [hB7] at A7_7 Z7_7 M7 ⊢
          clear hW7 hB7
          refine wpAnyH_ready (rs := [6]) (by kernel_rfl) (by simp) ?_
          refine AllReadyH.cons (o := { dst := some 7, op := Go.Op.alloc 24, type := 0, pos := "more2.go:31", after := #[], guard := none }) rfl (fun K hK => ?_) AllReadyH.nil
          · go_simp
            obtain ⟨W8, hW8⟩ : ∃ X, X = W7.alloc (.cells #[.int .i64 0, .int .i64 0] 24) := ⟨_, rfl⟩
            have g8 : Grew W7 W8 := by rw [hW8]; exact (Grew.refl _).alloc _ _
            refine hK.out _ _ (SG.out _ _ ((Grew.refl W7).alloc _ _) hH7) (fun hH8 => ?_)
            clear hK K
            rw [← hW8] at hH8 ⊢
            have G8 : Hid (Grew V W8) := G7.out.trans g8
            have A8_7 := A7_7.grew g8
            have Z8_7 := Z7_7.grew g8
            have E7 : W7.heap.size ≠ B7 := Nat.ne_of_gt A7_7.size
            have A8_8 : At W8 W7.heap.size 0 0 := by rw [hW8]; constructor <;> simp [go_sem]
            have Z8_8 : Free W8 W7.heap.size := g8.freeB (Nat.le_refl _)
            have M8 : V.heap.size ≤ W7.heap.size := G7.out.size
            obtain ⟨B8, hB8⟩ : ∃ B, W7.heap.size = B := ⟨_, rfl⟩
            rw [hB8] at A8_8 Z8_8 M8 E7 ⊢
            clear hW8 hB8
            refine wpAnyH_ready (rs := [8]) (by kernel_rfl) (by simp) ?_
            refine AllReadyH.cons (o := { dst := none, op := Go.Op.store 24 (Go.Operand.tmp 7) (Go.Operand.tmp 33), type := 0, pos := "more2.go:31", after := #[{ on := 6, ground := Go.Ground.data }, { on := 2, ground := Go.Ground.data }, { on := 5, ground := Go.Ground.chain }, { on := 0, ground := Go.Ground.phase }, { on := 1, ground := Go.Ground.phase }, { on := 2, ground := Go.Ground.phase }, { on := 3, ground := Go.Ground.textOnly Go.Departure.lateStores }, { on := 4, ground := Go.Ground.textOnly Go.Departure.lateStores }, { on := 5, ground := Go.Ground.textOnly Go.Departure.lateStoresUnsure }, { on := 6, ground := Go.Ground.phase }, { on := 7, ground := Go.Ground.phase }], guard := none }) rfl (fun K hK => ?_) AllReadyH.nil
            · have hne : B8 ≠ B7 := by omega
              obtain ⟨e0, e1⟩ := A8_8
              have z0 := Z8_8 0 none
              have z1 := Z8_8 1 none
              go_simp
              refine hK.out _ _ (SW.out _ _ B8 ((Grew.refl W8).set1 B8 _ _) M8 hH8) (fun hH9 => ?_)
              clear hK K
              have R9 := laid2 p q r s G8.out M8 M7 hne ⟨e0, e1⟩ A8_7
              have T9 := A8_7.wrote ((Grew.refl W8).set1 B8 (.int .i64 p) (.int .i64 q)) (fun e => hne e.symm)
              have TZ9 := Z8_7.wrote ((Grew.refl W8).set1 B8 (.int .i64 p) (.int .i64 q)) (fun e => hne e.symm) A8_7.size
              clear e0 e1 z0 z1
              obtain ⟨W9, hW9⟩ : ∃ X, X = (W8.setCell ⟨B8, 0, none⟩ (.int .i64 p)).setCell ⟨B8, 1, none⟩ (.int .i64 q) := ⟨_, rfl⟩
              rw [← hW9] at R9 T9 TZ9 hH9 ⊢
              clear hW9
              refine wpAnyH_ready (rs := [9]) (by kernel_rfl) (by simp) ?_
              refine AllReadyH.cons (o := { dst := none, op := Go.Op.store 24 (Go.Operand.tmp 8) (Go.Operand.tmp 36), type := 0, pos := "more2.go:31", after := #[{ on := 7, ground := Go.Ground.data }, { on := 5, ground := Go.Ground.data }, { on := 8, ground := Go.Ground.chain }, { on := 0, ground := Go.Ground.phase }, { on := 1, ground := Go.Ground.phase }, { on := 2, ground := Go.Ground.phase }, { on := 3, ground := Go.Ground.phase }, { on := 4, ground := Go.Ground.phase }, { on := 5, ground := Go.Ground.phase }, { on := 6, ground := Go.Ground.phase }, { on := 7, ground := Go.Ground.phase }, { on := 8, ground := Go.Ground.phase }], guard := none }) rfl (fun K hK => ?_) AllReadyH.nil
              · obtain ⟨e0, e1⟩ := T9
                have z0 := TZ9 0 none
                have z1 := TZ9 1 none
                go_simp
                refine hK.out _ _ (SW.out _ _ B7 ((Grew.refl W9).set1 B7 _ _) M7 hH9) (fun hH10 => ?_)
                clear hK K
                have R10 := R9
                refine wpAnyH_done (by kernel_rfl) ?_ _
                go_wp2
                go_meet
                case rel => exact ⟨_, _, rfl, rfl, R10⟩
      · go_simp
        obtain ⟨W11, hW11⟩ : ∃ X, X = W1.alloc (.cells #[.int .i64 0, .int .i64 0] 24) := ⟨_, rfl⟩
        have g11 : Grew W1 W11 := by rw [hW11]; exact (Grew.refl _).alloc _ _
        refine hK.out _ _ (SG.out _ _ ((Grew.refl W1).alloc _ _) hH1) (fun hH11 => ?_)
        clear hK K
        rw [← hW11] at hH11 ⊢
        have G11 : Hid (Grew V W11) := G1.out.trans g11
        have A11_11 : At W11 W1.heap.size 0 0 := by rw [hW11]; constructor <;> simp [go_sem]
        have Z11_11 : Free W11 W1.heap.size := g11.freeB (Nat.le_refl _)
        have M11 : V.heap.size ≤ W1.heap.size := G1.out.size
        obtain ⟨B11, hB11⟩ : ∃ B, W1.heap.size = B := ⟨_, rfl⟩
        rw [hB11] at A11_11 Z11_11 M11 ⊢
        clear hW11 hB11
        refine wpAnyH_ready (rs := [5, 7]) (by kernel_rfl) (by simp) ?_
        refine AllReadyH.cons (o := { dst := some 36, op := Go.Op.call { callee := Go.Callee.value (Go.Operand.func 17), args := #[Go.Operand.tmp 34, Go.Operand.tmp 35], argTypes := #[24, 28] }, type := 24, pos := "more2.go:31", after := #[{ on := 3, ground := Go.Ground.data }, { on := 4, ground := Go.Ground.data }, { on := 2, ground := Go.Ground.chain }], guard := none }) rfl (fun K hK => ?_) (AllReadyH.cons (o := { dst := some 8, op := Go.Op.alloc 24, type := 0, pos := "more2.go:31", after := #[], guard := none }) rfl (fun K hK => ?_) AllReadyH.nil)
        · go_simp
          go_wp2_with (first
            | (go_at_call 17; go_fit (HD.out _); rintro e W12 ⟨rfl, g12⟩))
          refine hK.out _ _ (SG.out _ _ g12 hH11) (fun hH12 => ?_)
          clear hK K
          have G12 : Hid (Grew V W12) := G11.out.trans g12
          have A12_11 := A11_11.grew g12
          have Z12_11 := Z11_11.grew g12
          refine wpAnyH_ready (rs := [7]) (by kernel_rfl) (by simp) ?_
          refine AllReadyH.cons (o := { dst := some 8, op := Go.Op.alloc 24, type := 0, pos := "more2.go:31", after := #[], guard := none }) rfl (fun K hK => ?_) AllReadyH.nil
          · go_simp
            obtain ⟨W13, hW13⟩ : ∃ X, X = W12.alloc (.cells #[.int .i64 0, .int .i64 0] 24) := ⟨_, rfl⟩
            have g13 : Grew W12 W13 := by rw [hW13]; exact (Grew.refl _).alloc _ _
            refine hK.out _ _ (SG.out _ _ ((Grew.refl W12).alloc _ _) hH12) (fun hH13 => ?_)
            clear hK K
            rw [← hW13] at hH13 ⊢
            have G13 : Hid (Grew V W13) := G12.out.trans g13
            have A13_11 := A12_11.grew g13
            have Z13_11 := Z12_11.grew g13
            have E11 : W12.heap.size ≠ B11 := Nat.ne_of_gt A12_11.size
            have A13_13 : At W13 W12.heap.size 0 0 := by rw [hW13]; constructor <;> simp [go_sem]
            have Z13_13 : Free W13 W12.heap.size := g13.freeB (Nat.le_refl _)
            have M13 : V.heap.size ≤ W12.heap.size := G12.out.size
            obtain ⟨B13, hB13⟩ : ∃ B, W12.heap.size = B := ⟨_, rfl⟩
            rw [hB13] at A13_13 Z13_13 M13 E11 ⊢
            clear hW13 hB13
            refine wpAnyH_ready (rs := [8]) (by kernel_rfl) (by simp) ?_
            refine AllReadyH.cons (o := { dst := none, op := Go.Op.store 24 (Go.Operand.tmp 7) (Go.Operand.tmp 33), type := 0, pos := "more2.go:31", after := #[{ on := 6, ground := Go.Ground.data }, { on := 2, ground := Go.Ground.data }, { on := 5, ground := Go.Ground.chain }, { on := 0, ground := Go.Ground.phase }, { on := 1, ground := Go.Ground.phase }, { on := 2, ground := Go.Ground.phase }, { on := 3, ground := Go.Ground.textOnly Go.Departure.lateStores }, { on := 4, ground := Go.Ground.textOnly Go.Departure.lateStores }, { on := 5, ground := Go.Ground.textOnly Go.Departure.lateStoresUnsure }, { on := 6, ground := Go.Ground.phase }, { on := 7, ground := Go.Ground.phase }], guard := none }) rfl (fun K hK => ?_) AllReadyH.nil
            · have hne : B11 ≠ B13 := by omega
              obtain ⟨e0, e1⟩ := A13_11
              have z0 := Z13_11 0 none
              have z1 := Z13_11 1 none
              go_simp
              refine hK.out _ _ (SW.out _ _ B11 ((Grew.refl W13).set1 B11 _ _) M11 hH13) (fun hH14 => ?_)
              clear hK K
              have R14 := laid2 p q r s G13.out M11 M13 hne ⟨e0, e1⟩ A13_13
              have T14 := A13_13.wrote ((Grew.refl W13).set1 B11 (.int .i64 p) (.int .i64 q)) (fun e => hne e.symm)
              have TZ14 := Z13_13.wrote ((Grew.refl W13).set1 B11 (.int .i64 p) (.int .i64 q)) (fun e => hne e.symm) A13_13.size
              clear e0 e1 z0 z1
              obtain ⟨W14, hW14⟩ : ∃ X, X = (W13.setCell ⟨B11, 0, none⟩ (.int .i64 p)).setCell ⟨B11, 1, none⟩ (.int .i64 q) := ⟨_, rfl⟩
              rw [← hW14] at R14 T14 TZ14 hH14 ⊢
              clear hW14
              refine wpAnyH_ready (rs := [9]) (by kernel_rfl) (by simp) ?_
              refine AllReadyH.cons (o := { dst := none, op := Go.Op.store 24 (Go.Operand.tmp 8) (Go.Operand.tmp 36), type := 0, pos := "more2.go:31", after := #[{ on := 7, ground := Go.Ground.data }, { on := 5, ground := Go.Ground.data }, { on := 8, ground := Go.Ground.chain }, { on := 0, ground := Go.Ground.phase }, { on := 1, ground := Go.Ground.phase }, { on := 2, ground := Go.Ground.phase }, { on := 3, ground := Go.Ground.phase }, { on := 4, ground := Go.Ground.phase }, { on := 5, ground := Go.Ground.phase }, { on := 6, ground := Go.Ground.phase }, { on := 7, ground := Go.Ground.phase }, { on := 8, ground := Go.Ground.phase }], guard := none }) rfl (fun K hK => ?_) AllReadyH.nil
              · obtain ⟨e0, e1⟩ := T14
                have z0 := TZ14 0 none
                have z1 := TZ14 1 none
                go_simp
                refine hK.out _ _ (SW.out _ _ B13 ((Grew.refl W14).set1 B13 _ _) M13 hH14) (fun hH15 => ?_)
                clear hK K
                have R15 := R14
                refine wpAnyH_done (by kernel_rfl) ?_ _
                go_wp2
                go_meet
                case rel => exact ⟨_, _, rfl, rfl, R15⟩
        · go_simp
          obtain ⟨W16, hW16⟩ : ∃ X, X = W11.alloc (.cells #[.int .i64 0, .int .i64 0] 24) := ⟨_, rfl⟩
          have g16 : Grew W11 W16 := by rw [hW16]; exact (Grew.refl _).alloc _ _
          refine hK.out _ _ (SG.out _ _ ((Grew.refl W11).alloc _ _) hH11) (fun hH16 => ?_)
          clear hK K
          rw [← hW16] at hH16 ⊢
          have G16 : Hid (Grew V W16) := G11.out.trans g16
          have A16_11 := A11_11.grew g16
          have Z16_11 := Z11_11.grew g16
          have E11 : W11.heap.size ≠ B11 := Nat.ne_of_gt A11_11.size
          have A16_16 : At W16 W11.heap.size 0 0 := by rw [hW16]; constructor <;> simp [go_sem]
          have Z16_16 : Free W16 W11.heap.size := g16.freeB (Nat.le_refl _)
          have M16 : V.heap.size ≤ W11.heap.size := G11.out.size
          obtain ⟨B16, hB16⟩ : ∃ B, W11.heap.size = B := ⟨_, rfl⟩
          rw [hB16] at A16_16 Z16_16 M16 E11 ⊢
          clear hW16 hB16
          refine wpAnyH_ready (rs := [5]) (by kernel_rfl) (by simp) ?_
          refine AllReadyH.cons (o := { dst := some 36, op := Go.Op.call { callee := Go.Callee.value (Go.Operand.func 17), args := #[Go.Operand.tmp 34, Go.Operand.tmp 35], argTypes := #[24, 28] }, type := 24, pos := "more2.go:31", after := #[{ on := 3, ground := Go.Ground.data }, { on := 4, ground := Go.Ground.data }, { on := 2, ground := Go.Ground.chain }], guard := none }) rfl (fun K hK => ?_) AllReadyH.nil
          · go_simp
            go_wp2_with (first
              | (go_at_call 17; go_fit (HD.out _); rintro e W17 ⟨rfl, g17⟩))
            refine hK.out _ _ (SG.out _ _ g17 hH16) (fun hH17 => ?_)
            clear hK K
            have G17 : Hid (Grew V W17) := G16.out.trans g17
            have A17_11 := A16_11.grew g17
            have Z17_11 := Z16_11.grew g17
            have A17_16 := A16_16.grew g17
            have Z17_16 := Z16_16.grew g17
            refine wpAnyH_ready (rs := [8]) (by kernel_rfl) (by simp) ?_
            refine AllReadyH.cons (o := { dst := none, op := Go.Op.store 24 (Go.Operand.tmp 7) (Go.Operand.tmp 33), type := 0, pos := "more2.go:31", after := #[{ on := 6, ground := Go.Ground.data }, { on := 2, ground := Go.Ground.data }, { on := 5, ground := Go.Ground.chain }, { on := 0, ground := Go.Ground.phase }, { on := 1, ground := Go.Ground.phase }, { on := 2, ground := Go.Ground.phase }, { on := 3, ground := Go.Ground.textOnly Go.Departure.lateStores }, { on := 4, ground := Go.Ground.textOnly Go.Departure.lateStores }, { on := 5, ground := Go.Ground.textOnly Go.Departure.lateStoresUnsure }, { on := 6, ground := Go.Ground.phase }, { on := 7, ground := Go.Ground.phase }], guard := none }) rfl (fun K hK => ?_) AllReadyH.nil
            · have hne : B11 ≠ B16 := by omega
              obtain ⟨e0, e1⟩ := A17_11
              have z0 := Z17_11 0 none
              have z1 := Z17_11 1 none
              go_simp
              refine hK.out _ _ (SW.out _ _ B11 ((Grew.refl W17).set1 B11 _ _) M11 hH17) (fun hH18 => ?_)
              clear hK K
              have R18 := laid2 p q r s G17.out M11 M16 hne ⟨e0, e1⟩ A17_16
              have T18 := A17_16.wrote ((Grew.refl W17).set1 B11 (.int .i64 p) (.int .i64 q)) (fun e => hne e.symm)
              have TZ18 := Z17_16.wrote ((Grew.refl W17).set1 B11 (.int .i64 p) (.int .i64 q)) (fun e => hne e.symm) A17_16.size
              clear e0 e1 z0 z1
              obtain ⟨W18, hW18⟩ : ∃ X, X = (W17.setCell ⟨B11, 0, none⟩ (.int .i64 p)).setCell ⟨B11, 1, none⟩ (.int .i64 q) := ⟨_, rfl⟩
              rw [← hW18] at R18 T18 TZ18 hH18 ⊢
              clear hW18
              refine wpAnyH_ready (rs := [9]) (by kernel_rfl) (by simp) ?_
              refine AllReadyH.cons (o := { dst := none, op := Go.Op.store 24 (Go.Operand.tmp 8) (Go.Operand.tmp 36), type := 0, pos := "more2.go:31", after := #[{ on := 7, ground := Go.Ground.data }, { on := 5, ground := Go.Ground.data }, { on := 8, ground := Go.Ground.chain }, { on := 0, ground := Go.Ground.phase }, { on := 1, ground := Go.Ground.phase }, { on := 2, ground := Go.Ground.phase }, { on := 3, ground := Go.Ground.phase }, { on := 4, ground := Go.Ground.phase }, { on := 5, ground := Go.Ground.phase }, { on := 6, ground := Go.Ground.phase }, { on := 7, ground := Go.Ground.phase }, { on := 8, ground := Go.Ground.phase }], guard := none }) rfl (fun K hK => ?_) AllReadyH.nil
              · obtain ⟨e0, e1⟩ := T18
                have z0 := TZ18 0 none
                have z1 := TZ18 1 none
                go_simp
                refine hK.out _ _ (SW.out _ _ B16 ((Grew.refl W18).set1 B16 _ _) M16 hH18) (fun hH19 => ?_)
                clear hK K
                have R19 := R18
                refine wpAnyH_done (by kernel_rfl) ?_ _
                go_wp2
                go_meet
                case rel => exact ⟨_, _, rfl, rfl, R19⟩
      · go_simp
        obtain ⟨W20, hW20⟩ : ∃ X, X = W1.alloc (.cells #[.int .i64 0, .int .i64 0] 24) := ⟨_, rfl⟩
        have g20 : Grew W1 W20 := by rw [hW20]; exact (Grew.refl _).alloc _ _
        refine hK.out _ _ (SG.out _ _ ((Grew.refl W1).alloc _ _) hH1) (fun hH20 => ?_)
        clear hK K
        rw [← hW20] at hH20 ⊢
        have G20 : Hid (Grew V W20) := G1.out.trans g20
        have A20_20 : At W20 W1.heap.size 0 0 := by rw [hW20]; constructor <;> simp [go_sem]
        have Z20_20 : Free W20 W1.heap.size := g20.freeB (Nat.le_refl _)
        have M20 : V.heap.size ≤ W1.heap.size := G1.out.size
        obtain ⟨B20, hB20⟩ : ∃ B, W1.heap.size = B := ⟨_, rfl⟩
        rw [hB20] at A20_20 Z20_20 M20 ⊢
        clear hW20 hB20
        refine wpAnyH_ready (rs := [5, 6]) (by kernel_rfl) (by simp) ?_
        refine AllReadyH.cons (o := { dst := some 36, op := Go.Op.call { callee := Go.Callee.value (Go.Operand.func 17), args := #[Go.Operand.tmp 34, Go.Operand.tmp 35], argTypes := #[24, 28] }, type := 24, pos := "more2.go:31", after := #[{ on := 3, ground := Go.Ground.data }, { on := 4, ground := Go.Ground.data }, { on := 2, ground := Go.Ground.chain }], guard := none }) rfl (fun K hK => ?_) (AllReadyH.cons (o := { dst := some 7, op := Go.Op.alloc 24, type := 0, pos := "more2.go:31", after := #[], guard := none }) rfl (fun K hK => ?_) AllReadyH.nil)
        · go_simp
          go_wp2_with (first
            | (go_at_call 17; go_fit (HD.out _); rintro e W21 ⟨rfl, g21⟩))
          refine hK.out _ _ (SG.out _ _ g21 hH20) (fun hH21 => ?_)
          clear hK K
          have G21 : Hid (Grew V W21) := G20.out.trans g21
          have A21_20 := A20_20.grew g21
          have Z21_20 := Z20_20.grew g21
          refine wpAnyH_ready (rs := [6]) (by kernel_rfl) (by simp) ?_
          refine AllReadyH.cons (o := { dst := some 7, op := Go.Op.alloc 24, type := 0, pos := "more2.go:31", after := #[], guard := none }) rfl (fun K hK => ?_) AllReadyH.nil
          · go_simp
            obtain ⟨W22, hW22⟩ : ∃ X, X = W21.alloc (.cells #[.int .i64 0, .int .i64 0] 24) := ⟨_, rfl⟩
            have g22 : Grew W21 W22 := by rw [hW22]; exact (Grew.refl _).alloc _ _
            refine hK.out _ _ (SG.out _ _ ((Grew.refl W21).alloc _ _) hH21) (fun hH22 => ?_)
            clear hK K
            rw [← hW22] at hH22 ⊢
            have G22 : Hid (Grew V W22) := G21.out.trans g22
            have A22_20 := A21_20.grew g22
            have Z22_20 := Z21_20.grew g22
            have E20 : W21.heap.size ≠ B20 := Nat.ne_of_gt A21_20.size
            have A22_22 : At W22 W21.heap.size 0 0 := by rw [hW22]; constructor <;> simp [go_sem]
            have Z22_22 : Free W22 W21.heap.size := g22.freeB (Nat.le_refl _)
            have M22 : V.heap.size ≤ W21.heap.size := G21.out.size
            obtain ⟨B22, hB22⟩ : ∃ B, W21.heap.size = B := ⟨_, rfl⟩
            rw [hB22] at A22_22 Z22_22 M22 E20 ⊢
            clear hW22 hB22
            refine wpAnyH_ready (rs := [8]) (by kernel_rfl) (by simp) ?_
            refine AllReadyH.cons (o := { dst := none, op := Go.Op.store 24 (Go.Operand.tmp 7) (Go.Operand.tmp 33), type := 0, pos := "more2.go:31", after := #[{ on := 6, ground := Go.Ground.data }, { on := 2, ground := Go.Ground.data }, { on := 5, ground := Go.Ground.chain }, { on := 0, ground := Go.Ground.phase }, { on := 1, ground := Go.Ground.phase }, { on := 2, ground := Go.Ground.phase }, { on := 3, ground := Go.Ground.textOnly Go.Departure.lateStores }, { on := 4, ground := Go.Ground.textOnly Go.Departure.lateStores }, { on := 5, ground := Go.Ground.textOnly Go.Departure.lateStoresUnsure }, { on := 6, ground := Go.Ground.phase }, { on := 7, ground := Go.Ground.phase }], guard := none }) rfl (fun K hK => ?_) AllReadyH.nil
            · have hne : B22 ≠ B20 := by omega
              obtain ⟨e0, e1⟩ := A22_22
              have z0 := Z22_22 0 none
              have z1 := Z22_22 1 none
              go_simp
              refine hK.out _ _ (SW.out _ _ B22 ((Grew.refl W22).set1 B22 _ _) M22 hH22) (fun hH23 => ?_)
              clear hK K
              have R23 := laid2 p q r s G22.out M22 M20 hne ⟨e0, e1⟩ A22_20
              have T23 := A22_20.wrote ((Grew.refl W22).set1 B22 (.int .i64 p) (.int .i64 q)) (fun e => hne e.symm)
              have TZ23 := Z22_20.wrote ((Grew.refl W22).set1 B22 (.int .i64 p) (.int .i64 q)) (fun e => hne e.symm) A22_20.size
              clear e0 e1 z0 z1
              obtain ⟨W23, hW23⟩ : ∃ X, X = (W22.setCell ⟨B22, 0, none⟩ (.int .i64 p)).setCell ⟨B22, 1, none⟩ (.int .i64 q) := ⟨_, rfl⟩
              rw [← hW23] at R23 T23 TZ23 hH23 ⊢
              clear hW23
              refine wpAnyH_ready (rs := [9]) (by kernel_rfl) (by simp) ?_
              refine AllReadyH.cons (o := { dst := none, op := Go.Op.store 24 (Go.Operand.tmp 8) (Go.Operand.tmp 36), type := 0, pos := "more2.go:31", after := #[{ on := 7, ground := Go.Ground.data }, { on := 5, ground := Go.Ground.data }, { on := 8, ground := Go.Ground.chain }, { on := 0, ground := Go.Ground.phase }, { on := 1, ground := Go.Ground.phase }, { on := 2, ground := Go.Ground.phase }, { on := 3, ground := Go.Ground.phase }, { on := 4, ground := Go.Ground.phase }, { on := 5, ground := Go.Ground.phase }, { on := 6, ground := Go.Ground.phase }, { on := 7, ground := Go.Ground.phase }, { on := 8, ground := Go.Ground.phase }], guard := none }) rfl (fun K hK => ?_) AllReadyH.nil
              · obtain ⟨e0, e1⟩ := T23
                have z0 := TZ23 0 none
                have z1 := TZ23 1 none
                go_simp
                refine hK.out _ _ (SW.out _ _ B20 ((Grew.refl W23).set1 B20 _ _) M20 hH23) (fun hH24 => ?_)
                clear hK K
                have R24 := R23
                refine wpAnyH_done (by kernel_rfl) ?_ _
                go_wp2
                go_meet
                case rel => exact ⟨_, _, rfl, rfl, R24⟩
        · go_simp
          obtain ⟨W25, hW25⟩ : ∃ X, X = W20.alloc (.cells #[.int .i64 0, .int .i64 0] 24) := ⟨_, rfl⟩
          have g25 : Grew W20 W25 := by rw [hW25]; exact (Grew.refl _).alloc _ _
          refine hK.out _ _ (SG.out _ _ ((Grew.refl W20).alloc _ _) hH20) (fun hH25 => ?_)
          clear hK K
          rw [← hW25] at hH25 ⊢
          have G25 : Hid (Grew V W25) := G20.out.trans g25
          have A25_20 := A20_20.grew g25
          have Z25_20 := Z20_20.grew g25
          have E20 : W20.heap.size ≠ B20 := Nat.ne_of_gt A20_20.size
          have A25_25 : At W25 W20.heap.size 0 0 := by rw [hW25]; constructor <;> simp [go_sem]
          have Z25_25 : Free W25 W20.heap.size := g25.freeB (Nat.le_refl _)
          have M25 : V.heap.size ≤ W20.heap.size := G20.out.size
          obtain ⟨B25, hB25⟩ : ∃ B, W20.heap.size = B := ⟨_, rfl⟩
          rw [hB25] at A25_25 Z25_25 M25 E20 ⊢
          clear hW25 hB25
          refine wpAnyH_ready (rs := [5]) (by kernel_rfl) (by simp) ?_
          refine AllReadyH.cons (o := { dst := some 36, op := Go.Op.call { callee := Go.Callee.value (Go.Operand.func 17), args := #[Go.Operand.tmp 34, Go.Operand.tmp 35], argTypes := #[24, 28] }, type := 24, pos := "more2.go:31", after := #[{ on := 3, ground := Go.Ground.data }, { on := 4, ground := Go.Ground.data }, { on := 2, ground := Go.Ground.chain }], guard := none }) rfl (fun K hK => ?_) AllReadyH.nil
          · go_simp
            go_wp2_with (first
              | (go_at_call 17; go_fit (HD.out _); rintro e W26 ⟨rfl, g26⟩))
            refine hK.out _ _ (SG.out _ _ g26 hH25) (fun hH26 => ?_)
            clear hK K
            have G26 : Hid (Grew V W26) := G25.out.trans g26
            have A26_20 := A25_20.grew g26
            have Z26_20 := Z25_20.grew g26
            have A26_25 := A25_25.grew g26
            have Z26_25 := Z25_25.grew g26
            refine wpAnyH_ready (rs := [8]) (by kernel_rfl) (by simp) ?_
            refine AllReadyH.cons (o := { dst := none, op := Go.Op.store 24 (Go.Operand.tmp 7) (Go.Operand.tmp 33), type := 0, pos := "more2.go:31", after := #[{ on := 6, ground := Go.Ground.data }, { on := 2, ground := Go.Ground.data }, { on := 5, ground := Go.Ground.chain }, { on := 0, ground := Go.Ground.phase }, { on := 1, ground := Go.Ground.phase }, { on := 2, ground := Go.Ground.phase }, { on := 3, ground := Go.Ground.textOnly Go.Departure.lateStores }, { on := 4, ground := Go.Ground.textOnly Go.Departure.lateStores }, { on := 5, ground := Go.Ground.textOnly Go.Departure.lateStoresUnsure }, { on := 6, ground := Go.Ground.phase }, { on := 7, ground := Go.Ground.phase }], guard := none }) rfl (fun K hK => ?_) AllReadyH.nil
            · have hne : B25 ≠ B20 := by omega
              obtain ⟨e0, e1⟩ := A26_25
              have z0 := Z26_25 0 none
              have z1 := Z26_25 1 none
              go_simp
              refine hK.out _ _ (SW.out _ _ B25 ((Grew.refl W26).set1 B25 _ _) M25 hH26) (fun hH27 => ?_)
              clear hK K
              have R27 := laid2 p q r s G26.out M25 M20 hne ⟨e0, e1⟩ A26_20
              have T27 := A26_20.wrote ((Grew.refl W26).set1 B25 (.int .i64 p) (.int .i64 q)) (fun e => hne e.symm)
              have TZ27 := Z26_20.wrote ((Grew.refl W26).set1 B25 (.int .i64 p) (.int .i64 q)) (fun e => hne e.symm) A26_20.size
              clear e0 e1 z0 z1
              obtain ⟨W27, hW27⟩ : ∃ X, X = (W26.setCell ⟨B25, 0, none⟩ (.int .i64 p)).setCell ⟨B25, 1, none⟩ (.int .i64 q) := ⟨_, rfl⟩
              rw [← hW27] at R27 T27 TZ27 hH27 ⊢
              clear hW27
              refine wpAnyH_ready (rs := [9]) (by kernel_rfl) (by simp) ?_
              refine AllReadyH.cons (o := { dst := none, op := Go.Op.store 24 (Go.Operand.tmp 8) (Go.Operand.tmp 36), type := 0, pos := "more2.go:31", after := #[{ on := 7, ground := Go.Ground.data }, { on := 5, ground := Go.Ground.data }, { on := 8, ground := Go.Ground.chain }, { on := 0, ground := Go.Ground.phase }, { on := 1, ground := Go.Ground.phase }, { on := 2, ground := Go.Ground.phase }, { on := 3, ground := Go.Ground.phase }, { on := 4, ground := Go.Ground.phase }, { on := 5, ground := Go.Ground.phase }, { on := 6, ground := Go.Ground.phase }, { on := 7, ground := Go.Ground.phase }, { on := 8, ground := Go.Ground.phase }], guard := none }) rfl (fun K hK => ?_) AllReadyH.nil
              · obtain ⟨e0, e1⟩ := T27
                have z0 := TZ27 0 none
                have z1 := TZ27 1 none
                go_simp
                refine hK.out _ _ (SW.out _ _ B20 ((Grew.refl W27).set1 B20 _ _) M20 hH27) (fun hH28 => ?_)
                clear hK K
                have R28 := R27
                refine wpAnyH_done (by kernel_rfl) ?_ _
                go_wp2
                go_meet
                case rel => exact ⟨_, _, rfl, rfl, R28⟩
    · go_simp
      obtain ⟨W29, hW29⟩ : ∃ X, X = W0.alloc (.cells #[.int .i64 0, .int .i64 0] 24) := ⟨_, rfl⟩
      have g29 : Grew W0 W29 := by rw [hW29]; exact (Grew.refl _).alloc _ _
      refine hK.out _ _ (SG.out _ _ ((Grew.refl W0).alloc _ _) hH0) (fun hH29 => ?_)
      clear hK K
      rw [← hW29] at hH29 ⊢
      have G29 : Hid (Grew V W29) := G0.out.trans g29
      have A29_29 : At W29 W0.heap.size 0 0 := by rw [hW29]; constructor <;> simp [go_sem]
      have Z29_29 : Free W29 W0.heap.size := g29.freeB (Nat.le_refl _)
      have M29 : V.heap.size ≤ W0.heap.size := G0.out.size
      obtain ⟨B29, hB29⟩ : ∃ B, W0.heap.size = B := ⟨_, rfl⟩
      rw [hB29] at A29_29 Z29_29 M29 ⊢
      clear hW29 hB29
      refine wpAnyH_ready (rs := [2, 7]) (by kernel_rfl) (by simp) ?_
      refine AllReadyH.cons (o := { dst := some 33, op := Go.Op.call { callee := Go.Callee.value (Go.Operand.func 17), args := #[Go.Operand.tmp 31, Go.Operand.tmp 32], argTypes := #[24, 28] }, type := 24, pos := "more2.go:31", after := #[{ on := 0, ground := Go.Ground.data }, { on := 1, ground := Go.Ground.data }], guard := none }) rfl (fun K hK => ?_) (AllReadyH.cons (o := { dst := some 8, op := Go.Op.alloc 24, type := 0, pos := "more2.go:31", after := #[], guard := none }) rfl (fun K hK => ?_) AllReadyH.nil)
      · go_simp
        go_wp2_with (first
          | (go_at_call 17; go_fit (HC.out _); rintro e W30 ⟨rfl, g30⟩))
        refine hK.out _ _ (SG.out _ _ g30 hH29) (fun hH30 => ?_)
        clear hK K
        have G30 : Hid (Grew V W30) := G29.out.trans g30
        have A30_29 := A29_29.grew g30
        have Z30_29 := Z29_29.grew g30
        refine wpAnyH_ready (rs := [5, 7]) (by kernel_rfl) (by simp) ?_
        refine AllReadyH.cons (o := { dst := some 36, op := Go.Op.call { callee := Go.Callee.value (Go.Operand.func 17), args := #[Go.Operand.tmp 34, Go.Operand.tmp 35], argTypes := #[24, 28] }, type := 24, pos := "more2.go:31", after := #[{ on := 3, ground := Go.Ground.data }, { on := 4, ground := Go.Ground.data }, { on := 2, ground := Go.Ground.chain }], guard := none }) rfl (fun K hK => ?_) (AllReadyH.cons (o := { dst := some 8, op := Go.Op.alloc 24, type := 0, pos := "more2.go:31", after := #[], guard := none }) rfl (fun K hK => ?_) AllReadyH.nil)
        · go_simp
          go_wp2_with (first
            | (go_at_call 17; go_fit (HD.out _); rintro e W31 ⟨rfl, g31⟩))
          refine hK.out _ _ (SG.out _ _ g31 hH30) (fun hH31 => ?_)
          clear hK K
          have G31 : Hid (Grew V W31) := G30.out.trans g31
          have A31_29 := A30_29.grew g31
          have Z31_29 := Z30_29.grew g31
          refine wpAnyH_ready (rs := [7]) (by kernel_rfl) (by simp) ?_
          refine AllReadyH.cons (o := { dst := some 8, op := Go.Op.alloc 24, type := 0, pos := "more2.go:31", after := #[], guard := none }) rfl (fun K hK => ?_) AllReadyH.nil
          · go_simp
            obtain ⟨W32, hW32⟩ : ∃ X, X = W31.alloc (.cells #[.int .i64 0, .int .i64 0] 24) := ⟨_, rfl⟩
            have g32 : Grew W31 W32 := by rw [hW32]; exact (Grew.refl _).alloc _ _
            refine hK.out _ _ (SG.out _ _ ((Grew.refl W31).alloc _ _) hH31) (fun hH32 => ?_)
            clear hK K
            rw [← hW32] at hH32 ⊢
            have G32 : Hid (Grew V W32) := G31.out.trans g32
            have A32_29 := A31_29.grew g32
            have Z32_29 := Z31_29.grew g32
            have E29 : W31.heap.size ≠ B29 := Nat.ne_of_gt A31_29.size
            have A32_32 : At W32 W31.heap.size 0 0 := by rw [hW32]; constructor <;> simp [go_sem]
            have Z32_32 : Free W32 W31.heap.size := g32.freeB (Nat.le_refl _)
            have M32 : V.heap.size ≤ W31.heap.size := G31.out.size
            obtain ⟨B32, hB32⟩ : ∃ B, W31.heap.size = B := ⟨_, rfl⟩
            rw [hB32] at A32_32 Z32_32 M32 E29 ⊢
            clear hW32 hB32
            refine wpAnyH_ready (rs := [8]) (by kernel_rfl) (by simp) ?_
            refine AllReadyH.cons (o := { dst := none, op := Go.Op.store 24 (Go.Operand.tmp 7) (Go.Operand.tmp 33), type := 0, pos := "more2.go:31", after := #[{ on := 6, ground := Go.Ground.data }, { on := 2, ground := Go.Ground.data }, { on := 5, ground := Go.Ground.chain }, { on := 0, ground := Go.Ground.phase }, { on := 1, ground := Go.Ground.phase }, { on := 2, ground := Go.Ground.phase }, { on := 3, ground := Go.Ground.textOnly Go.Departure.lateStores }, { on := 4, ground := Go.Ground.textOnly Go.Departure.lateStores }, { on := 5, ground := Go.Ground.textOnly Go.Departure.lateStoresUnsure }, { on := 6, ground := Go.Ground.phase }, { on := 7, ground := Go.Ground.phase }], guard := none }) rfl (fun K hK => ?_) AllReadyH.nil
            · have hne : B29 ≠ B32 := by omega
              obtain ⟨e0, e1⟩ := A32_29
              have z0 := Z32_29 0 none
              have z1 := Z32_29 1 none
              go_simp
              refine hK.out _ _ (SW.out _ _ B29 ((Grew.refl W32).set1 B29 _ _) M29 hH32) (fun hH33 => ?_)
              clear hK K
              have R33 := laid2 p q r s G32.out M29 M32 hne ⟨e0, e1⟩ A32_32
              have T33 := A32_32.wrote ((Grew.refl W32).set1 B29 (.int .i64 p) (.int .i64 q)) (fun e => hne e.symm)
              have TZ33 := Z32_32.wrote ((Grew.refl W32).set1 B29 (.int .i64 p) (.int .i64 q)) (fun e => hne e.symm) A32_32.size
              clear e0 e1 z0 z1
              obtain ⟨W33, hW33⟩ : ∃ X, X = (W32.setCell ⟨B29, 0, none⟩ (.int .i64 p)).setCell ⟨B29, 1, none⟩ (.int .i64 q) := ⟨_, rfl⟩
              rw [← hW33] at R33 T33 TZ33 hH33 ⊢
              clear hW33
              refine wpAnyH_ready (rs := [9]) (by kernel_rfl) (by simp) ?_
              refine AllReadyH.cons (o := { dst := none, op := Go.Op.store 24 (Go.Operand.tmp 8) (Go.Operand.tmp 36), type := 0, pos := "more2.go:31", after := #[{ on := 7, ground := Go.Ground.data }, { on := 5, ground := Go.Ground.data }, { on := 8, ground := Go.Ground.chain }, { on := 0, ground := Go.Ground.phase }, { on := 1, ground := Go.Ground.phase }, { on := 2, ground := Go.Ground.phase }, { on := 3, ground := Go.Ground.phase }, { on := 4, ground := Go.Ground.phase }, { on := 5, ground := Go.Ground.phase }, { on := 6, ground := Go.Ground.phase }, { on := 7, ground := Go.Ground.phase }, { on := 8, ground := Go.Ground.phase }], guard := none }) rfl (fun K hK => ?_) AllReadyH.nil
              · obtain ⟨e0, e1⟩ := T33
                have z0 := TZ33 0 none
                have z1 := TZ33 1 none
                go_simp
                refine hK.out _ _ (SW.out _ _ B32 ((Grew.refl W33).set1 B32 _ _) M32 hH33) (fun hH34 => ?_)
                clear hK K
                have R34 := R33
                refine wpAnyH_done (by kernel_rfl) ?_ _
                go_wp2
                go_meet
                case rel => exact ⟨_, _, rfl, rfl, R34⟩
        · go_simp
          obtain ⟨W35, hW35⟩ : ∃ X, X = W30.alloc (.cells #[.int .i64 0, .int .i64 0] 24) := ⟨_, rfl⟩
          have g35 : Grew W30 W35 := by rw [hW35]; exact (Grew.refl _).alloc _ _
          refine hK.out _ _ (SG.out _ _ ((Grew.refl W30).alloc _ _) hH30) (fun hH35 => ?_)
          clear hK K
          rw [← hW35] at hH35 ⊢
          have G35 : Hid (Grew V W35) := G30.out.trans g35
          have A35_29 := A30_29.grew g35
          have Z35_29 := Z30_29.grew g35
          have E29 : W30.heap.size ≠ B29 := Nat.ne_of_gt A30_29.size
          have A35_35 : At W35 W30.heap.size 0 0 := by rw [hW35]; constructor <;> simp [go_sem]
          have Z35_35 : Free W35 W30.heap.size := g35.freeB (Nat.le_refl _)
          have M35 : V.heap.size ≤ W30.heap.size := G30.out.size
          obtain ⟨B35, hB35⟩ : ∃ B, W30.heap.size = B := ⟨_, rfl⟩
          rw [hB35] at A35_35 Z35_35 M35 E29 ⊢
          clear hW35 hB35
          refine wpAnyH_ready (rs := [5]) (by kernel_rfl) (by simp) ?_
          refine AllReadyH.cons (o := { dst := some 36, op := Go.Op.call { callee := Go.Callee.value (Go.Operand.func 17), args := #[Go.Operand.tmp 34, Go.Operand.tmp 35], argTypes := #[24, 28] }, type := 24, pos := "more2.go:31", after := #[{ on := 3, ground := Go.Ground.data }, { on := 4, ground := Go.Ground.data }, { on := 2, ground := Go.Ground.chain }], guard := none }) rfl (fun K hK => ?_) AllReadyH.nil
          · go_simp
            go_wp2_with (first
              | (go_at_call 17; go_fit (HD.out _); rintro e W36 ⟨rfl, g36⟩))
            refine hK.out _ _ (SG.out _ _ g36 hH35) (fun hH36 => ?_)
            clear hK K
            have G36 : Hid (Grew V W36) := G35.out.trans g36
            have A36_29 := A35_29.grew g36
            have Z36_29 := Z35_29.grew g36
            have A36_35 := A35_35.grew g36
            have Z36_35 := Z35_35.grew g36
            refine wpAnyH_ready (rs := [8]) (by kernel_rfl) (by simp) ?_
            refine AllReadyH.cons (o := { dst := none, op := Go.Op.store 24 (Go.Operand.tmp 7) (Go.Operand.tmp 33), type := 0, pos := "more2.go:31", after := #[{ on := 6, ground := Go.Ground.data }, { on := 2, ground := Go.Ground.data }, { on := 5, ground := Go.Ground.chain }, { on := 0, ground := Go.Ground.phase }, { on := 1, ground := Go.Ground.phase }, { on := 2, ground := Go.Ground.phase }, { on := 3, ground := Go.Ground.textOnly Go.Departure.lateStores }, { on := 4, ground := Go.Ground.textOnly Go.Departure.lateStores }, { on := 5, ground := Go.Ground.textOnly Go.Departure.lateStoresUnsure }, { on := 6, ground := Go.Ground.phase }, { on := 7, ground := Go.Ground.phase }], guard := none }) rfl (fun K hK => ?_) AllReadyH.nil
            · have hne : B29 ≠ B35 := by omega
              obtain ⟨e0, e1⟩ := A36_29
              have z0 := Z36_29 0 none
              have z1 := Z36_29 1 none
              go_simp
              refine hK.out _ _ (SW.out _ _ B29 ((Grew.refl W36).set1 B29 _ _) M29 hH36) (fun hH37 => ?_)
              clear hK K
              have R37 := laid2 p q r s G36.out M29 M35 hne ⟨e0, e1⟩ A36_35
              have T37 := A36_35.wrote ((Grew.refl W36).set1 B29 (.int .i64 p) (.int .i64 q)) (fun e => hne e.symm)
              have TZ37 := Z36_35.wrote ((Grew.refl W36).set1 B29 (.int .i64 p) (.int .i64 q)) (fun e => hne e.symm) A36_35.size
              clear e0 e1 z0 z1
              obtain ⟨W37, hW37⟩ : ∃ X, X = (W36.setCell ⟨B29, 0, none⟩ (.int .i64 p)).setCell ⟨B29, 1, none⟩ (.int .i64 q) := ⟨_, rfl⟩
              rw [← hW37] at R37 T37 TZ37 hH37 ⊢
              clear hW37
              refine wpAnyH_ready (rs := [9]) (by kernel_rfl) (by simp) ?_
              refine AllReadyH.cons (o := { dst := none, op := Go.Op.store 24 (Go.Operand.tmp 8) (Go.Operand.tmp 36), type := 0, pos := "more2.go:31", after := #[{ on := 7, ground := Go.Ground.data }, { on := 5, ground := Go.Ground.data }, { on := 8, ground := Go.Ground.chain }, { on := 0, ground := Go.Ground.phase }, { on := 1, ground := Go.Ground.phase }, { on := 2, ground := Go.Ground.phase }, { on := 3, ground := Go.Ground.phase }, { on := 4, ground := Go.Ground.phase }, { on := 5, ground := Go.Ground.phase }, { on := 6, ground := Go.Ground.phase }, { on := 7, ground := Go.Ground.phase }, { on := 8, ground := Go.Ground.phase }], guard := none }) rfl (fun K hK => ?_) AllReadyH.nil
              · obtain ⟨e0, e1⟩ := T37
                have z0 := TZ37 0 none
                have z1 := TZ37 1 none
                go_simp
                refine hK.out _ _ (SW.out _ _ B35 ((Grew.refl W37).set1 B35 _ _) M35 hH37) (fun hH38 => ?_)
                clear hK K
                have R38 := R37
                refine wpAnyH_done (by kernel_rfl) ?_ _
                go_wp2
                go_meet
                case rel => exact ⟨_, _, rfl, rfl, R38⟩
      · go_simp
        obtain ⟨W39, hW39⟩ : ∃ X, X = W29.alloc (.cells #[.int .i64 0, .int .i64 0] 24) := ⟨_, rfl⟩
        have g39 : Grew W29 W39 := by rw [hW39]; exact (Grew.refl _).alloc _ _
        refine hK.out _ _ (SG.out _ _ ((Grew.refl W29).alloc _ _) hH29) (fun hH39 => ?_)
        clear hK K
        rw [← hW39] at hH39 ⊢
        have G39 : Hid (Grew V W39) := G29.out.trans g39
        have A39_29 := A29_29.grew g39
        have Z39_29 := Z29_29.grew g39
        have E29 : W29.heap.size ≠ B29 := Nat.ne_of_gt A29_29.size
        have A39_39 : At W39 W29.heap.size 0 0 := by rw [hW39]; constructor <;> simp [go_sem]
        have Z39_39 : Free W39 W29.heap.size := g39.freeB (Nat.le_refl _)
        have M39 : V.heap.size ≤ W29.heap.size := G29.out.size
        obtain ⟨B39, hB39⟩ : ∃ B, W29.heap.size = B := ⟨_, rfl⟩
        rw [hB39] at A39_39 Z39_39 M39 E29 ⊢
        clear hW39 hB39
        refine wpAnyH_ready (rs := [2]) (by kernel_rfl) (by simp) ?_
        refine AllReadyH.cons (o := { dst := some 33, op := Go.Op.call { callee := Go.Callee.value (Go.Operand.func 17), args := #[Go.Operand.tmp 31, Go.Operand.tmp 32], argTypes := #[24, 28] }, type := 24, pos := "more2.go:31", after := #[{ on := 0, ground := Go.Ground.data }, { on := 1, ground := Go.Ground.data }], guard := none }) rfl (fun K hK => ?_) AllReadyH.nil
        · go_simp
          go_wp2_with (first
            | (go_at_call 17; go_fit (HC.out _); rintro e W40 ⟨rfl, g40⟩))
          refine hK.out _ _ (SG.out _ _ g40 hH39) (fun hH40 => ?_)
          clear hK K
          have G40 : Hid (Grew V W40) := G39.out.trans g40
          have A40_29 := A39_29.grew g40
          have Z40_29 := Z39_29.grew g40
          have A40_39 := A39_39.grew g40
          have Z40_39 := Z39_39.grew g40
          refine wpAnyH_ready (rs := [5]) (by kernel_rfl) (by simp) ?_
          refine AllReadyH.cons (o := { dst := some 36, op := Go.Op.call { callee := Go.Callee.value (Go.Operand.func 17), args := #[Go.Operand.tmp 34, Go.Operand.tmp 35], argTypes := #[24, 28] }, type := 24, pos := "more2.go:31", after := #[{ on := 3, ground := Go.Ground.data }, { on := 4, ground := Go.Ground.data }, { on := 2, ground := Go.Ground.chain }], guard := none }) rfl (fun K hK => ?_) AllReadyH.nil
          · go_simp
            go_wp2_with (first
              | (go_at_call 17; go_fit (HD.out _); rintro e W41 ⟨rfl, g41⟩))
            refine hK.out _ _ (SG.out _ _ g41 hH40) (fun hH41 => ?_)
            clear hK K
            have G41 : Hid (Grew V W41) := G40.out.trans g41
            have A41_29 := A40_29.grew g41
            have Z41_29 := Z40_29.grew g41
            have A41_39 := A40_39.grew g41
            have Z41_39 := Z40_39.grew g41
            refine wpAnyH_ready (rs := [8]) (by kernel_rfl) (by simp) ?_
            refine AllReadyH.cons (o := { dst := none, op := Go.Op.store 24 (Go.Operand.tmp 7) (Go.Operand.tmp 33), type := 0, pos := "more2.go:31", after := #[{ on := 6, ground := Go.Ground.data }, { on := 2, ground := Go.Ground.data }, { on := 5, ground := Go.Ground.chain }, { on := 0, ground := Go.Ground.phase }, { on := 1, ground := Go.Ground.phase }, { on := 2, ground := Go.Ground.phase }, { on := 3, ground := Go.Ground.textOnly Go.Departure.lateStores }, { on := 4, ground := Go.Ground.textOnly Go.Departure.lateStores }, { on := 5, ground := Go.Ground.textOnly Go.Departure.lateStoresUnsure }, { on := 6, ground := Go.Ground.phase }, { on := 7, ground := Go.Ground.phase }], guard := none }) rfl (fun K hK => ?_) AllReadyH.nil
            · have hne : B29 ≠ B39 := by omega
              obtain ⟨e0, e1⟩ := A41_29
              have z0 := Z41_29 0 none
              have z1 := Z41_29 1 none
              go_simp
              refine hK.out _ _ (SW.out _ _ B29 ((Grew.refl W41).set1 B29 _ _) M29 hH41) (fun hH42 => ?_)
              clear hK K
              have R42 := laid2 p q r s G41.out M29 M39 hne ⟨e0, e1⟩ A41_39
              have T42 := A41_39.wrote ((Grew.refl W41).set1 B29 (.int .i64 p) (.int .i64 q)) (fun e => hne e.symm)
              have TZ42 := Z41_39.wrote ((Grew.refl W41).set1 B29 (.int .i64 p) (.int .i64 q)) (fun e => hne e.symm) A41_39.size
              clear e0 e1 z0 z1
              obtain ⟨W42, hW42⟩ : ∃ X, X = (W41.setCell ⟨B29, 0, none⟩ (.int .i64 p)).setCell ⟨B29, 1, none⟩ (.int .i64 q) := ⟨_, rfl⟩
              rw [← hW42] at R42 T42 TZ42 hH42 ⊢
              clear hW42
              refine wpAnyH_ready (rs := [9]) (by kernel_rfl) (by simp) ?_
              refine AllReadyH.cons (o := { dst := none, op := Go.Op.store 24 (Go.Operand.tmp 8) (Go.Operand.tmp 36), type := 0, pos := "more2.go:31", after := #[{ on := 7, ground := Go.Ground.data }, { on := 5, ground := Go.Ground.data }, { on := 8, ground := Go.Ground.chain }, { on := 0, ground := Go.Ground.phase }, { on := 1, ground := Go.Ground.phase }, { on := 2, ground := Go.Ground.phase }, { on := 3, ground := Go.Ground.phase }, { on := 4, ground := Go.Ground.phase }, { on := 5, ground := Go.Ground.phase }, { on := 6, ground := Go.Ground.phase }, { on := 7, ground := Go.Ground.phase }, { on := 8, ground := Go.Ground.phase }], guard := none }) rfl (fun K hK => ?_) AllReadyH.nil
              · obtain ⟨e0, e1⟩ := T42
                have z0 := TZ42 0 none
                have z1 := TZ42 1 none
                go_simp
                refine hK.out _ _ (SW.out _ _ B39 ((Grew.refl W42).set1 B39 _ _) M39 hH42) (fun hH43 => ?_)
                clear hK K
                have R43 := R42
                refine wpAnyH_done (by kernel_rfl) ?_ _
                go_wp2
                go_meet
                case rel => exact ⟨_, _, rfl, rfl, R43⟩
    · go_simp
      obtain ⟨W44, hW44⟩ : ∃ X, X = W0.alloc (.cells #[.int .i64 0, .int .i64 0] 24) := ⟨_, rfl⟩
      have g44 : Grew W0 W44 := by rw [hW44]; exact (Grew.refl _).alloc _ _
      refine hK.out _ _ (SG.out _ _ ((Grew.refl W0).alloc _ _) hH0) (fun hH44 => ?_)
      clear hK K
      rw [← hW44] at hH44 ⊢
      have G44 : Hid (Grew V W44) := G0.out.trans g44
      have A44_44 : At W44 W0.heap.size 0 0 := by rw [hW44]; constructor <;> simp [go_sem]
      have Z44_44 : Free W44 W0.heap.size := g44.freeB (Nat.le_refl _)
      have M44 : V.heap.size ≤ W0.heap.size := G0.out.size
      obtain ⟨B44, hB44⟩ : ∃ B, W0.heap.size = B := ⟨_, rfl⟩
      rw [hB44] at A44_44 Z44_44 M44 ⊢
      clear hW44 hB44
      refine wpAnyH_ready (rs := [2, 6]) (by kernel_rfl) (by simp) ?_
      refine AllReadyH.cons (o := { dst := some 33, op := Go.Op.call { callee := Go.Callee.value (Go.Operand.func 17), args := #[Go.Operand.tmp 31, Go.Operand.tmp 32], argTypes := #[24, 28] }, type := 24, pos := "more2.go:31", after := #[{ on := 0, ground := Go.Ground.data }, { on := 1, ground := Go.Ground.data }], guard := none }) rfl (fun K hK => ?_) (AllReadyH.cons (o := { dst := some 7, op := Go.Op.alloc 24, type := 0, pos := "more2.go:31", after := #[], guard := none }) rfl (fun K hK => ?_) AllReadyH.nil)
      · go_simp
        go_wp2_with (first
          | (go_at_call 17; go_fit (HC.out _); rintro e W45 ⟨rfl, g45⟩))
        refine hK.out _ _ (SG.out _ _ g45 hH44) (fun hH45 => ?_)
        clear hK K
        have G45 : Hid (Grew V W45) := G44.out.trans g45
        have A45_44 := A44_44.grew g45
        have Z45_44 := Z44_44.grew g45
        refine wpAnyH_ready (rs := [5, 6]) (by kernel_rfl) (by simp) ?_
        refine AllReadyH.cons (o := { dst := some 36, op := Go.Op.call { callee := Go.Callee.value (Go.Operand.func 17), args := #[Go.Operand.tmp 34, Go.Operand.tmp 35], argTypes := #[24, 28] }, type := 24, pos := "more2.go:31", after := #[{ on := 3, ground := Go.Ground.data }, { on := 4, ground := Go.Ground.data }, { on := 2, ground := Go.Ground.chain }], guard := none }) rfl (fun K hK => ?_) (AllReadyH.cons (o := { dst := some 7, op := Go.Op.alloc 24, type := 0, pos := "more2.go:31", after := #[], guard := none }) rfl (fun K hK => ?_) AllReadyH.nil)
        · go_simp
          go_wp2_with (first
            | (go_at_call 17; go_fit (HD.out _); rintro e W46 ⟨rfl, g46⟩))
          refine hK.out _ _ (SG.out _ _ g46 hH45) (fun hH46 => ?_)
          clear hK K
          have G46 : Hid (Grew V W46) := G45.out.trans g46
          have A46_44 := A45_44.grew g46
          have Z46_44 := Z45_44.grew g46
          refine wpAnyH_ready (rs := [6]) (by kernel_rfl) (by simp) ?_
          refine AllReadyH.cons (o := { dst := some 7, op := Go.Op.alloc 24, type := 0, pos := "more2.go:31", after := #[], guard := none }) rfl (fun K hK => ?_) AllReadyH.nil
          · go_simp
            obtain ⟨W47, hW47⟩ : ∃ X, X = W46.alloc (.cells #[.int .i64 0, .int .i64 0] 24) := ⟨_, rfl⟩
            have g47 : Grew W46 W47 := by rw [hW47]; exact (Grew.refl _).alloc _ _
            refine hK.out _ _ (SG.out _ _ ((Grew.refl W46).alloc _ _) hH46) (fun hH47 => ?_)
            clear hK K
            rw [← hW47] at hH47 ⊢
            have G47 : Hid (Grew V W47) := G46.out.trans g47
            have A47_44 := A46_44.grew g47
            have Z47_44 := Z46_44.grew g47
            have E44 : W46.heap.size ≠ B44 := Nat.ne_of_gt A46_44.size
            have A47_47 : At W47 W46.heap.size 0 0 := by rw [hW47]; constructor <;> simp [go_sem]
            have Z47_47 : Free W47 W46.heap.size := g47.freeB (Nat.le_refl _)
            have M47 : V.heap.size ≤ W46.heap.size := G46.out.size
            obtain ⟨B47, hB47⟩ : ∃ B, W46.heap.size = B := ⟨_, rfl⟩
            rw [hB47] at A47_47 Z47_47 M47 E44 ⊢
            clear hW47 hB47
            refine wpAnyH_ready (rs := [8]) (by kernel_rfl) (by simp) ?_
            refine AllReadyH.cons (o := { dst := none, op := Go.Op.store 24 (Go.Operand.tmp 7) (Go.Operand.tmp 33), type := 0, pos := "more2.go:31", after := #[{ on := 6, ground := Go.Ground.data }, { on := 2, ground := Go.Ground.data }, { on := 5, ground := Go.Ground.chain }, { on := 0, ground := Go.Ground.phase }, { on := 1, ground := Go.Ground.phase }, { on := 2, ground := Go.Ground.phase }, { on := 3, ground := Go.Ground.textOnly Go.Departure.lateStores }, { on := 4, ground := Go.Ground.textOnly Go.Departure.lateStores }, { on := 5, ground := Go.Ground.textOnly Go.Departure.lateStoresUnsure }, { on := 6, ground := Go.Ground.phase }, { on := 7, ground := Go.Ground.phase }], guard := none }) rfl (fun K hK => ?_) AllReadyH.nil
            · have hne : B47 ≠ B44 := by omega
              obtain ⟨e0, e1⟩ := A47_47
              have z0 := Z47_47 0 none
              have z1 := Z47_47 1 none
              go_simp
              refine hK.out _ _ (SW.out _ _ B47 ((Grew.refl W47).set1 B47 _ _) M47 hH47) (fun hH48 => ?_)
              clear hK K
              have R48 := laid2 p q r s G47.out M47 M44 hne ⟨e0, e1⟩ A47_44
              have T48 := A47_44.wrote ((Grew.refl W47).set1 B47 (.int .i64 p) (.int .i64 q)) (fun e => hne e.symm)
              have TZ48 := Z47_44.wrote ((Grew.refl W47).set1 B47 (.int .i64 p) (.int .i64 q)) (fun e => hne e.symm) A47_44.size
              clear e0 e1 z0 z1
              obtain ⟨W48, hW48⟩ : ∃ X, X = (W47.setCell ⟨B47, 0, none⟩ (.int .i64 p)).setCell ⟨B47, 1, none⟩ (.int .i64 q) := ⟨_, rfl⟩
              rw [← hW48] at R48 T48 TZ48 hH48 ⊢
              clear hW48
              refine wpAnyH_ready (rs := [9]) (by kernel_rfl) (by simp) ?_
              refine AllReadyH.cons (o := { dst := none, op := Go.Op.store 24 (Go.Operand.tmp 8) (Go.Operand.tmp 36), type := 0, pos := "more2.go:31", after := #[{ on := 7, ground := Go.Ground.data }, { on := 5, ground := Go.Ground.data }, { on := 8, ground := Go.Ground.chain }, { on := 0, ground := Go.Ground.phase }, { on := 1, ground := Go.Ground.phase }, { on := 2, ground := Go.Ground.phase }, { on := 3, ground := Go.Ground.phase }, { on := 4, ground := Go.Ground.phase }, { on := 5, ground := Go.Ground.phase }, { on := 6, ground := Go.Ground.phase }, { on := 7, ground := Go.Ground.phase }, { on := 8, ground := Go.Ground.phase }], guard := none }) rfl (fun K hK => ?_) AllReadyH.nil
              · obtain ⟨e0, e1⟩ := T48
                have z0 := TZ48 0 none
                have z1 := TZ48 1 none
                go_simp
                refine hK.out _ _ (SW.out _ _ B44 ((Grew.refl W48).set1 B44 _ _) M44 hH48) (fun hH49 => ?_)
                clear hK K
                have R49 := R48
                refine wpAnyH_done (by kernel_rfl) ?_ _
                go_wp2
                go_meet
                case rel => exact ⟨_, _, rfl, rfl, R49⟩
        · go_simp
          obtain ⟨W50, hW50⟩ : ∃ X, X = W45.alloc (.cells #[.int .i64 0, .int .i64 0] 24) := ⟨_, rfl⟩
          have g50 : Grew W45 W50 := by rw [hW50]; exact (Grew.refl _).alloc _ _
          refine hK.out _ _ (SG.out _ _ ((Grew.refl W45).alloc _ _) hH45) (fun hH50 => ?_)
          clear hK K
          rw [← hW50] at hH50 ⊢
          have G50 : Hid (Grew V W50) := G45.out.trans g50
          have A50_44 := A45_44.grew g50
          have Z50_44 := Z45_44.grew g50
          have E44 : W45.heap.size ≠ B44 := Nat.ne_of_gt A45_44.size
          have A50_50 : At W50 W45.heap.size 0 0 := by rw [hW50]; constructor <;> simp [go_sem]
          have Z50_50 : Free W50 W45.heap.size := g50.freeB (Nat.le_refl _)
          have M50 : V.heap.size ≤ W45.heap.size := G45.out.size
          obtain ⟨B50, hB50⟩ : ∃ B, W45.heap.size = B := ⟨_, rfl⟩
          rw [hB50] at A50_50 Z50_50 M50 E44 ⊢
          clear hW50 hB50
          refine wpAnyH_ready (rs := [5]) (by kernel_rfl) (by simp) ?_
          refine AllReadyH.cons (o := { dst := some 36, op := Go.Op.call { callee := Go.Callee.value (Go.Operand.func 17), args := #[Go.Operand.tmp 34, Go.Operand.tmp 35], argTypes := #[24, 28] }, type := 24, pos := "more2.go:31", after := #[{ on := 3, ground := Go.Ground.data }, { on := 4, ground := Go.Ground.data }, { on := 2, ground := Go.Ground.chain }], guard := none }) rfl (fun K hK => ?_) AllReadyH.nil
          · go_simp
            go_wp2_with (first
              | (go_at_call 17; go_fit (HD.out _); rintro e W51 ⟨rfl, g51⟩))
            refine hK.out _ _ (SG.out _ _ g51 hH50) (fun hH51 => ?_)
            clear hK K
            have G51 : Hid (Grew V W51) := G50.out.trans g51
            have A51_44 := A50_44.grew g51
            have Z51_44 := Z50_44.grew g51
            have A51_50 := A50_50.grew g51
            have Z51_50 := Z50_50.grew g51
            refine wpAnyH_ready (rs := [8]) (by kernel_rfl) (by simp) ?_
            refine AllReadyH.cons (o := { dst := none, op := Go.Op.store 24 (Go.Operand.tmp 7) (Go.Operand.tmp 33), type := 0, pos := "more2.go:31", after := #[{ on := 6, ground := Go.Ground.data }, { on := 2, ground := Go.Ground.data }, { on := 5, ground := Go.Ground.chain }, { on := 0, ground := Go.Ground.phase }, { on := 1, ground := Go.Ground.phase }, { on := 2, ground := Go.Ground.phase }, { on := 3, ground := Go.Ground.textOnly Go.Departure.lateStores }, { on := 4, ground := Go.Ground.textOnly Go.Departure.lateStores }, { on := 5, ground := Go.Ground.textOnly Go.Departure.lateStoresUnsure }, { on := 6, ground := Go.Ground.phase }, { on := 7, ground := Go.Ground.phase }], guard := none }) rfl (fun K hK => ?_) AllReadyH.nil
            · have hne : B50 ≠ B44 := by omega
              obtain ⟨e0, e1⟩ := A51_50
              have z0 := Z51_50 0 none
              have z1 := Z51_50 1 none
              go_simp
              refine hK.out _ _ (SW.out _ _ B50 ((Grew.refl W51).set1 B50 _ _) M50 hH51) (fun hH52 => ?_)
              clear hK K
              have R52 := laid2 p q r s G51.out M50 M44 hne ⟨e0, e1⟩ A51_44
              have T52 := A51_44.wrote ((Grew.refl W51).set1 B50 (.int .i64 p) (.int .i64 q)) (fun e => hne e.symm)
              have TZ52 := Z51_44.wrote ((Grew.refl W51).set1 B50 (.int .i64 p) (.int .i64 q)) (fun e => hne e.symm) A51_44.size
              clear e0 e1 z0 z1
              obtain ⟨W52, hW52⟩ : ∃ X, X = (W51.setCell ⟨B50, 0, none⟩ (.int .i64 p)).setCell ⟨B50, 1, none⟩ (.int .i64 q) := ⟨_, rfl⟩
              rw [← hW52] at R52 T52 TZ52 hH52 ⊢
              clear hW52
              refine wpAnyH_ready (rs := [9]) (by kernel_rfl) (by simp) ?_
              refine AllReadyH.cons (o := { dst := none, op := Go.Op.store 24 (Go.Operand.tmp 8) (Go.Operand.tmp 36), type := 0, pos := "more2.go:31", after := #[{ on := 7, ground := Go.Ground.data }, { on := 5, ground := Go.Ground.data }, { on := 8, ground := Go.Ground.chain }, { on := 0, ground := Go.Ground.phase }, { on := 1, ground := Go.Ground.phase }, { on := 2, ground := Go.Ground.phase }, { on := 3, ground := Go.Ground.phase }, { on := 4, ground := Go.Ground.phase }, { on := 5, ground := Go.Ground.phase }, { on := 6, ground := Go.Ground.phase }, { on := 7, ground := Go.Ground.phase }, { on := 8, ground := Go.Ground.phase }], guard := none }) rfl (fun K hK => ?_) AllReadyH.nil
              · obtain ⟨e0, e1⟩ := T52
                have z0 := TZ52 0 none
                have z1 := TZ52 1 none
                go_simp
                refine hK.out _ _ (SW.out _ _ B44 ((Grew.refl W52).set1 B44 _ _) M44 hH52) (fun hH53 => ?_)
                clear hK K
                have R53 := R52
                refine wpAnyH_done (by kernel_rfl) ?_ _
                go_wp2
                go_meet
                case rel => exact ⟨_, _, rfl, rfl, R53⟩
      · go_simp
        obtain ⟨W54, hW54⟩ : ∃ X, X = W44.alloc (.cells #[.int .i64 0, .int .i64 0] 24) := ⟨_, rfl⟩
        have g54 : Grew W44 W54 := by rw [hW54]; exact (Grew.refl _).alloc _ _
        refine hK.out _ _ (SG.out _ _ ((Grew.refl W44).alloc _ _) hH44) (fun hH54 => ?_)
        clear hK K
        rw [← hW54] at hH54 ⊢
        have G54 : Hid (Grew V W54) := G44.out.trans g54
        have A54_44 := A44_44.grew g54
        have Z54_44 := Z44_44.grew g54
        have E44 : W44.heap.size ≠ B44 := Nat.ne_of_gt A44_44.size
        have A54_54 : At W54 W44.heap.size 0 0 := by rw [hW54]; constructor <;> simp [go_sem]
        have Z54_54 : Free W54 W44.heap.size := g54.freeB (Nat.le_refl _)
        have M54 : V.heap.size ≤ W44.heap.size := G44.out.size
        obtain ⟨B54, hB54⟩ : ∃ B, W44.heap.size = B := ⟨_, rfl⟩
        rw [hB54] at A54_54 Z54_54 M54 E44 ⊢
        clear hW54 hB54
        refine wpAnyH_ready (rs := [2]) (by kernel_rfl) (by simp) ?_
        refine AllReadyH.cons (o := { dst := some 33, op := Go.Op.call { callee := Go.Callee.value (Go.Operand.func 17), args := #[Go.Operand.tmp 31, Go.Operand.tmp 32], argTypes := #[24, 28] }, type := 24, pos := "more2.go:31", after := #[{ on := 0, ground := Go.Ground.data }, { on := 1, ground := Go.Ground.data }], guard := none }) rfl (fun K hK => ?_) AllReadyH.nil
        · go_simp
          go_wp2_with (first
            | (go_at_call 17; go_fit (HC.out _); rintro e W55 ⟨rfl, g55⟩))
          refine hK.out _ _ (SG.out _ _ g55 hH54) (fun hH55 => ?_)
          clear hK K
          have G55 : Hid (Grew V W55) := G54.out.trans g55
          have A55_44 := A54_44.grew g55
          have Z55_44 := Z54_44.grew g55
          have A55_54 := A54_54.grew g55
          have Z55_54 := Z54_54.grew g55
          refine wpAnyH_ready (rs := [5]) (by kernel_rfl) (by simp) ?_
          refine AllReadyH.cons (o := { dst := some 36, op := Go.Op.call { callee := Go.Callee.value (Go.Operand.func 17), args := #[Go.Operand.tmp 34, Go.Operand.tmp 35], argTypes := #[24, 28] }, type := 24, pos := "more2.go:31", after := #[{ on := 3, ground := Go.Ground.data }, { on := 4, ground := Go.Ground.data }, { on := 2, ground := Go.Ground.chain }], guard := none }) rfl (fun K hK => ?_) AllReadyH.nil
          · go_simp
            go_wp2_with (first
              | (go_at_call 17; go_fit (HD.out _); rintro e W56 ⟨rfl, g56⟩))
            refine hK.out _ _ (SG.out _ _ g56 hH55) (fun hH56 => ?_)
            clear hK K
            have G56 : Hid (Grew V W56) := G55.out.trans g56
            have A56_44 := A55_44.grew g56
            have Z56_44 := Z55_44.grew g56
            have A56_54 := A55_54.grew g56
            have Z56_54 := Z55_54.grew g56
            refine wpAnyH_ready (rs := [8]) (by kernel_rfl) (by simp) ?_
            refine AllReadyH.cons (o := { dst := none, op := Go.Op.store 24 (Go.Operand.tmp 7) (Go.Operand.tmp 33), type := 0, pos := "more2.go:31", after := #[{ on := 6, ground := Go.Ground.data }, { on := 2, ground := Go.Ground.data }, { on := 5, ground := Go.Ground.chain }, { on := 0, ground := Go.Ground.phase }, { on := 1, ground := Go.Ground.phase }, { on := 2, ground := Go.Ground.phase }, { on := 3, ground := Go.Ground.textOnly Go.Departure.lateStores }, { on := 4, ground := Go.Ground.textOnly Go.Departure.lateStores }, { on := 5, ground := Go.Ground.textOnly Go.Departure.lateStoresUnsure }, { on := 6, ground := Go.Ground.phase }, { on := 7, ground := Go.Ground.phase }], guard := none }) rfl (fun K hK => ?_) AllReadyH.nil
            · have hne : B54 ≠ B44 := by omega
              obtain ⟨e0, e1⟩ := A56_54
              have z0 := Z56_54 0 none
              have z1 := Z56_54 1 none
              go_simp
              refine hK.out _ _ (SW.out _ _ B54 ((Grew.refl W56).set1 B54 _ _) M54 hH56) (fun hH57 => ?_)
              clear hK K
              have R57 := laid2 p q r s G56.out M54 M44 hne ⟨e0, e1⟩ A56_44
              have T57 := A56_44.wrote ((Grew.refl W56).set1 B54 (.int .i64 p) (.int .i64 q)) (fun e => hne e.symm)
              have TZ57 := Z56_44.wrote ((Grew.refl W56).set1 B54 (.int .i64 p) (.int .i64 q)) (fun e => hne e.symm) A56_44.size
              clear e0 e1 z0 z1
              obtain ⟨W57, hW57⟩ : ∃ X, X = (W56.setCell ⟨B54, 0, none⟩ (.int .i64 p)).setCell ⟨B54, 1, none⟩ (.int .i64 q) := ⟨_, rfl⟩
              rw [← hW57] at R57 T57 TZ57 hH57 ⊢
              clear hW57
              refine wpAnyH_ready (rs := [9]) (by kernel_rfl) (by simp) ?_
              refine AllReadyH.cons (o := { dst := none, op := Go.Op.store 24 (Go.Operand.tmp 8) (Go.Operand.tmp 36), type := 0, pos := "more2.go:31", after := #[{ on := 7, ground := Go.Ground.data }, { on := 5, ground := Go.Ground.data }, { on := 8, ground := Go.Ground.chain }, { on := 0, ground := Go.Ground.phase }, { on := 1, ground := Go.Ground.phase }, { on := 2, ground := Go.Ground.phase }, { on := 3, ground := Go.Ground.phase }, { on := 4, ground := Go.Ground.phase }, { on := 5, ground := Go.Ground.phase }, { on := 6, ground := Go.Ground.phase }, { on := 7, ground := Go.Ground.phase }, { on := 8, ground := Go.Ground.phase }], guard := none }) rfl (fun K hK => ?_) AllReadyH.nil
              · obtain ⟨e0, e1⟩ := T57
                have z0 := TZ57 0 none
                have z1 := TZ57 1 none
                go_simp
                refine hK.out _ _ (SW.out _ _ B44 ((Grew.refl W57).set1 B44 _ _) M44 hH57) (fun hH58 => ?_)
                clear hK K
                have R58 := R57
                refine wpAnyH_done (by kernel_rfl) ?_ _
                go_wp2
                go_meet
                case rel => exact ⟨_, _, rfl, rfl, R58⟩
  obtain ⟨i, j, rfl, rfl, ⟨k0, k1⟩, ⟨k2, k3⟩, hc⟩ := hcut
  replace a0 := hc.cell a0
  replace a1 := hc.cell a1
  replace a2 := hc.cell a2
  replace a3 := hc.cell a3
  replace b0 := hc.cell b0
  replace b1 := hc.cell b1
  replace c0 := hc.cell c0
  replace c1 := hc.cell c1
  have GW : Hid (Grew w wc) := GV.out.trans hc
  clear hc GV HC HD
  go_wp2_with (fail)
  have qSq : Hid (∀ w', Grew wc w' → (w'.cell? ⟨w.heap.size, 0, none⟩ = some (.int .i64 X0.l) ∧ w'.cell? ⟨w.heap.size, 1, none⟩ = some (.int .i64 X0.m) ∧ w'.cell? ⟨w.heap.size, 2, none⟩ = some (.int .i64 X0.h) ∧ w'.cell? ⟨w.heap.size, 3, none⟩ = some (.int .i64 X0.k) ∧ w'.cell? ⟨w.heap.size + 1, 0, none⟩ = some (.int .i64 x1) ∧ w'.cell? ⟨w.heap.size + 1, 1, none⟩ = some (.int .i64 y1) ∧ w'.cell? ⟨w.heap.size + 2, 0, none⟩ = some (.int .i64 x2) ∧ w'.cell? ⟨w.heap.size + 2, 1, none⟩ = some (.int .i64 y2) ∧ w'.cell? ⟨i, 0, none⟩ = some (.int .i64 p) ∧ w'.cell? ⟨i, 1, none⟩ = some (.int .i64 q) ∧ w'.cell? ⟨j, 0, none⟩ = some (.int .i64 r) ∧ w'.cell? ⟨j, 1, none⟩ = some (.int .i64 s))) := fun w' g => ⟨g.cell a0, g.cell a1, g.cell a2, g.cell a3, g.cell b0, g.cell b1, g.cell c0, g.cell c1, g.cell k0, g.cell k1, g.cell k2, g.cell k3⟩
  refine kept_region wc (by kernel_rfl) (by kernel_rfl) ?_
  refine kept_want ?vq0 (by rfl) ?yq0 ?rq0
  case yq0 => (intro w' hG; obtain ⟨q0, q1, q2, q3, q4, q5, q6, q7, q8, q9, q10, q11⟩ := qSq.out w' hG; clear hG; go_simp; try (with_reducible rfl))
  simp only [Act.put, List.setIfInBounds_toArray, List.set_cons_zero, List.set_cons_succ]
  refine kept_want ?vq1 (by rfl) ?yq1 ?rq1
  case yq1 => (intro w' hG; obtain ⟨q0, q1, q2, q3, q4, q5, q6, q7, q8, q9, q10, q11⟩ := qSq.out w' hG; clear hG; go_simp; try (with_reducible rfl))
  simp only [Act.put, List.setIfInBounds_toArray, List.set_cons_zero, List.set_cons_succ]
  refine kept_want ?vq2 (by rfl) ?yq2 ?rq2
  case yq2 => (intro w' hG; obtain ⟨q0, q1, q2, q3, q4, q5, q6, q7, q8, q9, q10, q11⟩ := qSq.out w' hG; clear hG; go_simp; try (with_reducible rfl))
  simp only [Act.put, List.setIfInBounds_toArray, List.set_cons_zero, List.set_cons_succ]
  refine kept_want ?vq3 (by rfl) ?yq3 ?rq3
  case yq3 => (intro w' hG; obtain ⟨q0, q1, q2, q3, q4, q5, q6, q7, q8, q9, q10, q11⟩ := qSq.out w' hG; clear hG; go_simp; try (with_reducible rfl))
  simp only [Act.put, List.setIfInBounds_toArray, List.set_cons_zero, List.set_cons_succ]
  refine kept_want ?vq4 (by rfl) ?yq4 ?rq4
  case yq4 => (intro w' hG; obtain ⟨q0, q1, q2, q3, q4, q5, q6, q7, q8, q9, q10, q11⟩ := qSq.out w' hG; clear hG; go_simp; try (with_reducible rfl))
  simp only [Act.put, List.setIfInBounds_toArray, List.set_cons_zero, List.set_cons_succ]
  refine kept_want ?vq5 (by rfl) ?yq5 ?rq5
  case yq5 => (intro w' hG; go_simp; refine (F1.out _).mono ?_; rintro e w'' ⟨rfl, U⟩; refine ⟨?_, hG.trans U⟩; with_reducible rfl)
  simp only [Act.put, List.setIfInBounds_toArray, List.set_cons_zero, List.set_cons_succ]
  refine kept_want ?vq6 (by rfl) ?yq6 ?rq6
  case yq6 => (intro w' hG; obtain ⟨q0, q1, q2, q3, q4, q5, q6, q7, q8, q9, q10, q11⟩ := qSq.out w' hG; clear hG; go_simp; try (with_reducible rfl))
  simp only [Act.put, List.setIfInBounds_toArray, List.set_cons_zero, List.set_cons_succ]
  refine kept_want ?vq7 (by rfl) ?yq7 ?rq7
  case yq7 => (intro w' hG; obtain ⟨q0, q1, q2, q3, q4, q5, q6, q7, q8, q9, q10, q11⟩ := qSq.out w' hG; clear hG; go_simp; try (with_reducible rfl))
  simp only [Act.put, List.setIfInBounds_toArray, List.set_cons_zero, List.set_cons_succ]
  refine kept_want ?vq8 (by rfl) ?yq8 ?rq8
  case yq8 => (intro w' hG; obtain ⟨q0, q1, q2, q3, q4, q5, q6, q7, q8, q9, q10, q11⟩ := qSq.out w' hG; clear hG; go_simp; try (with_reducible rfl))
  simp only [Act.put, List.setIfInBounds_toArray, List.set_cons_zero, List.set_cons_succ]
  refine kept_want ?vq9 (by rfl) ?yq9 ?rq9
  case yq9 => (intro w' hG; obtain ⟨q0, q1, q2, q3, q4, q5, q6, q7, q8, q9, q10, q11⟩ := qSq.out w' hG; clear hG; go_simp; try (with_reducible rfl))
  simp only [Act.put, List.setIfInBounds_toArray, List.set_cons_zero, List.set_cons_succ]
  refine kept_want ?vq10 (by rfl) ?yq10 ?rq10
  case yq10 => (intro w' hG; obtain ⟨q0, q1, q2, q3, q4, q5, q6, q7, q8, q9, q10, q11⟩ := qSq.out w' hG; clear hG; go_simp; try (with_reducible rfl))
  simp only [Act.put, List.setIfInBounds_toArray, List.set_cons_zero, List.set_cons_succ]
  refine kept_want ?vq11 (by rfl) ?yq11 ?rq11
  case yq11 => (intro w' hG; go_simp; refine (F2.out _).mono ?_; rintro e w'' ⟨rfl, U⟩; refine ⟨?_, hG.trans U⟩; with_reducible rfl)
  simp only [Act.put, List.setIfInBounds_toArray, List.set_cons_zero, List.set_cons_succ]
  refine kept_want ?vq12 (by rfl) ?yq12 ?rq12
  case yq12 => (intro w' hG; obtain ⟨q0, q1, q2, q3, q4, q5, q6, q7, q8, q9, q10, q11⟩ := qSq.out w' hG; clear hG; go_simp; try (with_reducible rfl))
  simp only [Act.put, List.setIfInBounds_toArray, List.set_cons_zero, List.set_cons_succ]
  refine kept_want ?vq13 (by rfl) ?yq13 ?rq13
  case yq13 => (intro w' hG; obtain ⟨q0, q1, q2, q3, q4, q5, q6, q7, q8, q9, q10, q11⟩ := qSq.out w' hG; clear hG; go_simp; try (with_reducible rfl))
  simp only [Act.put, List.setIfInBounds_toArray, List.set_cons_zero, List.set_cons_succ]
  refine kept_want ?vq14 (by rfl) ?yq14 ?rq14
  case yq14 => (intro w' hG; obtain ⟨q0, q1, q2, q3, q4, q5, q6, q7, q8, q9, q10, q11⟩ := qSq.out w' hG; clear hG; go_simp; try (with_reducible rfl))
  simp only [Act.put, List.setIfInBounds_toArray, List.set_cons_zero, List.set_cons_succ]
  refine kept_want ?vq15 (by rfl) ?yq15 ?rq15
  case yq15 => (intro w' hG; obtain ⟨q0, q1, q2, q3, q4, q5, q6, q7, q8, q9, q10, q11⟩ := qSq.out w' hG; clear hG; go_simp; try (with_reducible rfl))
  simp only [Act.put, List.setIfInBounds_toArray, List.set_cons_zero, List.set_cons_succ]
  refine kept_want ?vq16 (by rfl) ?yq16 ?rq16
  case yq16 => (intro w' hG; obtain ⟨q0, q1, q2, q3, q4, q5, q6, q7, q8, q9, q10, q11⟩ := qSq.out w' hG; clear hG; go_simp; try (with_reducible rfl))
  simp only [Act.put, List.setIfInBounds_toArray, List.set_cons_zero, List.set_cons_succ]
  refine kept_want ?vq17 (by rfl) ?yq17 ?rq17
  case yq17 => (intro w' hG; obtain ⟨q0, q1, q2, q3, q4, q5, q6, q7, q8, q9, q10, q11⟩ := qSq.out w' hG; clear hG; go_simp; try (with_reducible rfl))
  simp only [Act.put, List.setIfInBounds_toArray, List.set_cons_zero, List.set_cons_succ]
  refine kept_want ?vq18 (by rfl) ?yq18 ?rq18
  case yq18 => (intro w' hG; obtain ⟨q0, q1, q2, q3, q4, q5, q6, q7, q8, q9, q10, q11⟩ := qSq.out w' hG; clear hG; go_simp; try (with_reducible rfl))
  simp only [Act.put, List.setIfInBounds_toArray, List.set_cons_zero, List.set_cons_succ]
  refine kept_want ?vq19 (by rfl) ?yq19 ?rq19
  case yq19 => (intro w' hG; go_simp; refine (F3.out _).mono ?_; rintro e w'' ⟨rfl, U⟩; refine ⟨?_, hG.trans U⟩; with_reducible rfl)
  simp only [Act.put, List.setIfInBounds_toArray, List.set_cons_zero, List.set_cons_succ]
  refine kept_want ?vq20 (by rfl) ?yq20 ?rq20
  case yq20 => (intro w' hG; obtain ⟨q0, q1, q2, q3, q4, q5, q6, q7, q8, q9, q10, q11⟩ := qSq.out w' hG; clear hG; go_simp; try (with_reducible rfl))
  simp only [Act.put, List.setIfInBounds_toArray, List.set_cons_zero, List.set_cons_succ]
  refine kept_want ?vq21 (by rfl) ?yq21 ?rq21
  case yq21 => (intro w' hG; obtain ⟨q0, q1, q2, q3, q4, q5, q6, q7, q8, q9, q10, q11⟩ := qSq.out w' hG; clear hG; go_simp; try (with_reducible rfl))
  simp only [Act.put, List.setIfInBounds_toArray, List.set_cons_zero, List.set_cons_succ]
  refine kept_want ?vq22 (by rfl) ?yq22 ?rq22
  case yq22 => (intro w' hG; obtain ⟨q0, q1, q2, q3, q4, q5, q6, q7, q8, q9, q10, q11⟩ := qSq.out w' hG; clear hG; go_simp; try (with_reducible rfl))
  simp only [Act.put, List.setIfInBounds_toArray, List.set_cons_zero, List.set_cons_succ]
  refine kept_want ?vq23 (by rfl) ?yq23 ?rq23
  case yq23 => (intro w' hG; obtain ⟨q0, q1, q2, q3, q4, q5, q6, q7, q8, q9, q10, q11⟩ := qSq.out w' hG; clear hG; go_simp; try (with_reducible rfl))
  simp only [Act.put, List.setIfInBounds_toArray, List.set_cons_zero, List.set_cons_succ]
  refine kept_want ?vq24 (by rfl) ?yq24 ?rq24
  case yq24 => (intro w' hG; obtain ⟨q0, q1, q2, q3, q4, q5, q6, q7, q8, q9, q10, q11⟩ := qSq.out w' hG; clear hG; go_simp; try (with_reducible rfl))
  simp only [Act.put, List.setIfInBounds_toArray, List.set_cons_zero, List.set_cons_succ]
  refine kept_want ?vq25 (by rfl) ?yq25 ?rq25
  case yq25 => (intro w' hG; go_simp; refine (F4.out _).mono ?_; rintro e w'' ⟨rfl, U⟩; refine ⟨?_, hG.trans U⟩; with_reducible rfl)
  simp only [Act.put, List.setIfInBounds_toArray, List.set_cons_zero, List.set_cons_succ]
  refine kept_want ?vq26 (by rfl) ?yq26 ?rq26
  case yq26 => (intro w' hG; obtain ⟨q0, q1, q2, q3, q4, q5, q6, q7, q8, q9, q10, q11⟩ := qSq.out w' hG; clear hG; go_simp; try (with_reducible rfl))
  simp only [Act.put, List.setIfInBounds_toArray, List.set_cons_zero, List.set_cons_succ]
  refine kept_want ?vq27 (by rfl) ?yq27 ?rq27
  case yq27 => (intro w' hG; obtain ⟨q0, q1, q2, q3, q4, q5, q6, q7, q8, q9, q10, q11⟩ := qSq.out w' hG; clear hG; go_simp; try (with_reducible rfl))
  simp only [Act.put, List.setIfInBounds_toArray, List.set_cons_zero, List.set_cons_succ]
  refine kept_want ?vq28 (by rfl) ?yq28 ?rq28
  case yq28 => (intro w' hG; obtain ⟨q0, q1, q2, q3, q4, q5, q6, q7, q8, q9, q10, q11⟩ := qSq.out w' hG; clear hG; go_simp; try (with_reducible rfl))
  simp only [Act.put, List.setIfInBounds_toArray, List.set_cons_zero, List.set_cons_succ]
  refine kept_nil ?_
  intro V4 hV4
  clear qSq
  go_wp2
  go_ret
  exact ⟨rfl, (GW.out.trans hV4).grown⟩

set_option maxRecDepth 100000 in
theorem lifted (os : Os) (started : os.Started) (H : Type) (enc : TypeId × Value → H) :
    ReturnsInHanded {} Try.checked os 7 .any (Rows.boundsClampsSpec.pre6 enc Try.prog Try.f7 Rows.boundsClampsRow.domain false) (Rows.boundsClampsSpec.post enc Try.prog Try.f7 false true false false) := by
  refine returnsInHanded_of_change (C := Try.checked) own started (by kernel_rfl) Try.func7
    (ChangeSpec.witness6 (enc := enc) (C := Try.checked) false ⟨#[], #[.agg #[.int .i64 0, .int .i64 0, .int .i64 0, .int .i64 0], .agg #[.int .i64 0, .int .i64 0], .agg #[.int .i64 0, .int .i64 0]], []⟩ 8 (by kernel_rfl) (by kernel_rfl) (by kernel_rfl) (by kernel_rfl)) ?_
  intro W base args ds gs before hval0 hW hcnd _
  have hval : ∀ (j : Nat) t v, Try.f7.params[j]? = some t → args[j]? = some v → Value.okWide Try.prog W .any base t v := hval0
  have hW' := hW
  obtain ⟨p, q, hA0, hV, rfl, hfz, hnd⟩ := hW
  have hA : DataW.TrodAll enc Try.prog W 0 (fun _ => true) true Try.f7.params.toList args.toList ds p := hA0
  rw [Try.params7] at hA hval
  obtain ⟨v0, vs0, d0, ds0, p0, q0, hargs, rfl, rfl, h0, r0⟩ := trodAll_cons hA
  obtain ⟨v1, vs1, d1, ds1, p1, q1, rfl, rfl, rfl, h1, r1⟩ := trodAll_cons r0
  obtain ⟨v2, vs2, d2, ds2, p2, q2, rfl, rfl, rfl, h2, r2⟩ := trodAll_cons r1
  obtain ⟨rfl, rfl, rfl⟩ := trodAll_nil r2
  obtain rfl : args = #[v0, v1, v2] := by cases args; simp_all
  obtain ⟨rfl, rfl⟩ := trodVars_none hV
  obtain ⟨X0, rfl, rfl, rfl, o0⟩ := open_box (hval 0 28 v0 rfl rfl) h0
  obtain ⟨x1, y1, rfl, rfl, rfl, f1, g1⟩ := open_vec (hval 1 24 v1 rfl rfl) h1
  obtain ⟨x2, y2, rfl, rfl, rfl, f2, g2⟩ := open_vec (hval 2 24 v2 rfl rfl) h2
  clear hA0 hval0
  simp only [List.append_nil] at hW'
  refine (walk X0 o0 x1 y1 f1 g1 x2 y2 f2 g2 W).mono fun e W' ⟨he, hg⟩ => ?_
  subst he
  exact ⟨_, rfl, post_of_same (pa := []) (pv := []) hW' (fun _ _ _ => (trodAll_cons_mk (shut_bool Try.underlying4 _) trodAll_mk0)) (fun sp _ => (trodAll_cons_mk (shut_box o0) (trodAll_cons_mk (shut_vec f1 g1) (trodAll_cons_mk (shut_vec f2 g2) trodAll_mk0)))) (fun _ _ => rfl) rfl
    (hg.frame _) hg.2.1 (ok_one (by kernel_rfl) rfl (okWide_bool_mk Try.underlying4 _))⟩

theorem over : Rows.boundsClampsRow.holds Try.pinned (OpenSpec.ofChange Rows.boundsClampsSpec) :=
  OpenClaim.holds_of_wide 7 Try.f7 rfl rfl rfl rfl rfl rfl rfl ⟨rfl, rfl, rfl, rfl, rfl⟩ rfl rfl rfl rfl rfl (by kernel_rfl) Try.func7 (by kernel_rfl)
    (of_decide_eq_true (by kernel_rfl)) (by unfold Func.isWrapper; first | (rw [if_pos (by decide +kernel)]; kernel_rfl) | (rw [if_neg (by decide +kernel)]; exact ⟨rfl, rfl⟩))
    (fun os started H enc _ => lifted os started H enc)

theorem proved : Rows.BoundsClampsSaid :=
  over
end Go.Proofs.Ytlfncfjlfccfhaa.boundsClamps

namespace Go.Proofs.Ytlfncfjlfccfhaa
theorem boundsClamps_holds : Rows.BoundsClampsSaid := boundsClamps.proved
end Go.Proofs.Ytlfncfjlfccfhaa
