/-
  Proved: maquettelaw10.TouchFar returns true for every two bodies a and b and every n (bodies that may be, and whose boxes do not meet, do not touch), and leaves what it was given as it was; no condition.
-/
import Derived.Test.YtjnokjoaphmfkabRows
import Derived.Test.YtjnokjoaphmfkabHAlive
import Derived.Test.YtjnokjoaphmfkabBData
import Derived.Test.YtjnokjoaphmfkabBRef
import Derived.WalkKit
import Derived.Deep.QuietTactic
import Derived.BigQuiet
import Derived.WalkSpells
import Derived.Deep.CutRange
import Derived.Deep.CutBlock
import Derived.WalkLawsBesides
import Derived.ProofKit
import Derived.OpenShut
namespace Go.Proofs.Ytjnokjoaphmfkab.touchFar
open Go.ChangeShapes Go.WideShapes Go.ChangeAt Go.RowKit
set_option linter.unusedVariables false

theorem own : ownKnob Try.prog.godebug = none := by kernel_rfl

def atB (B : Bd) (x y : Int) : Bd := ⟨B.s, B.a, B.b, B.m, x, y, B.u, B.v⟩
theorem far_h (B : Bd) (w : World) :
    Calls Try.prog 6 #[.agg #[.int .i64 B.s, .int .i64 B.a, .int .i64 B.b, .int .i64 B.m, .int .i64 B.p, .int .i64 B.q, .int .i64 B.u, .int .i64 B.v]] w fun e w' => e = .returned (.int .i64 (reachY B)) ∧ Grew w w' := by
  have G : Hid (Grew w (w.alloc (.cells #[.int .i64 B.s, .int .i64 B.a, .int .i64 B.b, .int .i64 B.m, .int .i64 B.p, .int .i64 B.q, .int .i64 B.u, .int .i64 B.v] 26))) := (Grew.refl w).alloc _ _
  by_cases h : B.s = 1
  · rw [reach_ball h]
    have hz : (B.s == 1) = true := by simpa using h
    clear h
    go_enter Try.func6, Try.ntmps6
    go_wp2
    go_ret
    exact ⟨rfl, G.out⟩
  · rw [reach_else h]
    have hz : (B.s == 1) = false := by simpa using h
    clear h
    go_enter Try.func6, Try.ntmps6
    go_wp2
    go_ret
    exact ⟨rfl, G.out⟩
theorem set_place {W V : World} (U : Grew W V) (b : Nat) (p q : Value) : Wrote (fun n => n = b) W ((V.setCell ⟨b, 4, none⟩ p).setCell ⟨b, 5, none⟩ q) := (U.wrote.set (S := fun n => n = b) rfl _ _ _).set (S := fun n => n = b) rfl _ _ _
theorem at_place {V : World} {b : Nat} {B : Bd} (h : BAt V b B) (x y : Int) : BAt ((V.setCell ⟨b, 4, none⟩ (.int .i64 x)).setCell ⟨b, 5, none⟩ (.int .i64 y)) b (atB B x y) := by
  obtain ⟨c0, c1, c2, c3, c4, c5, c6, c7⟩ := h
  constructor <;> simp [go_sem, atB, *]
theorem at_px {V : World} {b : Nat} {B : Bd} (h : BAt V b B) (x : Int) : BAt (V.setCell ⟨b, 4, none⟩ (.int .i64 x)) b (atB B x B.q) := by
  obtain ⟨c0, c1, c2, c3, c4, c5, c6, c7⟩ := h
  constructor <;> simp [go_sem, atB, *]
set_option maxHeartbeats 4000000 in
theorem ask_far (a b n p h q : Nat) (A B B1 : Bd) (N r t : Int) (hA : A.ok) (e1 : B1 = atB B (A.p + A.a + B.a + N) B.q) (o1 : B1.ok) (o2 : (atB B1 A.p (A.q - r - t - N)).ok) (er : reachY A = r) (et : reachY B1 = t)
    (k1 : 0 ≤ A.a ∧ A.a ≤ 8796093022208) (k2 : 0 ≤ B.a ∧ B.a ≤ 8796093022208) (k3 : -42949672960000 ≤ A.p ∧ A.p ≤ 42949672960000) (k4 : -42949672960000 ≤ A.q ∧ A.q ≤ 42949672960000) (k5 : 1 ≤ N ∧ N ≤ 1000) (k6 : 0 ≤ r ∧ r ≤ 8796093022208) (k7 : 0 ≤ t ∧ t ≤ 8796093022208)
    (R1 R2 : Ht) (j1 : hitR A B1 = ((R1, false), 0)) (j2 : hitR A (atB B1 A.p (A.q - r - t - N)) = ((R2, false), 0))
    (ha : a ≠ b ∧ a ≠ p ∧ a ≠ q) (hb : b ≠ p ∧ b ≠ q ∧ b ≠ n ∧ b ≠ h) (hp : p ≠ n ∧ p ≠ h ∧ p ≠ q)
    (W : World) (bA : BAt W a A) (bB : BAt W b B) (cn : W.cell? ⟨n, 0, none⟩ = some (.int .i64 N)) (cp : W.cell? ⟨p, 0, none⟩ = some (.bool false)) (ch : W.cell? ⟨h, 0, none⟩ = some (.func (.func 6) #[] #[])) (cq : W.cell? ⟨q, 0, none⟩ = some (.bool false)) (zb : Free W b) (zp : Free W p) (zq : Free W q) :
    Calls Try.prog 8 #[.pointer (some ⟨a, 0, none⟩), .pointer (some ⟨b, 0, none⟩), .pointer (some ⟨n, 0, none⟩), .pointer (some ⟨p, 0, none⟩), .pointer (some ⟨h, 0, none⟩), .pointer (some ⟨q, 0, none⟩)] W fun e w' =>
      Wrote (fun k => k = b ∨ k = p ∨ k = q) W w' ∧ ∃ x, (e = .returned (.tuple #[]) ∧ x = 0 ∨ e = .panicked [fault x]) ∧ x = 0 ∧ w'.cell? ⟨p, 0, none⟩ = some (.bool false) ∧ w'.cell? ⟨q, 0, none⟩ = some (.bool false) := by
  have C1 : Hid (∀ W, Calls Try.prog 9 #[A.val, B1.val] W fun e w' => e = .returned (.tuple #[.agg #[.int .i64 R1.x, .int .i64 R1.y, .int .i64 R1.d], .bool false]) ∧ Grew W w') := fun W => by
    have := touch_hit A B1 hA o1 W
    rw [j1] at this
    exact this
  have C2 : Hid (∀ W, Calls Try.prog 9 #[A.val, (atB B1 A.p (A.q - r - t - N)).val] W fun e w' => e = .returned (.tuple #[.agg #[.int .i64 R2.x, .int .i64 R2.y, .int .i64 R2.d], .bool false]) ∧ Grew W w') := fun W => by
    have := touch_hit A (atB B1 A.p (A.q - r - t - N)) hA o2 W
    rw [j2] at this
    exact this
  have CA : Hid (∀ W, _) := fun W => far_h A W
  have CB : Hid (∀ W, _) := fun W => far_h B1 W
  rw [er] at CA
  rw [et] at CB
  unfold Bd.val at C1 C2
  have hw0 : IntKind.i64.wrap (IntKind.i64.wrap (IntKind.i64.wrap (A.q - r) - t) - N) = A.q - r - t - N := by
    have w1 : IntKind.i64.wrap (A.q - r) = A.q - r := by rw [IntKind.wrap_i64]; omega
    have w2 : IntKind.i64.wrap (A.q - r - t) = A.q - r - t := by rw [IntKind.wrap_i64]; omega
    have w3 : IntKind.i64.wrap (A.q - r - t - N) = A.q - r - t - N := by rw [IntKind.wrap_i64]; omega
    rw [w1, w2, w3]
  have hw : Hid (_ = _) := hw0
  clear hw0
  have HA : Hid (BAt W a A) := bA
  have HB : Hid (BAt W b B) := bB
  have HN : Hid (W.cell? ⟨n, 0, none⟩ = some (.int .i64 N)) := cn
  have HP : Hid (W.cell? ⟨p, 0, none⟩ = some (.bool false)) := cp
  have HH : Hid (W.cell? ⟨h, 0, none⟩ = some (.func (.func 6) #[] #[])) := ch
  have HQ : Hid (W.cell? ⟨q, 0, none⟩ = some (.bool false)) := cq
  have ZB : Hid (Free W b) := zb
  have ZP : Hid (Free W p) := zp
  have ZQ : Hid (Free W q) := zq
  obtain ⟨a0, a1, a2, a3, a4, a5, a6, a7⟩ := bA
  obtain ⟨b0, b1, b2, b3, b4, b5, b6, b7⟩ := bB
  have z4 := zb 4 none
  clear j1 j2 hA o1 o2 er et cp ch cq zp zq zb
  go_enter Try.func8, Try.ntmps8
  go_upto_region 1 with (fail)
  obtain ⟨M, hM⟩ : ∃ M, M = W.setCell ⟨b, 4, none⟩ (.int .i64 (A.p + A.a + B.a + N)) := ⟨_, rfl⟩
  rw [← hM]
  have KM : Hid (Wrote (fun k => k = b) W M) := by rw [hM]; exact (Wrote.refl _ W).set (S := fun k => k = b) rfl _ _ _
  have zM : Hid (Free M b) := by rw [hM]; exact ZB.out.set _ _
  have hB1 : Hid (BAt M b B1) := by rw [hM, e1]; exact at_px HB.out _
  clear hM a0 a1 a2 a3 a4 a5 a6 a7 b0 b1 b2 b3 b4 b5 b6 b7 z4 e1 cn
  obtain ⟨a0, a1, a2, a3, a4, a5, a6, a7⟩ := HA.out.wrote KM.out (by first | omega | (simp only; omega))
  obtain ⟨b0, b1, b2, b3, b4, b5, b6, b7⟩ := hB1.out
  have cp := KM.out.cell HP.out (by simp only; omega)
  have zp : Free M p := ZP.out.wrote KM.out (by first | omega | (simp only; omega)) (cell_block HP.out)
  go_upto_region 2 with (first
    | (go_at_call 9; go_fit (C1.out _); rintro e V ⟨rfl, U⟩; have v0 := U.cell cp; have y0 := U.frozen (zp 0 none)))
  obtain ⟨M2, hM2⟩ : ∃ M2, M2 = V.setCell ⟨p, 0, none⟩ (.bool false) := ⟨_, rfl⟩
  rw [← hM2]
  have K2 : Wrote (fun k => k = p) M M2 := by rw [hM2]; exact U.wrote.set (S := fun k => k = p) rfl _ _ _
  have K3 : Hid (Wrote (fun k => k = b ∨ k = p ∨ k = q) W M2) := (KM.out.more (fun n h => .inl h)).trans (K2.more (fun n h => .inr (.inl h)))
  have P2 : Hid (M2.cell? ⟨p, 0, none⟩ = some (.bool false)) := by rw [hM2]; exact World.cell?_setCell_same _ _ _ v0
  have hA2 : Hid (BAt M2 a A) := (HA.out.wrote KM.out (by first | omega | (simp only; omega))).wrote K2 (by first | omega | (simp only; omega))
  have hB2 : Hid (BAt M2 b B1) := hB1.out.wrote K2 (by first | omega | (simp only; omega))
  have ln := K2.cell (KM.out.cell HN.out (by simp only; omega)) (by simp only; omega)
  have lh := K2.cell (KM.out.cell HH.out (by simp only; omega)) (by simp only; omega)
  have lq : Hid (M2.cell? ⟨q, 0, none⟩ = some (.bool false)) := K2.cell (KM.out.cell HQ.out (by simp only; omega)) (by simp only; omega)
  have zb : Free M2 b := zM.out.wrote K2 (by first | omega | (simp only; omega)) hB1.out.size
  clear hM2 a0 a1 a2 a3 a4 a5 a6 a7 b0 b1 b2 b3 b4 b5 b6 b7 v0 y0 cp zp U C1
  have hs2 := lq.out
  have zq : Free M2 q := (ZQ.out.wrote KM.out (by first | omega | (simp only; omega)) (cell_block HQ.out)).wrote K2 (by first | omega | (simp only; omega)) (cell_block (KM.out.cell HQ.out (by simp only; omega)))
  clear KM K2 HA HB HN HP HH HQ ZB ZP ZQ hB1 hs2
  go_cut [] from 27 to 44 (fun wx => ∃ V4, Grew M2 V4 ∧ wx = (V4.setCell ⟨b, 4, none⟩ (.int .i64 A.p)).setCell ⟨b, 5, none⟩ (.int .i64 (A.q - r - t - N)))
  case first =>
    obtain ⟨a0, a1, a2, a3, a4, a5, a6, a7⟩ := hA2.out
    clear C2 K3 P2 lq hA2 zq
    have SG : Hid (∀ W W', Grew W W' → (fun w' => w'.cell? ⟨a, 0, none⟩ = some (.int .i64 A.s) ∧ w'.cell? ⟨a, 1, none⟩ = some (.int .i64 A.a) ∧ w'.cell? ⟨a, 2, none⟩ = some (.int .i64 A.b) ∧ w'.cell? ⟨a, 3, none⟩ = some (.int .i64 A.m) ∧ w'.cell? ⟨a, 4, none⟩ = some (.int .i64 A.p) ∧ w'.cell? ⟨a, 5, none⟩ = some (.int .i64 A.q) ∧ w'.cell? ⟨a, 6, none⟩ = some (.int .i64 A.u) ∧ w'.cell? ⟨a, 7, none⟩ = some (.int .i64 A.v) ∧ w'.cell? ⟨h, 0, none⟩ = some (.func (.func 6) #[] #[]) ∧ w'.cell? ⟨n, 0, none⟩ = some (.int .i64 N)) W → (fun w' => w'.cell? ⟨a, 0, none⟩ = some (.int .i64 A.s) ∧ w'.cell? ⟨a, 1, none⟩ = some (.int .i64 A.a) ∧ w'.cell? ⟨a, 2, none⟩ = some (.int .i64 A.b) ∧ w'.cell? ⟨a, 3, none⟩ = some (.int .i64 A.m) ∧ w'.cell? ⟨a, 4, none⟩ = some (.int .i64 A.p) ∧ w'.cell? ⟨a, 5, none⟩ = some (.int .i64 A.q) ∧ w'.cell? ⟨a, 6, none⟩ = some (.int .i64 A.u) ∧ w'.cell? ⟨a, 7, none⟩ = some (.int .i64 A.v) ∧ w'.cell? ⟨h, 0, none⟩ = some (.func (.func 6) #[] #[]) ∧ w'.cell? ⟨n, 0, none⟩ = some (.int .i64 N)) W') := fun W W' g h => ⟨g.cell h.1, g.cell h.2.1, g.cell h.2.2.1, g.cell h.2.2.2.1, g.cell h.2.2.2.2.1, g.cell h.2.2.2.2.2.1, g.cell h.2.2.2.2.2.2.1, g.cell h.2.2.2.2.2.2.2.1, g.cell h.2.2.2.2.2.2.2.2.1, g.cell h.2.2.2.2.2.2.2.2.2⟩
    have SW : Hid (∀ W W', Wrote (fun k => k = b) W W' → (fun w' => w'.cell? ⟨a, 0, none⟩ = some (.int .i64 A.s) ∧ w'.cell? ⟨a, 1, none⟩ = some (.int .i64 A.a) ∧ w'.cell? ⟨a, 2, none⟩ = some (.int .i64 A.b) ∧ w'.cell? ⟨a, 3, none⟩ = some (.int .i64 A.m) ∧ w'.cell? ⟨a, 4, none⟩ = some (.int .i64 A.p) ∧ w'.cell? ⟨a, 5, none⟩ = some (.int .i64 A.q) ∧ w'.cell? ⟨a, 6, none⟩ = some (.int .i64 A.u) ∧ w'.cell? ⟨a, 7, none⟩ = some (.int .i64 A.v) ∧ w'.cell? ⟨h, 0, none⟩ = some (.func (.func 6) #[] #[]) ∧ w'.cell? ⟨n, 0, none⟩ = some (.int .i64 N)) W → (fun w' => w'.cell? ⟨a, 0, none⟩ = some (.int .i64 A.s) ∧ w'.cell? ⟨a, 1, none⟩ = some (.int .i64 A.a) ∧ w'.cell? ⟨a, 2, none⟩ = some (.int .i64 A.b) ∧ w'.cell? ⟨a, 3, none⟩ = some (.int .i64 A.m) ∧ w'.cell? ⟨a, 4, none⟩ = some (.int .i64 A.p) ∧ w'.cell? ⟨a, 5, none⟩ = some (.int .i64 A.q) ∧ w'.cell? ⟨a, 6, none⟩ = some (.int .i64 A.u) ∧ w'.cell? ⟨a, 7, none⟩ = some (.int .i64 A.v) ∧ w'.cell? ⟨h, 0, none⟩ = some (.func (.func 6) #[] #[]) ∧ w'.cell? ⟨n, 0, none⟩ = some (.int .i64 N)) W') := fun W W' g h => ⟨g.cell h.1 (by simp only; omega), g.cell h.2.1 (by simp only; omega), g.cell h.2.2.1 (by simp only; omega), g.cell h.2.2.2.1 (by simp only; omega), g.cell h.2.2.2.2.1 (by simp only; omega), g.cell h.2.2.2.2.2.1 (by simp only; omega), g.cell h.2.2.2.2.2.2.1 (by simp only; omega), g.cell h.2.2.2.2.2.2.2.1 (by simp only; omega), g.cell h.2.2.2.2.2.2.2.2.1 (by simp only; omega), g.cell h.2.2.2.2.2.2.2.2.2 (by simp only; omega)⟩
    refine wp_region_held_drew (S := (fun w' => w'.cell? ⟨a, 0, none⟩ = some (.int .i64 A.s) ∧ w'.cell? ⟨a, 1, none⟩ = some (.int .i64 A.a) ∧ w'.cell? ⟨a, 2, none⟩ = some (.int .i64 A.b) ∧ w'.cell? ⟨a, 3, none⟩ = some (.int .i64 A.m) ∧ w'.cell? ⟨a, 4, none⟩ = some (.int .i64 A.p) ∧ w'.cell? ⟨a, 5, none⟩ = some (.int .i64 A.q) ∧ w'.cell? ⟨a, 6, none⟩ = some (.int .i64 A.u) ∧ w'.cell? ⟨a, 7, none⟩ = some (.int .i64 A.v) ∧ w'.cell? ⟨h, 0, none⟩ = some (.func (.func 6) #[] #[]) ∧ w'.cell? ⟨n, 0, none⟩ = some (.int .i64 N))) (by kernel_rfl) ?_ (fun hH0 => ?_)
    · exact SG.out M2 _ (Grew.refl M2).drew ⟨a0, a1, a2, a3, a4, a5, a6, a7, lh, ln⟩
    clear a0 a1 a2 a3 a4 a5 a6 a7 lh ln
    obtain ⟨W0, hW0⟩ : ∃ W0, W0 = M2.drew := ⟨_, rfl⟩
    rw [← hW0] at hH0 ⊢
    have G0 : Hid (Grew M2 W0) := by rw [hW0]; exact (Grew.refl M2).drew
    have B0 := hB2.out.grew G0.out
    clear hW0
    refine wpAnyH_take (i := 0) (oi := { dst := some 27, op := Go.Op.fieldAddr 26 (Go.Operand.tmp 0) 3, type := 0, pos := "more2.go:61", after := #[], guard := none }) (v := ?vz0) rfl (by kernel_rfl) (by kernel_rfl) (by kernel_rfl) (fun _ _ _ h => h) (Or.inl ⟨by rfl, ?hyz0⟩) (by assumption) ?restz0
    case hyz0 => (intro w hSw; (try dsimp only at hSw); go_simp; try (with_reducible rfl))
    simp only [Act.put, List.setIfInBounds_toArray, List.set_cons_zero, List.set_cons_succ]
    refine wpAnyH_take (i := 1) (oi := { dst := some 28, op := Go.Op.fieldAddr 24 (Go.Operand.tmp 27) 0, type := 0, pos := "more2.go:61", after := #[{ on := 0, ground := Go.Ground.data }], guard := none }) (v := ?vz1) rfl (by kernel_rfl) (by kernel_rfl) (by kernel_rfl) (fun _ _ _ h => h) (Or.inl ⟨by rfl, ?hyz1⟩) (by assumption) ?restz1
    case hyz1 => (intro w hSw; (try dsimp only at hSw); go_simp; try (with_reducible rfl))
    simp only [Act.put, List.setIfInBounds_toArray, List.set_cons_zero, List.set_cons_succ]
    refine wpAnyH_take (i := 2) (oi := { dst := some 29, op := Go.Op.load 22 (Go.Operand.tmp 28), type := 22, pos := "more2.go:61", after := #[{ on := 1, ground := Go.Ground.data }], guard := none }) (v := ?vz2) rfl (by kernel_rfl) (by kernel_rfl) (by kernel_rfl) (fun _ _ _ h => h) (Or.inl ⟨by rfl, ?hyz2⟩) (by assumption) ?restz2
    case hyz2 => (intro w hSw; (try dsimp only at hSw); go_simp; try (with_reducible rfl))
    simp only [Act.put, List.setIfInBounds_toArray, List.set_cons_zero, List.set_cons_succ]
    refine wpAnyH_take (i := 3) (oi := { dst := some 30, op := Go.Op.fieldAddr 26 (Go.Operand.tmp 0) 3, type := 0, pos := "more2.go:61", after := #[], guard := none }) (v := ?vz3) rfl (by kernel_rfl) (by kernel_rfl) (by kernel_rfl) (fun _ _ _ h => h) (Or.inl ⟨by rfl, ?hyz3⟩) (by assumption) ?restz3
    case hyz3 => (intro w hSw; (try dsimp only at hSw); go_simp; try (with_reducible rfl))
    simp only [Act.put, List.setIfInBounds_toArray, List.set_cons_zero, List.set_cons_succ]
    refine wpAnyH_take (i := 4) (oi := { dst := some 31, op := Go.Op.fieldAddr 24 (Go.Operand.tmp 30) 1, type := 0, pos := "more2.go:61", after := #[{ on := 3, ground := Go.Ground.data }], guard := none }) (v := ?vz4) rfl (by kernel_rfl) (by kernel_rfl) (by kernel_rfl) (fun _ _ _ h => h) (Or.inl ⟨by rfl, ?hyz4⟩) (by assumption) ?restz4
    case hyz4 => (intro w hSw; (try dsimp only at hSw); go_simp; try (with_reducible rfl))
    simp only [Act.put, List.setIfInBounds_toArray, List.set_cons_zero, List.set_cons_succ]
    refine wpAnyH_take (i := 5) (oi := { dst := some 32, op := Go.Op.load 22 (Go.Operand.tmp 31), type := 22, pos := "more2.go:61", after := #[{ on := 4, ground := Go.Ground.data }], guard := none }) (v := ?vz5) rfl (by kernel_rfl) (by kernel_rfl) (by kernel_rfl) (fun _ _ _ h => h) (Or.inl ⟨by rfl, ?hyz5⟩) (by assumption) ?restz5
    case hyz5 => (intro w hSw; (try dsimp only at hSw); go_simp; try (with_reducible rfl))
    simp only [Act.put, List.setIfInBounds_toArray, List.set_cons_zero, List.set_cons_succ]
    refine wpAnyH_take (i := 6) (oi := { dst := some 33, op := Go.Op.load 29 (Go.Operand.tmp 4), type := 29, pos := "more2.go:61", after := #[], guard := none }) (v := ?vz6) rfl (by kernel_rfl) (by kernel_rfl) (by kernel_rfl) (fun _ _ _ h => h) (Or.inl ⟨by rfl, ?hyz6⟩) (by assumption) ?restz6
    case hyz6 => (intro w hSw; (try dsimp only at hSw); go_simp; try (with_reducible rfl))
    simp only [Act.put, List.setIfInBounds_toArray, List.set_cons_zero, List.set_cons_succ]
    refine wpAnyH_take (i := 7) (oi := { dst := some 34, op := Go.Op.load 26 (Go.Operand.tmp 0), type := 26, pos := "more2.go:61", after := #[], guard := none }) (v := ?vz7) rfl (by kernel_rfl) (by kernel_rfl) (by kernel_rfl) (fun _ _ _ h => h) (Or.inl ⟨by rfl, ?hyz7⟩) (by assumption) ?restz7
    case hyz7 => (intro w hSw; (try dsimp only at hSw); go_simp; try (with_reducible rfl))
    simp only [Act.put, List.setIfInBounds_toArray, List.set_cons_zero, List.set_cons_succ]
    refine wpAnyH_take (i := 10) (oi := { dst := some 37, op := Go.Op.load 29 (Go.Operand.tmp 4), type := 29, pos := "more2.go:61", after := #[], guard := none }) (v := ?vz10) rfl (by kernel_rfl) (by kernel_rfl) (by kernel_rfl) (fun _ _ _ h => h) (Or.inl ⟨by rfl, ?hyz10⟩) (by assumption) ?restz10
    case hyz10 => (intro w hSw; (try dsimp only at hSw); go_simp; try (with_reducible rfl))
    simp only [Act.put, List.setIfInBounds_toArray, List.set_cons_zero, List.set_cons_succ]
    refine wpAnyH_take (i := 14) (oi := { dst := some 41, op := Go.Op.load 3 (Go.Operand.tmp 2), type := 3, pos := "more2.go:61", after := #[], guard := none }) (v := ?vz14) rfl (by kernel_rfl) (by kernel_rfl) (by kernel_rfl) (fun _ _ _ h => h) (Or.inl ⟨by rfl, ?hyz14⟩) (by assumption) ?restz14
    case hyz14 => (intro w hSw; (try dsimp only at hSw); go_simp; try (with_reducible rfl))
    simp only [Act.put, List.setIfInBounds_toArray, List.set_cons_zero, List.set_cons_succ]
    refine wpAnyH_ready (rs := [8, 11]) (by kernel_rfl) (by simp) ?_
    refine AllReadyH.cons (o := { dst := some 35, op := Go.Op.call { callee := Go.Callee.value (Go.Operand.tmp 33), args := #[Go.Operand.tmp 34], argTypes := #[26] }, type := 22, pos := "more2.go:61", after := #[{ on := 6, ground := Go.Ground.data }, { on := 7, ground := Go.Ground.data }], guard := none }) rfl (fun K hK => ?_) (AllReadyH.cons (o := { dst := some 38, op := Go.Op.load 26 (Go.Operand.tmp 1), type := 26, pos := "more2.go:61", after := #[], guard := none }) rfl (fun K hK => ?_) AllReadyH.nil)
    · go_simp
      go_wp2_with (first
        | (go_at_call 6; go_fit (CA.out _); rintro e W1 ⟨rfl, g1⟩))
      refine hK.out _ _ (SG.out _ _ g1 hH0) (fun hH1 => ?_)
      clear hK K
      have G1 : Hid (Grew M2 W1) := G0.out.trans g1
      have B1 := B0.grew g1
      refine wpAnyH_take (i := 9) (oi := { dst := some 36, op := Go.Op.binOp Go.BinOp.sub 22 (Go.Operand.tmp 32) (Go.Operand.tmp 35) 22, type := 22, pos := "more2.go:61", after := #[{ on := 5, ground := Go.Ground.data }, { on := 8, ground := Go.Ground.data }], guard := none }) (v := ?vp19) rfl (by kernel_rfl) (by kernel_rfl) (by kernel_rfl) (fun _ _ _ h => h) (Or.inl ⟨by rfl, ?hyp19⟩) (by assumption) ?restp19
      case hyp19 => (intro w hSw; (try dsimp only at hSw); go_simp; try (with_reducible rfl))
      simp only [Act.put, List.setIfInBounds_toArray, List.set_cons_zero, List.set_cons_succ]
      refine wpAnyH_ready (rs := [11]) (by kernel_rfl) (by simp) ?_
      refine AllReadyH.cons (o := { dst := some 38, op := Go.Op.load 26 (Go.Operand.tmp 1), type := 26, pos := "more2.go:61", after := #[], guard := none }) rfl (fun K hK => ?_) AllReadyH.nil
      · obtain ⟨b0, b1, b2, b3, b4, b5, b6, b7⟩ := B1
        go_simp
        refine hK.out _ _ hH1 (fun _ => ?_)
        clear hK K
        have B1 : BAt W1 b B1 := ⟨b0, b1, b2, b3, b4, b5, b6, b7⟩
        clear b0 b1 b2 b3 b4 b5 b6 b7
        refine wpAnyH_ready (rs := [12]) (by kernel_rfl) (by simp) ?_
        refine AllReadyH.cons (o := { dst := some 39, op := Go.Op.call { callee := Go.Callee.value (Go.Operand.tmp 37), args := #[Go.Operand.tmp 38], argTypes := #[26] }, type := 22, pos := "more2.go:61", after := #[{ on := 10, ground := Go.Ground.data }, { on := 11, ground := Go.Ground.data }, { on := 8, ground := Go.Ground.chain }], guard := none }) rfl (fun K hK => ?_) AllReadyH.nil
        · go_simp
          go_wp2_with (first
            | (go_at_call 6; go_fit (CB.out _); rintro e W3 ⟨rfl, g3⟩))
          refine hK.out _ _ (SG.out _ _ g3 hH1) (fun hH3 => ?_)
          clear hK K
          have G3 : Hid (Grew M2 W3) := G1.out.trans g3
          have B3 := B1.grew g3
          refine wpAnyH_take (i := 13) (oi := { dst := some 40, op := Go.Op.binOp Go.BinOp.sub 22 (Go.Operand.tmp 36) (Go.Operand.tmp 39) 22, type := 22, pos := "more2.go:61", after := #[{ on := 9, ground := Go.Ground.data }, { on := 12, ground := Go.Ground.data }], guard := none }) (v := ?vp313) rfl (by kernel_rfl) (by kernel_rfl) (by kernel_rfl) (fun _ _ _ h => h) (Or.inl ⟨by rfl, ?hyp313⟩) (by assumption) ?restp313
          case hyp313 => (intro w hSw; (try dsimp only at hSw); go_simp; try (with_reducible rfl))
          simp only [Act.put, List.setIfInBounds_toArray, List.set_cons_zero, List.set_cons_succ]
          refine wpAnyH_take (i := 15) (oi := { dst := some 42, op := Go.Op.binOp Go.BinOp.sub 22 (Go.Operand.tmp 40) (Go.Operand.tmp 41) 22, type := 22, pos := "more2.go:61", after := #[{ on := 13, ground := Go.Ground.data }, { on := 14, ground := Go.Ground.data }], guard := none }) (v := ?vp315) rfl (by kernel_rfl) (by kernel_rfl) (by kernel_rfl) (fun _ _ _ h => h) (Or.inl ⟨by rfl, ?hyp315⟩) (by assumption) ?restp315
          case hyp315 => (intro w hSw; (try dsimp only at hSw); go_simp; try (with_reducible rfl))
          simp only [Act.put, List.setIfInBounds_toArray, List.set_cons_zero, List.set_cons_succ]
          refine wpAnyH_take (i := 16) (oi := { dst := some 43, op := Go.Op.build 24 #[(0, Go.Operand.tmp 29), (1, Go.Operand.tmp 42)], type := 24, pos := "more2.go:61", after := #[{ on := 2, ground := Go.Ground.data }, { on := 15, ground := Go.Ground.data }], guard := none }) (v := ?vp316) rfl (by kernel_rfl) (by kernel_rfl) (by kernel_rfl) (fun _ _ _ h => h) (Or.inl ⟨by rfl, ?hyp316⟩) (by assumption) ?restp316
          case hyp316 => (intro w hSw; (try dsimp only at hSw); go_simp; try (with_reducible rfl))
          simp only [Act.put, List.setIfInBounds_toArray, List.set_cons_zero, List.set_cons_succ]
          refine wpAnyH_take (i := 17) (oi := { dst := some 44, op := Go.Op.fieldAddr 26 (Go.Operand.tmp 1) 3, type := 0, pos := "more2.go:61", after := #[{ on := 0, ground := Go.Ground.phase }, { on := 1, ground := Go.Ground.phase }, { on := 2, ground := Go.Ground.phase }, { on := 3, ground := Go.Ground.phase }, { on := 4, ground := Go.Ground.phase }, { on := 5, ground := Go.Ground.phase }, { on := 6, ground := Go.Ground.phase }, { on := 7, ground := Go.Ground.phase }, { on := 8, ground := Go.Ground.phase }, { on := 9, ground := Go.Ground.phase }, { on := 10, ground := Go.Ground.phase }, { on := 11, ground := Go.Ground.phase }, { on := 12, ground := Go.Ground.phase }, { on := 13, ground := Go.Ground.phase }, { on := 14, ground := Go.Ground.phase }, { on := 15, ground := Go.Ground.phase }, { on := 16, ground := Go.Ground.phase }], guard := none }) (v := ?vp317) rfl (by kernel_rfl) (by kernel_rfl) (by kernel_rfl) (fun _ _ _ h => h) (Or.inl ⟨by rfl, ?hyp317⟩) (by assumption) ?restp317
          case hyp317 => (intro w hSw; (try dsimp only at hSw); go_simp; try (with_reducible rfl))
          simp only [Act.put, List.setIfInBounds_toArray, List.set_cons_zero, List.set_cons_succ]
          refine wpAnyH_ready (rs := [18]) (by kernel_rfl) (by simp) ?_
          refine AllReadyH.cons (o := { dst := none, op := Go.Op.store 24 (Go.Operand.tmp 44) (Go.Operand.tmp 43), type := 0, pos := "more2.go:61", after := #[{ on := 17, ground := Go.Ground.data }, { on := 16, ground := Go.Ground.data }, { on := 12, ground := Go.Ground.chain }, { on := 0, ground := Go.Ground.phase }, { on := 1, ground := Go.Ground.phase }, { on := 2, ground := Go.Ground.phase }, { on := 3, ground := Go.Ground.phase }, { on := 4, ground := Go.Ground.phase }, { on := 5, ground := Go.Ground.phase }, { on := 6, ground := Go.Ground.phase }, { on := 7, ground := Go.Ground.phase }, { on := 8, ground := Go.Ground.phase }, { on := 9, ground := Go.Ground.phase }, { on := 10, ground := Go.Ground.phase }, { on := 11, ground := Go.Ground.phase }, { on := 12, ground := Go.Ground.phase }, { on := 13, ground := Go.Ground.phase }, { on := 14, ground := Go.Ground.phase }, { on := 15, ground := Go.Ground.phase }, { on := 16, ground := Go.Ground.phase }], guard := none }) rfl (fun K hK => ?_) AllReadyH.nil
          · obtain ⟨b0, b1, b2, b3, b4, b5, b6, b7⟩ := B3
            have z0 := zb.grew G3.out 4 none
            have z1 := zb.grew G3.out 5 none
            go_simp
            refine hK.out _ _ (SW.out _ _ (set_place (Grew.refl W3) b _ _) hH3) (fun _ => ?_)
            clear hK K
            refine wpAnyH_done (by kernel_rfl) ?_ _
            go_wp2_with (fail)
            go_meet
            case rel => exact ⟨_, G3.out, by rw [hw.out]⟩
    · obtain ⟨b0, b1, b2, b3, b4, b5, b6, b7⟩ := B0
      go_simp
      refine hK.out _ _ hH0 (fun _ => ?_)
      clear hK K
      have B0 : BAt W0 b B1 := ⟨b0, b1, b2, b3, b4, b5, b6, b7⟩
      clear b0 b1 b2 b3 b4 b5 b6 b7
      refine wpAnyH_ready (rs := [8]) (by kernel_rfl) (by simp) ?_
      refine AllReadyH.cons (o := { dst := some 35, op := Go.Op.call { callee := Go.Callee.value (Go.Operand.tmp 33), args := #[Go.Operand.tmp 34], argTypes := #[26] }, type := 22, pos := "more2.go:61", after := #[{ on := 6, ground := Go.Ground.data }, { on := 7, ground := Go.Ground.data }], guard := none }) rfl (fun K hK => ?_) AllReadyH.nil
      · go_simp
        go_wp2_with (first
          | (go_at_call 6; go_fit (CA.out _); rintro e W6 ⟨rfl, g6⟩))
        refine hK.out _ _ (SG.out _ _ g6 hH0) (fun hH6 => ?_)
        clear hK K
        have G6 : Hid (Grew M2 W6) := G0.out.trans g6
        have B6 := B0.grew g6
        refine wpAnyH_take (i := 9) (oi := { dst := some 36, op := Go.Op.binOp Go.BinOp.sub 22 (Go.Operand.tmp 32) (Go.Operand.tmp 35) 22, type := 22, pos := "more2.go:61", after := #[{ on := 5, ground := Go.Ground.data }, { on := 8, ground := Go.Ground.data }], guard := none }) (v := ?vp69) rfl (by kernel_rfl) (by kernel_rfl) (by kernel_rfl) (fun _ _ _ h => h) (Or.inl ⟨by rfl, ?hyp69⟩) (by assumption) ?restp69
        case hyp69 => (intro w hSw; (try dsimp only at hSw); go_simp; try (with_reducible rfl))
        simp only [Act.put, List.setIfInBounds_toArray, List.set_cons_zero, List.set_cons_succ]
        refine wpAnyH_ready (rs := [12]) (by kernel_rfl) (by simp) ?_
        refine AllReadyH.cons (o := { dst := some 39, op := Go.Op.call { callee := Go.Callee.value (Go.Operand.tmp 37), args := #[Go.Operand.tmp 38], argTypes := #[26] }, type := 22, pos := "more2.go:61", after := #[{ on := 10, ground := Go.Ground.data }, { on := 11, ground := Go.Ground.data }, { on := 8, ground := Go.Ground.chain }], guard := none }) rfl (fun K hK => ?_) AllReadyH.nil
        · go_simp
          go_wp2_with (first
            | (go_at_call 6; go_fit (CB.out _); rintro e W7 ⟨rfl, g7⟩))
          refine hK.out _ _ (SG.out _ _ g7 hH6) (fun hH7 => ?_)
          clear hK K
          have G7 : Hid (Grew M2 W7) := G6.out.trans g7
          have B7 := B6.grew g7
          refine wpAnyH_take (i := 13) (oi := { dst := some 40, op := Go.Op.binOp Go.BinOp.sub 22 (Go.Operand.tmp 36) (Go.Operand.tmp 39) 22, type := 22, pos := "more2.go:61", after := #[{ on := 9, ground := Go.Ground.data }, { on := 12, ground := Go.Ground.data }], guard := none }) (v := ?vp713) rfl (by kernel_rfl) (by kernel_rfl) (by kernel_rfl) (fun _ _ _ h => h) (Or.inl ⟨by rfl, ?hyp713⟩) (by assumption) ?restp713
          case hyp713 => (intro w hSw; (try dsimp only at hSw); go_simp; try (with_reducible rfl))
          simp only [Act.put, List.setIfInBounds_toArray, List.set_cons_zero, List.set_cons_succ]
          refine wpAnyH_take (i := 15) (oi := { dst := some 42, op := Go.Op.binOp Go.BinOp.sub 22 (Go.Operand.tmp 40) (Go.Operand.tmp 41) 22, type := 22, pos := "more2.go:61", after := #[{ on := 13, ground := Go.Ground.data }, { on := 14, ground := Go.Ground.data }], guard := none }) (v := ?vp715) rfl (by kernel_rfl) (by kernel_rfl) (by kernel_rfl) (fun _ _ _ h => h) (Or.inl ⟨by rfl, ?hyp715⟩) (by assumption) ?restp715
          case hyp715 => (intro w hSw; (try dsimp only at hSw); go_simp; try (with_reducible rfl))
          simp only [Act.put, List.setIfInBounds_toArray, List.set_cons_zero, List.set_cons_succ]
          refine wpAnyH_take (i := 16) (oi := { dst := some 43, op := Go.Op.build 24 #[(0, Go.Operand.tmp 29), (1, Go.Operand.tmp 42)], type := 24, pos := "more2.go:61", after := #[{ on := 2, ground := Go.Ground.data }, { on := 15, ground := Go.Ground.data }], guard := none }) (v := ?vp716) rfl (by kernel_rfl) (by kernel_rfl) (by kernel_rfl) (fun _ _ _ h => h) (Or.inl ⟨by rfl, ?hyp716⟩) (by assumption) ?restp716
          case hyp716 => (intro w hSw; (try dsimp only at hSw); go_simp; try (with_reducible rfl))
          simp only [Act.put, List.setIfInBounds_toArray, List.set_cons_zero, List.set_cons_succ]
          refine wpAnyH_take (i := 17) (oi := { dst := some 44, op := Go.Op.fieldAddr 26 (Go.Operand.tmp 1) 3, type := 0, pos := "more2.go:61", after := #[{ on := 0, ground := Go.Ground.phase }, { on := 1, ground := Go.Ground.phase }, { on := 2, ground := Go.Ground.phase }, { on := 3, ground := Go.Ground.phase }, { on := 4, ground := Go.Ground.phase }, { on := 5, ground := Go.Ground.phase }, { on := 6, ground := Go.Ground.phase }, { on := 7, ground := Go.Ground.phase }, { on := 8, ground := Go.Ground.phase }, { on := 9, ground := Go.Ground.phase }, { on := 10, ground := Go.Ground.phase }, { on := 11, ground := Go.Ground.phase }, { on := 12, ground := Go.Ground.phase }, { on := 13, ground := Go.Ground.phase }, { on := 14, ground := Go.Ground.phase }, { on := 15, ground := Go.Ground.phase }, { on := 16, ground := Go.Ground.phase }], guard := none }) (v := ?vp717) rfl (by kernel_rfl) (by kernel_rfl) (by kernel_rfl) (fun _ _ _ h => h) (Or.inl ⟨by rfl, ?hyp717⟩) (by assumption) ?restp717
          case hyp717 => (intro w hSw; (try dsimp only at hSw); go_simp; try (with_reducible rfl))
          simp only [Act.put, List.setIfInBounds_toArray, List.set_cons_zero, List.set_cons_succ]
          refine wpAnyH_ready (rs := [18]) (by kernel_rfl) (by simp) ?_
          refine AllReadyH.cons (o := { dst := none, op := Go.Op.store 24 (Go.Operand.tmp 44) (Go.Operand.tmp 43), type := 0, pos := "more2.go:61", after := #[{ on := 17, ground := Go.Ground.data }, { on := 16, ground := Go.Ground.data }, { on := 12, ground := Go.Ground.chain }, { on := 0, ground := Go.Ground.phase }, { on := 1, ground := Go.Ground.phase }, { on := 2, ground := Go.Ground.phase }, { on := 3, ground := Go.Ground.phase }, { on := 4, ground := Go.Ground.phase }, { on := 5, ground := Go.Ground.phase }, { on := 6, ground := Go.Ground.phase }, { on := 7, ground := Go.Ground.phase }, { on := 8, ground := Go.Ground.phase }, { on := 9, ground := Go.Ground.phase }, { on := 10, ground := Go.Ground.phase }, { on := 11, ground := Go.Ground.phase }, { on := 12, ground := Go.Ground.phase }, { on := 13, ground := Go.Ground.phase }, { on := 14, ground := Go.Ground.phase }, { on := 15, ground := Go.Ground.phase }, { on := 16, ground := Go.Ground.phase }], guard := none }) rfl (fun K hK => ?_) AllReadyH.nil
          · obtain ⟨b0, b1, b2, b3, b4, b5, b6, b7⟩ := B7
            have z0 := zb.grew G7.out 4 none
            have z1 := zb.grew G7.out 5 none
            go_simp
            refine hK.out _ _ (SW.out _ _ (set_place (Grew.refl W7) b _ _) hH7) (fun _ => ?_)
            clear hK K
            refine wpAnyH_done (by kernel_rfl) ?_ _
            go_wp2_with (fail)
            go_meet
            case rel => exact ⟨_, G7.out, by rw [hw.out]⟩
  obtain ⟨V4, G4, rfl⟩ := hcut
  have K4 := set_place G4 b (.int .i64 A.p) (.int .i64 (A.q - r - t - N))
  have hB3 := at_place (hB2.out.grew G4) A.p (A.q - r - t - N)
  generalize (V4.setCell ⟨b, 4, none⟩ (.int .i64 A.p)).setCell ⟨b, 5, none⟩ (.int .i64 (A.q - r - t - N)) = M3 at *
  obtain ⟨a0, a1, a2, a3, a4, a5, a6, a7⟩ := hA2.out.wrote K4 (by first | omega | (simp only; omega))
  unfold atB at hB3 C2
  obtain ⟨b0, b1, b2, b3, b4, b5, b6, b7⟩ := hB3
  simp only at b0 b1 b2 b3 b4 b5 b6 b7 C2
  have cq := K4.cell lq.out (by simp only; omega)
  have P3 : Hid (M3.cell? ⟨p, 0, none⟩ = some (.bool false)) := K4.cell P2.out (by simp only; omega)
  have zq3 : Free M3 q := zq.wrote K4 (by first | omega | (simp only; omega)) (cell_block lq.out)
  have K5 : Hid (Wrote (fun k => k = b ∨ k = p ∨ k = q) W M3) := K3.out.trans (K4.more (fun n h => .inl h))
  clear hA2 hB2 K3 P2 lq zq zb ln lh G4 K4 CA CB
  go_wp2_with (first
    | (go_at_call 9; go_fit (C2.out _); rintro e V5 ⟨rfl, U5⟩; have v0 := U5.cell cq; have y0 := U5.frozen (zq3 0 none)))
  go_end0
  have K6 : Wrote (fun k => k = q) M3 (V5.setCell ⟨q, 0, none⟩ (.bool false)) := U5.wrote.set (S := fun k => k = q) rfl _ _ _
  exact ⟨K5.out.trans (K6.more (fun n h => .inr (.inr h))), 0, .inl ⟨rfl, rfl⟩, rfl, K6.cell P3.out (by simp only; omega), World.cell?_setCell_same _ _ _ v0⟩

set_option maxHeartbeats 8000000 in
theorem walk (B0 : Bd) (o0 : B0.ok) (B1 : Bd) (o1 : B1.ok) (a2 : Int) (f2 : inF a2) (w : World)   :
    Calls Try.prog 3 #[B0.val, B1.val, .int .i64 a2] w fun e w' => e = .returned (.bool true) ∧ Grown w w' := by
  have HA : Hid (∀ W, _) := fun W => ref_right B0 W
  have HB : Hid (∀ W, _) := fun W => ref_right B1 W
  have hmf := mk_func
  have G0 : Hid (Grew w (((w.alloc (.cells #[.int .i64 B0.s, .int .i64 B0.a, .int .i64 B0.b, .int .i64 B0.m, .int .i64 B0.p, .int .i64 B0.q, .int .i64 B0.u, .int .i64 B0.v] 26)).alloc (.cells #[.int .i64 B1.s, .int .i64 B1.a, .int .i64 B1.b, .int .i64 B1.m, .int .i64 B1.p, .int .i64 B1.q, .int .i64 B1.u, .int .i64 B1.v] 26)).alloc (.cells #[.int .i64 a2] 3))) := (((Grew.refl w).alloc _ _).alloc _ _).alloc _ _
  obtain ⟨r0, hr0⟩ : ∃ r, rightB B0 = r := ⟨_, rfl⟩
  obtain ⟨r1, hr1⟩ : ∃ r, rightB B1 = r := ⟨_, rfl⟩
  rw [hr0] at HA
  rw [hr1] at HB
  unfold Bd.val at HA HB ⊢
  cases r0
  ·
    clear HB hr0 hr1
    go_enter Try.func3, Try.ntmps3
    go_wp2_with (first
      | (go_at_call 4; go_fit (HA.out _); rintro e V ⟨rfl, U⟩; have p0 := U.cell (p := ⟨w.heap.size, 0, none⟩) (v := .int .i64 B0.s) (by simp [go_sem]); have p1 := U.cell (p := ⟨w.heap.size, 1, none⟩) (v := .int .i64 B0.a) (by simp [go_sem]); have p2 := U.cell (p := ⟨w.heap.size, 2, none⟩) (v := .int .i64 B0.b) (by simp [go_sem]); have p3 := U.cell (p := ⟨w.heap.size, 3, none⟩) (v := .int .i64 B0.m) (by simp [go_sem]); have p4 := U.cell (p := ⟨w.heap.size, 4, none⟩) (v := .int .i64 B0.p) (by simp [go_sem]); have p5 := U.cell (p := ⟨w.heap.size, 5, none⟩) (v := .int .i64 B0.q) (by simp [go_sem]); have p6 := U.cell (p := ⟨w.heap.size, 6, none⟩) (v := .int .i64 B0.u) (by simp [go_sem]); have p7 := U.cell (p := ⟨w.heap.size, 7, none⟩) (v := .int .i64 B0.v) (by simp [go_sem]); have b0 := U.cell (p := ⟨w.heap.size + 1, 0, none⟩) (v := .int .i64 B1.s) (by simp [go_sem]); have b1 := U.cell (p := ⟨w.heap.size + 1, 1, none⟩) (v := .int .i64 B1.a) (by simp [go_sem]); have b2 := U.cell (p := ⟨w.heap.size + 1, 2, none⟩) (v := .int .i64 B1.b) (by simp [go_sem]); have b3 := U.cell (p := ⟨w.heap.size + 1, 3, none⟩) (v := .int .i64 B1.m) (by simp [go_sem]); have b4 := U.cell (p := ⟨w.heap.size + 1, 4, none⟩) (v := .int .i64 B1.p) (by simp [go_sem]); have b5 := U.cell (p := ⟨w.heap.size + 1, 5, none⟩) (v := .int .i64 B1.q) (by simp [go_sem]); have b6 := U.cell (p := ⟨w.heap.size + 1, 6, none⟩) (v := .int .i64 B1.u) (by simp [go_sem]); have b7 := U.cell (p := ⟨w.heap.size + 1, 7, none⟩) (v := .int .i64 B1.v) (by simp [go_sem]); have c0 := U.cell (p := ⟨w.heap.size + 1 + 1, 0, none⟩) (v := .int .i64 a2) (by simp [go_sem]))
      | (go_at_call 4; go_fit (HB.out _); rintro e V0 ⟨rfl, U0⟩; replace p0 := U0.cell p0; replace p1 := U0.cell p1; replace p2 := U0.cell p2; replace p3 := U0.cell p3; replace p4 := U0.cell p4; replace p5 := U0.cell p5; replace p6 := U0.cell p6; replace p7 := U0.cell p7; replace b0 := U0.cell b0; replace b1 := U0.cell b1; replace b2 := U0.cell b2; replace b3 := U0.cell b3; replace b4 := U0.cell b4; replace b5 := U0.cell b5; replace b6 := U0.cell b6; replace b7 := U0.cell b7; replace c0 := U0.cell c0)
      | (go_at_call 5; go_fit (alive_any _); rintro e V1 ⟨rfl, U1⟩; replace p0 := U1.cell p0; replace p1 := U1.cell p1; replace p2 := U1.cell p2; replace p3 := U1.cell p3; replace p4 := U1.cell p4; replace p5 := U1.cell p5; replace p6 := U1.cell p6; replace p7 := U1.cell p7; replace b0 := U1.cell b0; replace b1 := U1.cell b1; replace b2 := U1.cell b2; replace b3 := U1.cell b3; replace b4 := U1.cell b4; replace b5 := U1.cell b5; replace b6 := U1.cell b6; replace b7 := U1.cell b7; replace c0 := U1.cell c0))
    go_ret
    exact ⟨rfl, ((G0.out.trans U).trans U1).grown⟩
  cases r1
  ·
    clear hr0 hr1
    go_enter Try.func3, Try.ntmps3
    go_wp2_with (first
      | (go_at_call 4; go_fit (HA.out _); rintro e V ⟨rfl, U⟩; have p0 := U.cell (p := ⟨w.heap.size, 0, none⟩) (v := .int .i64 B0.s) (by simp [go_sem]); have p1 := U.cell (p := ⟨w.heap.size, 1, none⟩) (v := .int .i64 B0.a) (by simp [go_sem]); have p2 := U.cell (p := ⟨w.heap.size, 2, none⟩) (v := .int .i64 B0.b) (by simp [go_sem]); have p3 := U.cell (p := ⟨w.heap.size, 3, none⟩) (v := .int .i64 B0.m) (by simp [go_sem]); have p4 := U.cell (p := ⟨w.heap.size, 4, none⟩) (v := .int .i64 B0.p) (by simp [go_sem]); have p5 := U.cell (p := ⟨w.heap.size, 5, none⟩) (v := .int .i64 B0.q) (by simp [go_sem]); have p6 := U.cell (p := ⟨w.heap.size, 6, none⟩) (v := .int .i64 B0.u) (by simp [go_sem]); have p7 := U.cell (p := ⟨w.heap.size, 7, none⟩) (v := .int .i64 B0.v) (by simp [go_sem]); have b0 := U.cell (p := ⟨w.heap.size + 1, 0, none⟩) (v := .int .i64 B1.s) (by simp [go_sem]); have b1 := U.cell (p := ⟨w.heap.size + 1, 1, none⟩) (v := .int .i64 B1.a) (by simp [go_sem]); have b2 := U.cell (p := ⟨w.heap.size + 1, 2, none⟩) (v := .int .i64 B1.b) (by simp [go_sem]); have b3 := U.cell (p := ⟨w.heap.size + 1, 3, none⟩) (v := .int .i64 B1.m) (by simp [go_sem]); have b4 := U.cell (p := ⟨w.heap.size + 1, 4, none⟩) (v := .int .i64 B1.p) (by simp [go_sem]); have b5 := U.cell (p := ⟨w.heap.size + 1, 5, none⟩) (v := .int .i64 B1.q) (by simp [go_sem]); have b6 := U.cell (p := ⟨w.heap.size + 1, 6, none⟩) (v := .int .i64 B1.u) (by simp [go_sem]); have b7 := U.cell (p := ⟨w.heap.size + 1, 7, none⟩) (v := .int .i64 B1.v) (by simp [go_sem]); have c0 := U.cell (p := ⟨w.heap.size + 1 + 1, 0, none⟩) (v := .int .i64 a2) (by simp [go_sem]))
      | (go_at_call 4; go_fit (HB.out _); rintro e V0 ⟨rfl, U0⟩; replace p0 := U0.cell p0; replace p1 := U0.cell p1; replace p2 := U0.cell p2; replace p3 := U0.cell p3; replace p4 := U0.cell p4; replace p5 := U0.cell p5; replace p6 := U0.cell p6; replace p7 := U0.cell p7; replace b0 := U0.cell b0; replace b1 := U0.cell b1; replace b2 := U0.cell b2; replace b3 := U0.cell b3; replace b4 := U0.cell b4; replace b5 := U0.cell b5; replace b6 := U0.cell b6; replace b7 := U0.cell b7; replace c0 := U0.cell c0)
      | (go_at_call 5; go_fit (alive_any _); rintro e V1 ⟨rfl, U1⟩; replace p0 := U1.cell p0; replace p1 := U1.cell p1; replace p2 := U1.cell p2; replace p3 := U1.cell p3; replace p4 := U1.cell p4; replace p5 := U1.cell p5; replace p6 := U1.cell p6; replace p7 := U1.cell p7; replace b0 := U1.cell b0; replace b1 := U1.cell b1; replace b2 := U1.cell b2; replace b3 := U1.cell b3; replace b4 := U1.cell b4; replace b5 := U1.cell b5; replace b6 := U1.cell b6; replace b7 := U1.cell b7; replace c0 := U1.cell c0))
    go_ret
    exact ⟨rfl, (((G0.out.trans U).trans U0).trans U1).grown⟩
  by_cases k1 : a2 < 1
  ·
    clear hr0 hr1
    go_enter Try.func3, Try.ntmps3
    go_wp2_with (first
      | (go_at_call 4; go_fit (HA.out _); rintro e V ⟨rfl, U⟩; have p0 := U.cell (p := ⟨w.heap.size, 0, none⟩) (v := .int .i64 B0.s) (by simp [go_sem]); have p1 := U.cell (p := ⟨w.heap.size, 1, none⟩) (v := .int .i64 B0.a) (by simp [go_sem]); have p2 := U.cell (p := ⟨w.heap.size, 2, none⟩) (v := .int .i64 B0.b) (by simp [go_sem]); have p3 := U.cell (p := ⟨w.heap.size, 3, none⟩) (v := .int .i64 B0.m) (by simp [go_sem]); have p4 := U.cell (p := ⟨w.heap.size, 4, none⟩) (v := .int .i64 B0.p) (by simp [go_sem]); have p5 := U.cell (p := ⟨w.heap.size, 5, none⟩) (v := .int .i64 B0.q) (by simp [go_sem]); have p6 := U.cell (p := ⟨w.heap.size, 6, none⟩) (v := .int .i64 B0.u) (by simp [go_sem]); have p7 := U.cell (p := ⟨w.heap.size, 7, none⟩) (v := .int .i64 B0.v) (by simp [go_sem]); have b0 := U.cell (p := ⟨w.heap.size + 1, 0, none⟩) (v := .int .i64 B1.s) (by simp [go_sem]); have b1 := U.cell (p := ⟨w.heap.size + 1, 1, none⟩) (v := .int .i64 B1.a) (by simp [go_sem]); have b2 := U.cell (p := ⟨w.heap.size + 1, 2, none⟩) (v := .int .i64 B1.b) (by simp [go_sem]); have b3 := U.cell (p := ⟨w.heap.size + 1, 3, none⟩) (v := .int .i64 B1.m) (by simp [go_sem]); have b4 := U.cell (p := ⟨w.heap.size + 1, 4, none⟩) (v := .int .i64 B1.p) (by simp [go_sem]); have b5 := U.cell (p := ⟨w.heap.size + 1, 5, none⟩) (v := .int .i64 B1.q) (by simp [go_sem]); have b6 := U.cell (p := ⟨w.heap.size + 1, 6, none⟩) (v := .int .i64 B1.u) (by simp [go_sem]); have b7 := U.cell (p := ⟨w.heap.size + 1, 7, none⟩) (v := .int .i64 B1.v) (by simp [go_sem]); have c0 := U.cell (p := ⟨w.heap.size + 1 + 1, 0, none⟩) (v := .int .i64 a2) (by simp [go_sem]))
      | (go_at_call 4; go_fit (HB.out _); rintro e V0 ⟨rfl, U0⟩; replace p0 := U0.cell p0; replace p1 := U0.cell p1; replace p2 := U0.cell p2; replace p3 := U0.cell p3; replace p4 := U0.cell p4; replace p5 := U0.cell p5; replace p6 := U0.cell p6; replace p7 := U0.cell p7; replace b0 := U0.cell b0; replace b1 := U0.cell b1; replace b2 := U0.cell b2; replace b3 := U0.cell b3; replace b4 := U0.cell b4; replace b5 := U0.cell b5; replace b6 := U0.cell b6; replace b7 := U0.cell b7; replace c0 := U0.cell c0)
      | (go_at_call 5; go_fit (alive_any _); rintro e V1 ⟨rfl, U1⟩; replace p0 := U1.cell p0; replace p1 := U1.cell p1; replace p2 := U1.cell p2; replace p3 := U1.cell p3; replace p4 := U1.cell p4; replace p5 := U1.cell p5; replace p6 := U1.cell p6; replace p7 := U1.cell p7; replace b0 := U1.cell b0; replace b1 := U1.cell b1; replace b2 := U1.cell b2; replace b3 := U1.cell b3; replace b4 := U1.cell b4; replace b5 := U1.cell b5; replace b6 := U1.cell b6; replace b7 := U1.cell b7; replace c0 := U1.cell c0))
    go_ret
    exact ⟨rfl, (((G0.out.trans U).trans U0).trans U1).grown⟩
  by_cases k2 : 1000 < a2
  ·
    clear hr0 hr1
    go_enter Try.func3, Try.ntmps3
    go_wp2_with (first
      | (go_at_call 4; go_fit (HA.out _); rintro e V ⟨rfl, U⟩; have p0 := U.cell (p := ⟨w.heap.size, 0, none⟩) (v := .int .i64 B0.s) (by simp [go_sem]); have p1 := U.cell (p := ⟨w.heap.size, 1, none⟩) (v := .int .i64 B0.a) (by simp [go_sem]); have p2 := U.cell (p := ⟨w.heap.size, 2, none⟩) (v := .int .i64 B0.b) (by simp [go_sem]); have p3 := U.cell (p := ⟨w.heap.size, 3, none⟩) (v := .int .i64 B0.m) (by simp [go_sem]); have p4 := U.cell (p := ⟨w.heap.size, 4, none⟩) (v := .int .i64 B0.p) (by simp [go_sem]); have p5 := U.cell (p := ⟨w.heap.size, 5, none⟩) (v := .int .i64 B0.q) (by simp [go_sem]); have p6 := U.cell (p := ⟨w.heap.size, 6, none⟩) (v := .int .i64 B0.u) (by simp [go_sem]); have p7 := U.cell (p := ⟨w.heap.size, 7, none⟩) (v := .int .i64 B0.v) (by simp [go_sem]); have b0 := U.cell (p := ⟨w.heap.size + 1, 0, none⟩) (v := .int .i64 B1.s) (by simp [go_sem]); have b1 := U.cell (p := ⟨w.heap.size + 1, 1, none⟩) (v := .int .i64 B1.a) (by simp [go_sem]); have b2 := U.cell (p := ⟨w.heap.size + 1, 2, none⟩) (v := .int .i64 B1.b) (by simp [go_sem]); have b3 := U.cell (p := ⟨w.heap.size + 1, 3, none⟩) (v := .int .i64 B1.m) (by simp [go_sem]); have b4 := U.cell (p := ⟨w.heap.size + 1, 4, none⟩) (v := .int .i64 B1.p) (by simp [go_sem]); have b5 := U.cell (p := ⟨w.heap.size + 1, 5, none⟩) (v := .int .i64 B1.q) (by simp [go_sem]); have b6 := U.cell (p := ⟨w.heap.size + 1, 6, none⟩) (v := .int .i64 B1.u) (by simp [go_sem]); have b7 := U.cell (p := ⟨w.heap.size + 1, 7, none⟩) (v := .int .i64 B1.v) (by simp [go_sem]); have c0 := U.cell (p := ⟨w.heap.size + 1 + 1, 0, none⟩) (v := .int .i64 a2) (by simp [go_sem]))
      | (go_at_call 4; go_fit (HB.out _); rintro e V0 ⟨rfl, U0⟩; replace p0 := U0.cell p0; replace p1 := U0.cell p1; replace p2 := U0.cell p2; replace p3 := U0.cell p3; replace p4 := U0.cell p4; replace p5 := U0.cell p5; replace p6 := U0.cell p6; replace p7 := U0.cell p7; replace b0 := U0.cell b0; replace b1 := U0.cell b1; replace b2 := U0.cell b2; replace b3 := U0.cell b3; replace b4 := U0.cell b4; replace b5 := U0.cell b5; replace b6 := U0.cell b6; replace b7 := U0.cell b7; replace c0 := U0.cell c0)
      | (go_at_call 5; go_fit (alive_any _); rintro e V1 ⟨rfl, U1⟩; replace p0 := U1.cell p0; replace p1 := U1.cell p1; replace p2 := U1.cell p2; replace p3 := U1.cell p3; replace p4 := U1.cell p4; replace p5 := U1.cell p5; replace p6 := U1.cell p6; replace p7 := U1.cell p7; replace b0 := U1.cell b0; replace b1 := U1.cell b1; replace b2 := U1.cell b2; replace b3 := U1.cell b3; replace b4 := U1.cell b4; replace b5 := U1.cell b5; replace b6 := U1.cell b6; replace b7 := U1.cell b7; replace c0 := U1.cell c0))
    go_ret
    exact ⟨rfl, (((G0.out.trans U).trans U0).trans U1).grown⟩
  obtain ⟨h1, h2, h3, _, h5, h6, h7, h8, _⟩ := (rightB_iff B0).1 hr0
  obtain ⟨g1, g2, g3, _, g5, g6, g7, g8, _⟩ := (rightB_iff B1).1 hr1
  have ra : 0 ≤ reachY B0 ∧ reachY B0 ≤ 8796093022208 := by unfold reachY; split <;> omega
  have rb : 0 ≤ reachY B1 ∧ reachY B1 ≤ 8796093022208 := by unfold reachY; split <;> omega
  have mA := right_mild hr0
  have sA := right_shape hr0
  have sB := right_shape hr1
  obtain ⟨C1, e1⟩ : ∃ C, C = atB B1 (B0.p + B0.a + B1.a + a2) B1.q := ⟨_, rfl⟩
  have m1 : Mild C1 := by rw [e1]; exact ⟨by simp only [atB]; omega, by simp only [atB]; omega, by simp only [atB]; omega, by simp only [atB]; omega⟩
  have m2 : Mild (atB C1 B0.p (B0.q - reachY B0 - reachY B1 - a2)) := by rw [e1]; exact ⟨by simp only [atB]; omega, by simp only [atB]; omega, by simp only [atB]; omega, by simp only [atB]; omega⟩
  have j1 : (hitI B0 C1).2 = false := by
    cases hh : (hitI B0 C1).2 with
    | false => rfl
    | true =>
      have := hit_near mA m1 sA (by rw [e1]; exact sB) hh
      rw [e1] at this
      simp only [atB] at this
      have := ab_of (B0.p + B0.a + B1.a + a2 - B0.p)
      omega
  have j2 : (hitI B0 (atB C1 B0.p (B0.q - reachY B0 - reachY B1 - a2))).2 = false := by
    cases hh : (hitI B0 (atB C1 B0.p (B0.q - reachY B0 - reachY B1 - a2))).2 with
    | false => rfl
    | true =>
      have := hit_near mA m2 sA (by rw [e1]; exact sB) hh
      rw [e1] at this
      have er : reachY (atB (atB B1 (B0.p + B0.a + B1.a + a2) B1.q) B0.p (B0.q - reachY B0 - reachY B1 - a2)) = reachY B1 := rfl
      rw [er] at this
      simp only [atB] at this
      have := ab_of (B0.q - reachY B0 - reachY B1 - a2 - B0.q)
      omega
  have q1 : hitR B0 C1 = (((hitI B0 C1).1, false), 0) := by rw [hit_mild mA m1, ← j1]
  have q2 : hitR B0 (atB C1 B0.p (B0.q - reachY B0 - reachY B1 - a2)) = (((hitI B0 (atB C1 B0.p (B0.q - reachY B0 - reachY B1 - a2))).1, false), 0) := by rw [hit_mild mA m2, ← j2]
  have oC : C1.ok := by rw [e1]; exact ⟨o1.s, o1.a, o1.b, o1.m, ⟨by simp only [atB]; omega, by simp only [atB]; omega⟩, o1.q, o1.u, o1.v⟩
  have oD : (atB C1 B0.p (B0.q - reachY B0 - reachY B1 - a2)).ok := by rw [e1]; exact ⟨o1.s, o1.a, o1.b, o1.m, o0.p, ⟨by simp only [atB]; omega, by simp only [atB]; omega⟩, o1.u, o1.v⟩
  have et : reachY C1 = reachY B1 := by rw [e1]; rfl
  have k3 : 0 ≤ B0.a ∧ B0.a ≤ 8796093022208 := by omega
  have k4 : 0 ≤ B1.a ∧ B1.a ≤ 8796093022208 := by omega
  clear hr0 hr1 mA sA sB m1 m2 j1 j2 h1 h2 h3 g1 g2 g3 f2 o1 g5 g6 g7 g8
  generalize (hitI B0 (atB C1 B0.p (B0.q - reachY B0 - reachY B1 - a2))).1 = R2 at *
  generalize (hitI B0 C1).1 = R1 at *
  go_enter Try.func3, Try.ntmps3
  go_wp2_with (first
    | (go_at_call 4; go_fit (HA.out _); rintro e V ⟨rfl, U⟩; have p0 := U.cell (p := ⟨w.heap.size, 0, none⟩) (v := .int .i64 B0.s) (by simp [go_sem]); have p1 := U.cell (p := ⟨w.heap.size, 1, none⟩) (v := .int .i64 B0.a) (by simp [go_sem]); have p2 := U.cell (p := ⟨w.heap.size, 2, none⟩) (v := .int .i64 B0.b) (by simp [go_sem]); have p3 := U.cell (p := ⟨w.heap.size, 3, none⟩) (v := .int .i64 B0.m) (by simp [go_sem]); have p4 := U.cell (p := ⟨w.heap.size, 4, none⟩) (v := .int .i64 B0.p) (by simp [go_sem]); have p5 := U.cell (p := ⟨w.heap.size, 5, none⟩) (v := .int .i64 B0.q) (by simp [go_sem]); have p6 := U.cell (p := ⟨w.heap.size, 6, none⟩) (v := .int .i64 B0.u) (by simp [go_sem]); have p7 := U.cell (p := ⟨w.heap.size, 7, none⟩) (v := .int .i64 B0.v) (by simp [go_sem]); have b0 := U.cell (p := ⟨w.heap.size + 1, 0, none⟩) (v := .int .i64 B1.s) (by simp [go_sem]); have b1 := U.cell (p := ⟨w.heap.size + 1, 1, none⟩) (v := .int .i64 B1.a) (by simp [go_sem]); have b2 := U.cell (p := ⟨w.heap.size + 1, 2, none⟩) (v := .int .i64 B1.b) (by simp [go_sem]); have b3 := U.cell (p := ⟨w.heap.size + 1, 3, none⟩) (v := .int .i64 B1.m) (by simp [go_sem]); have b4 := U.cell (p := ⟨w.heap.size + 1, 4, none⟩) (v := .int .i64 B1.p) (by simp [go_sem]); have b5 := U.cell (p := ⟨w.heap.size + 1, 5, none⟩) (v := .int .i64 B1.q) (by simp [go_sem]); have b6 := U.cell (p := ⟨w.heap.size + 1, 6, none⟩) (v := .int .i64 B1.u) (by simp [go_sem]); have b7 := U.cell (p := ⟨w.heap.size + 1, 7, none⟩) (v := .int .i64 B1.v) (by simp [go_sem]); have c0 := U.cell (p := ⟨w.heap.size + 1 + 1, 0, none⟩) (v := .int .i64 a2) (by simp [go_sem]))
    | (go_at_call 4; go_fit (HB.out _); rintro e V0 ⟨rfl, U0⟩; replace p0 := U0.cell p0; replace p1 := U0.cell p1; replace p2 := U0.cell p2; replace p3 := U0.cell p3; replace p4 := U0.cell p4; replace p5 := U0.cell p5; replace p6 := U0.cell p6; replace p7 := U0.cell p7; replace b0 := U0.cell b0; replace b1 := U0.cell b1; replace b2 := U0.cell b2; replace b3 := U0.cell b3; replace b4 := U0.cell b4; replace b5 := U0.cell b5; replace b6 := U0.cell b6; replace b7 := U0.cell b7; replace c0 := U0.cell c0)
    | (go_at_call 5; go_fit (alive_any _); rintro e V1 ⟨rfl, U1⟩; replace p0 := U1.cell p0; replace p1 := U1.cell p1; replace p2 := U1.cell p2; replace p3 := U1.cell p3; replace p4 := U1.cell p4; replace p5 := U1.cell p5; replace p6 := U1.cell p6; replace p7 := U1.cell p7; replace b0 := U1.cell b0; replace b1 := U1.cell b1; replace b2 := U1.cell b2; replace b3 := U1.cell b3; replace b4 := U1.cell b4; replace b5 := U1.cell b5; replace b6 := U1.cell b6; replace b7 := U1.cell b7; replace c0 := U1.cell c0))
  obtain ⟨W, hW⟩ : ∃ W, W = ((V1.alloc (.cells #[.func (.func 6) #[] #[]] 29)).alloc (.cells #[.bool false] 4)).alloc (.cells #[.bool false] 4) := ⟨_, rfl⟩
  rw [← hW]
  have GV : Grew w V1 := ((G0.out.trans U).trans U0).trans U1
  have gW : Grew V1 W := by rw [hW]; exact (((Grew.refl V1).alloc _ _).alloc _ _).alloc _ _
  have sz : W.heap.size = V1.heap.size + 1 + 1 + 1 := by rw [hW]; simp [go_sem]
  have hA : BAt W w.heap.size B0 := BAt.grew ⟨p0, p1, p2, p3, p4, p5, p6, p7⟩ gW
  have hB : BAt W (w.heap.size + 1) B1 := BAt.grew ⟨b0, b1, b2, b3, b4, b5, b6, b7⟩ gW
  have hC : W.cell? ⟨w.heap.size + 1 + 1, 0, none⟩ = some (.int .i64 a2) := gW.cell c0
  have lt : w.heap.size + 1 + 1 < V1.heap.size := cell_block c0
  have h1 : W.cell? ⟨V1.heap.size, 0, none⟩ = some (.func (.func 6) #[] #[]) := by rw [hW]; simp [go_sem]
  have l1 : W.cell? ⟨V1.heap.size + 1, 0, none⟩ = some (.bool false) := by rw [hW]; simp [go_sem]
  have l2 : W.cell? ⟨V1.heap.size + 1 + 1, 0, none⟩ = some (.bool false) := by rw [hW]; simp [go_sem]
  clear hW p0 p1 p2 p3 p4 p5 p6 p7 b0 b1 b2 b3 b4 b5 b6 b7 c0 U U0 U1 G0 HA HB
  generalize hX : V1.heap.size = X at *
  refine (try_set (S := fun n => n = w.heap.size + 1 ∨ n = X + 1 ∨ n = X + 1 + 1) (P := fun x W => x = 0 ∧ W.cell? ⟨X + 1, 0, none⟩ = some (.bool false) ∧ W.cell? ⟨X + 1 + 1, 0, none⟩ = some (.bool false)) _ _ _ (fun _ => by simp [go_sem]) (fun n hn => by omega) ?_ (fun Z G => ?_)).mono ?_
  · rintro x W1 W2 hh ⟨h1, h3, h5⟩
    exact ⟨h1, by rw [cell_of_heap (hh _ (by simp only; omega))]; exact h3, by rw [cell_of_heap (hh _ (by simp only; omega))]; exact h5⟩
  · exact ask_far w.heap.size (w.heap.size + 1) (w.heap.size + 1 + 1) (X + 1) X (X + 1 + 1) B0 B1 C1 a2 (reachY B0) (reachY B1) o0 e1 oC oD rfl et k3 k4 ⟨h5, h6⟩ ⟨h7, h8⟩ ⟨by omega, by omega⟩ ra rb R1 R2 q1 q2 (by omega) (by omega) (by omega) Z (hA.grew G) (hB.grew G) (G.cell hC) (G.cell l1) (G.cell h1) (G.cell l2) (((GV.trans gW).trans G).freeB (by omega)) ((gW.trans G).freeB (by omega)) ((gW.trans G).freeB (by omega))
  rintro e V2 ⟨hW, x', rfl, rfl, e3, g3⟩
  have G2 : Hid (Grew w V2) := hW.to (GV.trans gW) (fun n hn => by have := GV.size; omega)
  clear hW hA hB hC h1 l1 l2 gW GV
  go_wp2
  go_ret
  exact ⟨rfl, G2.out.grown⟩

set_option maxRecDepth 100000 in
theorem lifted (os : Os) (started : os.Started) (H : Type) (enc : TypeId × Value → H) :
    ReturnsInHanded {} Try.checked os 3 .any (Rows.touchFarSpec.pre6 enc Try.prog Try.f3 Rows.touchFarRow.domain false) (Rows.touchFarSpec.post enc Try.prog Try.f3 false true false false) := by
  refine returnsInHanded_of_change (C := Try.checked) own started (by kernel_rfl) Try.func3
    (ChangeSpec.witness6 (enc := enc) (C := Try.checked) false ⟨#[], #[.agg #[.int .i64 0, .int .i64 0, .int .i64 0, .int .i64 0, .int .i64 0, .int .i64 0, .int .i64 0, .int .i64 0], .agg #[.int .i64 0, .int .i64 0, .int .i64 0, .int .i64 0, .int .i64 0, .int .i64 0, .int .i64 0, .int .i64 0], .int .i64 0], []⟩ 8 (by kernel_rfl) (by kernel_rfl) (by kernel_rfl) (by kernel_rfl)) ?_
  intro W base args ds gs before hval0 hW hcnd _
  have hval : ∀ (j : Nat) t v, Try.f3.params[j]? = some t → args[j]? = some v → Value.okWide Try.prog W .any base t v := hval0
  have hW' := hW
  obtain ⟨p, q, hA0, hV, rfl, hfz, hnd⟩ := hW
  have hA : DataW.TrodAll enc Try.prog W 0 (fun _ => true) true Try.f3.params.toList args.toList ds p := hA0
  rw [Try.params3] at hA hval
  obtain ⟨v0, vs0, d0, ds0, p0, q0, hargs, rfl, rfl, h0, r0⟩ := trodAll_cons hA
  obtain ⟨v1, vs1, d1, ds1, p1, q1, rfl, rfl, rfl, h1, r1⟩ := trodAll_cons r0
  obtain ⟨v2, vs2, d2, ds2, p2, q2, rfl, rfl, rfl, h2, r2⟩ := trodAll_cons r1
  obtain ⟨rfl, rfl, rfl⟩ := trodAll_nil r2
  obtain rfl : args = #[v0, v1, v2] := by cases args; simp_all
  obtain ⟨rfl, rfl⟩ := trodVars_none hV
  obtain ⟨B0, rfl, rfl, rfl, o0⟩ := open_body (hval 0 26 v0 rfl rfl) h0
  obtain ⟨B1, rfl, rfl, rfl, o1⟩ := open_body (hval 1 26 v1 rfl rfl) h1
  obtain ⟨a2, rfl, rfl, rfl, w2⟩ := open_int Try.underlying3 (hval 2 3 v2 rfl rfl) h2
  have f2 := inF_wf w2
  clear hA0 hval0
  simp only [List.append_nil] at hW'
  refine (walk B0 o0 B1 o1 a2 f2 W   ).mono fun e W' ⟨he, hg⟩ => ?_
  subst he
  exact ⟨_, rfl, post_of_same (pa := []) (pv := []) hW' (fun _ _ _ => (trodAll_cons_mk (shut_bool Try.underlying4 _) trodAll_mk0)) (fun sp _ => (trodAll_cons_mk (shut_body o0) (trodAll_cons_mk (shut_body o1) (trodAll_cons_mk (shut_int Try.underlying3 w2) trodAll_mk0)))) (fun _ _ => rfl) rfl
    (hg.frame _) hg.2.1 (ok_one (by kernel_rfl) rfl (okWide_bool_mk Try.underlying4 _))⟩

theorem over : Rows.touchFarRow.holds Try.pinned (OpenSpec.ofChange Rows.touchFarSpec) :=
  OpenClaim.holds_of_wide 3 Try.f3 rfl rfl rfl rfl rfl rfl rfl ⟨rfl, rfl, rfl, rfl, rfl⟩ rfl rfl rfl rfl rfl (by kernel_rfl) Try.func3 (by kernel_rfl)
    (of_decide_eq_true (by kernel_rfl)) (by unfold Func.isWrapper; first | (rw [if_pos (by decide +kernel)]; kernel_rfl) | (rw [if_neg (by decide +kernel)]; exact ⟨rfl, rfl⟩))
    (fun os started H enc _ => lifted os started H enc)

theorem proved : Rows.TouchFarSaid :=
  over
end Go.Proofs.Ytjnokjoaphmfkab.touchFar

namespace Go.Proofs.Ytjnokjoaphmfkab
theorem touchFar_holds : Rows.TouchFarSaid := touchFar.proved
end Go.Proofs.Ytjnokjoaphmfkab
