/-
  What push's own small functions and Apply do: what the plain functions say, or a panic of a Fault; more blocks are in memory, and nothing else. What push.Joint does: what the plain function says, or a panic of a Fault; more blocks are in memory, and nothing else.
-/
import Derived.Test.YtcoooehcgbohgaaGreatPk06
import Derived.Test.YtcoooehcgbohgaaGreatPk03
import Derived.RegionTactic
import Derived.RegionDies
import Derived.Deep.CutRange
import Derived.Deep.CutBlock
import Derived.Deep.RegionWith
import Derived.Deep.RegionHeld2
import Derived.Deep.DeepFit
namespace Go.Proofs.YtcoooehcgbohgaaGreat
open Go.RowKit

theorem waysP_of {P : Program} {f : Nat} {args : Array Value} {w : World} {t : (Bd × Bd) × Int} {A : World → Prop} (h : Calls P f args w fun e w' => e = outP t ∧ A w') :
    Calls P f args w fun e w' => ((e = .returned (.tuple #[t.1.1.val, t.1.2.val]) ∧ Hid (t.2 = 0)) ∨ (e = .panicked [fault t.2] ∧ Hid (¬ t.2 = 0))) ∧ A w' := by
  refine h.mono ?_
  rintro e w' ⟨rfl, hA⟩
  refine ⟨?_, hA⟩
  by_cases h : t.2 = 0
  · exact .inl ⟨if_pos h, h⟩
  · exact .inr ⟨if_neg h, h⟩
theorem kR_no1 {A B : Bd} (h : ¬ (lightR A).2 = 0) : outR (kR A B) = .panicked [fault (lightR A).2] := by unfold kR; rw [behind_no h]; exact if_neg h
theorem kR_no2 {A B : Bd} (h : (lightR A).2 = 0) (g : ¬ (lightR B).2 = 0) : outR (kR A B) = .panicked [fault (lightR B).2] := by unfold kR; rw [behind_ok h, behind_no g]; exact if_neg g
theorem kR_ok {A B : Bd} (h : (lightR A).2 = 0) (g : (lightR B).2 = 0) : kR A B = addR (lightR A).1 (lightR B).1 := by unfold kR; rw [behind_ok h, behind_ok g]
set_option maxHeartbeats 4000000 in
theorem plight_any (A B : Bd) (hA : A.ok) (hB : B.ok) (w : World) :
    Calls Tryz.prog 75 #[A.val, B.val] w fun e w' => e = outR (kR A B) ∧ Grew w w' := by
  have i1 := lightR_in A
  have i2 := lightR_in B
  have c1 := fun W => ways_of (shape_light A hA W)
  have c2 := fun W => ways_of (shape_light B hB W)
  have n1 := @kR_no1 A B
  have n2 := @kR_no2 A B
  have n3 := @kR_ok A B
  generalize kR A B = T at *
  generalize lightR A = r at *
  generalize lightR B = s at *
  have c3 := fun W => ways_of (cadd_any r.1 s.1 W i1 i2)
  unfold Bd.val at c1 c2 ⊢
  have C1 : Hid _ := c1
  have C2 : Hid _ := c2
  have C3 : Hid _ := c3
  have N1 : Hid _ := n1
  have N2 : Hid _ := n2
  have N3 : Hid _ := n3
  clear c1 c2 c3 n1 n2 n3 i1 i2 hA hB
  have G : Hid (Grew w ((w.alloc (.cells #[.int .i64 A.s, .int .i64 A.a, .int .i64 A.b, .int .i64 A.m, .int .i64 A.p, .int .i64 A.q, .int .i64 A.u, .int .i64 A.v] 28)).alloc (.cells #[.int .i64 B.s, .int .i64 B.a, .int .i64 B.b, .int .i64 B.m, .int .i64 B.p, .int .i64 B.q, .int .i64 B.u, .int .i64 B.v] 28))) := ((Grew.refl w).alloc _ _).alloc _ _
  go_enter Tryz.func75, Tryz.ntmps75
  go_wp2_with (fail)
  go_region_held2 (fun w' => w'.cell? ⟨w.heap.size, 0, none⟩ = some (.int .i64 A.s) ∧ w'.cell? ⟨w.heap.size, 1, none⟩ = some (.int .i64 A.a) ∧ w'.cell? ⟨w.heap.size, 2, none⟩ = some (.int .i64 A.b) ∧ w'.cell? ⟨w.heap.size, 3, none⟩ = some (.int .i64 A.m) ∧ w'.cell? ⟨w.heap.size, 4, none⟩ = some (.int .i64 A.p) ∧ w'.cell? ⟨w.heap.size, 5, none⟩ = some (.int .i64 A.q) ∧ w'.cell? ⟨w.heap.size, 6, none⟩ = some (.int .i64 A.u) ∧ w'.cell? ⟨w.heap.size, 7, none⟩ = some (.int .i64 A.v) ∧ w'.cell? ⟨w.heap.size + 1, 0, none⟩ = some (.int .i64 B.s) ∧ w'.cell? ⟨w.heap.size + 1, 1, none⟩ = some (.int .i64 B.a) ∧ w'.cell? ⟨w.heap.size + 1, 2, none⟩ = some (.int .i64 B.b) ∧ w'.cell? ⟨w.heap.size + 1, 3, none⟩ = some (.int .i64 B.m) ∧ w'.cell? ⟨w.heap.size + 1, 4, none⟩ = some (.int .i64 B.p) ∧ w'.cell? ⟨w.heap.size + 1, 5, none⟩ = some (.int .i64 B.q) ∧ w'.cell? ⟨w.heap.size + 1, 6, none⟩ = some (.int .i64 B.u) ∧ w'.cell? ⟨w.heap.size + 1, 7, none⟩ = some (.int .i64 B.v)) (go_keep)
    (first
      | (go_at_call 89; go_fit (C1.out _); rintro e V1 ⟨(⟨rfl, h1⟩ | ⟨rfl, h1⟩), U1⟩; rotate_left; (exact post_panic (P := Tryz.prog) (fn := Tryz.f75) (R := fun e w' => e = outR T ∧ Grew w w') rfl ⟨Eq.symm (N1.out h1.out), G.out.drew.trans U1⟩); have U1k0 := U1.cells (b := w.heap.size) (by first | omega | (simp; done) | (simp; omega)); have U1k1 := U1.cells (b := w.heap.size + 1) (by first | omega | (simp; done) | (simp; omega)))
      | (go_at_call 89; go_fit (C2.out _); rintro e V2 ⟨(⟨rfl, h2⟩ | ⟨rfl, h2⟩), U2⟩; rotate_left; (exact post_panic (P := Tryz.prog) (fn := Tryz.f75) (R := fun e w' => e = outR T ∧ Grew w w') rfl ⟨Eq.symm (N2.out h1.out h2.out), (G.out.drew.trans U1).trans U2⟩); have sz := U1.size; (simp at sz); have U2k0 := U2.cells (b := w.heap.size) (by first | omega | (simp; done) | (simp; omega)); have U2k1 := U2.cells (b := w.heap.size + 1) (by first | omega | (simp; done) | (simp; omega)))
      | (go_at_call 47; go_fit (C3.out _); rintro e w' ⟨(⟨rfl, h3⟩ | ⟨rfl, h3⟩), rfl⟩; rotate_left; (exact post_panic (P := Tryz.prog) (fn := Tryz.f75) (R := fun e w' => e = outR T ∧ Grew w w') rfl ⟨Eq.symm ((by rw [N3.out h1.out h2.out]; exact if_neg h3.out)), (G.out.drew.trans U1).trans U2⟩))
      | fail)
  go_wp2
  go_ret
  exact ⟨by rw [N3.out h1.out h2.out]; exact (if_pos h3.out).symm, (G.out.drew.trans U1).trans U2⟩
theorem vR_no1 {A B : Bd} {x y : Int} (h : ¬ (speedR B).2.2 = 0) : outR (vR A B x y) = .panicked [fault (speedR B).2.2] := outR_no h _
theorem vR_no2 {A B : Bd} {x y : Int} (h : (speedR B).2.2 = 0) (g : ¬ (speedR A).2.2 = 0) : outR (vR A B x y) = .panicked [fault (speedR A).2.2] := by unfold vR; rw [ifN_ok h]; exact outR_no g _
theorem vR_no3 {A B : Bd} {x y : Int} (h : (speedR B).2.2 = 0) (g : (speedR A).2.2 = 0) (k : ¬ (two (subR (speedR B).1 (speedR A).1) (subR (speedR B).2.1 (speedR A).2.1)).2.2 = 0) : outR (vR A B x y) = .panicked [fault (two (subR (speedR B).1 (speedR A).1) (subR (speedR B).2.1 (speedR A).2.1)).2.2] := by unfold vR; rw [ifN_ok h, ifN_ok g]; exact outR_no k _
theorem vR_ok {A B : Bd} {x y : Int} (h : (speedR B).2.2 = 0) (g : (speedR A).2.2 = 0) (k : (two (subR (speedR B).1 (speedR A).1) (subR (speedR B).2.1 (speedR A).2.1)).2.2 = 0) : vR A B x y = dotV (two (subR (speedR B).1 (speedR A).1) (subR (speedR B).2.1 (speedR A).2.1)).1 (two (subR (speedR B).1 (speedR A).1) (subR (speedR B).2.1 (speedR A).2.1)).2.1 x y := by unfold vR; rw [ifN_ok h, ifN_ok g, ifN_ok k]

set_option maxHeartbeats 4000000 in
theorem pparting_any (A B : Bd) (x y : Int) (hA : A.ok) (hB : B.ok) (hx : inF x) (hy : inF y) (w : World) :
    Calls Tryz.prog 76 #[A.val, B.val, .agg #[.int .i64 x, .int .i64 y]] w fun e w' => e = outR (vR A B x y) ∧ Grew w w' := by
  have i1 := speedR_in A
  have i2 := speedR_in B
  have c1 := fun W => waysV_of (shape_speed B hB W)
  have c2 := fun W => waysV_of (shape_speed A hA W)
  have n1 := @vR_no1 A B x y
  have n2 := @vR_no2 A B x y
  have n3 := @vR_no3 A B x y
  have n4 := @vR_ok A B x y
  generalize vR A B x y = T at *
  generalize speedR A = s at *
  generalize speedR B = r at *
  have c3 := fun W => waysV_of (vsub_any r.1 r.2.1 s.1 s.2.1 W i2.1 i2.2 i1.1 i1.2)
  have i3 := two_in (subR_in r.1 s.1) (subR_in r.2.1 s.2.1)
  generalize two (subR r.1 s.1) (subR r.2.1 s.2.1) = d at *
  have c4 := fun W => ways_of (vdot_any d.1 d.2.1 x y W i3.1 i3.2 hx hy)
  generalize dotV d.1 d.2.1 x y = t at *
  unfold vec at c1 c2 c3 c4
  unfold Bd.val at c1 c2 ⊢
  have C1 : Hid _ := c1
  have C2 : Hid _ := c2
  have C3 : Hid _ := c3
  have C4 : Hid _ := c4
  have N1 : Hid _ := n1
  have N2 : Hid _ := n2
  have N3 : Hid _ := n3
  have N4 : Hid _ := n4
  clear c1 c2 c3 c4 n1 n2 n3 n4 i1 i2 i3 hA hB hx hy
  have G : Hid (Grew w (((w.alloc (.cells #[.int .i64 A.s, .int .i64 A.a, .int .i64 A.b, .int .i64 A.m, .int .i64 A.p, .int .i64 A.q, .int .i64 A.u, .int .i64 A.v] 28)).alloc (.cells #[.int .i64 B.s, .int .i64 B.a, .int .i64 B.b, .int .i64 B.m, .int .i64 B.p, .int .i64 B.q, .int .i64 B.u, .int .i64 B.v] 28)).alloc (.cells #[.int .i64 x, .int .i64 y] 26))) := (((Grew.refl w).alloc _ _).alloc _ _).alloc _ _
  have e0 : Hid (∀ W, W = ((w.alloc (.cells #[.int .i64 A.s, .int .i64 A.a, .int .i64 A.b, .int .i64 A.m, .int .i64 A.p, .int .i64 A.q, .int .i64 A.u, .int .i64 A.v] 28)).alloc (.cells #[.int .i64 B.s, .int .i64 B.a, .int .i64 B.b, .int .i64 B.m, .int .i64 B.p, .int .i64 B.q, .int .i64 B.u, .int .i64 B.v] 28)).alloc (.cells #[.int .i64 x, .int .i64 y] 26) → W.cell? ⟨w.heap.size + 1 + 1, 0, none⟩ = some (.int .i64 x) ∧ W.cell? ⟨w.heap.size + 1 + 1, 1, none⟩ = some (.int .i64 y)) := fun W h => by rw [h]; simp [go_sem]
  go_enter Tryz.func76, Tryz.ntmps76
  go_wp2_with (fail)
  obtain ⟨x0, y0⟩ := e0.out _ rfl
  go_region_held2 (fun w' => w'.cell? ⟨w.heap.size, 0, none⟩ = some (.int .i64 A.s) ∧ w'.cell? ⟨w.heap.size, 1, none⟩ = some (.int .i64 A.a) ∧ w'.cell? ⟨w.heap.size, 2, none⟩ = some (.int .i64 A.b) ∧ w'.cell? ⟨w.heap.size, 3, none⟩ = some (.int .i64 A.m) ∧ w'.cell? ⟨w.heap.size, 4, none⟩ = some (.int .i64 A.p) ∧ w'.cell? ⟨w.heap.size, 5, none⟩ = some (.int .i64 A.q) ∧ w'.cell? ⟨w.heap.size, 6, none⟩ = some (.int .i64 A.u) ∧ w'.cell? ⟨w.heap.size, 7, none⟩ = some (.int .i64 A.v) ∧ w'.cell? ⟨w.heap.size + 1, 0, none⟩ = some (.int .i64 B.s) ∧ w'.cell? ⟨w.heap.size + 1, 1, none⟩ = some (.int .i64 B.a) ∧ w'.cell? ⟨w.heap.size + 1, 2, none⟩ = some (.int .i64 B.b) ∧ w'.cell? ⟨w.heap.size + 1, 3, none⟩ = some (.int .i64 B.m) ∧ w'.cell? ⟨w.heap.size + 1, 4, none⟩ = some (.int .i64 B.p) ∧ w'.cell? ⟨w.heap.size + 1, 5, none⟩ = some (.int .i64 B.q) ∧ w'.cell? ⟨w.heap.size + 1, 6, none⟩ = some (.int .i64 B.u) ∧ w'.cell? ⟨w.heap.size + 1, 7, none⟩ = some (.int .i64 B.v) ∧ w'.cell? ⟨w.heap.size + 1 + 1, 0, none⟩ = some (.int .i64 x) ∧ w'.cell? ⟨w.heap.size + 1 + 1, 1, none⟩ = some (.int .i64 y)) (go_keep)
    (first
      | (go_at_call 63; go_fit (C1.out _); rintro e V1 ⟨(⟨rfl, h1⟩ | ⟨rfl, h1⟩), U1⟩; rotate_left; (exact post_panic (P := Tryz.prog) (fn := Tryz.f76) (R := fun e w' => e = outR T ∧ Grew w w') rfl ⟨Eq.symm (N1.out h1.out), G.out.drew.trans U1⟩); have sz := U1.size; (simp at sz); have U1k0 := U1.cells (b := w.heap.size) (by first | omega | (simp; done) | (simp; omega)); have U1k1 := U1.cells (b := w.heap.size + 1) (by first | omega | (simp; done) | (simp; omega)); have U1k2 := U1.cells (b := w.heap.size + 1 + 1) (by first | omega | (simp; done) | (simp; omega)))
      | (go_at_call 63; go_fit (C2.out _); rintro e V2 ⟨(⟨rfl, h2⟩ | ⟨rfl, h2⟩), U2⟩; rotate_left; (exact post_panic (P := Tryz.prog) (fn := Tryz.f76) (R := fun e w' => e = outR T ∧ Grew w w') rfl ⟨Eq.symm (N2.out h1.out h2.out), (G.out.drew.trans U1).trans U2⟩); have sz2 := U2.size; have U2k0 := U2.cells (b := w.heap.size) (by first | omega | (simp; done) | (simp; omega)); have U2k1 := U2.cells (b := w.heap.size + 1) (by first | omega | (simp; done) | (simp; omega)); have U2k2 := U2.cells (b := w.heap.size + 1 + 1) (by first | omega | (simp; done) | (simp; omega)))
      | (go_at_call 74; go_fit (C3.out _); rintro e V3 ⟨(⟨rfl, h3⟩ | ⟨rfl, h3⟩), U3⟩; rotate_left; (exact post_panic (P := Tryz.prog) (fn := Tryz.f76) (R := fun e w' => e = outR T ∧ Grew w w') rfl ⟨Eq.symm (N3.out h1.out h2.out h3.out), ((G.out.drew.trans U1).trans U2).trans U3⟩); have sz3 := U3.size; have U3k0 := U3.cells (b := w.heap.size) (by first | omega | (simp; done) | (simp; omega)); have U3k1 := U3.cells (b := w.heap.size + 1) (by first | omega | (simp; done) | (simp; omega)); have U3k2 := U3.cells (b := w.heap.size + 1 + 1) (by first | omega | (simp; done) | (simp; omega)))
      | (go_at_call 95; go_fit (C4.out _); rintro e V4 ⟨(⟨rfl, h4⟩ | ⟨rfl, h4⟩), U4⟩; rotate_left; (exact post_panic (P := Tryz.prog) (fn := Tryz.f76) (R := fun e w' => e = outR T ∧ Grew w w') rfl ⟨Eq.symm ((by rw [N4.out h1.out h2.out h3.out]; exact if_neg h4.out)), (((G.out.drew.trans U1).trans U2).trans U3).trans U4⟩); have U4k0 := U4.cells (b := w.heap.size) (by first | omega | (simp; done) | (simp; omega)); have U4k1 := U4.cells (b := w.heap.size + 1) (by first | omega | (simp; done) | (simp; omega)); have U4k2 := U4.cells (b := w.heap.size + 1 + 1) (by first | omega | (simp; done) | (simp; omega)))
      | fail)
  go_wp2
  go_ret
  exact ⟨by rw [N4.out h1.out h2.out h3.out]; exact (if_pos h4.out).symm, (((G.out.drew.trans U1).trans U2).trans U3).trans U4⟩

theorem lessM_0 {A : Bd} {x y : Int} (h : A.m = 0) : lessM A x y = (A, 0) := if_pos h
theorem lessM_m {A : Bd} {x y : Int} (h : ¬ A.m = 0) : lessM A x y = put (lessV A x y) A.mom := if_neg h
theorem plusM_0 {A : Bd} {x y : Int} (h : A.m = 0) : plusM A x y = (A, 0) := if_pos h
theorem plusM_m {A : Bd} {x y : Int} (h : ¬ A.m = 0) : plusM A x y = put (plusV A x y) A.mom := if_neg h
/-- Two bodies, laid into two variables. -/
def lay (V : World) (b : Nat) (B : Bd) : World := (((((((V.setCell ⟨b, 0, none⟩ (.int .i64 B.s)).setCell ⟨b, 1, none⟩ (.int .i64 B.a)).setCell ⟨b, 2, none⟩ (.int .i64 B.b)).setCell ⟨b, 3, none⟩ (.int .i64 B.m)).setCell ⟨b, 4, none⟩ (.int .i64 B.p)).setCell ⟨b, 5, none⟩ (.int .i64 B.q)).setCell ⟨b, 6, none⟩ (.int .i64 B.u)).setCell ⟨b, 7, none⟩ (.int .i64 B.v)
theorem lay_grew {w V : World} (g : Grew w V) {b : Nat} (hb : w.heap.size ≤ b) (B : Bd) : Grew w (lay V b B) := by
  unfold lay
  exact (((((((g.setCell (a := ⟨b, 0, none⟩) hb _).setCell (a := ⟨b, 1, none⟩) hb _).setCell (a := ⟨b, 2, none⟩) hb _).setCell (a := ⟨b, 3, none⟩) hb _).setCell (a := ⟨b, 4, none⟩) hb _).setCell (a := ⟨b, 5, none⟩) hb _).setCell (a := ⟨b, 6, none⟩) hb _).setCell (a := ⟨b, 7, none⟩) hb _
theorem lay_at {V : World} {b : Nat} {A : Bd} (h : BAt V b A) (B : Bd) : BAt (lay V b B) b B := by
  obtain ⟨h0, h1, h2, h3, h4, h5, h6, h7⟩ := h
  unfold lay
  constructor <;> simp [go_sem, h0, h1, h2, h3, h4, h5, h6, h7]
theorem lay_far {V : World} {b c : Nat} {A : Bd} (h : BAt V c A) (hc : c ≠ b) (B : Bd) : BAt (lay V b B) c A := by
  have e := fun V o o' v => set_far (a := b) (c := c) hc V o o' v
  obtain ⟨h0, h1, h2, h3, h4, h5, h6, h7⟩ := h
  unfold lay
  constructor <;> simp only [e] <;> assumption

/-- Where a function of two bodies has them, and lays its two answers. -/
structure Jm (w V : World) (r s : Nat) (A B : Bd) : Prop where
  g : Grew w V
  a : BAt V w.heap.size A
  b : BAt V (w.heap.size + 1) B
  r : BAt V r noB
  s : BAt V s noB
theorem Jm.grew {w V V' : World} {r s : Nat} {A B : Bd} (h : Jm w V r s A B) (U : Grew V V') : Jm w V' r s A B := ⟨h.g.trans U, h.a.grew U, h.b.grew U, h.r.grew U, h.s.grew U⟩
theorem BAt.far {V : World} {b c : Nat} {A : Bd} (h : BAt V c A) (hc : c ≠ b) (o o' : Nat) (u v : Value) : BAt ((V.setCell ⟨b, o, none⟩ u).setCell ⟨b, o', none⟩ v) c A := by
  have e := fun V o o' v => set_far (a := b) (c := c) hc V o o' v
  obtain ⟨h0, h1, h2, h3, h4, h5, h6, h7⟩ := h
  constructor <;> simp only [e] <;> assumption
theorem At.far {V : World} {b c : Nat} {x y : Int} (h : At V c x y) (hc : c ≠ b) (o o' : Nat) (u v : Value) : At ((V.setCell ⟨b, o, none⟩ u).setCell ⟨b, o', none⟩ v) c x y := by
  have e := fun V o o' v => set_far (a := b) (c := c) hc V o o' v
  obtain ⟨h0, h1⟩ := h
  constructor <;> simp only [e] <;> assumption
theorem BAt.mom {V : World} {b : Nat} {A : Bd} (h : BAt V b A) (p q : Int) : BAt ((V.setCell ⟨b, 6, none⟩ (.int .i64 p)).setCell ⟨b, 7, none⟩ (.int .i64 q)) b (A.mom p q) := by
  obtain ⟨h0, h1, h2, h3, h4, h5, h6, h7⟩ := h
  constructor <;> simp [go_sem, Bd.mom, h0, h1, h2, h3, h4, h5, h6, h7]
theorem BAt.pos {V : World} {b : Nat} {A : Bd} (h : BAt V b A) (p q : Int) : BAt ((V.setCell ⟨b, 4, none⟩ (.int .i64 p)).setCell ⟨b, 5, none⟩ (.int .i64 q)) b (A.pos p q) := by
  obtain ⟨h0, h1, h2, h3, h4, h5, h6, h7⟩ := h
  constructor <;> simp [go_sem, Bd.pos, h0, h1, h2, h3, h4, h5, h6, h7]
theorem grew_set2 {w V : World} (g : Grew w V) {b : Nat} (hb : w.heap.size ≤ b) (o o' : Nat) (u v : Value) : Grew w ((V.setCell ⟨b, o, none⟩ u).setCell ⟨b, o', none⟩ v) := (g.setCell (a := ⟨b, o, none⟩) hb _).setCell (a := ⟨b, o', none⟩) hb _
theorem Jm.momA {w V : World} {r s : Nat} {A B : Bd} (h : Jm w V r s A B) (hr : w.heap.size + 1 < r) (hs : w.heap.size + 1 < s) (p q : Int) : Jm w ((V.setCell ⟨w.heap.size, 6, none⟩ (.int .i64 p)).setCell ⟨w.heap.size, 7, none⟩ (.int .i64 q)) r s (A.mom p q) B :=
  ⟨grew_set2 h.g (by omega) _ _ _ _, h.a.mom p q, h.b.far (by omega) _ _ _ _, h.r.far (by omega) _ _ _ _, h.s.far (by omega) _ _ _ _⟩
theorem Jm.momB {w V : World} {r s : Nat} {A B : Bd} (h : Jm w V r s A B) (hr : w.heap.size + 1 < r) (hs : w.heap.size + 1 < s) (p q : Int) : Jm w ((V.setCell ⟨w.heap.size + 1, 6, none⟩ (.int .i64 p)).setCell ⟨w.heap.size + 1, 7, none⟩ (.int .i64 q)) r s A (B.mom p q) :=
  ⟨grew_set2 h.g (by omega) _ _ _ _, h.a.far (by omega) _ _ _ _, h.b.mom p q, h.r.far (by omega) _ _ _ _, h.s.far (by omega) _ _ _ _⟩
theorem Jm.posA {w V : World} {r s : Nat} {A B : Bd} (h : Jm w V r s A B) (hr : w.heap.size + 1 < r) (hs : w.heap.size + 1 < s) (p q : Int) : Jm w ((V.setCell ⟨w.heap.size, 4, none⟩ (.int .i64 p)).setCell ⟨w.heap.size, 5, none⟩ (.int .i64 q)) r s (A.pos p q) B :=
  ⟨grew_set2 h.g (by omega) _ _ _ _, h.a.pos p q, h.b.far (by omega) _ _ _ _, h.r.far (by omega) _ _ _ _, h.s.far (by omega) _ _ _ _⟩
theorem Jm.posB {w V : World} {r s : Nat} {A B : Bd} (h : Jm w V r s A B) (hr : w.heap.size + 1 < r) (hs : w.heap.size + 1 < s) (p q : Int) : Jm w ((V.setCell ⟨w.heap.size + 1, 4, none⟩ (.int .i64 p)).setCell ⟨w.heap.size + 1, 5, none⟩ (.int .i64 q)) r s A (B.pos p q) :=
  ⟨grew_set2 h.g (by omega) _ _ _ _, h.a.far (by omega) _ _ _ _, h.b.pos p q, h.r.far (by omega) _ _ _ _, h.s.far (by omega) _ _ _ _⟩

/-- A struct variable that is loaded, and one that is stored: the tail 'return a, b'. -/
theorem jm_start (w : World) (A B : Bd) (x y : Int) (V : World) (hV : V = (((((w.alloc (.cells #[.int .i64 A.s, .int .i64 A.a, .int .i64 A.b, .int .i64 A.m, .int .i64 A.p, .int .i64 A.q, .int .i64 A.u, .int .i64 A.v] 28)).alloc (.cells #[.int .i64 B.s, .int .i64 B.a, .int .i64 B.b, .int .i64 B.m, .int .i64 B.p, .int .i64 B.q, .int .i64 B.u, .int .i64 B.v] 28)).alloc (.cells #[.int .i64 x, .int .i64 y] 26)).alloc (.cells #[.int .i64 0, .int .i64 0, .int .i64 0, .int .i64 0, .int .i64 0, .int .i64 0, .int .i64 0, .int .i64 0] 28)).alloc (.cells #[.int .i64 0, .int .i64 0, .int .i64 0, .int .i64 0, .int .i64 0, .int .i64 0, .int .i64 0, .int .i64 0] 28))) : Jm w V (w.heap.size + 1 + 1 + 1) (w.heap.size + 1 + 1 + 1 + 1) A B ∧ At V (w.heap.size + 1 + 1) x y := by
  refine ⟨⟨?_, ?_, ?_, ?_, ?_⟩, ?_⟩
  · rw [hV]; exact ((((((Grew.refl w).alloc _ _).alloc _ _).alloc _ _).alloc _ _).alloc _ _)
  all_goals (rw [hV]; constructor <;> simp [go_sem, noB])

set_option maxHeartbeats 8000000 in
theorem apply_any (A B : Bd) (x y : Int) (hA : A.ok) (hB : B.ok) (hx : inF x) (hy : inF y) (w : World) :
    Calls Tryz.prog 78 #[A.val, B.val, .agg #[.int .i64 x, .int .i64 y]] w fun e w' => e = outP (applyR A B x y) ∧ Grew w w' := by
  have js := jm_start w A B x y
  have c1 := fun W => waysV_of (vsub_any A.u A.v x y W hA.u hA.v hx hy)
  have c2 := fun W => waysV_of (vadd_any B.u B.v x y W hB.u hB.v hx hy)
  have l0 := @lessM_0 A x y
  have l1 := @lessM_m A x y
  have p0 := @plusM_0 B x y
  have p1 := @plusM_m B x y
  unfold lessV at l1
  unfold plusV at p1
  unfold applyR
  generalize two (subR A.u x) (subR A.v y) = D at *
  generalize two (addR B.u x) (addR B.v y) = E at *
  generalize lessM A x y = L at *
  generalize plusM B x y = M at *
  obtain ⟨R, hR⟩ : ∃ R, ifP L.2 (ifP M.2 ((L.1, M.1), 0)) = R := ⟨_, rfl⟩
  rw [hR]
  have HR : Hid (_ = _) := hR
  clear hR
  unfold vec at c1 c2
  have C1 : Hid _ := c1
  have C2 : Hid _ := c2
  have JS : Hid _ := js
  have L0 : Hid _ := l0
  have L1 : Hid _ := l1
  have P0 : Hid _ := p0
  have P1 : Hid _ := p1
  clear hA hB hx hy c1 c2 js l0 l1 p0 p1
  unfold Bd.val
  go_enter Tryz.func78, Tryz.ntmps78
  go_upto_if 10 with (fail)
  obtain ⟨V, hV⟩ : ∃ V, V = (((((w.alloc (.cells #[.int .i64 A.s, .int .i64 A.a, .int .i64 A.b, .int .i64 A.m, .int .i64 A.p, .int .i64 A.q, .int .i64 A.u, .int .i64 A.v] 28)).alloc (.cells #[.int .i64 B.s, .int .i64 B.a, .int .i64 B.b, .int .i64 B.m, .int .i64 B.p, .int .i64 B.q, .int .i64 B.u, .int .i64 B.v] 28)).alloc (.cells #[.int .i64 x, .int .i64 y] 26)).alloc (.cells #[.int .i64 0, .int .i64 0, .int .i64 0, .int .i64 0, .int .i64 0, .int .i64 0, .int .i64 0, .int .i64 0] 28)).alloc (.cells #[.int .i64 0, .int .i64 0, .int .i64 0, .int .i64 0, .int .i64 0, .int .i64 0, .int .i64 0, .int .i64 0] 28)) := ⟨_, rfl⟩
  rw [← hV]
  obtain ⟨J, T⟩ := JS.out V hV
  clear hV JS
  have nr : w.heap.size + 1 < w.heap.size + 1 + 1 + 1 := by omega
  have ns : w.heap.size + 1 < w.heap.size + 1 + 1 + 1 + 1 := by omega
  go_cut [] from 8 to 25 (fun wx => L.2 = 0 ∧ Jm w wx (w.heap.size + 1 + 1 + 1) (w.heap.size + 1 + 1 + 1 + 1) L.1 B ∧ At wx (w.heap.size + 1 + 1) x y)
  case first =>
    by_cases ha : A.m = 0
    · have hm : (A.m != 0) = false := by simpa using ha
      have LH : Hid _ := L0.out ha
      have JH : Hid _ := J
      have TH : Hid _ := T
      clear J T C1 C2 L0 L1 P0 P1
      go_wp2
      go_meet
      case rel => exact ⟨by rw [LH.out], by rw [LH.out]; exact JH.out, TH.out⟩
    · have hm : (A.m != 0) = true := by simpa using ha
      have ⟨a0, a1, a2, a3, a4, a5, a6, a7⟩ := J.a
      have ⟨t0, t1⟩ := T
      have y6 := J.g.freeB (b := w.heap.size) (by omega) 6 none
      have y7 := J.g.freeB (b := w.heap.size) (by omega) 7 none
      have JH : Hid _ := J
      have TH : Hid _ := T
      have LE : L = put D A.mom := L1.out ha
      have LH : Hid _ := LE
      clear J T C2 L0 L1 P0 P1 LE
      go_wp2_with (first
        | (go_at_call 74; go_fit (C1.out _); rintro e V1 ⟨(⟨rfl, h1⟩ | ⟨rfl, h1⟩), U1⟩; have z6 := U1.frozen y6; have z7 := U1.frozen y7; have b6 := U1.cell a6; have b7 := U1.cell a7))
      · go_meet
        case rel => exact ⟨by rw [LH.out, put_ok h1.out], by rw [LH.out, put_ok h1.out]; exact (JH.out.grew U1).momA nr ns _ _, (At.grew TH.out U1).far (by omega) _ _ _ _⟩
      · exact ⟨rfl, by rw [← HR.out, LH.out, put_no h1.out]; exact (outP_no h1.out _).symm, JH.out.g.trans U1⟩
  case rest =>
    obtain ⟨hL, J', T'⟩ := hcut
    clear J T
    have J := J'
    have T := T'
    clear J' T' V L0 L1 C1
    have b3 := J.b.c3
    go_upto_if 18 with (fail)
    go_cut [] from 8 to 25 (fun wx => M.2 = 0 ∧ Jm w wx (w.heap.size + 1 + 1 + 1) (w.heap.size + 1 + 1 + 1 + 1) L.1 M.1)
    case first =>
      by_cases ha : B.m = 0
      · have hm : (B.m != 0) = false := by simpa using ha
        have LH : Hid _ := P0.out ha
        have JH : Hid _ := J
        clear J T C2 P0 P1
        go_wp2
        go_meet
        case rel => exact ⟨by rw [LH.out], by rw [LH.out]; exact JH.out⟩
      · have hm : (B.m != 0) = true := by simpa using ha
        have ⟨a0, a1, a2, a3, a4, a5, a6, a7⟩ := J.b
        have ⟨t0, t1⟩ := T
        have y6 := J.g.freeB (b := w.heap.size + 1) (by omega) 6 none
        have y7 := J.g.freeB (b := w.heap.size + 1) (by omega) 7 none
        have JH : Hid _ := J
        have LE : M = put E B.mom := P1.out ha
        have LH : Hid _ := LE
        clear J T P0 P1 LE
        go_wp2_with (first
          | (go_at_call 29; go_fit (C2.out _); rintro e V1 ⟨(⟨rfl, h1⟩ | ⟨rfl, h1⟩), U1⟩; have z6 := U1.frozen y6; have z7 := U1.frozen y7; have b6 := U1.cell a6; have b7 := U1.cell a7))
        · go_meet
          case rel => exact ⟨by rw [LH.out, put_ok h1.out], by rw [LH.out, put_ok h1.out]; exact (JH.out.grew U1).momB nr ns _ _⟩
        · exact ⟨rfl, by rw [← HR.out, ifP_ok hL, LH.out, put_no h1.out]; exact (outP_no h1.out _).symm, JH.out.g.trans U1⟩
    case rest =>
      obtain ⟨hM, J'⟩ := hcut
      clear J T b3
      have J := J'
      clear J'
      rw [ifP_ok hL, ifP_ok hM] at HR
      clear P0 P1 C2
      generalize L.1 = A1 at *
      generalize M.1 = B1 at *
      have ⟨a0, a1, a2, a3, a4, a5, a6, a7⟩ := J.a
      have ⟨b0, b1, b2, b3, b4, b5, b6, b7⟩ := J.b
      have ⟨r0, r1, r2, r3, r4, r5, r6, r7⟩ := J.r
      have ⟨s0, s1, s2, s3, s4, s5, s6, s7⟩ := J.s
      have y0 := J.g.freeB (b := w.heap.size + 1 + 1 + 1) (by omega) 0 none
      have y1 := J.g.freeB (b := w.heap.size + 1 + 1 + 1) (by omega) 1 none
      have y2 := J.g.freeB (b := w.heap.size + 1 + 1 + 1) (by omega) 2 none
      have y3 := J.g.freeB (b := w.heap.size + 1 + 1 + 1) (by omega) 3 none
      have y4 := J.g.freeB (b := w.heap.size + 1 + 1 + 1) (by omega) 4 none
      have y5 := J.g.freeB (b := w.heap.size + 1 + 1 + 1) (by omega) 5 none
      have y6 := J.g.freeB (b := w.heap.size + 1 + 1 + 1) (by omega) 6 none
      have y7 := J.g.freeB (b := w.heap.size + 1 + 1 + 1) (by omega) 7 none
      have z0 := J.g.freeB (b := w.heap.size + 1 + 1 + 1 + 1) (by omega) 0 none
      have z1 := J.g.freeB (b := w.heap.size + 1 + 1 + 1 + 1) (by omega) 1 none
      have z2 := J.g.freeB (b := w.heap.size + 1 + 1 + 1 + 1) (by omega) 2 none
      have z3 := J.g.freeB (b := w.heap.size + 1 + 1 + 1 + 1) (by omega) 3 none
      have z4 := J.g.freeB (b := w.heap.size + 1 + 1 + 1 + 1) (by omega) 4 none
      have z5 := J.g.freeB (b := w.heap.size + 1 + 1 + 1 + 1) (by omega) 5 none
      have z6 := J.g.freeB (b := w.heap.size + 1 + 1 + 1 + 1) (by omega) 6 none
      have z7 := J.g.freeB (b := w.heap.size + 1 + 1 + 1 + 1) (by omega) 7 none
      have f0 := set_far (a := w.heap.size + 1 + 1 + 1) (c := w.heap.size) (by omega)
      have f1 := set_far (a := w.heap.size + 1 + 1 + 1) (c := w.heap.size + 1) (by omega)
      have f2 := set_far (a := w.heap.size + 1 + 1 + 1 + 1) (c := w.heap.size) (by omega)
      have f3 := set_far (a := w.heap.size + 1 + 1 + 1 + 1) (c := w.heap.size + 1) (by omega)
      have f4 := set_far (a := w.heap.size + 1 + 1 + 1) (c := w.heap.size + 1 + 1 + 1 + 1) (by omega)
      have f5 := set_far (a := w.heap.size + 1 + 1 + 1 + 1) (c := w.heap.size + 1 + 1 + 1) (by omega)
      have JH : Hid _ := J
      clear J
      go_wp2_with (fail)
      go_region_held2 (fun w' => w'.cell? ⟨w.heap.size, 0, none⟩ = some (.int .i64 A1.s) ∧ w'.cell? ⟨w.heap.size, 1, none⟩ = some (.int .i64 A1.a) ∧ w'.cell? ⟨w.heap.size, 2, none⟩ = some (.int .i64 A1.b) ∧ w'.cell? ⟨w.heap.size, 3, none⟩ = some (.int .i64 A1.m) ∧ w'.cell? ⟨w.heap.size, 4, none⟩ = some (.int .i64 A1.p) ∧ w'.cell? ⟨w.heap.size, 5, none⟩ = some (.int .i64 A1.q) ∧ w'.cell? ⟨w.heap.size, 6, none⟩ = some (.int .i64 A1.u) ∧ w'.cell? ⟨w.heap.size, 7, none⟩ = some (.int .i64 A1.v) ∧ w'.cell? ⟨w.heap.size + 1, 0, none⟩ = some (.int .i64 B1.s) ∧ w'.cell? ⟨w.heap.size + 1, 1, none⟩ = some (.int .i64 B1.a) ∧ w'.cell? ⟨w.heap.size + 1, 2, none⟩ = some (.int .i64 B1.b) ∧ w'.cell? ⟨w.heap.size + 1, 3, none⟩ = some (.int .i64 B1.m) ∧ w'.cell? ⟨w.heap.size + 1, 4, none⟩ = some (.int .i64 B1.p) ∧ w'.cell? ⟨w.heap.size + 1, 5, none⟩ = some (.int .i64 B1.q) ∧ w'.cell? ⟨w.heap.size + 1, 6, none⟩ = some (.int .i64 B1.u) ∧ w'.cell? ⟨w.heap.size + 1, 7, none⟩ = some (.int .i64 B1.v)) (go_keep) (fail)
      rename_i hH; clear hH
      go_wp2
      simp [bodyPost, results, Tryz.results78, go_sem, r0, r1, r2, r3, r4, r5, r6, r7, s0, s1, s2, s3, s4, s5, s6, s7, f4, f5]
      exact ⟨by rw [← HR.out]; rfl, (lay_grew (lay_grew JH.out.g (by omega) A1) (by omega) B1).drew⟩

end Go.Proofs.YtcoooehcgbohgaaGreat

namespace Go.Proofs.YtcoooehcgbohgaaGreat
open Go.RowKit

theorem jj_start (w : World) (A B : Bd) (V : World) (hV : V = ((((w.alloc (.cells #[.int .i64 A.s, .int .i64 A.a, .int .i64 A.b, .int .i64 A.m, .int .i64 A.p, .int .i64 A.q, .int .i64 A.u, .int .i64 A.v] 28)).alloc (.cells #[.int .i64 B.s, .int .i64 B.a, .int .i64 B.b, .int .i64 B.m, .int .i64 B.p, .int .i64 B.q, .int .i64 B.u, .int .i64 B.v] 28)).alloc (.cells #[.int .i64 0, .int .i64 0, .int .i64 0, .int .i64 0, .int .i64 0, .int .i64 0, .int .i64 0, .int .i64 0] 28)).alloc (.cells #[.int .i64 0, .int .i64 0, .int .i64 0, .int .i64 0, .int .i64 0, .int .i64 0, .int .i64 0, .int .i64 0] 28))) : Jm w V (w.heap.size + 1 + 1) (w.heap.size + 1 + 1 + 1) A B := by
  refine ⟨?_, ?_, ?_, ?_, ?_⟩
  · rw [hV]; exact (((((Grew.refl w).alloc _ _).alloc _ _).alloc _ _).alloc _ _)
  all_goals (rw [hV]; constructor <;> simp [go_sem, noB])

set_option maxHeartbeats 16000000 in
theorem joint_any (A B : Bd) (n : Int) (hA : A.ok) (hB : B.ok) (hn : inF n) (w : World) :
    Calls Tryz.prog 58 #[A.val, B.val, .int .i64 n] w fun e w' => e = outP (jointR A B n) ∧ Grew w w' := by
  have js := jj_start w A B
  have nr : w.heap.size + 1 < w.heap.size + 1 + 1 := by omega
  have ns : w.heap.size + 1 < w.heap.size + 1 + 1 + 1 := by omega
  obtain ⟨R, hR⟩ : ∃ R, jointR A B n = R := ⟨_, rfl⟩
  rw [hR]
  unfold jointR wayV heldU heldR pullR scaleV at hR
  have c1 := fun W => waysV_of (vsub_any B.p B.q A.p A.q W hB.p hB.q hA.p hA.q)
  have i1 := two_in (subR_in B.p A.p) (subR_in B.q A.q)
  generalize two (subR B.p A.p) (subR B.q A.q) = d at *
  have c2 := fun W => waysU_of (vunit_any d.1 d.2.1 W i1.1 i1.2)
  have i2 := unitR_in i1.1 i1.2
  generalize unitR d.1 d.2.1 = u at *
  have c3 := fun W => ways_of (plight_any A B hA hB W)
  have i3 := kR_in A B
  generalize kR A B = K at *
  have c4 := fun W => ways_of (pparting_any A B u.1.1 u.1.2 hA hB i2.2.1 i2.2.2 W)
  have i4 := vR_in A B u.1.1 u.1.2
  generalize vR A B u.1.1 u.1.2 = v at *
  have c5 := fun W => ways_of (csub_any u.2.1 n W i2.1 hn)
  have i5 := subR_in u.2.1 n
  generalize subR u.2.1 n = s at *
  have c6 := fun W => ways_of (cmul_any s.1 34359738368 W i5 ⟨by decide, by decide⟩)
  have i6 := (mulR_in s.1 34359738368).1
  generalize mulR s.1 34359738368 = m at *
  have c7 := fun W => ways_of (cadd_any v.1 m.1 W i4 i6)
  have i7 := addR_in v.1 m.1
  generalize addR v.1 m.1 = t at *
  have HR0 : Hid (_ = _) := hR
  clear hR
  have c8 := fun W => ways_of (csub_any 0 t.1 W inF0 i7)
  have i8 := subR_in 0 t.1
  have HR1 : Hid (s.2 = 0 → m.2 = 0 → _) := fun h g => by have := HR0.out; rw [ifN_ok h, ifN_ok g] at this; exact this
  generalize subR 0 t.1 = q at *
  have c9 : ∀ W, Calls Tryz.prog 79 #[.int .i64 q.1, .int .i64 K.1] W fun e w' => ((e = .returned (.int .i64 (divR q.1 K.1).1) ∧ Hid ((divR q.1 K.1).2 = 0)) ∨ (e = .panicked [fault (divR q.1 K.1).2] ∧ Hid (¬ (divR q.1 K.1).2 = 0))) ∧ Grew W w' := fun W => (ways_of (cdiv_any q.1 K.1 W i8 i3)).mono fun e w' ⟨he, n, hw⟩ => ⟨he, by rw [hw]; exact (Grew.refl W).drewN n⟩
  have i9 := (divR_in q.1 K.1).1
  generalize divR q.1 K.1 = j at *
  have c10 := fun W => waysV_of (vscale_any u.1.1 u.1.2 j.1 W i2.2.1 i2.2.2 i9)
  have i10 := two_in (mulR_in u.1.1 j.1).1 (mulR_in u.1.2 j.1).1
  generalize two (mulR u.1.1 j.1) (mulR u.1.2 j.1) = z at *
  have c11 := fun W => waysP_of (apply_any A B z.1 z.2.1 hA hB i10.1 i10.2 W)
  generalize applyR A B z.1 z.2.1 = Q at *
  unfold vec at c1 c2 c10
  unfold Bd.val at c3 c4 c11 ⊢
  have C1 : Hid _ := c1
  have C2 : Hid _ := c2
  have C3 : Hid _ := c3
  have C4 : Hid _ := c4
  have C5 : Hid _ := c5
  have C6 : Hid _ := c6
  have C7 : Hid _ := c7
  have C8 : Hid _ := c8
  have C9 : Hid _ := c9
  have C10 : Hid _ := c10
  have C11 : Hid _ := c11
  have JS : Hid _ := js
  clear js c1 c2 c3 c4 c5 c6 c7 c8 c9 c10 c11 i1 i2 i3 i4 i5 i6 i7 i8 i9 i10 hA hB hn
  go_enter Tryz.func58, Tryz.ntmps58
  go_upto_if 23 with (first
    | (go_at_call 74; go_fit (C1.out _); rintro e V1 ⟨(⟨rfl, m1⟩ | ⟨rfl, m1⟩), U1⟩)
    | (go_at_call 73; go_fit (C2.out _); rintro e V2 ⟨(⟨rfl, m2⟩ | ⟨rfl, m2⟩), U2⟩))
  rotate_left
  · exact ⟨rfl, by rw [← HR0.out, ifP_ok m1.out]; exact (outP_no m2.out _).symm, ((JS.out _ rfl).g.trans U1).trans U2⟩
  · exact ⟨rfl, by rw [← HR0.out]; exact (outP_no m1.out _).symm, (JS.out _ rfl).g.trans U1⟩
  obtain ⟨V3, hV3⟩ : ∃ V3, V3 = V2.alloc (.cells #[.int .i64 u.1.1, .int .i64 u.1.2] 26) := ⟨_, rfl⟩
  rw [← hV3]
  have g3 : Grew V2 V3 := by rw [hV3]; exact (Grew.refl V2).alloc _ _
  have T3 : At V3 V2.heap.size u.1.1 u.1.2 := by rw [hV3]; constructor <;> simp [go_sem]
  have J3 := (((JS.out _ rfl).grew U1).grew U2).grew g3
  obtain ⟨X, hX⟩ : ∃ X, V2.heap.size = X := ⟨_, rfl⟩
  rw [hX] at T3 ⊢
  clear hV3 hX g3 U1 U2 JS C1 C2
  by_cases hl : u.2.1 = 0
  · have hl1 : (u.2.1 == 0) = true := by simpa using hl
    have HR : Hid (((A, B), 0) = R) := by show _ = _; rw [← HR0.out, ifP_ok m1.out, ifP_ok m2.out, if_pos hl]
    have JH : Hid _ := J3
    clear J3 T3 HR0 HR1 C3 C4 C5 C6 C7 C8 C9 C10 C11
    go_upto_region 3 with (fail)
    have J := JH.out
    clear JH
    obtain ⟨A1, hA1⟩ : ∃ A1, A = A1 := ⟨_, rfl⟩
    obtain ⟨B1, hB1⟩ : ∃ B1, B = B1 := ⟨_, rfl⟩
    rw [hA1, hB1] at J HR
    have ⟨a0, a1, a2, a3, a4, a5, a6, a7⟩ := J.a
    have ⟨b0, b1, b2, b3, b4, b5, b6, b7⟩ := J.b
    have ⟨r0, r1, r2, r3, r4, r5, r6, r7⟩ := J.r
    have ⟨s0, s1, s2, s3, s4, s5, s6, s7⟩ := J.s
    have y0 := J.g.freeB (b := w.heap.size + 1 + 1) (by omega) 0 none
    have y1 := J.g.freeB (b := w.heap.size + 1 + 1) (by omega) 1 none
    have y2 := J.g.freeB (b := w.heap.size + 1 + 1) (by omega) 2 none
    have y3 := J.g.freeB (b := w.heap.size + 1 + 1) (by omega) 3 none
    have y4 := J.g.freeB (b := w.heap.size + 1 + 1) (by omega) 4 none
    have y5 := J.g.freeB (b := w.heap.size + 1 + 1) (by omega) 5 none
    have y6 := J.g.freeB (b := w.heap.size + 1 + 1) (by omega) 6 none
    have y7 := J.g.freeB (b := w.heap.size + 1 + 1) (by omega) 7 none
    have z0 := J.g.freeB (b := w.heap.size + 1 + 1 + 1) (by omega) 0 none
    have z1 := J.g.freeB (b := w.heap.size + 1 + 1 + 1) (by omega) 1 none
    have z2 := J.g.freeB (b := w.heap.size + 1 + 1 + 1) (by omega) 2 none
    have z3 := J.g.freeB (b := w.heap.size + 1 + 1 + 1) (by omega) 3 none
    have z4 := J.g.freeB (b := w.heap.size + 1 + 1 + 1) (by omega) 4 none
    have z5 := J.g.freeB (b := w.heap.size + 1 + 1 + 1) (by omega) 5 none
    have z6 := J.g.freeB (b := w.heap.size + 1 + 1 + 1) (by omega) 6 none
    have z7 := J.g.freeB (b := w.heap.size + 1 + 1 + 1) (by omega) 7 none
    have f0 := set_far (a := w.heap.size + 1 + 1) (c := w.heap.size) (by omega)
    have f1 := set_far (a := w.heap.size + 1 + 1) (c := w.heap.size + 1) (by omega)
    have f2 := set_far (a := w.heap.size + 1 + 1 + 1) (c := w.heap.size) (by omega)
    have f3 := set_far (a := w.heap.size + 1 + 1 + 1) (c := w.heap.size + 1) (by omega)
    have f4 := set_far (a := w.heap.size + 1 + 1) (c := w.heap.size + 1 + 1 + 1) (by omega)
    have f5 := set_far (a := w.heap.size + 1 + 1 + 1) (c := w.heap.size + 1 + 1) (by omega)
    have JH : Hid _ := J
    clear J
    go_wp2_with (fail)
    go_region_held2 (fun w' => w'.cell? ⟨w.heap.size, 0, none⟩ = some (.int .i64 A1.s) ∧ w'.cell? ⟨w.heap.size, 1, none⟩ = some (.int .i64 A1.a) ∧ w'.cell? ⟨w.heap.size, 2, none⟩ = some (.int .i64 A1.b) ∧ w'.cell? ⟨w.heap.size, 3, none⟩ = some (.int .i64 A1.m) ∧ w'.cell? ⟨w.heap.size, 4, none⟩ = some (.int .i64 A1.p) ∧ w'.cell? ⟨w.heap.size, 5, none⟩ = some (.int .i64 A1.q) ∧ w'.cell? ⟨w.heap.size, 6, none⟩ = some (.int .i64 A1.u) ∧ w'.cell? ⟨w.heap.size, 7, none⟩ = some (.int .i64 A1.v) ∧ w'.cell? ⟨w.heap.size + 1, 0, none⟩ = some (.int .i64 B1.s) ∧ w'.cell? ⟨w.heap.size + 1, 1, none⟩ = some (.int .i64 B1.a) ∧ w'.cell? ⟨w.heap.size + 1, 2, none⟩ = some (.int .i64 B1.b) ∧ w'.cell? ⟨w.heap.size + 1, 3, none⟩ = some (.int .i64 B1.m) ∧ w'.cell? ⟨w.heap.size + 1, 4, none⟩ = some (.int .i64 B1.p) ∧ w'.cell? ⟨w.heap.size + 1, 5, none⟩ = some (.int .i64 B1.q) ∧ w'.cell? ⟨w.heap.size + 1, 6, none⟩ = some (.int .i64 B1.u) ∧ w'.cell? ⟨w.heap.size + 1, 7, none⟩ = some (.int .i64 B1.v)) (go_keep) (fail)
    rename_i hH; clear hH
    go_wp2
    simp [bodyPost, results, Tryz.results58, go_sem, r0, r1, r2, r3, r4, r5, r6, r7, s0, s1, s2, s3, s4, s5, s6, s7, f4, f5]
    exact ⟨by rw [← HR.out]; rfl, (lay_grew (lay_grew JH.out.g (by omega) A1) (by omega) B1).drew⟩

  have hl0 : (u.2.1 == 0) = false := by simpa using hl
  have ⟨a0, a1, a2, a3, a4, a5, a6, a7⟩ := J3.a
  have ⟨b0, b1, b2, b3, b4, b5, b6, b7⟩ := J3.b
  have JH : Hid _ := J3
  have TH : Hid _ := T3
  clear J3 T3
  go_upto_if 30 with (first
    | (go_at_call 75; go_fit (C3.out _); rintro e V4 ⟨(⟨rfl, m3⟩ | ⟨rfl, m3⟩), U4⟩))
  rotate_left
  · exact ⟨rfl, by rw [← HR0.out, ifP_ok m1.out, ifP_ok m2.out, if_neg hl]; exact (outP_no m3.out _).symm, JH.out.g.trans U4⟩
  have J4 := JH.out.grew U4
  have T4 := At.grew TH.out U4
  clear JH TH U4 C3 a0 a1 a2 a3 a4 a5 a6 a7 b0 b1 b2 b3 b4 b5 b6 b7
  by_cases hz : K.1 = 0
  · have hz1 : (K.1 == 0) = true := by simpa using hz
    have HR : Hid (((A, B), 0) = R) := by show _ = _; rw [← HR0.out, ifP_ok m1.out, ifP_ok m2.out, if_neg hl, ifP_ok m3.out, if_pos hz]
    have JH : Hid _ := J4
    clear J4 T4 HR0 HR1 C4 C5 C6 C7 C8 C9 C10 C11
    go_upto_region 6 with (fail)
    have J := JH.out
    clear JH
    obtain ⟨A1, hA1⟩ : ∃ A1, A = A1 := ⟨_, rfl⟩
    obtain ⟨B1, hB1⟩ : ∃ B1, B = B1 := ⟨_, rfl⟩
    rw [hA1, hB1] at J HR
    have ⟨a0, a1, a2, a3, a4, a5, a6, a7⟩ := J.a
    have ⟨b0, b1, b2, b3, b4, b5, b6, b7⟩ := J.b
    have ⟨r0, r1, r2, r3, r4, r5, r6, r7⟩ := J.r
    have ⟨s0, s1, s2, s3, s4, s5, s6, s7⟩ := J.s
    have y0 := J.g.freeB (b := w.heap.size + 1 + 1) (by omega) 0 none
    have y1 := J.g.freeB (b := w.heap.size + 1 + 1) (by omega) 1 none
    have y2 := J.g.freeB (b := w.heap.size + 1 + 1) (by omega) 2 none
    have y3 := J.g.freeB (b := w.heap.size + 1 + 1) (by omega) 3 none
    have y4 := J.g.freeB (b := w.heap.size + 1 + 1) (by omega) 4 none
    have y5 := J.g.freeB (b := w.heap.size + 1 + 1) (by omega) 5 none
    have y6 := J.g.freeB (b := w.heap.size + 1 + 1) (by omega) 6 none
    have y7 := J.g.freeB (b := w.heap.size + 1 + 1) (by omega) 7 none
    have z0 := J.g.freeB (b := w.heap.size + 1 + 1 + 1) (by omega) 0 none
    have z1 := J.g.freeB (b := w.heap.size + 1 + 1 + 1) (by omega) 1 none
    have z2 := J.g.freeB (b := w.heap.size + 1 + 1 + 1) (by omega) 2 none
    have z3 := J.g.freeB (b := w.heap.size + 1 + 1 + 1) (by omega) 3 none
    have z4 := J.g.freeB (b := w.heap.size + 1 + 1 + 1) (by omega) 4 none
    have z5 := J.g.freeB (b := w.heap.size + 1 + 1 + 1) (by omega) 5 none
    have z6 := J.g.freeB (b := w.heap.size + 1 + 1 + 1) (by omega) 6 none
    have z7 := J.g.freeB (b := w.heap.size + 1 + 1 + 1) (by omega) 7 none
    have f0 := set_far (a := w.heap.size + 1 + 1) (c := w.heap.size) (by omega)
    have f1 := set_far (a := w.heap.size + 1 + 1) (c := w.heap.size + 1) (by omega)
    have f2 := set_far (a := w.heap.size + 1 + 1 + 1) (c := w.heap.size) (by omega)
    have f3 := set_far (a := w.heap.size + 1 + 1 + 1) (c := w.heap.size + 1) (by omega)
    have f4 := set_far (a := w.heap.size + 1 + 1) (c := w.heap.size + 1 + 1 + 1) (by omega)
    have f5 := set_far (a := w.heap.size + 1 + 1 + 1) (c := w.heap.size + 1 + 1) (by omega)
    have JH : Hid _ := J
    clear J
    go_wp2_with (fail)
    go_region_held2 (fun w' => w'.cell? ⟨w.heap.size, 0, none⟩ = some (.int .i64 A1.s) ∧ w'.cell? ⟨w.heap.size, 1, none⟩ = some (.int .i64 A1.a) ∧ w'.cell? ⟨w.heap.size, 2, none⟩ = some (.int .i64 A1.b) ∧ w'.cell? ⟨w.heap.size, 3, none⟩ = some (.int .i64 A1.m) ∧ w'.cell? ⟨w.heap.size, 4, none⟩ = some (.int .i64 A1.p) ∧ w'.cell? ⟨w.heap.size, 5, none⟩ = some (.int .i64 A1.q) ∧ w'.cell? ⟨w.heap.size, 6, none⟩ = some (.int .i64 A1.u) ∧ w'.cell? ⟨w.heap.size, 7, none⟩ = some (.int .i64 A1.v) ∧ w'.cell? ⟨w.heap.size + 1, 0, none⟩ = some (.int .i64 B1.s) ∧ w'.cell? ⟨w.heap.size + 1, 1, none⟩ = some (.int .i64 B1.a) ∧ w'.cell? ⟨w.heap.size + 1, 2, none⟩ = some (.int .i64 B1.b) ∧ w'.cell? ⟨w.heap.size + 1, 3, none⟩ = some (.int .i64 B1.m) ∧ w'.cell? ⟨w.heap.size + 1, 4, none⟩ = some (.int .i64 B1.p) ∧ w'.cell? ⟨w.heap.size + 1, 5, none⟩ = some (.int .i64 B1.q) ∧ w'.cell? ⟨w.heap.size + 1, 6, none⟩ = some (.int .i64 B1.u) ∧ w'.cell? ⟨w.heap.size + 1, 7, none⟩ = some (.int .i64 B1.v)) (go_keep) (fail)
    rename_i hH; clear hH
    go_wp2
    simp [bodyPost, results, Tryz.results58, go_sem, r0, r1, r2, r3, r4, r5, r6, r7, s0, s1, s2, s3, s4, s5, s6, s7, f4, f5]
    exact ⟨by rw [← HR.out]; rfl, (lay_grew (lay_grew JH.out.g (by omega) A1) (by omega) B1).drew⟩

  have hz0 : (K.1 == 0) = false := by simpa using hz
  have ⟨a0, a1, a2, a3, a4, a5, a6, a7⟩ := J4.a
  have ⟨b0, b1, b2, b3, b4, b5, b6, b7⟩ := J4.b
  have ⟨t0, t1⟩ := T4
  have JH : Hid _ := J4
  have TH : Hid _ := T4
  clear J4 T4
  go_upto_region 9 with (first
    | (go_at_call 76; go_fit (C4.out _); rintro e V5 ⟨(⟨rfl, m4⟩ | ⟨rfl, m4⟩), U5⟩)
    | (go_at_call 77; go_fit (C5.out _); rintro e w' ⟨(⟨rfl, m5⟩ | ⟨rfl, m5⟩), rfl⟩)
    | (go_at_call 72; go_fit (C6.out _); rintro e w' ⟨(⟨rfl, m6⟩ | ⟨rfl, m6⟩), rfl⟩)
    | (go_at_call 47; go_fit (C7.out _); rintro e w' ⟨(⟨rfl, m7⟩ | ⟨rfl, m7⟩), rfl⟩))
  rotate_left
  · exact ⟨rfl, by rw [← HR0.out, ifP_ok m1.out, ifP_ok m2.out, if_neg hl, ifP_ok m3.out, if_neg hz, ifP_ok m4.out, ifN_ok m5.out, ifN_ok m6.out]; exact (outP_no m7.out _).symm, JH.out.g.trans U5⟩
  · exact ⟨rfl, by rw [← HR0.out, ifP_ok m1.out, ifP_ok m2.out, if_neg hl, ifP_ok m3.out, if_neg hz, ifP_ok m4.out, ifN_ok m5.out, ifN_no m6.out]; exact (outP_no m6.out _).symm, JH.out.g.trans U5⟩
  · exact ⟨rfl, by rw [← HR0.out, ifP_ok m1.out, ifP_ok m2.out, if_neg hl, ifP_ok m3.out, if_neg hz, ifP_ok m4.out, ifN_no m5.out]; exact (outP_no m5.out _).symm, JH.out.g.trans U5⟩
  · exact ⟨rfl, by rw [← HR0.out, ifP_ok m1.out, ifP_ok m2.out, if_neg hl, ifP_ok m3.out, if_neg hz]; exact (outP_no m4.out _).symm, JH.out.g.trans U5⟩
  obtain ⟨V5, hV5⟩ : ∃ V, V = w' := ⟨_, rfl⟩
  rw [← hV5]
  have J : Jm w V5 (w.heap.size + 1 + 1) (w.heap.size + 1 + 1 + 1) A B := by rw [hV5]; exact JH.out.grew U5
  have T : At V5 X u.1.1 u.1.2 := by rw [hV5]; exact At.grew TH.out U5
  clear hV5 JH TH U5 C4 C5 C6 C7 HR0 a0 a1 a2 a3 a4 a5 a6 a7 b0 b1 b2 b3 b4 b5 b6 b7 t0 t1
  refine late_region (S := (fun w' => BAt w' w.heap.size A ∧ BAt w' (w.heap.size + 1) B ∧ At w' X u.1.1 u.1.2)) [11, 12] (by kernel_rfl) ?_ (fun hH0 => ?_)
  · exact ⟨J.a.grew (Grew.refl V5).drew, J.b.grew (Grew.refl V5).drew, T.grew (Grew.refl V5).drew⟩
  refine late_take (i := 0) (oi := { dst := some 43, op := Go.Op.load 28 (Go.Operand.tmp 3), type := 28, pos := "push.go:44", after := #[], guard := none }) (v := ?vd1) rfl (by kernel_rfl) (by kernel_rfl) (by kernel_rfl) (by kernel_rfl) (by kernel_rfl) (fun _ _ _ h => h) (Or.inl ⟨by rfl, ?hyd1⟩) hH0 ?restd1
  case hyd1 => (intro w hSw; obtain ⟨⟨a0, a1, a2, a3, a4, a5, a6, a7⟩, ⟨b0, b1, b2, b3, b4, b5, b6, b7⟩, ⟨h0, h1⟩⟩ := hSw; go_simp; try (with_reducible rfl))
  simp only [Act.put, List.setIfInBounds_toArray, List.set_cons_zero, List.set_cons_succ]
  refine late_take (i := 1) (oi := { dst := some 44, op := Go.Op.load 28 (Go.Operand.tmp 4), type := 28, pos := "push.go:44", after := #[], guard := none }) (v := ?vd2) rfl (by kernel_rfl) (by kernel_rfl) (by kernel_rfl) (by kernel_rfl) (by kernel_rfl) (fun _ _ _ h => h) (Or.inl ⟨by rfl, ?hyd2⟩) hH0 ?restd2
  case hyd2 => (intro w hSw; obtain ⟨⟨a0, a1, a2, a3, a4, a5, a6, a7⟩, ⟨b0, b1, b2, b3, b4, b5, b6, b7⟩, ⟨h0, h1⟩⟩ := hSw; go_simp; try (with_reducible rfl))
  simp only [Act.put, List.setIfInBounds_toArray, List.set_cons_zero, List.set_cons_succ]
  refine late_take (i := 2) (oi := { dst := some 45, op := Go.Op.load 26 (Go.Operand.tmp 8), type := 26, pos := "push.go:44", after := #[], guard := none }) (v := ?vd3) rfl (by kernel_rfl) (by kernel_rfl) (by kernel_rfl) (by kernel_rfl) (by kernel_rfl) (fun _ _ _ h => h) (Or.inl ⟨by rfl, ?hyd3⟩) hH0 ?restd3
  case hyd3 => (intro w hSw; obtain ⟨⟨a0, a1, a2, a3, a4, a5, a6, a7⟩, ⟨b0, b1, b2, b3, b4, b5, b6, b7⟩, ⟨h0, h1⟩⟩ := hSw; go_simp; try (with_reducible rfl))
  simp only [Act.put, List.setIfInBounds_toArray, List.set_cons_zero, List.set_cons_succ]
  refine late_take (i := 3) (oi := { dst := some 46, op := Go.Op.move (Go.Operand.tmp 12), type := 24, pos := "push.go:44", after := #[], guard := none }) (v := ?vd4) rfl (by kernel_rfl) (by kernel_rfl) (by kernel_rfl) (by kernel_rfl) (by kernel_rfl) (fun _ _ _ h => h) (Or.inl ⟨by rfl, ?hyd4⟩) hH0 ?restd4
  case hyd4 => (intro w hSw; obtain ⟨⟨a0, a1, a2, a3, a4, a5, a6, a7⟩, ⟨b0, b1, b2, b3, b4, b5, b6, b7⟩, ⟨h0, h1⟩⟩ := hSw; go_simp; try (with_reducible rfl))
  simp only [Act.put, List.setIfInBounds_toArray, List.set_cons_zero, List.set_cons_succ]
  refine late_take (i := 5) (oi := { dst := some 48, op := Go.Op.move (Go.Operand.tmp 10), type := 24, pos := "push.go:44", after := #[], guard := none }) (v := ?vd5) rfl (by kernel_rfl) (by kernel_rfl) (by kernel_rfl) (by kernel_rfl) (by kernel_rfl) (fun _ _ _ h => h) (Or.inl ⟨by rfl, ?hyd5⟩) hH0 ?restd5
  case hyd5 => (intro w hSw; obtain ⟨⟨a0, a1, a2, a3, a4, a5, a6, a7⟩, ⟨b0, b1, b2, b3, b4, b5, b6, b7⟩, ⟨h0, h1⟩⟩ := hSw; go_simp; try (with_reducible rfl))
  simp only [Act.put, List.setIfInBounds_toArray, List.set_cons_zero, List.set_cons_succ]
  refine late_one (i := 4) (by kernel_rfl) ?_
  refine late_run (o := { dst := some 47, op := Go.Op.call { callee := Go.Callee.value (Go.Operand.func 77), args := #[Go.Operand.const (Go.Value.int Go.IntKind.i64 0), Go.Operand.tmp 46], argTypes := #[24, 24] }, type := 24, pos := "push.go:44", after := #[{ on := 3, ground := Go.Ground.data }], guard := none }) rfl (fun K hK => ?_)
  go_simp
  go_wp2_with (first
    | (go_at_call 77; go_fit (C8.out _); rintro e w' ⟨(⟨rfl, m8⟩ | ⟨rfl, m8⟩), rfl⟩; rotate_left; (exact post_panic (P := Tryz.prog) (fn := Tryz.f58) (R := fun e w' => e = outP R ∧ Grew w w') rfl ⟨Eq.symm (by rw [← HR1.out m5.out m6.out, ifP_ok m1.out, ifP_ok m2.out, if_neg hl, ifP_ok m3.out, if_neg hz, ifP_ok m4.out, ifP_ok m7.out]; exact outP_no m8.out _), J.g.drew⟩))
    | fail)
  refine hK.out _ _ (hH0) (fun hHd6 => ?_)
  clear hK K
  refine late_one (i := 6) (by kernel_rfl) ?_
  refine late_run (o := { dst := some 49, op := Go.Op.call { callee := Go.Callee.value (Go.Operand.func 79), args := #[Go.Operand.tmp 47, Go.Operand.tmp 48], argTypes := #[24, 24] }, type := 24, pos := "push.go:44", after := #[{ on := 4, ground := Go.Ground.data }, { on := 5, ground := Go.Ground.data }, { on := 4, ground := Go.Ground.chain }], guard := none }) rfl (fun K hK => ?_)
  go_simp
  go_wp2_with (first
    | (go_at_call 79; go_fit (C9.out _); rintro e V6 ⟨(⟨rfl, m9⟩ | ⟨rfl, m9⟩), U6⟩; rotate_left; (exact post_panic (P := Tryz.prog) (fn := Tryz.f58) (R := fun e w' => e = outP R ∧ Grew w w') rfl ⟨Eq.symm (by rw [← HR1.out m5.out m6.out, ifP_ok m1.out, ifP_ok m2.out, if_neg hl, ifP_ok m3.out, if_neg hz, ifP_ok m4.out, ifP_ok m7.out, ifP_ok m8.out]; exact outP_no m9.out _), J.g.drew.trans U6⟩))
    | fail)
  refine hK.out _ _ (⟨hHd6.1.grew U6, hHd6.2.1.grew U6, hHd6.2.2.grew U6⟩) (fun hHd7 => ?_)
  clear hK K
  refine late_one (i := 7) (by kernel_rfl) ?_
  refine late_run (o := { dst := some 50, op := Go.Op.call { callee := Go.Callee.value (Go.Operand.func 57), args := #[Go.Operand.tmp 45, Go.Operand.tmp 49], argTypes := #[26, 24] }, type := 26, pos := "push.go:44", after := #[{ on := 2, ground := Go.Ground.data }, { on := 6, ground := Go.Ground.data }, { on := 6, ground := Go.Ground.chain }], guard := none }) rfl (fun K hK => ?_)
  go_simp
  go_wp2_with (first
    | (go_at_call 57; go_fit (C10.out _); rintro e V7 ⟨(⟨rfl, m10⟩ | ⟨rfl, m10⟩), U7⟩; rotate_left; (exact post_panic (P := Tryz.prog) (fn := Tryz.f58) (R := fun e w' => e = outP R ∧ Grew w w') rfl ⟨Eq.symm (by rw [← HR1.out m5.out m6.out, ifP_ok m1.out, ifP_ok m2.out, if_neg hl, ifP_ok m3.out, if_neg hz, ifP_ok m4.out, ifP_ok m7.out, ifP_ok m8.out, ifP_ok m9.out]; exact outP_no m10.out _), (J.g.drew.trans U6).trans U7⟩))
    | fail)
  refine hK.out _ _ (⟨hHd7.1.grew U7, hHd7.2.1.grew U7, hHd7.2.2.grew U7⟩) (fun hHd8 => ?_)
  clear hK K
  refine late_one (i := 8) (by kernel_rfl) ?_
  refine late_run (o := { dst := some 51, op := Go.Op.call { callee := Go.Callee.value (Go.Operand.func 78), args := #[Go.Operand.tmp 43, Go.Operand.tmp 44, Go.Operand.tmp 50], argTypes := #[28, 28, 26] }, type := 92, pos := "push.go:44", after := #[{ on := 0, ground := Go.Ground.data }, { on := 1, ground := Go.Ground.data }, { on := 7, ground := Go.Ground.data }, { on := 7, ground := Go.Ground.chain }], guard := none }) rfl (fun K hK => ?_)
  go_simp
  go_wp2_with (first
    | (go_at_call 78; go_fit (C11.out _); rintro e V8 ⟨(⟨rfl, m11⟩ | ⟨rfl, m11⟩), U8⟩; rotate_left; (exact post_panic (P := Tryz.prog) (fn := Tryz.f58) (R := fun e w' => e = outP R ∧ Grew w w') rfl ⟨Eq.symm (by rw [← HR1.out m5.out m6.out, ifP_ok m1.out, ifP_ok m2.out, if_neg hl, ifP_ok m3.out, if_neg hz, ifP_ok m4.out, ifP_ok m7.out, ifP_ok m8.out, ifP_ok m9.out, ifP_ok m10.out]; exact if_neg m11.out), ((J.g.drew.trans U6).trans U7).trans U8⟩))
    | fail)
  refine hK.out _ _ (⟨hHd8.1.grew U8, hHd8.2.1.grew U8, hHd8.2.2.grew U8⟩) (fun hHd9 => ?_)
  clear hK K
  refine late_take (i := 9) (oi := { dst := some 52, op := Go.Op.extract (Go.Operand.tmp 51) 0, type := 28, pos := "push.go:44", after := #[{ on := 8, ground := Go.Ground.data }], guard := none }) (v := ?vd10) rfl (by kernel_rfl) (by kernel_rfl) (by kernel_rfl) (by kernel_rfl) (by kernel_rfl) (fun _ _ _ h => h) (Or.inl ⟨by rfl, ?hyd10⟩) hHd9 ?restd10
  case hyd10 => (intro w hSw; obtain ⟨⟨a0, a1, a2, a3, a4, a5, a6, a7⟩, ⟨b0, b1, b2, b3, b4, b5, b6, b7⟩, ⟨h0, h1⟩⟩ := hSw; go_simp; try (with_reducible rfl))
  simp only [Act.put, List.setIfInBounds_toArray, List.set_cons_zero, List.set_cons_succ]
  refine late_take (i := 10) (oi := { dst := some 53, op := Go.Op.extract (Go.Operand.tmp 51) 1, type := 28, pos := "push.go:44", after := #[{ on := 8, ground := Go.Ground.data }], guard := none }) (v := ?vd11) rfl (by kernel_rfl) (by kernel_rfl) (by kernel_rfl) (by kernel_rfl) (by kernel_rfl) (fun _ _ _ h => h) (Or.inl ⟨by rfl, ?hyd11⟩) hHd9 ?restd11
  case hyd11 => (intro w hSw; obtain ⟨⟨a0, a1, a2, a3, a4, a5, a6, a7⟩, ⟨b0, b1, b2, b3, b4, b5, b6, b7⟩, ⟨h0, h1⟩⟩ := hSw; go_simp; try (with_reducible rfl))
  simp only [Act.put, List.setIfInBounds_toArray, List.set_cons_zero, List.set_cons_succ]
  refine late_one (i := 11) (by kernel_rfl) ?_
  refine late_write (o := { dst := none, op := Go.Op.store 28 (Go.Operand.tmp 6) (Go.Operand.tmp 52), type := 0, pos := "push.go:44", after := #[{ on := 9, ground := Go.Ground.data }, { on := 8, ground := Go.Ground.chain }, { on := 0, ground := Go.Ground.phase }, { on := 1, ground := Go.Ground.phase }, { on := 2, ground := Go.Ground.phase }, { on := 3, ground := Go.Ground.phase }, { on := 4, ground := Go.Ground.phase }, { on := 5, ground := Go.Ground.phase }, { on := 6, ground := Go.Ground.phase }, { on := 7, ground := Go.Ground.phase }, { on := 8, ground := Go.Ground.phase }, { on := 9, ground := Go.Ground.phase }, { on := 10, ground := Go.Ground.phase }], guard := none }) rfl (by kernel_rfl) (fun K hK => ?_)
  have G8 : Grew V5 V8 := (((Grew.refl V5).drew.trans U6).trans U7).trans U8
  have ⟨r0, r1, r2, r3, r4, r5, r6, r7⟩ := J.r.grew G8
  have y0 := (J.g.trans G8).freeB (b := w.heap.size + 1 + 1) (by omega) 0 none
  have y1 := (J.g.trans G8).freeB (b := w.heap.size + 1 + 1) (by omega) 1 none
  have y2 := (J.g.trans G8).freeB (b := w.heap.size + 1 + 1) (by omega) 2 none
  have y3 := (J.g.trans G8).freeB (b := w.heap.size + 1 + 1) (by omega) 3 none
  have y4 := (J.g.trans G8).freeB (b := w.heap.size + 1 + 1) (by omega) 4 none
  have y5 := (J.g.trans G8).freeB (b := w.heap.size + 1 + 1) (by omega) 5 none
  have y6 := (J.g.trans G8).freeB (b := w.heap.size + 1 + 1) (by omega) 6 none
  have y7 := (J.g.trans G8).freeB (b := w.heap.size + 1 + 1) (by omega) 7 none
  go_simp
  refine hK.out _ _ ?_
  clear hK K
  refine late_one (i := 12) (by kernel_rfl) ?_
  refine late_write (o := { dst := none, op := Go.Op.store 28 (Go.Operand.tmp 7) (Go.Operand.tmp 53), type := 0, pos := "push.go:44", after := #[{ on := 10, ground := Go.Ground.data }, { on := 11, ground := Go.Ground.chain }, { on := 0, ground := Go.Ground.phase }, { on := 1, ground := Go.Ground.phase }, { on := 2, ground := Go.Ground.phase }, { on := 3, ground := Go.Ground.phase }, { on := 4, ground := Go.Ground.phase }, { on := 5, ground := Go.Ground.phase }, { on := 6, ground := Go.Ground.phase }, { on := 7, ground := Go.Ground.phase }, { on := 8, ground := Go.Ground.phase }, { on := 9, ground := Go.Ground.phase }, { on := 10, ground := Go.Ground.phase }, { on := 11, ground := Go.Ground.phase }], guard := none }) rfl (by kernel_rfl) (fun K hK => ?_)
  have ⟨s0, s1, s2, s3, s4, s5, s6, s7⟩ := J.s.grew G8
  have z0 := (J.g.trans G8).freeB (b := w.heap.size + 1 + 1 + 1) (by omega) 0 none
  have z1 := (J.g.trans G8).freeB (b := w.heap.size + 1 + 1 + 1) (by omega) 1 none
  have z2 := (J.g.trans G8).freeB (b := w.heap.size + 1 + 1 + 1) (by omega) 2 none
  have z3 := (J.g.trans G8).freeB (b := w.heap.size + 1 + 1 + 1) (by omega) 3 none
  have z4 := (J.g.trans G8).freeB (b := w.heap.size + 1 + 1 + 1) (by omega) 4 none
  have z5 := (J.g.trans G8).freeB (b := w.heap.size + 1 + 1 + 1) (by omega) 5 none
  have z6 := (J.g.trans G8).freeB (b := w.heap.size + 1 + 1 + 1) (by omega) 6 none
  have z7 := (J.g.trans G8).freeB (b := w.heap.size + 1 + 1 + 1) (by omega) 7 none
  have f4 := set_far (a := w.heap.size + 1 + 1) (c := w.heap.size + 1 + 1 + 1) (by omega)
  have f5 := set_far (a := w.heap.size + 1 + 1 + 1) (c := w.heap.size + 1 + 1) (by omega)
  go_simp
  refine hK.out _ _ ?_
  clear hK K
  refine late_done (by kernel_rfl) ?_ _
  go_wp2
  simp [bodyPost, results, Tryz.results58, go_sem, r0, r1, r2, r3, r4, r5, r6, r7, s0, s1, s2, s3, s4, s5, s6, s7, f4, f5]
  exact ⟨by rw [← HR1.out m5.out m6.out, ifP_ok m1.out, ifP_ok m2.out, if_neg hl, ifP_ok m3.out, if_neg hz, ifP_ok m4.out, ifP_ok m7.out, ifP_ok m8.out, ifP_ok m9.out, ifP_ok m10.out]; exact (if_pos m11.out).symm, lay_grew (lay_grew (J.g.trans G8) (by omega) _) (by omega) _⟩
end Go.Proofs.YtcoooehcgbohgaaGreat
