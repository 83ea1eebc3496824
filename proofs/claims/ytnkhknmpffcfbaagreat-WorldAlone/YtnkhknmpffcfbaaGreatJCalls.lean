/-
  What push's own small functions and Apply do: what the plain functions say, or a panic of a Fault; more blocks are in memory, and nothing else.
-/
import Derived.Test.YtnkhknmpffcfbaaGreatJNum
import Derived.Test.YtnkhknmpffcfbaaGreatBCalls
import Derived.Test.YtnkhknmpffcfbaaGreatBAlive
import Derived.RegionTactic
import Derived.RegionDies
import Derived.Deep.CutRange
import Derived.Deep.CutBlock
import Derived.Deep.RegionWith
import Derived.Deep.RegionHeld2
import Derived.Deep.DeepFit
namespace Go.Proofs.YtnkhknmpffcfbaaGreat
open Go.RowKit

theorem waysP_of {P : Program} {f : Nat} {args : Array Value} {w : World} {t : (Bd × Bd) × Int} {A : World → Prop} (h : Calls P f args w fun e w' => e = outP t ∧ A w') :
    Calls P f args w fun e w' => ((e = .returned (.tuple #[t.1.1.val, t.1.2.val]) ∧ Hid (t.2 = 0)) ∨ (e = .panicked [fault t.2] ∧ Hid (¬ t.2 = 0))) ∧ A w' := by
  refine h.mono ?_
  rintro e w' ⟨rfl, hA⟩
  refine ⟨?_, hA⟩
  by_cases h : t.2 = 0
  · exact .inl ⟨if_pos h, h⟩
  · exact .inr ⟨if_neg h, h⟩
theorem waysU_of {P : Program} {f : Nat} {args : Array Value} {w : World} {t : (Int × Int) × Int × Int} {A : World → Prop} (h : Calls P f args w fun e w' => e = outU t ∧ A w') :
    Calls P f args w fun e w' => ((e = .returned (.tuple #[.agg #[.int .i64 t.1.1, .int .i64 t.1.2], .int .i64 t.2.1]) ∧ Hid (t.2.2 = 0)) ∨ (e = .panicked [fault t.2.2] ∧ Hid (¬ t.2.2 = 0))) ∧ A w' := by
  refine h.mono ?_
  rintro e w' ⟨rfl, hA⟩
  refine ⟨?_, hA⟩
  by_cases h : t.2.2 = 0
  · exact .inl ⟨if_pos h, h⟩
  · exact .inr ⟨if_neg h, h⟩

theorem kR_no1 {A B : Bd} (h : ¬ (lightR A).2 = 0) : outR (kR A B) = .panicked [fault (lightR A).2] := by unfold kR; rw [behind_no h]; exact if_neg h
theorem kR_no2 {A B : Bd} (h : (lightR A).2 = 0) (g : ¬ (lightR B).2 = 0) : outR (kR A B) = .panicked [fault (lightR B).2] := by unfold kR; rw [behind_ok h, behind_no g]; exact if_neg g
theorem kR_ok {A B : Bd} (h : (lightR A).2 = 0) (g : (lightR B).2 = 0) : kR A B = addR (lightR A).1 (lightR B).1 := by unfold kR; rw [behind_ok h, behind_ok g]
set_option maxHeartbeats 4000000 in
theorem plight_any (A B : Bd) (hA : A.ok) (hB : B.ok) (w : World) :
    Calls Tryz.prog 83 #[A.val, B.val] w fun e w' => e = outR (kR A B) ∧ Grew w w' := by
  have i1 := lightR_in A
  have i2 := lightR_in B
  have c1 := fun W => ways_of (shape_light A hA W)
  have c2 := fun W => ways_of (shape_light B hB W)
  have n1 := @kR_no1 A B
  have n2 := @kR_no2 A B
  have n3 := @kR_ok A B
  generalize kR A B = T at *
  generalize lightR A = r at *
  generalize lightR B = s at *
  have c3 := fun W => ways_of (cadd_any r.1 s.1 W i1 i2)
  unfold Bd.val at c1 c2 ⊢
  have C1 : Hid _ := c1
  have C2 : Hid _ := c2
  have C3 : Hid _ := c3
  have N1 : Hid _ := n1
  have N2 : Hid _ := n2
  have N3 : Hid _ := n3
  clear c1 c2 c3 n1 n2 n3 i1 i2 hA hB
  have G : Hid (Grew w ((w.alloc (.cells #[.int .i64 A.s, .int .i64 A.a, .int .i64 A.b, .int .i64 A.m, .int .i64 A.p, .int .i64 A.q, .int .i64 A.u, .int .i64 A.v] 39)).alloc (.cells #[.int .i64 B.s, .int .i64 B.a, .int .i64 B.b, .int .i64 B.m, .int .i64 B.p, .int .i64 B.q, .int .i64 B.u, .int .i64 B.v] 39))) := ((Grew.refl w).alloc _ _).alloc _ _
  go_enter Tryz.func83, Tryz.ntmps83
  go_wp2_with (fail)
  go_region_held2 (fun w' => w'.cell? ⟨w.heap.size, 0, none⟩ = some (.int .i64 A.s) ∧ w'.cell? ⟨w.heap.size, 1, none⟩ = some (.int .i64 A.a) ∧ w'.cell? ⟨w.heap.size, 2, none⟩ = some (.int .i64 A.b) ∧ w'.cell? ⟨w.heap.size, 3, none⟩ = some (.int .i64 A.m) ∧ w'.cell? ⟨w.heap.size, 4, none⟩ = some (.int .i64 A.p) ∧ w'.cell? ⟨w.heap.size, 5, none⟩ = some (.int .i64 A.q) ∧ w'.cell? ⟨w.heap.size, 6, none⟩ = some (.int .i64 A.u) ∧ w'.cell? ⟨w.heap.size, 7, none⟩ = some (.int .i64 A.v) ∧ w'.cell? ⟨w.heap.size + 1, 0, none⟩ = some (.int .i64 B.s) ∧ w'.cell? ⟨w.heap.size + 1, 1, none⟩ = some (.int .i64 B.a) ∧ w'.cell? ⟨w.heap.size + 1, 2, none⟩ = some (.int .i64 B.b) ∧ w'.cell? ⟨w.heap.size + 1, 3, none⟩ = some (.int .i64 B.m) ∧ w'.cell? ⟨w.heap.size + 1, 4, none⟩ = some (.int .i64 B.p) ∧ w'.cell? ⟨w.heap.size + 1, 5, none⟩ = some (.int .i64 B.q) ∧ w'.cell? ⟨w.heap.size + 1, 6, none⟩ = some (.int .i64 B.u) ∧ w'.cell? ⟨w.heap.size + 1, 7, none⟩ = some (.int .i64 B.v)) (go_keep)
    (first
      | (go_at_call 97; go_fit (C1.out _); rintro e V1 ⟨(⟨rfl, h1⟩ | ⟨rfl, h1⟩), U1⟩; rotate_left; (exact post_panic (P := Tryz.prog) (fn := Tryz.f83) (R := fun e w' => e = outR T ∧ Grew w w') rfl ⟨Eq.symm (N1.out h1.out), G.out.drew.trans U1⟩); have U1k0 := U1.cells (b := w.heap.size) (by first | omega | (simp; done) | (simp; omega)); have U1k1 := U1.cells (b := w.heap.size + 1) (by first | omega | (simp; done) | (simp; omega)))
      | (go_at_call 97; go_fit (C2.out _); rintro e V2 ⟨(⟨rfl, h2⟩ | ⟨rfl, h2⟩), U2⟩; rotate_left; (exact post_panic (P := Tryz.prog) (fn := Tryz.f83) (R := fun e w' => e = outR T ∧ Grew w w') rfl ⟨Eq.symm (N2.out h1.out h2.out), (G.out.drew.trans U1).trans U2⟩); have sz := U1.size; (simp at sz); have U2k0 := U2.cells (b := w.heap.size) (by first | omega | (simp; done) | (simp; omega)); have U2k1 := U2.cells (b := w.heap.size + 1) (by first | omega | (simp; done) | (simp; omega)))
      | (go_at_call 44; go_fit (C3.out _); rintro e w' ⟨(⟨rfl, h3⟩ | ⟨rfl, h3⟩), rfl⟩; rotate_left; (exact post_panic (P := Tryz.prog) (fn := Tryz.f83) (R := fun e w' => e = outR T ∧ Grew w w') rfl ⟨Eq.symm ((by rw [N3.out h1.out h2.out]; exact if_neg h3.out)), (G.out.drew.trans U1).trans U2⟩))
      | fail)
  go_wp2
  go_ret
  exact ⟨by rw [N3.out h1.out h2.out]; exact (if_pos h3.out).symm, (G.out.drew.trans U1).trans U2⟩
theorem vR_no1 {A B : Bd} {x y : Int} (h : ¬ (speedR B).2.2 = 0) : outR (vR A B x y) = .panicked [fault (speedR B).2.2] := outR_no h _
theorem vR_no2 {A B : Bd} {x y : Int} (h : (speedR B).2.2 = 0) (g : ¬ (speedR A).2.2 = 0) : outR (vR A B x y) = .panicked [fault (speedR A).2.2] := by unfold vR; rw [ifN_ok h]; exact outR_no g _
theorem vR_no3 {A B : Bd} {x y : Int} (h : (speedR B).2.2 = 0) (g : (speedR A).2.2 = 0) (k : ¬ (two (subR (speedR B).1 (speedR A).1) (subR (speedR B).2.1 (speedR A).2.1)).2.2 = 0) : outR (vR A B x y) = .panicked [fault (two (subR (speedR B).1 (speedR A).1) (subR (speedR B).2.1 (speedR A).2.1)).2.2] := by unfold vR; rw [ifN_ok h, ifN_ok g]; exact outR_no k _
theorem vR_ok {A B : Bd} {x y : Int} (h : (speedR B).2.2 = 0) (g : (speedR A).2.2 = 0) (k : (two (subR (speedR B).1 (speedR A).1) (subR (speedR B).2.1 (speedR A).2.1)).2.2 = 0) : vR A B x y = dotV (two (subR (speedR B).1 (speedR A).1) (subR (speedR B).2.1 (speedR A).2.1)).1 (two (subR (speedR B).1 (speedR A).1) (subR (speedR B).2.1 (speedR A).2.1)).2.1 x y := by unfold vR; rw [ifN_ok h, ifN_ok g, ifN_ok k]

set_option maxHeartbeats 4000000 in
theorem pparting_any (A B : Bd) (x y : Int) (hA : A.ok) (hB : B.ok) (hx : inF x) (hy : inF y) (w : World) :
    Calls Tryz.prog 84 #[A.val, B.val, .agg #[.int .i64 x, .int .i64 y]] w fun e w' => e = outR (vR A B x y) ∧ Grew w w' := by
  have i1 := speedR_in A
  have i2 := speedR_in B
  have c1 := fun W => waysV_of (shape_speed B hB W)
  have c2 := fun W => waysV_of (shape_speed A hA W)
  have n1 := @vR_no1 A B x y
  have n2 := @vR_no2 A B x y
  have n3 := @vR_no3 A B x y
  have n4 := @vR_ok A B x y
  generalize vR A B x y = T at *
  generalize speedR A = s at *
  generalize speedR B = r at *
  have c3 := fun W => waysV_of (vsub_any r.1 r.2.1 s.1 s.2.1 W i2.1 i2.2 i1.1 i1.2)
  have i3 := two_in (subR_in r.1 s.1) (subR_in r.2.1 s.2.1)
  generalize two (subR r.1 s.1) (subR r.2.1 s.2.1) = d at *
  have c4 := fun W => ways_of (vdot_any d.1 d.2.1 x y W i3.1 i3.2 hx hy)
  generalize dotV d.1 d.2.1 x y = t at *
  unfold vec at c1 c2 c3 c4
  unfold Bd.val at c1 c2 ⊢
  have C1 : Hid _ := c1
  have C2 : Hid _ := c2
  have C3 : Hid _ := c3
  have C4 : Hid _ := c4
  have N1 : Hid _ := n1
  have N2 : Hid _ := n2
  have N3 : Hid _ := n3
  have N4 : Hid _ := n4
  clear c1 c2 c3 c4 n1 n2 n3 n4 i1 i2 i3 hA hB hx hy
  have G : Hid (Grew w (((w.alloc (.cells #[.int .i64 A.s, .int .i64 A.a, .int .i64 A.b, .int .i64 A.m, .int .i64 A.p, .int .i64 A.q, .int .i64 A.u, .int .i64 A.v] 39)).alloc (.cells #[.int .i64 B.s, .int .i64 B.a, .int .i64 B.b, .int .i64 B.m, .int .i64 B.p, .int .i64 B.q, .int .i64 B.u, .int .i64 B.v] 39)).alloc (.cells #[.int .i64 x, .int .i64 y] 24))) := (((Grew.refl w).alloc _ _).alloc _ _).alloc _ _
  have e0 : Hid (∀ W, W = ((w.alloc (.cells #[.int .i64 A.s, .int .i64 A.a, .int .i64 A.b, .int .i64 A.m, .int .i64 A.p, .int .i64 A.q, .int .i64 A.u, .int .i64 A.v] 39)).alloc (.cells #[.int .i64 B.s, .int .i64 B.a, .int .i64 B.b, .int .i64 B.m, .int .i64 B.p, .int .i64 B.q, .int .i64 B.u, .int .i64 B.v] 39)).alloc (.cells #[.int .i64 x, .int .i64 y] 24) → W.cell? ⟨w.heap.size + 1 + 1, 0, none⟩ = some (.int .i64 x) ∧ W.cell? ⟨w.heap.size + 1 + 1, 1, none⟩ = some (.int .i64 y)) := fun W h => by rw [h]; simp [go_sem]
  go_enter Tryz.func84, Tryz.ntmps84
  go_wp2_with (fail)
  obtain ⟨x0, y0⟩ := e0.out _ rfl
  go_region_held2 (fun w' => w'.cell? ⟨w.heap.size, 0, none⟩ = some (.int .i64 A.s) ∧ w'.cell? ⟨w.heap.size, 1, none⟩ = some (.int .i64 A.a) ∧ w'.cell? ⟨w.heap.size, 2, none⟩ = some (.int .i64 A.b) ∧ w'.cell? ⟨w.heap.size, 3, none⟩ = some (.int .i64 A.m) ∧ w'.cell? ⟨w.heap.size, 4, none⟩ = some (.int .i64 A.p) ∧ w'.cell? ⟨w.heap.size, 5, none⟩ = some (.int .i64 A.q) ∧ w'.cell? ⟨w.heap.size, 6, none⟩ = some (.int .i64 A.u) ∧ w'.cell? ⟨w.heap.size, 7, none⟩ = some (.int .i64 A.v) ∧ w'.cell? ⟨w.heap.size + 1, 0, none⟩ = some (.int .i64 B.s) ∧ w'.cell? ⟨w.heap.size + 1, 1, none⟩ = some (.int .i64 B.a) ∧ w'.cell? ⟨w.heap.size + 1, 2, none⟩ = some (.int .i64 B.b) ∧ w'.cell? ⟨w.heap.size + 1, 3, none⟩ = some (.int .i64 B.m) ∧ w'.cell? ⟨w.heap.size + 1, 4, none⟩ = some (.int .i64 B.p) ∧ w'.cell? ⟨w.heap.size + 1, 5, none⟩ = some (.int .i64 B.q) ∧ w'.cell? ⟨w.heap.size + 1, 6, none⟩ = some (.int .i64 B.u) ∧ w'.cell? ⟨w.heap.size + 1, 7, none⟩ = some (.int .i64 B.v) ∧ w'.cell? ⟨w.heap.size + 1 + 1, 0, none⟩ = some (.int .i64 x) ∧ w'.cell? ⟨w.heap.size + 1 + 1, 1, none⟩ = some (.int .i64 y)) (go_keep)
    (first
      | (go_at_call 76; go_fit (C1.out _); rintro e V1 ⟨(⟨rfl, h1⟩ | ⟨rfl, h1⟩), U1⟩; rotate_left; (exact post_panic (P := Tryz.prog) (fn := Tryz.f84) (R := fun e w' => e = outR T ∧ Grew w w') rfl ⟨Eq.symm (N1.out h1.out), G.out.drew.trans U1⟩); have sz := U1.size; (simp at sz); have U1k0 := U1.cells (b := w.heap.size) (by first | omega | (simp; done) | (simp; omega)); have U1k1 := U1.cells (b := w.heap.size + 1) (by first | omega | (simp; done) | (simp; omega)); have U1k2 := U1.cells (b := w.heap.size + 1 + 1) (by first | omega | (simp; done) | (simp; omega)))
      | (go_at_call 76; go_fit (C2.out _); rintro e V2 ⟨(⟨rfl, h2⟩ | ⟨rfl, h2⟩), U2⟩; rotate_left; (exact post_panic (P := Tryz.prog) (fn := Tryz.f84) (R := fun e w' => e = outR T ∧ Grew w w') rfl ⟨Eq.symm (N2.out h1.out h2.out), (G.out.drew.trans U1).trans U2⟩); have sz2 := U2.size; have U2k0 := U2.cells (b := w.heap.size) (by first | omega | (simp; done) | (simp; omega)); have U2k1 := U2.cells (b := w.heap.size + 1) (by first | omega | (simp; done) | (simp; omega)); have U2k2 := U2.cells (b := w.heap.size + 1 + 1) (by first | omega | (simp; done) | (simp; omega)))
      | (go_at_call 82; go_fit (C3.out _); rintro e V3 ⟨(⟨rfl, h3⟩ | ⟨rfl, h3⟩), U3⟩; rotate_left; (exact post_panic (P := Tryz.prog) (fn := Tryz.f84) (R := fun e w' => e = outR T ∧ Grew w w') rfl ⟨Eq.symm (N3.out h1.out h2.out h3.out), ((G.out.drew.trans U1).trans U2).trans U3⟩); have sz3 := U3.size; have U3k0 := U3.cells (b := w.heap.size) (by first | omega | (simp; done) | (simp; omega)); have U3k1 := U3.cells (b := w.heap.size + 1) (by first | omega | (simp; done) | (simp; omega)); have U3k2 := U3.cells (b := w.heap.size + 1 + 1) (by first | omega | (simp; done) | (simp; omega)))
      | (go_at_call 102; go_fit (C4.out _); rintro e V4 ⟨(⟨rfl, h4⟩ | ⟨rfl, h4⟩), U4⟩; rotate_left; (exact post_panic (P := Tryz.prog) (fn := Tryz.f84) (R := fun e w' => e = outR T ∧ Grew w w') rfl ⟨Eq.symm ((by rw [N4.out h1.out h2.out h3.out]; exact if_neg h4.out)), (((G.out.drew.trans U1).trans U2).trans U3).trans U4⟩); have U4k0 := U4.cells (b := w.heap.size) (by first | omega | (simp; done) | (simp; omega)); have U4k1 := U4.cells (b := w.heap.size + 1) (by first | omega | (simp; done) | (simp; omega)); have U4k2 := U4.cells (b := w.heap.size + 1 + 1) (by first | omega | (simp; done) | (simp; omega)))
      | fail)
  go_wp2
  go_ret
  exact ⟨by rw [N4.out h1.out h2.out h3.out]; exact (if_pos h4.out).symm, (((G.out.drew.trans U1).trans U2).trans U3).trans U4⟩

theorem lessM_0 {A : Bd} {x y : Int} (h : A.m = 0) : lessM A x y = (A, 0) := if_pos h
theorem lessM_m {A : Bd} {x y : Int} (h : ¬ A.m = 0) : lessM A x y = put (lessV A x y) A.mom := if_neg h
theorem plusM_0 {A : Bd} {x y : Int} (h : A.m = 0) : plusM A x y = (A, 0) := if_pos h
theorem plusM_m {A : Bd} {x y : Int} (h : ¬ A.m = 0) : plusM A x y = put (plusV A x y) A.mom := if_neg h
/-- Two bodies, laid into two variables. -/
def lay (V : World) (b : Nat) (B : Bd) : World := (((((((V.setCell ⟨b, 0, none⟩ (.int .i64 B.s)).setCell ⟨b, 1, none⟩ (.int .i64 B.a)).setCell ⟨b, 2, none⟩ (.int .i64 B.b)).setCell ⟨b, 3, none⟩ (.int .i64 B.m)).setCell ⟨b, 4, none⟩ (.int .i64 B.p)).setCell ⟨b, 5, none⟩ (.int .i64 B.q)).setCell ⟨b, 6, none⟩ (.int .i64 B.u)).setCell ⟨b, 7, none⟩ (.int .i64 B.v)
theorem lay_grew {w V : World} (g : Grew w V) {b : Nat} (hb : w.heap.size ≤ b) (B : Bd) : Grew w (lay V b B) := by
  unfold lay
  exact (((((((g.setCell (a := ⟨b, 0, none⟩) hb _).setCell (a := ⟨b, 1, none⟩) hb _).setCell (a := ⟨b, 2, none⟩) hb _).setCell (a := ⟨b, 3, none⟩) hb _).setCell (a := ⟨b, 4, none⟩) hb _).setCell (a := ⟨b, 5, none⟩) hb _).setCell (a := ⟨b, 6, none⟩) hb _).setCell (a := ⟨b, 7, none⟩) hb _
theorem lay_at {V : World} {b : Nat} {A : Bd} (h : BAt V b A) (B : Bd) : BAt (lay V b B) b B := by
  obtain ⟨h0, h1, h2, h3, h4, h5, h6, h7⟩ := h
  unfold lay
  constructor <;> simp [go_sem, h0, h1, h2, h3, h4, h5, h6, h7]
theorem lay_far {V : World} {b c : Nat} {A : Bd} (h : BAt V c A) (hc : c ≠ b) (B : Bd) : BAt (lay V b B) c A := by
  have e := fun V o o' v => set_far (a := b) (c := c) hc V o o' v
  obtain ⟨h0, h1, h2, h3, h4, h5, h6, h7⟩ := h
  unfold lay
  constructor <;> simp only [e] <;> assumption

/-- Where a function of two bodies has them, and lays its two answers. -/
structure Jm (w V : World) (r s : Nat) (A B : Bd) : Prop where
  g : Grew w V
  a : BAt V w.heap.size A
  b : BAt V (w.heap.size + 1) B
  r : BAt V r noB
  s : BAt V s noB
theorem Jm.grew {w V V' : World} {r s : Nat} {A B : Bd} (h : Jm w V r s A B) (U : Grew V V') : Jm w V' r s A B := ⟨h.g.trans U, h.a.grew U, h.b.grew U, h.r.grew U, h.s.grew U⟩
theorem BAt.far {V : World} {b c : Nat} {A : Bd} (h : BAt V c A) (hc : c ≠ b) (o o' : Nat) (u v : Value) : BAt ((V.setCell ⟨b, o, none⟩ u).setCell ⟨b, o', none⟩ v) c A := by
  have e := fun V o o' v => set_far (a := b) (c := c) hc V o o' v
  obtain ⟨h0, h1, h2, h3, h4, h5, h6, h7⟩ := h
  constructor <;> simp only [e] <;> assumption
theorem At.far {V : World} {b c : Nat} {x y : Int} (h : At V c x y) (hc : c ≠ b) (o o' : Nat) (u v : Value) : At ((V.setCell ⟨b, o, none⟩ u).setCell ⟨b, o', none⟩ v) c x y := by
  have e := fun V o o' v => set_far (a := b) (c := c) hc V o o' v
  obtain ⟨h0, h1⟩ := h
  constructor <;> simp only [e] <;> assumption
theorem BAt.mom {V : World} {b : Nat} {A : Bd} (h : BAt V b A) (p q : Int) : BAt ((V.setCell ⟨b, 6, none⟩ (.int .i64 p)).setCell ⟨b, 7, none⟩ (.int .i64 q)) b (A.mom p q) := by
  obtain ⟨h0, h1, h2, h3, h4, h5, h6, h7⟩ := h
  constructor <;> simp [go_sem, Bd.mom, h0, h1, h2, h3, h4, h5, h6, h7]
theorem BAt.pos {V : World} {b : Nat} {A : Bd} (h : BAt V b A) (p q : Int) : BAt ((V.setCell ⟨b, 4, none⟩ (.int .i64 p)).setCell ⟨b, 5, none⟩ (.int .i64 q)) b (A.pos p q) := by
  obtain ⟨h0, h1, h2, h3, h4, h5, h6, h7⟩ := h
  constructor <;> simp [go_sem, Bd.pos, h0, h1, h2, h3, h4, h5, h6, h7]
theorem grew_set2 {w V : World} (g : Grew w V) {b : Nat} (hb : w.heap.size ≤ b) (o o' : Nat) (u v : Value) : Grew w ((V.setCell ⟨b, o, none⟩ u).setCell ⟨b, o', none⟩ v) := (g.setCell (a := ⟨b, o, none⟩) hb _).setCell (a := ⟨b, o', none⟩) hb _
theorem Jm.momA {w V : World} {r s : Nat} {A B : Bd} (h : Jm w V r s A B) (hr : w.heap.size + 1 < r) (hs : w.heap.size + 1 < s) (p q : Int) : Jm w ((V.setCell ⟨w.heap.size, 6, none⟩ (.int .i64 p)).setCell ⟨w.heap.size, 7, none⟩ (.int .i64 q)) r s (A.mom p q) B :=
  ⟨grew_set2 h.g (by omega) _ _ _ _, h.a.mom p q, h.b.far (by omega) _ _ _ _, h.r.far (by omega) _ _ _ _, h.s.far (by omega) _ _ _ _⟩
theorem Jm.momB {w V : World} {r s : Nat} {A B : Bd} (h : Jm w V r s A B) (hr : w.heap.size + 1 < r) (hs : w.heap.size + 1 < s) (p q : Int) : Jm w ((V.setCell ⟨w.heap.size + 1, 6, none⟩ (.int .i64 p)).setCell ⟨w.heap.size + 1, 7, none⟩ (.int .i64 q)) r s A (B.mom p q) :=
  ⟨grew_set2 h.g (by omega) _ _ _ _, h.a.far (by omega) _ _ _ _, h.b.mom p q, h.r.far (by omega) _ _ _ _, h.s.far (by omega) _ _ _ _⟩
theorem Jm.posA {w V : World} {r s : Nat} {A B : Bd} (h : Jm w V r s A B) (hr : w.heap.size + 1 < r) (hs : w.heap.size + 1 < s) (p q : Int) : Jm w ((V.setCell ⟨w.heap.size, 4, none⟩ (.int .i64 p)).setCell ⟨w.heap.size, 5, none⟩ (.int .i64 q)) r s (A.pos p q) B :=
  ⟨grew_set2 h.g (by omega) _ _ _ _, h.a.pos p q, h.b.far (by omega) _ _ _ _, h.r.far (by omega) _ _ _ _, h.s.far (by omega) _ _ _ _⟩
theorem Jm.posB {w V : World} {r s : Nat} {A B : Bd} (h : Jm w V r s A B) (hr : w.heap.size + 1 < r) (hs : w.heap.size + 1 < s) (p q : Int) : Jm w ((V.setCell ⟨w.heap.size + 1, 4, none⟩ (.int .i64 p)).setCell ⟨w.heap.size + 1, 5, none⟩ (.int .i64 q)) r s A (B.pos p q) :=
  ⟨grew_set2 h.g (by omega) _ _ _ _, h.a.far (by omega) _ _ _ _, h.b.pos p q, h.r.far (by omega) _ _ _ _, h.s.far (by omega) _ _ _ _⟩

/-- A struct variable that is loaded, and one that is stored: the tail 'return a, b'. -/
theorem jm_start (w : World) (A B : Bd) (x y : Int) (V : World) (hV : V = (((((w.alloc (.cells #[.int .i64 A.s, .int .i64 A.a, .int .i64 A.b, .int .i64 A.m, .int .i64 A.p, .int .i64 A.q, .int .i64 A.u, .int .i64 A.v] 39)).alloc (.cells #[.int .i64 B.s, .int .i64 B.a, .int .i64 B.b, .int .i64 B.m, .int .i64 B.p, .int .i64 B.q, .int .i64 B.u, .int .i64 B.v] 39)).alloc (.cells #[.int .i64 x, .int .i64 y] 24)).alloc (.cells #[.int .i64 0, .int .i64 0, .int .i64 0, .int .i64 0, .int .i64 0, .int .i64 0, .int .i64 0, .int .i64 0] 39)).alloc (.cells #[.int .i64 0, .int .i64 0, .int .i64 0, .int .i64 0, .int .i64 0, .int .i64 0, .int .i64 0, .int .i64 0] 39))) : Jm w V (w.heap.size + 1 + 1 + 1) (w.heap.size + 1 + 1 + 1 + 1) A B ∧ At V (w.heap.size + 1 + 1) x y := by
  refine ⟨⟨?_, ?_, ?_, ?_, ?_⟩, ?_⟩
  · rw [hV]; exact ((((((Grew.refl w).alloc _ _).alloc _ _).alloc _ _).alloc _ _).alloc _ _)
  all_goals (rw [hV]; constructor <;> simp [go_sem, noB])

set_option maxHeartbeats 8000000 in
theorem apply_any (A B : Bd) (x y : Int) (hA : A.ok) (hB : B.ok) (hx : inF x) (hy : inF y) (w : World) :
    Calls Tryz.prog 86 #[A.val, B.val, .agg #[.int .i64 x, .int .i64 y]] w fun e w' => e = outP (applyR A B x y) ∧ Grew w w' := by
  have js := jm_start w A B x y
  have c1 := fun W => waysV_of (vsub_any A.u A.v x y W hA.u hA.v hx hy)
  have c2 := fun W => waysV_of (vadd_any B.u B.v x y W hB.u hB.v hx hy)
  have l0 := @lessM_0 A x y
  have l1 := @lessM_m A x y
  have p0 := @plusM_0 B x y
  have p1 := @plusM_m B x y
  unfold lessV at l1
  unfold plusV at p1
  unfold applyR
  generalize two (subR A.u x) (subR A.v y) = D at *
  generalize two (addR B.u x) (addR B.v y) = E at *
  generalize lessM A x y = L at *
  generalize plusM B x y = M at *
  obtain ⟨R, hR⟩ : ∃ R, ifP L.2 (ifP M.2 ((L.1, M.1), 0)) = R := ⟨_, rfl⟩
  rw [hR]
  have HR : Hid (_ = _) := hR
  clear hR
  unfold vec at c1 c2
  have C1 : Hid _ := c1
  have C2 : Hid _ := c2
  have JS : Hid _ := js
  have L0 : Hid _ := l0
  have L1 : Hid _ := l1
  have P0 : Hid _ := p0
  have P1 : Hid _ := p1
  clear hA hB hx hy c1 c2 js l0 l1 p0 p1
  unfold Bd.val
  go_enter Tryz.func86, Tryz.ntmps86
  go_upto_if 10 with (fail)
  obtain ⟨V, hV⟩ : ∃ V, V = (((((w.alloc (.cells #[.int .i64 A.s, .int .i64 A.a, .int .i64 A.b, .int .i64 A.m, .int .i64 A.p, .int .i64 A.q, .int .i64 A.u, .int .i64 A.v] 39)).alloc (.cells #[.int .i64 B.s, .int .i64 B.a, .int .i64 B.b, .int .i64 B.m, .int .i64 B.p, .int .i64 B.q, .int .i64 B.u, .int .i64 B.v] 39)).alloc (.cells #[.int .i64 x, .int .i64 y] 24)).alloc (.cells #[.int .i64 0, .int .i64 0, .int .i64 0, .int .i64 0, .int .i64 0, .int .i64 0, .int .i64 0, .int .i64 0] 39)).alloc (.cells #[.int .i64 0, .int .i64 0, .int .i64 0, .int .i64 0, .int .i64 0, .int .i64 0, .int .i64 0, .int .i64 0] 39)) := ⟨_, rfl⟩
  rw [← hV]
  obtain ⟨J, T⟩ := JS.out V hV
  clear hV JS
  have nr : w.heap.size + 1 < w.heap.size + 1 + 1 + 1 := by omega
  have ns : w.heap.size + 1 < w.heap.size + 1 + 1 + 1 + 1 := by omega
  go_cut [] from 8 to 25 (fun wx => L.2 = 0 ∧ Jm w wx (w.heap.size + 1 + 1 + 1) (w.heap.size + 1 + 1 + 1 + 1) L.1 B ∧ At wx (w.heap.size + 1 + 1) x y)
  case first =>
    by_cases ha : A.m = 0
    · have hm : (A.m != 0) = false := by simpa using ha
      have LH : Hid _ := L0.out ha
      have JH : Hid _ := J
      have TH : Hid _ := T
      clear J T C1 C2 L0 L1 P0 P1
      go_wp2
      go_meet
      case rel => exact ⟨by rw [LH.out], by rw [LH.out]; exact JH.out, TH.out⟩
    · have hm : (A.m != 0) = true := by simpa using ha
      have ⟨a0, a1, a2, a3, a4, a5, a6, a7⟩ := J.a
      have ⟨t0, t1⟩ := T
      have y6 := J.g.freeB (b := w.heap.size) (by omega) 6 none
      have y7 := J.g.freeB (b := w.heap.size) (by omega) 7 none
      have JH : Hid _ := J
      have TH : Hid _ := T
      have LE : L = put D A.mom := L1.out ha
      have LH : Hid _ := LE
      clear J T C2 L0 L1 P0 P1 LE
      go_wp2_with (first
        | (go_at_call 82; go_fit (C1.out _); rintro e V1 ⟨(⟨rfl, h1⟩ | ⟨rfl, h1⟩), U1⟩; have z6 := U1.frozen y6; have z7 := U1.frozen y7; have b6 := U1.cell a6; have b7 := U1.cell a7))
      · go_meet
        case rel => exact ⟨by rw [LH.out, put_ok h1.out], by rw [LH.out, put_ok h1.out]; exact (JH.out.grew U1).momA nr ns _ _, (At.grew TH.out U1).far (by omega) _ _ _ _⟩
      · exact ⟨rfl, by rw [← HR.out, LH.out, put_no h1.out]; exact (outP_no h1.out _).symm, JH.out.g.trans U1⟩
  case rest =>
    obtain ⟨hL, J', T'⟩ := hcut
    clear J T
    have J := J'
    have T := T'
    clear J' T' V L0 L1 C1
    have b3 := J.b.c3
    go_upto_if 18 with (fail)
    go_cut [] from 8 to 25 (fun wx => M.2 = 0 ∧ Jm w wx (w.heap.size + 1 + 1 + 1) (w.heap.size + 1 + 1 + 1 + 1) L.1 M.1)
    case first =>
      by_cases ha : B.m = 0
      · have hm : (B.m != 0) = false := by simpa using ha
        have LH : Hid _ := P0.out ha
        have JH : Hid _ := J
        clear J T C2 P0 P1
        go_wp2
        go_meet
        case rel => exact ⟨by rw [LH.out], by rw [LH.out]; exact JH.out⟩
      · have hm : (B.m != 0) = true := by simpa using ha
        have ⟨a0, a1, a2, a3, a4, a5, a6, a7⟩ := J.b
        have ⟨t0, t1⟩ := T
        have y6 := J.g.freeB (b := w.heap.size + 1) (by omega) 6 none
        have y7 := J.g.freeB (b := w.heap.size + 1) (by omega) 7 none
        have JH : Hid _ := J
        have LE : M = put E B.mom := P1.out ha
        have LH : Hid _ := LE
        clear J T P0 P1 LE
        go_wp2_with (first
          | (go_at_call 25; go_fit (C2.out _); rintro e V1 ⟨(⟨rfl, h1⟩ | ⟨rfl, h1⟩), U1⟩; have z6 := U1.frozen y6; have z7 := U1.frozen y7; have b6 := U1.cell a6; have b7 := U1.cell a7))
        · go_meet
          case rel => exact ⟨by rw [LH.out, put_ok h1.out], by rw [LH.out, put_ok h1.out]; exact (JH.out.grew U1).momB nr ns _ _⟩
        · exact ⟨rfl, by rw [← HR.out, ifP_ok hL, LH.out, put_no h1.out]; exact (outP_no h1.out _).symm, JH.out.g.trans U1⟩
    case rest =>
      obtain ⟨hM, J'⟩ := hcut
      clear J T b3
      have J := J'
      clear J'
      rw [ifP_ok hL, ifP_ok hM] at HR
      clear P0 P1 C2
      generalize L.1 = A1 at *
      generalize M.1 = B1 at *
      have ⟨a0, a1, a2, a3, a4, a5, a6, a7⟩ := J.a
      have ⟨b0, b1, b2, b3, b4, b5, b6, b7⟩ := J.b
      have ⟨r0, r1, r2, r3, r4, r5, r6, r7⟩ := J.r
      have ⟨s0, s1, s2, s3, s4, s5, s6, s7⟩ := J.s
      have y0 := J.g.freeB (b := w.heap.size + 1 + 1 + 1) (by omega) 0 none
      have y1 := J.g.freeB (b := w.heap.size + 1 + 1 + 1) (by omega) 1 none
      have y2 := J.g.freeB (b := w.heap.size + 1 + 1 + 1) (by omega) 2 none
      have y3 := J.g.freeB (b := w.heap.size + 1 + 1 + 1) (by omega) 3 none
      have y4 := J.g.freeB (b := w.heap.size + 1 + 1 + 1) (by omega) 4 none
      have y5 := J.g.freeB (b := w.heap.size + 1 + 1 + 1) (by omega) 5 none
      have y6 := J.g.freeB (b := w.heap.size + 1 + 1 + 1) (by omega) 6 none
      have y7 := J.g.freeB (b := w.heap.size + 1 + 1 + 1) (by omega) 7 none
      have z0 := J.g.freeB (b := w.heap.size + 1 + 1 + 1 + 1) (by omega) 0 none
      have z1 := J.g.freeB (b := w.heap.size + 1 + 1 + 1 + 1) (by omega) 1 none
      have z2 := J.g.freeB (b := w.heap.size + 1 + 1 + 1 + 1) (by omega) 2 none
      have z3 := J.g.freeB (b := w.heap.size + 1 + 1 + 1 + 1) (by omega) 3 none
      have z4 := J.g.freeB (b := w.heap.size + 1 + 1 + 1 + 1) (by omega) 4 none
      have z5 := J.g.freeB (b := w.heap.size + 1 + 1 + 1 + 1) (by omega) 5 none
      have z6 := J.g.freeB (b := w.heap.size + 1 + 1 + 1 + 1) (by omega) 6 none
      have z7 := J.g.freeB (b := w.heap.size + 1 + 1 + 1 + 1) (by omega) 7 none
      have f0 := set_far (a := w.heap.size + 1 + 1 + 1) (c := w.heap.size) (by omega)
      have f1 := set_far (a := w.heap.size + 1 + 1 + 1) (c := w.heap.size + 1) (by omega)
      have f2 := set_far (a := w.heap.size + 1 + 1 + 1 + 1) (c := w.heap.size) (by omega)
      have f3 := set_far (a := w.heap.size + 1 + 1 + 1 + 1) (c := w.heap.size + 1) (by omega)
      have f4 := set_far (a := w.heap.size + 1 + 1 + 1) (c := w.heap.size + 1 + 1 + 1 + 1) (by omega)
      have f5 := set_far (a := w.heap.size + 1 + 1 + 1 + 1) (c := w.heap.size + 1 + 1 + 1) (by omega)
      have JH : Hid _ := J
      clear J
      go_wp2_with (fail)
      go_region_held2 (fun w' => w'.cell? ⟨w.heap.size, 0, none⟩ = some (.int .i64 A1.s) ∧ w'.cell? ⟨w.heap.size, 1, none⟩ = some (.int .i64 A1.a) ∧ w'.cell? ⟨w.heap.size, 2, none⟩ = some (.int .i64 A1.b) ∧ w'.cell? ⟨w.heap.size, 3, none⟩ = some (.int .i64 A1.m) ∧ w'.cell? ⟨w.heap.size, 4, none⟩ = some (.int .i64 A1.p) ∧ w'.cell? ⟨w.heap.size, 5, none⟩ = some (.int .i64 A1.q) ∧ w'.cell? ⟨w.heap.size, 6, none⟩ = some (.int .i64 A1.u) ∧ w'.cell? ⟨w.heap.size, 7, none⟩ = some (.int .i64 A1.v) ∧ w'.cell? ⟨w.heap.size + 1, 0, none⟩ = some (.int .i64 B1.s) ∧ w'.cell? ⟨w.heap.size + 1, 1, none⟩ = some (.int .i64 B1.a) ∧ w'.cell? ⟨w.heap.size + 1, 2, none⟩ = some (.int .i64 B1.b) ∧ w'.cell? ⟨w.heap.size + 1, 3, none⟩ = some (.int .i64 B1.m) ∧ w'.cell? ⟨w.heap.size + 1, 4, none⟩ = some (.int .i64 B1.p) ∧ w'.cell? ⟨w.heap.size + 1, 5, none⟩ = some (.int .i64 B1.q) ∧ w'.cell? ⟨w.heap.size + 1, 6, none⟩ = some (.int .i64 B1.u) ∧ w'.cell? ⟨w.heap.size + 1, 7, none⟩ = some (.int .i64 B1.v)) (go_keep) (fail)
      rename_i hH; clear hH
      go_wp2
      simp [bodyPost, results, Tryz.results86, go_sem, r0, r1, r2, r3, r4, r5, r6, r7, s0, s1, s2, s3, s4, s5, s6, s7, f4, f5]
      exact ⟨by rw [← HR.out]; rfl, (lay_grew (lay_grew JH.out.g (by omega) A1) (by omega) B1).drew⟩

end Go.Proofs.YtnkhknmpffcfbaaGreat
