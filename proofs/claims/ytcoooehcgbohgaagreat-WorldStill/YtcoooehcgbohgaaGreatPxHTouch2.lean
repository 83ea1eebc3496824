/-
  What touch.Hit and touch.Flip do: what the plain functions say, or a panic of a Fault; more blocks are in memory, and nothing else.
-/
import Derived.Test.YtcoooehcgbohgaaGreatPk04
import Derived.RegionTactic
import Derived.RegionDies
import Derived.Deep.RegionWith
import Derived.Deep.CutRange
import Derived.Deep.CutBlock
namespace Go.Proofs.YtcoooehcgbohgaaGreat
open Go.RowKit

theorem flip_no {h : Ht} (g : ¬ (two (subR 0 h.x) (subR 0 h.y)).2.2 = 0) : outF (flipR h) = .panicked [fault (two (subR 0 h.x) (subR 0 h.y)).2.2] := by unfold flipR; rw [if_neg g]; exact if_neg g
theorem flip_yes {h : Ht} (g : (two (subR 0 h.x) (subR 0 h.y)).2.2 = 0) : outF (flipR h) = .returned (.agg #[.int .i64 (two (subR 0 h.x) (subR 0 h.y)).1, .int .i64 (two (subR 0 h.x) (subR 0 h.y)).2.1, .int .i64 h.d]) := by
  obtain ⟨h1, h2⟩ := two_fst g
  unfold flipR
  rw [if_pos g, two_ok h1 h2]; rfl
theorem waysF_of {P : Program} {f : Nat} {args : Array Value} {w : World} {t : Ht × Int} {A : World → Prop} (h : Calls P f args w fun e w' => e = outF t ∧ A w') :
    Calls P f args w fun e w' => ((e = .returned (.agg #[.int .i64 t.1.x, .int .i64 t.1.y, .int .i64 t.1.d]) ∧ Hid (t.2 = 0)) ∨ (e = .panicked [fault t.2] ∧ Hid (¬ t.2 = 0))) ∧ A w' := by
  refine h.mono ?_
  rintro e w' ⟨rfl, hA⟩
  refine ⟨?_, hA⟩
  by_cases h : t.2 = 0
  · exact .inl ⟨if_pos h, h⟩
  · exact .inr ⟨if_neg h, h⟩

set_option maxHeartbeats 1000000 in
theorem flip_any (h : Ht) (ok : h.ok) (w : World) :
    Calls Tryz.prog 111 #[.agg #[.int .i64 h.x, .int .i64 h.y, .int .i64 h.d]] w fun e w' => e = outF (flipR h) ∧ Grew w w' := by
  have G : Hid (Grew w ((w.alloc (.cells #[.int .i64 h.x, .int .i64 h.y, .int .i64 h.d] 34)).alloc (.cells #[.int .i64 0, .int .i64 0, .int .i64 0] 34))) := ((Grew.refl w).alloc _ _).alloc _ _
  have c1 := fun W => waysV_of (vsub_any 0 0 h.x h.y W inF0 inF0 ok.x ok.y)
  have n1 := @flip_no h
  have n2 := @flip_yes h
  generalize flipR h = T at *
  generalize two (subR 0 h.x) (subR 0 h.y) = D at *
  obtain ⟨x, y, k⟩ := D
  obtain ⟨p, q, d⟩ := h
  simp only at n1 n2 c1 G
  unfold vec at c1
  have C1 : Hid _ := c1
  have N1 : Hid _ := n1
  have N2 : Hid _ := n2
  clear c1 n1 n2 ok
  have f1 := set_far (show w.heap.size ≠ w.heap.size + 1 by omega)
  go_enter Tryz.func111, Tryz.ntmps111
  go_wp2_with (fail)
  go_region_held2 (fun w' => w'.cell? ⟨w.heap.size, 0, none⟩ = some (.int .i64 p) ∧ w'.cell? ⟨w.heap.size, 1, none⟩ = some (.int .i64 q) ∧ w'.cell? ⟨w.heap.size, 2, none⟩ = some (.int .i64 d)) (go_keep)
    (first
      | (go_at_call 74; go_fit (C1.out _); rintro e V ⟨(⟨rfl, h1⟩ | ⟨rfl, h1⟩), U⟩; rotate_left; (exact post_panic (P := Tryz.prog) (fn := Tryz.f111) (R := fun e w' => e = outF T ∧ Grew w w') rfl ⟨(N1.out h1.out).symm, G.out.drew.trans U⟩); have k1 := U.cells (b := w.heap.size) (by first | omega | (simp; omega)); have r0 := U.cell (p := ⟨w.heap.size + 1, 0, none⟩) (v := .int .i64 0) (by simp [go_sem]); have r1 := U.cell (p := ⟨w.heap.size + 1, 1, none⟩) (v := .int .i64 0) (by simp [go_sem]); have r2 := U.cell (p := ⟨w.heap.size + 1, 2, none⟩) (v := .int .i64 0) (by simp [go_sem]); have z0 := U.frozen (p := ⟨w.heap.size + 1, 0, none⟩) (by simp [go_sem]); have z1 := U.frozen (p := ⟨w.heap.size + 1, 1, none⟩) (by simp [go_sem]); have z2 := U.frozen (p := ⟨w.heap.size + 1, 2, none⟩) (by simp [go_sem])))
  go_wp2
  rw [N2.out h1.out]
  simp [bodyPost, results, Tryz.results111, go_sem, r0, r1, r2]
  exact hit_set (G.out.drew.trans U) (b := w.heap.size + 1) (by omega) _ _ _

theorem froz_set {w : World} {p a : Addr} {v : Value} (h : w.frozen? p = false) : (w.setCell a v).frozen? p = false := by rw [World.frozen?_setCell]; exact h
theorem ball_no1 {A B : Bd} (h : ¬ (boxR B).2 = 0) : outH (ballR A B) = .panicked [fault (boxR B).2] := by unfold ballR; rw [ifH_no h]; exact if_neg h
theorem ball_ok1 {A B : Bd} (h : (boxR B).2 = 0) : ballR A B = ifH (edgeV A (boxR B).1).2.2 (ballU A B (unitR (edgeV A (boxR B).1).1 (edgeV A (boxR B).1).2.1)) := by unfold ballR; exact ifH_ok h _
theorem ballU_no1 {A B : Bd} {u : (Int × Int) × Int × Int} (h : ¬ u.2.2 = 0) : outH (ballU A B u) = .panicked [fault u.2.2] := by unfold ballU; rw [ifH_no h]; exact if_neg h
theorem ballU_in {A B : Bd} {u : (Int × Int) × Int × Int} (h : u.2.2 = 0) (g : u.2.1 = 0) : ballU A B u = crateR (roundB A) B := by unfold ballU; rw [ifH_ok h, if_pos g]
theorem ballU_no2 {A B : Bd} {u : (Int × Int) × Int × Int} (h : u.2.2 = 0) (g : ¬ u.2.1 = 0) (k : ¬ (subR A.a u.2.1).2 = 0) : outH (ballU A B u) = .panicked [fault (subR A.a u.2.1).2] := by unfold ballU; rw [ifH_ok h, if_neg g, ifH_no k]; exact if_neg k
theorem ballU_ok {A B : Bd} {u : (Int × Int) × Int × Int} (h : u.2.2 = 0) (g : ¬ u.2.1 = 0) (k : (subR A.a u.2.1).2 = 0) : ballU A B u = (contactH u.1.1 u.1.2 (subR A.a u.2.1).1, 0) := by unfold ballU; rw [ifH_ok h, if_neg g, ifH_ok k]
theorem boxR_in {B : Bd} : (boxR B).1.ok := by
  have h1 := two_in (subR_in B.p B.a) (subR_in B.q (reachY B))
  have h2 := two_in (addR_in B.p B.a) (addR_in B.q (reachY B))
  unfold boxR pairX
  split
  · split
    · exact ⟨h1.1, h1.2, h2.1, h2.2⟩
    · exact ⟨inF0, inF0, inF0, inF0⟩
  · exact ⟨inF0, inF0, inF0, inF0⟩
theorem round_ok {A : Bd} (h : A.ok) : (roundB A).ok := ⟨h.s, h.a, h.a, h.m, h.p, h.q, h.u, h.v⟩

set_option maxRecDepth 10000 in
set_option maxHeartbeats 4000000 in
theorem ball_any (A B : Bd) (hA : A.ok) (hB : B.ok) (w : World) :
    Calls Tryz.prog 87 #[A.val, B.val] w fun e w' => e = outH (ballR A B) ∧ Grew w w' := by
  have iB := @boxR_in B
  have c1 := fun W => waysX_of (of_box B hB W)
  have n1 := @ball_no1 A B
  have k1 := @ball_ok1 A B
  generalize ballR A B = T at *
  generalize boxR B = b at *
  obtain ⟨b, k⟩ := b
  simp only at iB n1 k1 c1
  have c2 : ∀ W, _ := fun W => clamp_any A.p A.q b W
  have iX := near_in hA.p iB.l iB.h
  have iY := near_in hA.q iB.m iB.k
  have c3 := fun W => waysV_of (vsub_any (nearI A.p b.l b.h) (nearI A.q b.m b.k) A.p A.q W iX iY hA.p hA.q)
  have iD := two_in (subR_in (nearI A.p b.l b.h) A.p) (subR_in (nearI A.q b.m b.k) A.q)
  unfold edgeV at k1
  generalize two (subR (nearI A.p b.l b.h) A.p) (subR (nearI A.q b.m b.k) A.q) = D at *
  obtain ⟨x, y, i⟩ := D
  simp only at iD k1 c3
  generalize nearI A.p b.l b.h = g at *
  generalize nearI A.q b.m b.k = h at *
  have c4 := fun W => waysU_of (vunit_any x y W iD.1 iD.2)
  have iU := (unitR_in iD.1 iD.2).1
  generalize unitR x y = u at *
  obtain ⟨⟨p, q⟩, l, j⟩ := u
  simp only at iU
  have c5 := fun W => waysH_of (crates_any (roundB A) B (round_ok hA) hB W)
  have c6 := fun W => ways_of (csub_any A.a l W hA.a iU)
  have n2 := @ballU_no1 A B ((p, q), l, j)
  have n3 := @ballU_in A B ((p, q), l, j)
  have n4 := @ballU_no2 A B ((p, q), l, j)
  have n5 := @ballU_ok A B ((p, q), l, j)
  generalize ballU A B ((p, q), l, j) = S at *
  generalize crateR (roundB A) B = C at *
  simp only at n2 n3 n4 n5 c4 c5 c6
  generalize subR A.a l = Y at *
  obtain ⟨Y, m⟩ := Y
  obtain ⟨⟨C, ct⟩, cm⟩ := C
  simp only at n3 n4 n5 c5 c6
  have c7 := fun W => tcontact_any p q Y W
  have e7 : outH ((C, ct), cm) = if cm = 0 then retH (C, ct) else .panicked [fault cm] := rfl
  generalize contactH p q Y = R at *
  unfold vec at c3 c4
  unfold roundB Bd.val at c5
  unfold Bd.val Bx.val at c1
  unfold Bx.val at c2
  unfold retH at c7
  unfold Bd.val
  have C1 : Hid _ := c1
  have C2 : Hid _ := c2
  have C3 : Hid _ := c3
  have C4 : Hid _ := c4
  have C5 : Hid _ := c5
  have C6 : Hid _ := c6
  have C7 : Hid _ := c7
  have N1 : Hid _ := n1
  have N2 : Hid (k = 0 → ¬ i = 0 → outH T = .panicked [fault i]) := fun h g => by rw [k1 h, ifH_no g]; exact if_neg g
  have N3 : Hid (k = 0 → i = 0 → ¬ j = 0 → outH T = .panicked [fault j]) := fun h g e => by rw [k1 h, ifH_ok g]; exact n2 e
  have N4 : Hid (k = 0 → i = 0 → j = 0 → l = 0 → outH T = outH ((C, ct), cm)) := fun h g e f => by rw [k1 h, ifH_ok g, n3 e f]
  have N5 : Hid (k = 0 → i = 0 → j = 0 → ¬ l = 0 → ¬ m = 0 → outH T = .panicked [fault m]) := fun h g e f t => by rw [k1 h, ifH_ok g]; exact n4 e f t
  have N6 : Hid (k = 0 → i = 0 → j = 0 → ¬ l = 0 → m = 0 → outH T = retH R) := fun h g e f t => by rw [k1 h, ifH_ok g, n5 e f t]; rfl
  have E7 : Hid _ := e7
  clear c1 c2 c3 c4 c5 c6 c7 n1 n2 n3 n4 n5 k1 iD iU iB iX iY hA hB e7
  have G : Hid (Grew w (((w.alloc (.cells #[.int .i64 A.s, .int .i64 A.a, .int .i64 A.b, .int .i64 A.m, .int .i64 A.p, .int .i64 A.q, .int .i64 A.u, .int .i64 A.v] 28)).alloc (.cells #[.int .i64 B.s, .int .i64 B.a, .int .i64 B.b, .int .i64 B.m, .int .i64 B.p, .int .i64 B.q, .int .i64 B.u, .int .i64 B.v] 28)).alloc (.cells #[.int .i64 0, .int .i64 0, .int .i64 0] 34))) := (((Grew.refl w).alloc _ _).alloc _ _).alloc _ _
  obtain ⟨Q, hQ⟩ : ∃ Q, Q = (((w.alloc (.cells #[.int .i64 A.s, .int .i64 A.a, .int .i64 A.b, .int .i64 A.m, .int .i64 A.p, .int .i64 A.q, .int .i64 A.u, .int .i64 A.v] 28)).alloc (.cells #[.int .i64 B.s, .int .i64 B.a, .int .i64 B.b, .int .i64 B.m, .int .i64 B.p, .int .i64 B.q, .int .i64 B.u, .int .i64 B.v] 28)).alloc (.cells #[.int .i64 0, .int .i64 0, .int .i64 0] 34)) := ⟨_, rfl⟩
  rw [← hQ] at G
  have sQ : Q.heap.size = w.heap.size + 1 + 1 + 1 := by rw [hQ]; simp [go_sem]
  have a0 : Q.cell? ⟨w.heap.size, 0, none⟩ = some (.int .i64 A.s) := by rw [hQ]; simp [go_sem]
  have a1 : Q.cell? ⟨w.heap.size, 1, none⟩ = some (.int .i64 A.a) := by rw [hQ]; simp [go_sem]
  have a2 : Q.cell? ⟨w.heap.size, 2, none⟩ = some (.int .i64 A.b) := by rw [hQ]; simp [go_sem]
  have a3 : Q.cell? ⟨w.heap.size, 3, none⟩ = some (.int .i64 A.m) := by rw [hQ]; simp [go_sem]
  have a4 : Q.cell? ⟨w.heap.size, 4, none⟩ = some (.int .i64 A.p) := by rw [hQ]; simp [go_sem]
  have a5 : Q.cell? ⟨w.heap.size, 5, none⟩ = some (.int .i64 A.q) := by rw [hQ]; simp [go_sem]
  have a6 : Q.cell? ⟨w.heap.size, 6, none⟩ = some (.int .i64 A.u) := by rw [hQ]; simp [go_sem]
  have a7 : Q.cell? ⟨w.heap.size, 7, none⟩ = some (.int .i64 A.v) := by rw [hQ]; simp [go_sem]
  have b0 : Q.cell? ⟨w.heap.size + 1, 0, none⟩ = some (.int .i64 B.s) := by rw [hQ]; simp [go_sem]
  have b1 : Q.cell? ⟨w.heap.size + 1, 1, none⟩ = some (.int .i64 B.a) := by rw [hQ]; simp [go_sem]
  have b2 : Q.cell? ⟨w.heap.size + 1, 2, none⟩ = some (.int .i64 B.b) := by rw [hQ]; simp [go_sem]
  have b3 : Q.cell? ⟨w.heap.size + 1, 3, none⟩ = some (.int .i64 B.m) := by rw [hQ]; simp [go_sem]
  have b4 : Q.cell? ⟨w.heap.size + 1, 4, none⟩ = some (.int .i64 B.p) := by rw [hQ]; simp [go_sem]
  have b5 : Q.cell? ⟨w.heap.size + 1, 5, none⟩ = some (.int .i64 B.q) := by rw [hQ]; simp [go_sem]
  have b6 : Q.cell? ⟨w.heap.size + 1, 6, none⟩ = some (.int .i64 B.u) := by rw [hQ]; simp [go_sem]
  have b7 : Q.cell? ⟨w.heap.size + 1, 7, none⟩ = some (.int .i64 B.v) := by rw [hQ]; simp [go_sem]
  have r0 : Q.cell? ⟨w.heap.size + 1 + 1, 0, none⟩ = some (.int .i64 0) := by rw [hQ]; simp [go_sem]
  have r1 : Q.cell? ⟨w.heap.size + 1 + 1, 1, none⟩ = some (.int .i64 0) := by rw [hQ]; simp [go_sem]
  have r2 : Q.cell? ⟨w.heap.size + 1 + 1, 2, none⟩ = some (.int .i64 0) := by rw [hQ]; simp [go_sem]
  have zQ : Free Q (w.heap.size + 1 + 1) := G.out.freeB (by omega)
  go_enter Tryz.func87, Tryz.ntmps87
  go_wp2_with (fail)
  rw [← hQ]
  clear hQ
  by_cases hk : k = 0
  case neg =>
    have C1' : Hid (∀ W, Calls Tryz.prog 84 #[.agg #[.int .i64 B.s, .int .i64 B.a, .int .i64 B.b, .int .i64 B.m, .int .i64 B.p, .int .i64 B.q, .int .i64 B.u, .int .i64 B.v]] W fun e w' => e = .panicked [fault k] ∧ Grew W w') := fun W => (C1.out W).mono fun e w' h => ⟨h.1.elim (fun g => absurd g.2.out hk) (fun g => g.1), h.2⟩
    go_region_dies
    all_goals
      go_fit (C1'.out _)
      rintro e V ⟨rfl, U⟩
      first | exact ⟨rfl, (N1.out hk).symm, G.out.drew.trans U⟩ | exact ⟨rfl, (N1.out hk).symm, (G.out.alloc _ _).drew.trans U⟩ | exact ⟨rfl, (N1.out hk).symm, (G.out.drew.alloc _ _).trans U⟩
  subst hk
  have C1' : Hid (∀ W, Calls Tryz.prog 84 #[.agg #[.int .i64 B.s, .int .i64 B.a, .int .i64 B.b, .int .i64 B.m, .int .i64 B.p, .int .i64 B.q, .int .i64 B.u, .int .i64 B.v]] W fun e w' => e = .returned (.agg #[.int .i64 b.l, .int .i64 b.m, .int .i64 b.h, .int .i64 b.k]) ∧ Grew W w') := fun W => (C1.out W).mono fun e w' h => ⟨h.1.elim (fun g => g.1) (fun g => absurd rfl g.2.out), h.2⟩
  go_cut [6] from 9 to 13 (fun c wx => ∃ P, c = .pointer (some ⟨P, 0, none⟩) ∧ At wx P g h ∧ Q.heap.size ≤ P ∧ Grew Q wx)
  case first =>
    have SG : Hid (∀ W W', Grew W W' → (fun w' => w'.cell? ⟨w.heap.size, 4, none⟩ = some (.int .i64 A.p) ∧ w'.cell? ⟨w.heap.size, 5, none⟩ = some (.int .i64 A.q) ∧ w'.cell? ⟨w.heap.size + 1, 0, none⟩ = some (.int .i64 B.s) ∧ w'.cell? ⟨w.heap.size + 1, 1, none⟩ = some (.int .i64 B.a) ∧ w'.cell? ⟨w.heap.size + 1, 2, none⟩ = some (.int .i64 B.b) ∧ w'.cell? ⟨w.heap.size + 1, 3, none⟩ = some (.int .i64 B.m) ∧ w'.cell? ⟨w.heap.size + 1, 4, none⟩ = some (.int .i64 B.p) ∧ w'.cell? ⟨w.heap.size + 1, 5, none⟩ = some (.int .i64 B.q) ∧ w'.cell? ⟨w.heap.size + 1, 6, none⟩ = some (.int .i64 B.u) ∧ w'.cell? ⟨w.heap.size + 1, 7, none⟩ = some (.int .i64 B.v)) W → (fun w' => w'.cell? ⟨w.heap.size, 4, none⟩ = some (.int .i64 A.p) ∧ w'.cell? ⟨w.heap.size, 5, none⟩ = some (.int .i64 A.q) ∧ w'.cell? ⟨w.heap.size + 1, 0, none⟩ = some (.int .i64 B.s) ∧ w'.cell? ⟨w.heap.size + 1, 1, none⟩ = some (.int .i64 B.a) ∧ w'.cell? ⟨w.heap.size + 1, 2, none⟩ = some (.int .i64 B.b) ∧ w'.cell? ⟨w.heap.size + 1, 3, none⟩ = some (.int .i64 B.m) ∧ w'.cell? ⟨w.heap.size + 1, 4, none⟩ = some (.int .i64 B.p) ∧ w'.cell? ⟨w.heap.size + 1, 5, none⟩ = some (.int .i64 B.q) ∧ w'.cell? ⟨w.heap.size + 1, 6, none⟩ = some (.int .i64 B.u) ∧ w'.cell? ⟨w.heap.size + 1, 7, none⟩ = some (.int .i64 B.v)) W') := fun W W' g h => ⟨g.cell h.1, g.cell h.2.1, g.cell h.2.2.1, g.cell h.2.2.2.1, g.cell h.2.2.2.2.1, g.cell h.2.2.2.2.2.1, g.cell h.2.2.2.2.2.2.1, g.cell h.2.2.2.2.2.2.2.1, g.cell h.2.2.2.2.2.2.2.2.1, g.cell h.2.2.2.2.2.2.2.2.2⟩
    have SW : Hid (∀ W W' i, Wrote (fun n => n = i) W W' → Q.heap.size ≤ i → (fun w' => w'.cell? ⟨w.heap.size, 4, none⟩ = some (.int .i64 A.p) ∧ w'.cell? ⟨w.heap.size, 5, none⟩ = some (.int .i64 A.q) ∧ w'.cell? ⟨w.heap.size + 1, 0, none⟩ = some (.int .i64 B.s) ∧ w'.cell? ⟨w.heap.size + 1, 1, none⟩ = some (.int .i64 B.a) ∧ w'.cell? ⟨w.heap.size + 1, 2, none⟩ = some (.int .i64 B.b) ∧ w'.cell? ⟨w.heap.size + 1, 3, none⟩ = some (.int .i64 B.m) ∧ w'.cell? ⟨w.heap.size + 1, 4, none⟩ = some (.int .i64 B.p) ∧ w'.cell? ⟨w.heap.size + 1, 5, none⟩ = some (.int .i64 B.q) ∧ w'.cell? ⟨w.heap.size + 1, 6, none⟩ = some (.int .i64 B.u) ∧ w'.cell? ⟨w.heap.size + 1, 7, none⟩ = some (.int .i64 B.v)) W → (fun w' => w'.cell? ⟨w.heap.size, 4, none⟩ = some (.int .i64 A.p) ∧ w'.cell? ⟨w.heap.size, 5, none⟩ = some (.int .i64 A.q) ∧ w'.cell? ⟨w.heap.size + 1, 0, none⟩ = some (.int .i64 B.s) ∧ w'.cell? ⟨w.heap.size + 1, 1, none⟩ = some (.int .i64 B.a) ∧ w'.cell? ⟨w.heap.size + 1, 2, none⟩ = some (.int .i64 B.b) ∧ w'.cell? ⟨w.heap.size + 1, 3, none⟩ = some (.int .i64 B.m) ∧ w'.cell? ⟨w.heap.size + 1, 4, none⟩ = some (.int .i64 B.p) ∧ w'.cell? ⟨w.heap.size + 1, 5, none⟩ = some (.int .i64 B.q) ∧ w'.cell? ⟨w.heap.size + 1, 6, none⟩ = some (.int .i64 B.u) ∧ w'.cell? ⟨w.heap.size + 1, 7, none⟩ = some (.int .i64 B.v)) W') := fun W W' i g hi h => ⟨g.cell h.1 (by simp; omega), g.cell h.2.1 (by simp; omega), g.cell h.2.2.1 (by simp; omega), g.cell h.2.2.2.1 (by simp; omega), g.cell h.2.2.2.2.1 (by simp; omega), g.cell h.2.2.2.2.2.1 (by simp; omega), g.cell h.2.2.2.2.2.2.1 (by simp; omega), g.cell h.2.2.2.2.2.2.2.1 (by simp; omega), g.cell h.2.2.2.2.2.2.2.2.1 (by simp; omega), g.cell h.2.2.2.2.2.2.2.2.2 (by simp; omega)⟩
    refine wp_region_held_drew (S := (fun w' => w'.cell? ⟨w.heap.size, 4, none⟩ = some (.int .i64 A.p) ∧ w'.cell? ⟨w.heap.size, 5, none⟩ = some (.int .i64 A.q) ∧ w'.cell? ⟨w.heap.size + 1, 0, none⟩ = some (.int .i64 B.s) ∧ w'.cell? ⟨w.heap.size + 1, 1, none⟩ = some (.int .i64 B.a) ∧ w'.cell? ⟨w.heap.size + 1, 2, none⟩ = some (.int .i64 B.b) ∧ w'.cell? ⟨w.heap.size + 1, 3, none⟩ = some (.int .i64 B.m) ∧ w'.cell? ⟨w.heap.size + 1, 4, none⟩ = some (.int .i64 B.p) ∧ w'.cell? ⟨w.heap.size + 1, 5, none⟩ = some (.int .i64 B.q) ∧ w'.cell? ⟨w.heap.size + 1, 6, none⟩ = some (.int .i64 B.u) ∧ w'.cell? ⟨w.heap.size + 1, 7, none⟩ = some (.int .i64 B.v))) (by kernel_rfl) ?_ (fun hH0 => ?_)
    · exact SG.out Q _ (Grew.refl Q).drew ⟨a4, a5, b0, b1, b2, b3, b4, b5, b6, b7⟩
    clear a0 a1 a2 a3 a4 a5 a6 a7 b0 b1 b2 b3 b4 b5 b6 b7 r0 r1 r2
    obtain ⟨W0, hW0⟩ : ∃ W0, W0 = Q.drew := ⟨_, rfl⟩
    rw [← hW0] at hH0 ⊢
    have G0 : Hid (Grew Q W0) := by rw [hW0]; exact (Grew.refl Q).drew
    clear hW0
    refine wpAnyH_take (i := 0) (oi := { dst := some 9, op := Go.Op.fieldAddr 28 (Go.Operand.tmp 2) 3, type := 0, pos := "touch.go:55", after := #[], guard := none }) (v := ?v0) rfl (by kernel_rfl) (by kernel_rfl) (by kernel_rfl) (fun _ _ _ h => h) (Or.inl ⟨by rfl, ?hy0⟩) (by assumption) ?rest0
    case hy0 => (intro w hSw; (try dsimp only at hSw); go_simp; try (with_reducible rfl))
    simp only [Act.put, List.setIfInBounds_toArray, List.set_cons_zero, List.set_cons_succ]
    refine wpAnyH_take (i := 1) (oi := { dst := some 10, op := Go.Op.load 26 (Go.Operand.tmp 9), type := 26, pos := "touch.go:55", after := #[{ on := 0, ground := Go.Ground.data }], guard := none }) (v := ?v1) rfl (by kernel_rfl) (by kernel_rfl) (by kernel_rfl) (fun _ _ _ h => h) (Or.inl ⟨by rfl, ?hy1⟩) (by assumption) ?rest1
    case hy1 => (intro w hSw; (try dsimp only at hSw); go_simp; try (with_reducible rfl))
    simp only [Act.put, List.setIfInBounds_toArray, List.set_cons_zero, List.set_cons_succ]
    refine wpAnyH_take (i := 2) (oi := { dst := some 11, op := Go.Op.load 28 (Go.Operand.tmp 3), type := 28, pos := "touch.go:55", after := #[], guard := none }) (v := ?v2) rfl (by kernel_rfl) (by kernel_rfl) (by kernel_rfl) (fun _ _ _ h => h) (Or.inl ⟨by rfl, ?hy2⟩) (by assumption) ?rest2
    case hy2 => (intro w hSw; (try dsimp only at hSw); go_simp; try (with_reducible rfl))
    simp only [Act.put, List.setIfInBounds_toArray, List.set_cons_zero, List.set_cons_succ]
    refine wpAnyH_ready (rs := [3, 5]) (by kernel_rfl) (by simp) ?_
    refine AllReadyH.cons (o := { dst := some 12, op := Go.Op.call { callee := Go.Callee.value (Go.Operand.func 84), args := #[Go.Operand.tmp 11], argTypes := #[28] }, type := 57, pos := "touch.go:55", after := #[{ on := 2, ground := Go.Ground.data }], guard := none }) rfl (fun K hK => ?_) (AllReadyH.cons (o := { dst := some 6, op := Go.Op.alloc 26, type := 0, pos := "touch.go:55", after := #[], guard := none }) rfl (fun K hK => ?_) AllReadyH.nil)
    · go_simp
      go_wp2_with (first
        | (go_at_call 84; go_fit (C1'.out _); rintro e W1 ⟨rfl, g1⟩))
      refine hK.out _ _ (SG.out _ _ g1 hH0) (fun hH1 => ?_)
      clear hK K
      have G1 : Hid (Grew Q W1) := G0.out.trans g1
      refine wpAnyH_ready (rs := [4, 5]) (by kernel_rfl) (by simp) ?_
      refine AllReadyH.cons (o := { dst := some 13, op := Go.Op.call { callee := Go.Callee.value (Go.Operand.func 110), args := #[Go.Operand.tmp 10, Go.Operand.tmp 12], argTypes := #[26, 57] }, type := 26, pos := "touch.go:55", after := #[{ on := 1, ground := Go.Ground.data }, { on := 3, ground := Go.Ground.data }, { on := 3, ground := Go.Ground.chain }], guard := none }) rfl (fun K hK => ?_) (AllReadyH.cons (o := { dst := some 6, op := Go.Op.alloc 26, type := 0, pos := "touch.go:55", after := #[], guard := none }) rfl (fun K hK => ?_) AllReadyH.nil)
      · go_simp
        go_wp2_with (first
          | (go_at_call 110; go_fit (C2.out _); rintro e W2 ⟨rfl, g2⟩))
        refine hK.out _ _ (SG.out _ _ g2 hH1) (fun hH2 => ?_)
        clear hK K
        have G2 : Hid (Grew Q W2) := G1.out.trans g2
        refine wpAnyH_ready (rs := [5]) (by kernel_rfl) (by simp) ?_
        refine AllReadyH.cons (o := { dst := some 6, op := Go.Op.alloc 26, type := 0, pos := "touch.go:55", after := #[], guard := none }) rfl (fun K hK => ?_) AllReadyH.nil
        · go_simp
          obtain ⟨W3, hW3⟩ : ∃ X, X = W2.alloc (.cells #[.int .i64 0, .int .i64 0] 26) := ⟨_, rfl⟩
          have g3 : Grew W2 W3 := by rw [hW3]; exact (Grew.refl _).alloc _ _
          refine hK.out _ _ (SG.out _ _ ((Grew.refl W2).alloc _ _) hH2) (fun hH3 => ?_)
          clear hK K
          rw [← hW3] at hH3 ⊢
          have G3 : Hid (Grew Q W3) := G2.out.trans g3
          have A3 : At W3 W2.heap.size 0 0 := by rw [hW3]; constructor <;> simp [go_sem]
          have Z3 : Free W3 W2.heap.size := g3.freeB (Nat.le_refl _)
          have M : Q.heap.size ≤ W2.heap.size := G2.out.size
          obtain ⟨P, hP⟩ : ∃ P, W2.heap.size = P := ⟨_, rfl⟩
          rw [hP] at A3 Z3 M ⊢
          clear hW3 hP
          refine wpAnyH_ready (rs := [6]) (by kernel_rfl) (by simp) ?_
          refine AllReadyH.cons (o := { dst := none, op := Go.Op.store 26 (Go.Operand.tmp 6) (Go.Operand.tmp 13), type := 0, pos := "touch.go:55", after := #[{ on := 5, ground := Go.Ground.data }, { on := 4, ground := Go.Ground.data }, { on := 4, ground := Go.Ground.chain }, { on := 0, ground := Go.Ground.phase }, { on := 1, ground := Go.Ground.phase }, { on := 2, ground := Go.Ground.phase }, { on := 3, ground := Go.Ground.phase }, { on := 4, ground := Go.Ground.phase }, { on := 5, ground := Go.Ground.phase }], guard := none }) rfl (fun K hK => ?_) AllReadyH.nil
          · obtain ⟨e0, e1⟩ := A3
            have z0 := Z3 0 none
            have z1 := Z3 1 none
            go_simp
            refine hK.out _ _ (SW.out _ _ P ((Grew.refl W3).set1 P _ _) M hH3) (fun hH4 => ?_)
            clear hK K
            have R4 := And.intro (at_set W3 P 0 0 g h ⟨e0, e1⟩) (And.intro M ((G3.out.setCell (a := ⟨P, 0, none⟩) M (.int .i64 g)).setCell (a := ⟨P, 1, none⟩) M (.int .i64 h)))
            refine wpAnyH_done (by kernel_rfl) ?_ _
            go_wp2
            go_meet
            case rel => exact ⟨_, rfl, R4⟩
      · go_simp
        obtain ⟨W5, hW5⟩ : ∃ X, X = W1.alloc (.cells #[.int .i64 0, .int .i64 0] 26) := ⟨_, rfl⟩
        have g5 : Grew W1 W5 := by rw [hW5]; exact (Grew.refl _).alloc _ _
        refine hK.out _ _ (SG.out _ _ ((Grew.refl W1).alloc _ _) hH1) (fun hH5 => ?_)
        clear hK K
        rw [← hW5] at hH5 ⊢
        have G5 : Hid (Grew Q W5) := G1.out.trans g5
        have A5 : At W5 W1.heap.size 0 0 := by rw [hW5]; constructor <;> simp [go_sem]
        have Z5 : Free W5 W1.heap.size := g5.freeB (Nat.le_refl _)
        have M : Q.heap.size ≤ W1.heap.size := G1.out.size
        obtain ⟨P, hP⟩ : ∃ P, W1.heap.size = P := ⟨_, rfl⟩
        rw [hP] at A5 Z5 M ⊢
        clear hW5 hP
        refine wpAnyH_ready (rs := [4]) (by kernel_rfl) (by simp) ?_
        refine AllReadyH.cons (o := { dst := some 13, op := Go.Op.call { callee := Go.Callee.value (Go.Operand.func 110), args := #[Go.Operand.tmp 10, Go.Operand.tmp 12], argTypes := #[26, 57] }, type := 26, pos := "touch.go:55", after := #[{ on := 1, ground := Go.Ground.data }, { on := 3, ground := Go.Ground.data }, { on := 3, ground := Go.Ground.chain }], guard := none }) rfl (fun K hK => ?_) AllReadyH.nil
        · go_simp
          go_wp2_with (first
            | (go_at_call 110; go_fit (C2.out _); rintro e W6 ⟨rfl, g6⟩))
          refine hK.out _ _ (SG.out _ _ g6 hH5) (fun hH6 => ?_)
          clear hK K
          have G6 : Hid (Grew Q W6) := G5.out.trans g6
          have A6 := A5.grew g6
          have Z6 := Z5.grew g6
          refine wpAnyH_ready (rs := [6]) (by kernel_rfl) (by simp) ?_
          refine AllReadyH.cons (o := { dst := none, op := Go.Op.store 26 (Go.Operand.tmp 6) (Go.Operand.tmp 13), type := 0, pos := "touch.go:55", after := #[{ on := 5, ground := Go.Ground.data }, { on := 4, ground := Go.Ground.data }, { on := 4, ground := Go.Ground.chain }, { on := 0, ground := Go.Ground.phase }, { on := 1, ground := Go.Ground.phase }, { on := 2, ground := Go.Ground.phase }, { on := 3, ground := Go.Ground.phase }, { on := 4, ground := Go.Ground.phase }, { on := 5, ground := Go.Ground.phase }], guard := none }) rfl (fun K hK => ?_) AllReadyH.nil
          · obtain ⟨e0, e1⟩ := A6
            have z0 := Z6 0 none
            have z1 := Z6 1 none
            go_simp
            refine hK.out _ _ (SW.out _ _ P ((Grew.refl W6).set1 P _ _) M hH6) (fun hH7 => ?_)
            clear hK K
            have R7 := And.intro (at_set W6 P 0 0 g h ⟨e0, e1⟩) (And.intro M ((G6.out.setCell (a := ⟨P, 0, none⟩) M (.int .i64 g)).setCell (a := ⟨P, 1, none⟩) M (.int .i64 h)))
            refine wpAnyH_done (by kernel_rfl) ?_ _
            go_wp2
            go_meet
            case rel => exact ⟨_, rfl, R7⟩
    · go_simp
      obtain ⟨W8, hW8⟩ : ∃ X, X = W0.alloc (.cells #[.int .i64 0, .int .i64 0] 26) := ⟨_, rfl⟩
      have g8 : Grew W0 W8 := by rw [hW8]; exact (Grew.refl _).alloc _ _
      refine hK.out _ _ (SG.out _ _ ((Grew.refl W0).alloc _ _) hH0) (fun hH8 => ?_)
      clear hK K
      rw [← hW8] at hH8 ⊢
      have G8 : Hid (Grew Q W8) := G0.out.trans g8
      have A8 : At W8 W0.heap.size 0 0 := by rw [hW8]; constructor <;> simp [go_sem]
      have Z8 : Free W8 W0.heap.size := g8.freeB (Nat.le_refl _)
      have M : Q.heap.size ≤ W0.heap.size := G0.out.size
      obtain ⟨P, hP⟩ : ∃ P, W0.heap.size = P := ⟨_, rfl⟩
      rw [hP] at A8 Z8 M ⊢
      clear hW8 hP
      refine wpAnyH_ready (rs := [3]) (by kernel_rfl) (by simp) ?_
      refine AllReadyH.cons (o := { dst := some 12, op := Go.Op.call { callee := Go.Callee.value (Go.Operand.func 84), args := #[Go.Operand.tmp 11], argTypes := #[28] }, type := 57, pos := "touch.go:55", after := #[{ on := 2, ground := Go.Ground.data }], guard := none }) rfl (fun K hK => ?_) AllReadyH.nil
      · go_simp
        go_wp2_with (first
          | (go_at_call 84; go_fit (C1'.out _); rintro e W9 ⟨rfl, g9⟩))
        refine hK.out _ _ (SG.out _ _ g9 hH8) (fun hH9 => ?_)
        clear hK K
        have G9 : Hid (Grew Q W9) := G8.out.trans g9
        have A9 := A8.grew g9
        have Z9 := Z8.grew g9
        refine wpAnyH_ready (rs := [4]) (by kernel_rfl) (by simp) ?_
        refine AllReadyH.cons (o := { dst := some 13, op := Go.Op.call { callee := Go.Callee.value (Go.Operand.func 110), args := #[Go.Operand.tmp 10, Go.Operand.tmp 12], argTypes := #[26, 57] }, type := 26, pos := "touch.go:55", after := #[{ on := 1, ground := Go.Ground.data }, { on := 3, ground := Go.Ground.data }, { on := 3, ground := Go.Ground.chain }], guard := none }) rfl (fun K hK => ?_) AllReadyH.nil
        · go_simp
          go_wp2_with (first
            | (go_at_call 110; go_fit (C2.out _); rintro e W10 ⟨rfl, g10⟩))
          refine hK.out _ _ (SG.out _ _ g10 hH9) (fun hH10 => ?_)
          clear hK K
          have G10 : Hid (Grew Q W10) := G9.out.trans g10
          have A10 := A9.grew g10
          have Z10 := Z9.grew g10
          refine wpAnyH_ready (rs := [6]) (by kernel_rfl) (by simp) ?_
          refine AllReadyH.cons (o := { dst := none, op := Go.Op.store 26 (Go.Operand.tmp 6) (Go.Operand.tmp 13), type := 0, pos := "touch.go:55", after := #[{ on := 5, ground := Go.Ground.data }, { on := 4, ground := Go.Ground.data }, { on := 4, ground := Go.Ground.chain }, { on := 0, ground := Go.Ground.phase }, { on := 1, ground := Go.Ground.phase }, { on := 2, ground := Go.Ground.phase }, { on := 3, ground := Go.Ground.phase }, { on := 4, ground := Go.Ground.phase }, { on := 5, ground := Go.Ground.phase }], guard := none }) rfl (fun K hK => ?_) AllReadyH.nil
          · obtain ⟨e0, e1⟩ := A10
            have z0 := Z10 0 none
            have z1 := Z10 1 none
            go_simp
            refine hK.out _ _ (SW.out _ _ P ((Grew.refl W10).set1 P _ _) M hH10) (fun hH11 => ?_)
            clear hK K
            have R11 := And.intro (at_set W10 P 0 0 g h ⟨e0, e1⟩) (And.intro M ((G10.out.setCell (a := ⟨P, 0, none⟩) M (.int .i64 g)).setCell (a := ⟨P, 1, none⟩) M (.int .i64 h)))
            refine wpAnyH_done (by kernel_rfl) ?_ _
            go_wp2
            go_meet
            case rel => exact ⟨_, rfl, R11⟩
  obtain ⟨P, rfl, ⟨e0, e1⟩, hP, hc⟩ := hcut
  have GW : Hid (Grew w wc) := G.out.trans hc
  replace a0 := hc.cell a0
  replace a1 := hc.cell a1
  replace a2 := hc.cell a2
  replace a3 := hc.cell a3
  replace a4 := hc.cell a4
  replace a5 := hc.cell a5
  replace a6 := hc.cell a6
  replace a7 := hc.cell a7
  replace b0 := hc.cell b0
  replace b1 := hc.cell b1
  replace b2 := hc.cell b2
  replace b3 := hc.cell b3
  replace b4 := hc.cell b4
  replace b5 := hc.cell b5
  replace b6 := hc.cell b6
  replace b7 := hc.cell b7
  replace r0 := hc.cell r0
  replace r1 := hc.cell r1
  replace r2 := hc.cell r2
  have z0 := (zQ 0 none)
  have z1 := (zQ 1 none)
  have z2 := (zQ 2 none)
  replace z0 := hc.frozen z0
  replace z1 := hc.frozen z1
  replace z2 := hc.frozen z2
  have za := GW.out.freeB (b := w.heap.size) (Nat.le_refl _) 2 none
  have sc := hc.size
  have N2' := N2.out rfl
  have N3' := N3.out rfl
  have N4' := N4.out rfl
  have N5' := N5.out rfl
  have N6' := N6.out rfl
  have M2 : Hid _ := N2'
  have M3 : Hid _ := N3'
  have M4 : Hid _ := N4'
  have M5 : Hid _ := N5'
  have M6 : Hid _ := N6'
  clear hc zQ C1 C1' C2 G N1 N2 N3 N4 N5 N6 N2' N3' N4' N5' N6'
  by_cases hl : l = 0
  · subst hl
    have M4' : Hid (i = 0 → j = 0 → outH T = outH ((C, ct), cm)) := fun h g => M4.out h g rfl
    clear C6 C7 M4 M5 M6
    go_wp2_with (first
      | (go_at_call 74; go_fit (C3.out _); rintro e V ⟨(⟨rfl, h1⟩ | ⟨rfl, h1⟩), U⟩; replace a0 := U.cell a0; replace a1 := U.cell a1; replace a2 := U.cell a2; replace a3 := U.cell a3; replace a4 := U.cell a4; replace a5 := U.cell a5; replace a6 := U.cell a6; replace a7 := U.cell a7; replace b0 := U.cell b0; replace b1 := U.cell b1; replace b2 := U.cell b2; replace b3 := U.cell b3; replace b4 := U.cell b4; replace b5 := U.cell b5; replace b6 := U.cell b6; replace b7 := U.cell b7; replace r0 := U.cell r0; replace r1 := U.cell r1; replace r2 := U.cell r2; replace z0 := U.frozen z0; replace z1 := U.frozen z1; replace z2 := U.frozen z2; replace za := U.frozen za; have sU := U.size; (try (simp at sU)))
      | (go_at_call 73; go_fit (C4.out _); rintro e M ⟨(⟨rfl, h2⟩ | ⟨rfl, h2⟩), UM⟩; replace a0 := UM.cell a0; replace a1 := UM.cell a1; replace a2 := UM.cell a2; replace a3 := UM.cell a3; replace a4 := UM.cell a4; replace a5 := UM.cell a5; replace a6 := UM.cell a6; replace a7 := UM.cell a7; replace b0 := UM.cell b0; replace b1 := UM.cell b1; replace b2 := UM.cell b2; replace b3 := UM.cell b3; replace b4 := UM.cell b4; replace b5 := UM.cell b5; replace b6 := UM.cell b6; replace b7 := UM.cell b7; replace r0 := UM.cell r0; replace r1 := UM.cell r1; replace r2 := UM.cell r2; replace z0 := UM.frozen z0; replace z1 := UM.frozen z1; replace z2 := UM.frozen z2; replace za := UM.frozen za; have sM := UM.size; have d0 : w.heap.size < M.heap.size := (by omega); have d1 : w.heap.size + 1 < M.heap.size := (by omega); have d2 : w.heap.size + 1 + 1 < M.heap.size := (by omega))
      | (go_at_call 86; go_fit (C5.out _); rintro e V5 ⟨(⟨rfl, h3⟩ | ⟨rfl, h3⟩), U5⟩; have f3 := set_far (show w.heap.size + 1 + 1 ≠ w.heap.size by omega); have s0 := U5.cell (((Grew.refl _).alloc _ _).cell ((f3 M 2 0 (.int .i64 A.a)).trans r0)); have s1 := U5.cell (((Grew.refl _).alloc _ _).cell ((f3 M 2 1 (.int .i64 A.a)).trans r1)); have s2 := U5.cell (((Grew.refl _).alloc _ _).cell ((f3 M 2 2 (.int .i64 A.a)).trans r2)); have y0 := U5.frozen (((Grew.refl _).alloc _ _).frozen (froz_set (a := ⟨w.heap.size, 2, none⟩) (v := .int .i64 A.a) z0)); have y1 := U5.frozen (((Grew.refl _).alloc _ _).frozen (froz_set (a := ⟨w.heap.size, 2, none⟩) (v := .int .i64 A.a) z1)); have y2 := U5.frozen (((Grew.refl _).alloc _ _).frozen (froz_set (a := ⟨w.heap.size, 2, none⟩) (v := .int .i64 A.a) z2))))
    all_goals try (first | (exact ⟨rfl, (M2.out h1.out).symm, GW.out.trans U⟩) | (exact ⟨rfl, (M3.out h1.out h2.out).symm, (GW.out.trans U).trans UM⟩) | (exact ⟨rfl, ((M4'.out h1.out h2.out).trans (E7.out.trans (if_neg h3.out))).symm, (((((GW.out.trans U).trans UM).alloc _ _).setCell (a := ⟨w.heap.size, 2, none⟩) (Nat.le_refl _) _).trans U5)⟩) | (exact ⟨rfl, ((M4'.out h1.out h2.out).trans (E7.out.trans (if_neg h3.out))).symm, (((((GW.out.trans U).trans UM).setCell (a := ⟨w.heap.size, 2, none⟩) (Nat.le_refl _) _).alloc _ _).trans U5)⟩))
    simp [bodyPost, results, Tryz.results87, go_sem, s0, s1, s2]
    refine ⟨((M4'.out h1.out h2.out).trans (E7.out.trans (if_pos h3.out))).symm, ?_⟩
    first | exact hit_set (((((GW.out.trans U).trans UM).alloc _ _).setCell (a := ⟨w.heap.size, 2, none⟩) (Nat.le_refl _) _).trans U5) (b := w.heap.size + 1 + 1) (by omega) _ _ _ | exact hit_set (((((GW.out.trans U).trans UM).setCell (a := ⟨w.heap.size, 2, none⟩) (Nat.le_refl _) _).alloc _ _).trans U5) (b := w.heap.size + 1 + 1) (by omega) _ _ _
  · have hl' : (l == 0) = false := by simpa using hl
    have M5' : Hid (i = 0 → j = 0 → ¬ m = 0 → outH T = .panicked [fault m]) := fun h g t => M5.out h g hl t
    have M6' : Hid (i = 0 → j = 0 → m = 0 → outH T = retH R) := fun h g t => M6.out h g hl t
    clear C5 M4 M5 M6 E7 hl
    go_wp2_with (first
      | (go_at_call 74; go_fit (C3.out _); rintro e V ⟨(⟨rfl, h1⟩ | ⟨rfl, h1⟩), U⟩; replace a0 := U.cell a0; replace a1 := U.cell a1; replace a2 := U.cell a2; replace a3 := U.cell a3; replace a4 := U.cell a4; replace a5 := U.cell a5; replace a6 := U.cell a6; replace a7 := U.cell a7; replace b0 := U.cell b0; replace b1 := U.cell b1; replace b2 := U.cell b2; replace b3 := U.cell b3; replace b4 := U.cell b4; replace b5 := U.cell b5; replace b6 := U.cell b6; replace b7 := U.cell b7; replace r0 := U.cell r0; replace r1 := U.cell r1; replace r2 := U.cell r2; replace z0 := U.frozen z0; replace z1 := U.frozen z1; replace z2 := U.frozen z2; replace za := U.frozen za; have sU := U.size; (try (simp at sU)))
      | (go_at_call 73; go_fit (C4.out _); rintro e M ⟨(⟨rfl, h2⟩ | ⟨rfl, h2⟩), UM⟩; replace a0 := UM.cell a0; replace a1 := UM.cell a1; replace a2 := UM.cell a2; replace a3 := UM.cell a3; replace a4 := UM.cell a4; replace a5 := UM.cell a5; replace a6 := UM.cell a6; replace a7 := UM.cell a7; replace b0 := UM.cell b0; replace b1 := UM.cell b1; replace b2 := UM.cell b2; replace b3 := UM.cell b3; replace b4 := UM.cell b4; replace b5 := UM.cell b5; replace b6 := UM.cell b6; replace b7 := UM.cell b7; replace r0 := UM.cell r0; replace r1 := UM.cell r1; replace r2 := UM.cell r2; replace z0 := UM.frozen z0; replace z1 := UM.frozen z1; replace z2 := UM.frozen z2; replace za := UM.frozen za; have sM := UM.size; have d0 : w.heap.size < M.heap.size := (by omega); have d1 : w.heap.size + 1 < M.heap.size := (by omega); have d2 : w.heap.size + 1 + 1 < M.heap.size := (by omega)))
    all_goals try (first | (exact ⟨rfl, (M2.out h1.out).symm, GW.out.trans U⟩) | (exact ⟨rfl, (M3.out h1.out h2.out).symm, (GW.out.trans U).trans UM⟩))
    obtain ⟨L, hL⟩ : ∃ L, L = M.alloc (.cells #[.int .i64 p, .int .i64 q] 26) := ⟨_, rfl⟩
    rw [← hL]
    have gL : Grew M L := by rw [hL]; exact (Grew.refl M).alloc _ _
    have sL : L.heap.size = M.heap.size + 1 := by rw [hL]; simp [go_sem]
    have q0 : L.cell? ⟨M.heap.size, 0, none⟩ = some (.int .i64 p) := by rw [hL]; simp [go_sem]
    have q1 : L.cell? ⟨M.heap.size, 1, none⟩ = some (.int .i64 q) := by rw [hL]; simp [go_sem]
    clear a0 a2 a3 a4 a5 a6 a7 b0 b1 b2 b3 b4 b5 b6 b7 za
    replace a1 := gL.cell a1
    replace r0 := gL.cell r0
    replace r1 := gL.cell r1
    replace r2 := gL.cell r2
    replace z0 := gL.frozen z0
    replace z1 := gL.frozen z1
    replace z2 := gL.frozen z2
    have GL : Hid (Grew w L) := ((GW.out.trans U).trans UM).trans gL
    have f1 := set_far (show w.heap.size ≠ w.heap.size + 1 + 1 by omega)
    have f2 := set_far (show M.heap.size ≠ w.heap.size + 1 + 1 by omega)
    clear hL gL U UM GW C3 C4 M2 M3
    go_region_held2 (fun w' => w'.cell? ⟨w.heap.size, 1, none⟩ = some (.int .i64 A.a) ∧ w'.cell? ⟨M.heap.size, 0, none⟩ = some (.int .i64 p) ∧ w'.cell? ⟨M.heap.size, 1, none⟩ = some (.int .i64 q)) (go_keep)
      (first
        | (go_at_call 77; go_fit (C6.out _); rintro e w' ⟨(⟨rfl, h4⟩ | ⟨rfl, h4⟩), rfl⟩; rotate_left; (exact post_panic (P := Tryz.prog) (fn := Tryz.f87) (R := fun e w' => e = outH T ∧ Grew w w') rfl ⟨(M5'.out h1.out h2.out h4.out).symm, GL.out.drew⟩))
        | (go_at_call 107; go_fit (C7.out _); rintro e V2 ⟨rfl, U2⟩; have k0 := U2.cells (b := w.heap.size) (by first | omega | (simp; omega)); have k1 := U2.cells (b := M.heap.size) (by first | omega | (simp; omega)); have GV : Grew L V2 := (Grew.refl L).drew.trans U2; have s0 := GV.cell r0; have s1 := GV.cell r1; have s2 := GV.cell r2; have y0 := GV.frozen z0; have y1 := GV.frozen z1; have y2 := GV.frozen z2))
    go_wp2
    simp [bodyPost, results, Tryz.results87, go_sem, s0, s1, s2]
    exact ⟨(M6'.out h1.out h2.out h4.out).symm, hit_set (GL.out.trans GV) (b := w.heap.size + 1 + 1) (by omega) _ _ _⟩

end Go.Proofs.YtcoooehcgbohgaaGreat
