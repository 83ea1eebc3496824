/-
  What package touch's calls do: what the plain functions say, or a panic of a Fault; more blocks are in memory, and nothing else. What touch.Hit and touch.Flip do: what the plain functions say, or a panic of a Fault; more blocks are in memory, and nothing else.
-/
import Derived.Test.YtcoooehcgbohgaaGreatPk03
namespace Go.Proofs.YtcoooehcgbohgaaGreat
open Go.RowKit

theorem inF0 : inF 0 := ⟨by decide, by decide⟩
theorem two_in {r s : Int × Int} (h : inF r.1) (g : inF s.1) : inF (two r s).1 ∧ inF (two r s).2.1 := by
  unfold two
  split
  · split
    · exact ⟨h, g⟩
    · exact ⟨inF0, inF0⟩
  · exact ⟨inF0, inF0⟩
theorem addR_in (a b : Int) : inF (addR a b).1 := (inR_in _).1
theorem subR_in (a b : Int) : inF (subR a b).1 := (inR_in _).1
theorem amtR_in {d : Int} (h : inF d) : inF (amtR d).1 := by
  unfold amtR
  split
  · exact subR_in _ _
  · exact h
theorem behind_in {r : Int × Int} {f : Int → Int × Int} (h : inF (f r.1).1) : inF (behind r f).1 := by
  unfold behind
  split
  · exact h
  · exact inF0
theorem over_no1 {a b d : Int} (h : ¬ (addR a b).2 = 0) : outR (overR a b d) = .panicked [fault (addR a b).2] := by unfold overR behind; rw [if_neg h]; exact if_neg h
theorem over_ok1 {a b d : Int} (h : (addR a b).2 = 0) : overR a b d = behind (amtR d) fun m => subR (addR a b).1 m := by unfold overR behind; rw [if_pos h]
theorem over_no2 {a b d : Int} (h : (addR a b).2 = 0) (g : ¬ (amtR d).2 = 0) : outR (overR a b d) = .panicked [fault (amtR d).2] := by rw [over_ok1 h]; unfold behind; rw [if_neg g]; exact if_neg g
theorem over_ok2 {a b d : Int} (h : (addR a b).2 = 0) (g : (amtR d).2 = 0) : subR (addR a b).1 (amtR d).1 = overR a b d := by rw [over_ok1 h]; unfold behind; rw [if_pos g]
theorem over_in {a b d : Int} : inF (overR a b d).1 := behind_in (behind_in (subR_in _ _))

set_option maxHeartbeats 1000000 in
theorem overlap_any (a b d : Int) (w : World) (ha : inF a) (hb : inF b) (hd : inF d) :
    Calls Tryz.prog 108 #[.int .i64 a, .int .i64 b, .int .i64 d] w fun e w' => e = outR (overR a b d) ∧ w' = w := by
  have i1 := addR_in a b
  have i2 := amtR_in hd
  have c1 := fun W => ways_of (cadd_any a b W ha hb)
  have c2 : d < 0 → _ := fun _ W => ways_of (csub_any 0 d W inF0 hd)
  have c3 := fun W => csub_any (addR a b).1 (amtR d).1 W i1 i2
  have n1 := @over_no1 a b d
  have n2 := @over_no2 a b d
  have n3 := @over_ok2 a b d
  have e0 : d < 0 → subR 0 d = amtR d := fun g => by unfold amtR; rw [if_pos g]
  have e1 : ¬ d < 0 → amtR d = (d, 0) := fun g => by unfold amtR; rw [if_neg g]
  generalize subR (addR a b).1 (amtR d).1 = u at *
  generalize overR a b d = t at *
  generalize addR a b = r at *
  by_cases hn : d < 0
  · rw [e0 hn] at c2
    generalize amtR d = s at *
    have C1 : Hid _ := c1
    have C2 : Hid _ := c2 hn
    have C3 : Hid _ := fun W => ways_of (c3 W)
    have N1 : Hid _ := n1
    have N2 : Hid _ := n2
    have N3 : Hid _ := n3
    clear c1 c2 c3 n1 n2 n3 e0 e1 i1 i2
    go_enter Tryz.func108, Tryz.ntmps108
    go_wp2_with (first
      | (go_at_call 47; go_fit (C1.out _); rintro e w' ⟨(⟨rfl, h1⟩ | ⟨rfl, h1⟩), rfl⟩)
      | (go_at_call 77; go_fit (C2.out _); rintro e w' ⟨(⟨rfl, h2⟩ | ⟨rfl, h2⟩), rfl⟩)
      | (go_at_call 77; go_fit (C3.out _); rintro e w' ⟨(⟨rfl, h3⟩ | ⟨rfl, h3⟩), rfl⟩))
    all_goals try (first | (exact ⟨rfl, (N1.out h1.out).symm, rfl⟩) | (exact ⟨rfl, (N2.out h1.out h2.out).symm, rfl⟩) | (exact ⟨rfl, by rw [← N3.out h1.out h2.out]; exact (if_neg h3.out).symm, rfl⟩))
    go_ret
    exact ⟨by rw [← N3.out h1.out h2.out]; exact (if_pos h3.out).symm, rfl⟩
  · rw [e1 hn] at c3 n2 n3
    simp only at c3 n3
    have C1 : Hid _ := c1
    have C3 : Hid _ := fun W => ways_of (c3 W)
    have N1 : Hid _ := n1
    have N3 : Hid (r.2 = 0 → u = t) := fun h => n3 h trivial
    clear c1 c2 c3 n1 n2 n3 e0 e1 i1 i2
    go_enter Tryz.func108, Tryz.ntmps108
    go_wp2_with (first
      | (go_at_call 47; go_fit (C1.out _); rintro e w' ⟨(⟨rfl, h1⟩ | ⟨rfl, h1⟩), rfl⟩)
      | (go_at_call 77; go_fit (C3.out _); rintro e w' ⟨(⟨rfl, h3⟩ | ⟨rfl, h3⟩), rfl⟩))
    all_goals try (first | (exact ⟨rfl, (N1.out h1.out).symm, rfl⟩) | (exact ⟨rfl, by rw [← N3.out h1.out]; exact (if_neg h3.out).symm, rfl⟩))
    go_ret
    exact ⟨by rw [← N3.out h1.out]; exact (if_pos h3.out).symm, rfl⟩

theorem tow_any (d : Int) (w : World) :
    Calls Tryz.prog 109 #[.int .i64 d] w fun e w' => e = .returned (.int .i64 (towI d)) ∧ w' = w := by
  unfold towI
  by_cases h : d < 0
  · rw [if_pos h]
    go_enter Tryz.func109, Tryz.ntmps109
    go_wp2
    go_ret
    exact ⟨rfl, rfl⟩
  · rw [if_neg h]
    go_enter Tryz.func109, Tryz.ntmps109
    go_wp2
    go_ret
    exact ⟨rfl, rfl⟩

/-- A contact's two answers. -/
def retH (r : Ht × Bool) : Ending := .returned (.tuple #[.agg #[.int .i64 r.1.x, .int .i64 r.1.y, .int .i64 r.1.d], .bool r.2])
theorem tcontact_any (x y d : Int) (w : World) :
    Calls Tryz.prog 107 #[.agg #[.int .i64 x, .int .i64 y], .int .i64 d] w fun e w' => e = retH (contactH x y d) ∧ Grew w w' := by
  have G : Hid (∀ c, Grew w ((w.alloc (.cells #[.int .i64 x, .int .i64 y] 26)).alloc (.cells c 34))) := fun c => ((Grew.refl w).alloc _ _).alloc _ _
  unfold contactH
  by_cases h : d ≤ 0
  · rw [if_pos h]
    go_enter Tryz.func107, Tryz.ntmps107
    go_wp2
    simp [bodyPost, results, Tryz.results107, go_sem, retH]
    exact G.out _
  · rw [if_neg h]
    go_enter Tryz.func107, Tryz.ntmps107
    go_wp2
    simp [bodyPost, results, Tryz.results107, go_sem, retH]
    exact G.out _
end Go.Proofs.YtcoooehcgbohgaaGreat

namespace Go.Proofs.YtcoooehcgbohgaaGreat
open Go.RowKit

theorem crate_no1 {A B : Bd} (h : ¬ (gapV A B).2.2 = 0) : outH (crateR A B) = .panicked [fault (gapV A B).2.2] := by unfold crateR; rw [ifH_no h]; exact if_neg h
theorem crate_ok1 {A B : Bd} (h : (gapV A B).2.2 = 0) : crateR A B = cratesR A.a A.b B.a B.b (gapV A B).1 (gapV A B).2.1 := by unfold crateR; exact ifH_ok h _
theorem crates_no1 {a b c d x y : Int} (h : ¬ (overR a c x).2 = 0) : outH (cratesR a b c d x y) = .panicked [fault (overR a c x).2] := by unfold cratesR; rw [ifH_no h]; exact if_neg h
theorem crates_none {a b c d x y : Int} (h : (overR a c x).2 = 0) (g : (overR a c x).1 ≤ 0) : cratesR a b c d x y = noneH := by unfold cratesR; rw [ifH_ok h, if_pos g]
theorem crates_no2 {a b c d x y : Int} (h : (overR a c x).2 = 0) (g : ¬ (overR a c x).1 ≤ 0) (k : ¬ (overR b d y).2 = 0) : outH (cratesR a b c d x y) = .panicked [fault (overR b d y).2] := by unfold cratesR; rw [ifH_ok h, if_neg g, ifH_no k]; exact if_neg k
theorem crates_ok {a b c d x y : Int} (h : (overR a c x).2 = 0) (g : ¬ (overR a c x).1 ≤ 0) (k : (overR b d y).2 = 0) : cratesR a b c d x y = (lessH (overR a c x).1 (overR b d y).1 x y, 0) := by unfold cratesR; rw [ifH_ok h, if_neg g, ifH_ok k]
theorem outH_ret (r : Ht × Bool) : outH (r, 0) = retH r := rfl
theorem hit_set {w V : World} (U : Grew w V) {b : Nat} (hb : w.heap.size ≤ b) (p q r : Value) : Grew w (((V.setCell ⟨b, 0, none⟩ p).setCell ⟨b, 1, none⟩ q).setCell ⟨b, 2, none⟩ r) := ((U.setCell hb _).setCell hb _).setCell hb _
theorem waysU_of {P : Program} {f : Nat} {args : Array Value} {w : World} {t : (Int × Int) × Int × Int} {A : World → Prop} (h : Calls P f args w fun e w' => e = outU t ∧ A w') :
    Calls P f args w fun e w' => ((e = .returned (.tuple #[.agg #[.int .i64 t.1.1, .int .i64 t.1.2], .int .i64 t.2.1]) ∧ Hid (t.2.2 = 0)) ∨ (e = .panicked [fault t.2.2] ∧ Hid (¬ t.2.2 = 0))) ∧ A w' := by
  refine h.mono ?_
  rintro e w' ⟨rfl, hA⟩
  refine ⟨?_, hA⟩
  by_cases h : t.2.2 = 0
  · exact .inl ⟨if_pos h, h⟩
  · exact .inr ⟨if_neg h, h⟩
theorem waysH_of {P : Program} {f : Nat} {args : Array Value} {w : World} {t : (Ht × Bool) × Int} {A : World → Prop} (h : Calls P f args w fun e w' => e = outH t ∧ A w') :
    Calls P f args w fun e w' => ((e = .returned (.tuple #[.agg #[.int .i64 t.1.1.x, .int .i64 t.1.1.y, .int .i64 t.1.1.d], .bool t.1.2]) ∧ Hid (t.2 = 0)) ∨ (e = .panicked [fault t.2] ∧ Hid (¬ t.2 = 0))) ∧ A w' := by
  refine h.mono ?_
  rintro e w' ⟨rfl, hA⟩
  refine ⟨?_, hA⟩
  by_cases h : t.2 = 0
  · exact .inl ⟨if_pos h, h⟩
  · exact .inr ⟨if_neg h, h⟩

set_option maxHeartbeats 2000000 in
theorem crates_any (A B : Bd) (hA : A.ok) (hB : B.ok) (w : World) :
    Calls Tryz.prog 86 #[A.val, B.val] w fun e w' => e = outH (crateR A B) ∧ Grew w w' := by
  have iD := two_in (subR_in B.p A.p) (subR_in B.q A.q)
  have c1 := fun W => waysV_of (vsub_any B.p B.q A.p A.q W hB.p hB.q hA.p hA.q)
  have n1 := @crate_no1 A B
  have k1 := @crate_ok1 A B
  generalize crateR A B = T at *
  unfold gapV at n1 k1
  generalize two (subR B.p A.p) (subR B.q A.q) = D at *
  obtain ⟨x, y, k⟩ := D
  simp only at iD n1 k1 c1
  have c2 := fun W => ways_of (overlap_any A.a B.a x W hA.a hB.a iD.1)
  have c3 := fun W => ways_of (overlap_any A.b B.b y W hA.b hB.b iD.2)
  have n2 := @crates_no1 A.a A.b B.a B.b x y
  have n3 := @crates_none A.a A.b B.a B.b x y
  have n4 := @crates_no2 A.a A.b B.a B.b x y
  have n5 := @crates_ok A.a A.b B.a B.b x y
  generalize cratesR A.a A.b B.a B.b x y = S at *
  generalize overR A.a B.a x = X at *
  generalize overR A.b B.b y = Y at *
  obtain ⟨X, i⟩ := X
  obtain ⟨Y, j⟩ := Y
  simp only at n2 n3 n4 n5 c2 c3
  unfold vec at c1
  unfold Bd.val
  have C1 : Hid _ := c1
  have C2 : Hid _ := c2
  have C3 : Hid _ := c3
  have C4 : Hid (∀ W, Calls Tryz.prog 109 #[.int .i64 y] W fun e w' => e = .returned (.int .i64 (towI y)) ∧ w' = W) := fun W => tow_any y W
  have C5 : Hid (∀ W, Calls Tryz.prog 109 #[.int .i64 x] W fun e w' => e = .returned (.int .i64 (towI x)) ∧ w' = W) := fun W => tow_any x W
  have N1 : Hid _ := n1
  have N2 : Hid (k = 0 → ¬ i = 0 → outH T = .panicked [fault i]) := fun h g => by rw [k1 h]; exact n2 g
  have N3 : Hid (k = 0 → i = 0 → X ≤ 0 → outH T = .returned (.tuple #[.agg #[.int .i64 0, .int .i64 0, .int .i64 0], .bool false])) := fun h g l => by rw [k1 h, n3 g l]; rfl
  have N4 : Hid (k = 0 → i = 0 → ¬ j = 0 → ¬ X ≤ 0 → outH T = .panicked [fault j]) := fun h g m l => by rw [k1 h]; exact n4 g l m
  have N5 : Hid (k = 0 → i = 0 → j = 0 → ¬ X ≤ 0 → outH T = retH (lessH X Y x y)) := fun h g m l => by rw [k1 h, n5 g l m]; rfl
  clear c1 c2 c3 n1 n2 n3 n4 n5 k1 iD hA hB
  have G : Hid (Grew w (((w.alloc (.cells #[.int .i64 A.s, .int .i64 A.a, .int .i64 A.b, .int .i64 A.m, .int .i64 A.p, .int .i64 A.q, .int .i64 A.u, .int .i64 A.v] 28)).alloc (.cells #[.int .i64 B.s, .int .i64 B.a, .int .i64 B.b, .int .i64 B.m, .int .i64 B.p, .int .i64 B.q, .int .i64 B.u, .int .i64 B.v] 28)).alloc (.cells #[.int .i64 0, .int .i64 0, .int .i64 0] 34))) := (((Grew.refl w).alloc _ _).alloc _ _).alloc _ _
  by_cases hX : X ≤ 0
  · clear C3 C4 C5 N4 N5
    go_enter Tryz.func86, Tryz.ntmps86
    go_wp2_with (first
      | (go_at_call 74; go_fit (C1.out _); rintro e V ⟨(⟨rfl, h1⟩ | ⟨rfl, h1⟩), U⟩; have a1 := U.cell (p := ⟨w.heap.size, 1, none⟩) (v := .int .i64 A.a) (by simp [go_sem]); have a2 := U.cell (p := ⟨w.heap.size, 2, none⟩) (v := .int .i64 A.b) (by simp [go_sem]); have b1 := U.cell (p := ⟨w.heap.size + 1, 1, none⟩) (v := .int .i64 B.a) (by simp [go_sem]); have b2 := U.cell (p := ⟨w.heap.size + 1, 2, none⟩) (v := .int .i64 B.b) (by simp [go_sem]); have r0 := U.cell (p := ⟨w.heap.size + 1 + 1, 0, none⟩) (v := .int .i64 0) (by simp [go_sem]); have r1 := U.cell (p := ⟨w.heap.size + 1 + 1, 1, none⟩) (v := .int .i64 0) (by simp [go_sem]); have r2 := U.cell (p := ⟨w.heap.size + 1 + 1, 2, none⟩) (v := .int .i64 0) (by simp [go_sem]); have z0 := U.frozen (p := ⟨w.heap.size + 1 + 1, 0, none⟩) (by simp [go_sem]); have z1 := U.frozen (p := ⟨w.heap.size + 1 + 1, 1, none⟩) (by simp [go_sem]); have z2 := U.frozen (p := ⟨w.heap.size + 1 + 1, 2, none⟩) (by simp [go_sem]); have sU := U.size; (simp at sU); have d0 : w.heap.size < V.heap.size := (by omega); have d1 : w.heap.size + 1 < V.heap.size := (by omega); have d2 : w.heap.size + 1 + 1 < V.heap.size := by omega)
      | (go_at_call 108; go_fit (C2.out _); rintro e w' ⟨(⟨rfl, h2⟩ | ⟨rfl, h2⟩), rfl⟩))
    all_goals try (first | (exact ⟨rfl, (N1.out h1.out).symm, G.out.trans U⟩) | (exact ⟨rfl, (N2.out h1.out h2.out).symm, (G.out.trans U).alloc _ _⟩))
    simp [bodyPost, results, Tryz.results86, go_sem, r0, r1, r2, d2]
    exact ⟨(N3.out h1.out h2.out hX).symm, (hit_set (G.out.trans U) (b := w.heap.size + 1 + 1) (by omega) _ _ _).alloc _ _⟩
  · have N4' : Hid (k = 0 → i = 0 → ¬ j = 0 → outH T = .panicked [fault j]) := fun h g m => N4.out h g m hX
    clear N3 N4
    by_cases hY : Y < X
    · have e5 : lessH X Y x y = contactH 0 (towI y) Y := if_pos hY
      have c6 := fun W => tcontact_any 0 (towI y) Y W
      rw [e5] at N5
      generalize contactH 0 (towI y) Y = R at *
      generalize towI y = tw at *
      unfold retH at c6
      have C6 : Hid _ := c6
      clear c6 e5 C5
      go_enter Tryz.func86, Tryz.ntmps86
      go_wp2_with (first
        | (go_at_call 74; go_fit (C1.out _); rintro e V ⟨(⟨rfl, h1⟩ | ⟨rfl, h1⟩), U⟩; have a1 := U.cell (p := ⟨w.heap.size, 1, none⟩) (v := .int .i64 A.a) (by simp [go_sem]); have a2 := U.cell (p := ⟨w.heap.size, 2, none⟩) (v := .int .i64 A.b) (by simp [go_sem]); have b1 := U.cell (p := ⟨w.heap.size + 1, 1, none⟩) (v := .int .i64 B.a) (by simp [go_sem]); have b2 := U.cell (p := ⟨w.heap.size + 1, 2, none⟩) (v := .int .i64 B.b) (by simp [go_sem]); have r0 := U.cell (p := ⟨w.heap.size + 1 + 1, 0, none⟩) (v := .int .i64 0) (by simp [go_sem]); have r1 := U.cell (p := ⟨w.heap.size + 1 + 1, 1, none⟩) (v := .int .i64 0) (by simp [go_sem]); have r2 := U.cell (p := ⟨w.heap.size + 1 + 1, 2, none⟩) (v := .int .i64 0) (by simp [go_sem]); have z0 := U.frozen (p := ⟨w.heap.size + 1 + 1, 0, none⟩) (by simp [go_sem]); have z1 := U.frozen (p := ⟨w.heap.size + 1 + 1, 1, none⟩) (by simp [go_sem]); have z2 := U.frozen (p := ⟨w.heap.size + 1 + 1, 2, none⟩) (by simp [go_sem]); have sU := U.size; (simp at sU); have d0 : w.heap.size < V.heap.size := (by omega); have d1 : w.heap.size + 1 < V.heap.size := (by omega); have d2 : w.heap.size + 1 + 1 < V.heap.size := by omega)
        | (go_at_call 108; go_fit (C2.out _); rintro e w' ⟨(⟨rfl, h2⟩ | ⟨rfl, h2⟩), rfl⟩)
        | (go_at_call 108; go_fit (C3.out _); rintro e w' ⟨(⟨rfl, h3⟩ | ⟨rfl, h3⟩), rfl⟩)
        | (go_at_call 109; go_fit (C4.out _); rintro e w' ⟨rfl, rfl⟩)
        | (go_at_call 107; go_fit (C6.out _); rintro e V2 ⟨rfl, U2⟩; have s0 := U2.cell (((Grew.refl V).alloc _ _).cell r0); have s1 := U2.cell (((Grew.refl V).alloc _ _).cell r1); have s2 := U2.cell (((Grew.refl V).alloc _ _).cell r2); have y0 := U2.frozen (((Grew.refl V).alloc _ _).frozen z0); have y1 := U2.frozen (((Grew.refl V).alloc _ _).frozen z1); have y2 := U2.frozen (((Grew.refl V).alloc _ _).frozen z2)))
      all_goals try (first | (exact ⟨rfl, (N1.out h1.out).symm, G.out.trans U⟩) | (exact ⟨rfl, (N2.out h1.out h2.out).symm, (G.out.trans U).alloc _ _⟩) | (exact ⟨rfl, (N4'.out h1.out h2.out h3.out).symm, (G.out.trans U).alloc _ _⟩))
      simp [bodyPost, results, Tryz.results86, go_sem, s0, s1, s2]
      exact ⟨(N5.out h1.out h2.out h3.out hX).symm, hit_set (((G.out.trans U).alloc _ _).trans U2) (by omega) _ _ _⟩
    · have e5 : lessH X Y x y = contactH (towI x) 0 X := if_neg hY
      have c6 := fun W => tcontact_any (towI x) 0 X W
      rw [e5] at N5
      generalize contactH (towI x) 0 X = R at *
      generalize towI x = tw at *
      unfold retH at c6
      have C6 : Hid _ := c6
      clear c6 e5 C4
      go_enter Tryz.func86, Tryz.ntmps86
      go_wp2_with (first
        | (go_at_call 74; go_fit (C1.out _); rintro e V ⟨(⟨rfl, h1⟩ | ⟨rfl, h1⟩), U⟩; have a1 := U.cell (p := ⟨w.heap.size, 1, none⟩) (v := .int .i64 A.a) (by simp [go_sem]); have a2 := U.cell (p := ⟨w.heap.size, 2, none⟩) (v := .int .i64 A.b) (by simp [go_sem]); have b1 := U.cell (p := ⟨w.heap.size + 1, 1, none⟩) (v := .int .i64 B.a) (by simp [go_sem]); have b2 := U.cell (p := ⟨w.heap.size + 1, 2, none⟩) (v := .int .i64 B.b) (by simp [go_sem]); have r0 := U.cell (p := ⟨w.heap.size + 1 + 1, 0, none⟩) (v := .int .i64 0) (by simp [go_sem]); have r1 := U.cell (p := ⟨w.heap.size + 1 + 1, 1, none⟩) (v := .int .i64 0) (by simp [go_sem]); have r2 := U.cell (p := ⟨w.heap.size + 1 + 1, 2, none⟩) (v := .int .i64 0) (by simp [go_sem]); have z0 := U.frozen (p := ⟨w.heap.size + 1 + 1, 0, none⟩) (by simp [go_sem]); have z1 := U.frozen (p := ⟨w.heap.size + 1 + 1, 1, none⟩) (by simp [go_sem]); have z2 := U.frozen (p := ⟨w.heap.size + 1 + 1, 2, none⟩) (by simp [go_sem]); have sU := U.size; (simp at sU); have d0 : w.heap.size < V.heap.size := (by omega); have d1 : w.heap.size + 1 < V.heap.size := (by omega); have d2 : w.heap.size + 1 + 1 < V.heap.size := by omega)
        | (go_at_call 108; go_fit (C2.out _); rintro e w' ⟨(⟨rfl, h2⟩ | ⟨rfl, h2⟩), rfl⟩)
        | (go_at_call 108; go_fit (C3.out _); rintro e w' ⟨(⟨rfl, h3⟩ | ⟨rfl, h3⟩), rfl⟩)
        | (go_at_call 109; go_fit (C5.out _); rintro e w' ⟨rfl, rfl⟩)
        | (go_at_call 107; go_fit (C6.out _); rintro e V2 ⟨rfl, U2⟩; have s0 := U2.cell (((Grew.refl V).alloc _ _).cell r0); have s1 := U2.cell (((Grew.refl V).alloc _ _).cell r1); have s2 := U2.cell (((Grew.refl V).alloc _ _).cell r2); have y0 := U2.frozen (((Grew.refl V).alloc _ _).frozen z0); have y1 := U2.frozen (((Grew.refl V).alloc _ _).frozen z1); have y2 := U2.frozen (((Grew.refl V).alloc _ _).frozen z2)))
      all_goals try (first | (exact ⟨rfl, (N1.out h1.out).symm, G.out.trans U⟩) | (exact ⟨rfl, (N2.out h1.out h2.out).symm, (G.out.trans U).alloc _ _⟩) | (exact ⟨rfl, (N4'.out h1.out h2.out h3.out).symm, (G.out.trans U).alloc _ _⟩))
      simp [bodyPost, results, Tryz.results86, go_sem, s0, s1, s2]
      exact ⟨(N5.out h1.out h2.out h3.out hX).symm, hit_set (((G.out.trans U).alloc _ _).trans U2) (by omega) _ _ _⟩

theorem balls_no1 {A B : Bd} (h : ¬ (gapV A B).2.2 = 0) : outH (ballsR A B) = .panicked [fault (gapV A B).2.2] := by unfold ballsR; rw [ifH_no h]; exact if_neg h
theorem balls_ok1 {A B : Bd} (h : (gapV A B).2.2 = 0) : ballsR A B = ballsU A.a B.a (unitR (gapV A B).1 (gapV A B).2.1) := by unfold ballsR; exact ifH_ok h _
theorem ballsU_no1 {a b : Int} {u : (Int × Int) × Int × Int} (h : ¬ u.2.2 = 0) : outH (ballsU a b u) = .panicked [fault u.2.2] := by unfold ballsU; rw [ifH_no h]; exact if_neg h
theorem ballsU_no2 {a b : Int} {u : (Int × Int) × Int × Int} (h : u.2.2 = 0) (g : ¬ (addR a b).2 = 0) : outH (ballsU a b u) = .panicked [fault (addR a b).2] := by
  unfold ballsU sumR behind
  rw [ifH_ok h, if_neg g, ifH_no g]; exact if_neg g
theorem ballsU_no3 {a b : Int} {u : (Int × Int) × Int × Int} (h : u.2.2 = 0) (g : (addR a b).2 = 0) (k : ¬ (subR (addR a b).1 u.2.1).2 = 0) : outH (ballsU a b u) = .panicked [fault (subR (addR a b).1 u.2.1).2] := by
  unfold ballsU sumR behind
  rw [ifH_ok h, if_pos g, ifH_no k]; exact if_neg k
theorem ballsU_ok {a b : Int} {u : (Int × Int) × Int × Int} (h : u.2.2 = 0) (g : (addR a b).2 = 0) (k : (subR (addR a b).1 u.2.1).2 = 0) : ballsU a b u = (awayH u.1 u.2.1 (subR (addR a b).1 u.2.1).1, 0) := by
  unfold ballsU sumR behind
  rw [ifH_ok h, if_pos g, ifH_ok k]
theorem unitR_in {x y : Int} (hx : inF x) (hy : inF y) : inF (unitR x y).2.1 ∧ inF (unitR x y).1.1 ∧ inF (unitR x y).1.2 := by
  unfold unitR
  split
  · split
    · exact ⟨inF0, inF0, inF0⟩
    · split
      · exact ⟨lenR_in hx hy, (divR_in _ _).1, (divR_in _ _).1⟩
      · exact ⟨inF0, inF0, inF0⟩
  · exact ⟨inF0, inF0, inF0⟩

set_option maxHeartbeats 4000000 in
theorem balls_any (A B : Bd) (hA : A.ok) (hB : B.ok) (w : World) :
    Calls Tryz.prog 85 #[A.val, B.val] w fun e w' => e = outH (ballsR A B) ∧ Grew w w' := by
  have iD := two_in (subR_in B.p A.p) (subR_in B.q A.q)
  have c1 := fun W => waysV_of (vsub_any B.p B.q A.p A.q W hB.p hB.q hA.p hA.q)
  have n1 := @balls_no1 A B
  have k1 := @balls_ok1 A B
  generalize ballsR A B = T at *
  unfold gapV at n1 k1
  generalize two (subR B.p A.p) (subR B.q A.q) = D at *
  obtain ⟨x, y, k⟩ := D
  simp only at iD n1 k1 c1
  have c2 := fun W => waysU_of (vunit_any x y W iD.1 iD.2)
  have iU := (unitR_in iD.1 iD.2).1
  generalize unitR x y = u at *
  obtain ⟨⟨p, q⟩, l, i⟩ := u
  simp only at iU
  have c3 := fun W => ways_of (cadd_any A.a B.a W hA.a hB.a)
  have c4 := fun W => ways_of (csub_any (addR A.a B.a).1 l W (addR_in _ _) iU)
  have n2 := @ballsU_no1 A.a B.a ((p, q), l, i)
  have n3 := @ballsU_no2 A.a B.a ((p, q), l, i)
  have n4 := @ballsU_no3 A.a B.a ((p, q), l, i)
  have n5 := @ballsU_ok A.a B.a ((p, q), l, i)
  generalize ballsU A.a B.a ((p, q), l, i) = S at *
  simp only at n2 n3 n4 n5 c2 c3 c4
  generalize subR (addR A.a B.a).1 l = Y at *
  generalize addR A.a B.a = X at *
  obtain ⟨X, j⟩ := X
  obtain ⟨Y, m⟩ := Y
  simp only at n3 n4 n5 c3 c4
  unfold vec at c1 c2
  unfold Bd.val
  have C1 : Hid _ := c1
  have C2 : Hid _ := c2
  have C3 : Hid _ := c3
  have C4 : Hid _ := c4
  have N1 : Hid _ := n1
  have N2 : Hid (k = 0 → ¬ i = 0 → outH T = .panicked [fault i]) := fun h g => by rw [k1 h]; exact n2 g
  have N3 : Hid (k = 0 → i = 0 → ¬ j = 0 → outH T = .panicked [fault j]) := fun h g e => by rw [k1 h]; exact n3 g e
  have N4 : Hid (k = 0 → i = 0 → j = 0 → ¬ m = 0 → outH T = .panicked [fault m]) := fun h g e f => by rw [k1 h]; exact n4 g e f
  have N5 : Hid (k = 0 → i = 0 → j = 0 → m = 0 → outH T = retH (awayH (p, q) l Y)) := fun h g e f => by rw [k1 h, n5 g e f]; rfl
  clear c1 c2 c3 c4 n1 n2 n3 n4 n5 k1 iD iU hA hB
  have G : Hid (Grew w (((w.alloc (.cells #[.int .i64 A.s, .int .i64 A.a, .int .i64 A.b, .int .i64 A.m, .int .i64 A.p, .int .i64 A.q, .int .i64 A.u, .int .i64 A.v] 28)).alloc (.cells #[.int .i64 B.s, .int .i64 B.a, .int .i64 B.b, .int .i64 B.m, .int .i64 B.p, .int .i64 B.q, .int .i64 B.u, .int .i64 B.v] 28)).alloc (.cells #[.int .i64 0, .int .i64 0, .int .i64 0] 34))) := (((Grew.refl w).alloc _ _).alloc _ _).alloc _ _

  by_cases hl : l = 0
  · subst hl
    have e5 : awayH (p, q) 0 Y = contactH 4294967296 0 Y := if_pos rfl
    rw [e5] at N5
    have c6 := fun W => tcontact_any 4294967296 0 Y W
    generalize contactH 4294967296 0 Y = R at *
    unfold retH at c6
    have C6 : Hid _ := c6
    clear c6 e5
    go_enter Tryz.func85, Tryz.ntmps85
    go_wp2_with (first
      | (go_at_call 74; go_fit (C1.out _); rintro e V ⟨(⟨rfl, h1⟩ | ⟨rfl, h1⟩), U⟩; have a1 := U.cell (p := ⟨w.heap.size, 1, none⟩) (v := .int .i64 A.a) (by simp [go_sem]); have b1 := U.cell (p := ⟨w.heap.size + 1, 1, none⟩) (v := .int .i64 B.a) (by simp [go_sem]); have r0 := U.cell (p := ⟨w.heap.size + 1 + 1, 0, none⟩) (v := .int .i64 0) (by simp [go_sem]); have r1 := U.cell (p := ⟨w.heap.size + 1 + 1, 1, none⟩) (v := .int .i64 0) (by simp [go_sem]); have r2 := U.cell (p := ⟨w.heap.size + 1 + 1, 2, none⟩) (v := .int .i64 0) (by simp [go_sem]); have z0 := U.frozen (p := ⟨w.heap.size + 1 + 1, 0, none⟩) (by simp [go_sem]); have z1 := U.frozen (p := ⟨w.heap.size + 1 + 1, 1, none⟩) (by simp [go_sem]); have z2 := U.frozen (p := ⟨w.heap.size + 1 + 1, 2, none⟩) (by simp [go_sem]))
      | (go_at_call 73; go_fit (C2.out _); rintro e M ⟨(⟨rfl, h2⟩ | ⟨rfl, h2⟩), UM⟩; replace a1 := UM.cell a1; replace b1 := UM.cell b1; replace r0 := UM.cell r0; replace r1 := UM.cell r1; replace r2 := UM.cell r2; replace z0 := UM.frozen z0; replace z1 := UM.frozen z1; replace z2 := UM.frozen z2; have sU := U.size; (try (simp at sU)); have sM := UM.size))
    all_goals try (first | (exact ⟨rfl, (N1.out h1.out).symm, G.out.trans U⟩) | (exact ⟨rfl, (N2.out h1.out h2.out).symm, (G.out.trans U).trans UM⟩))
    obtain ⟨L, hL⟩ : ∃ L, L = M.alloc (.cells #[.int .i64 4294967296, .int .i64 0] 26) := ⟨_, rfl⟩
    rw [← hL]
    have gL : Grew M L := by rw [hL]; exact (Grew.refl M).alloc _ _
    have sL : L.heap.size = M.heap.size + 1 := by rw [hL]; simp [go_sem]
    have q0 : L.cell? ⟨M.heap.size, 0, none⟩ = some (.int .i64 4294967296) := by rw [hL]; simp [go_sem]
    have q1 : L.cell? ⟨M.heap.size, 1, none⟩ = some (.int .i64 0) := by rw [hL]; simp [go_sem]
    replace a1 := gL.cell a1
    replace b1 := gL.cell b1
    replace r0 := gL.cell r0
    replace r1 := gL.cell r1
    replace r2 := gL.cell r2
    replace z0 := gL.frozen z0
    replace z1 := gL.frozen z1
    replace z2 := gL.frozen z2
    have GL : Hid (Grew w L) := ((G.out.trans U).trans UM).trans gL
    clear hL gL U UM G C1 C2 N1 N2
    have f1 := set_far (show w.heap.size ≠ w.heap.size + 1 + 1 by omega)
    have f2 := set_far (show M.heap.size ≠ w.heap.size + 1 + 1 by omega)
    go_region_held2 (fun w' => w'.cell? ⟨w.heap.size, 1, none⟩ = some (.int .i64 A.a) ∧ w'.cell? ⟨w.heap.size + 1, 1, none⟩ = some (.int .i64 B.a) ∧ w'.cell? ⟨M.heap.size, 0, none⟩ = some (.int .i64 4294967296) ∧ w'.cell? ⟨M.heap.size, 1, none⟩ = some (.int .i64 0)) (go_keep)
      (first
        | (go_at_call 47; go_fit (C3.out _); rintro e w' ⟨(⟨rfl, h3⟩ | ⟨rfl, h3⟩), rfl⟩; rotate_left; (exact post_panic (P := Tryz.prog) (fn := Tryz.f85) (R := fun e w' => e = outH T ∧ Grew w w') rfl ⟨(N3.out h1.out h2.out h3.out).symm, GL.out.drew⟩))
        | (go_at_call 77; go_fit (C4.out _); rintro e w' ⟨(⟨rfl, h4⟩ | ⟨rfl, h4⟩), rfl⟩; rotate_left; (exact post_panic (P := Tryz.prog) (fn := Tryz.f85) (R := fun e w' => e = outH T ∧ Grew w w') rfl ⟨(N4.out h1.out h2.out h3.out h4.out).symm, GL.out.drew⟩))
        | (go_at_call 107; go_fit (C6.out _); rintro e V2 ⟨rfl, U2⟩; have k0 := U2.cells (b := w.heap.size) (by first | omega | (simp; omega)); have k1 := U2.cells (b := w.heap.size + 1) (by first | omega | (simp; omega)); have k2 := U2.cells (b := M.heap.size) (by first | omega | (simp; omega)); have GV : Grew L V2 := (Grew.refl L).drew.trans U2; have s0 := GV.cell r0; have s1 := GV.cell r1; have s2 := GV.cell r2; have y0 := GV.frozen z0; have y1 := GV.frozen z1; have y2 := GV.frozen z2))
    go_wp2
    simp [bodyPost, results, Tryz.results85, go_sem, s0, s1, s2]
    exact ⟨(N5.out h1.out h2.out h3.out h4.out).symm, hit_set (GL.out.trans GV) (by omega) _ _ _⟩
  · have e5 : awayH (p, q) l Y = contactH p q Y := if_neg hl
    rw [e5] at N5
    have c6 := fun W => tcontact_any p q Y W
    generalize contactH p q Y = R at *
    unfold retH at c6
    have C6 : Hid _ := c6
    clear c6 e5
    have hl' : (l == 0) = false := by simpa using hl
    clear hl
    go_enter Tryz.func85, Tryz.ntmps85
    go_wp2_with (first
      | (go_at_call 74; go_fit (C1.out _); rintro e V ⟨(⟨rfl, h1⟩ | ⟨rfl, h1⟩), U⟩; have a1 := U.cell (p := ⟨w.heap.size, 1, none⟩) (v := .int .i64 A.a) (by simp [go_sem]); have b1 := U.cell (p := ⟨w.heap.size + 1, 1, none⟩) (v := .int .i64 B.a) (by simp [go_sem]); have r0 := U.cell (p := ⟨w.heap.size + 1 + 1, 0, none⟩) (v := .int .i64 0) (by simp [go_sem]); have r1 := U.cell (p := ⟨w.heap.size + 1 + 1, 1, none⟩) (v := .int .i64 0) (by simp [go_sem]); have r2 := U.cell (p := ⟨w.heap.size + 1 + 1, 2, none⟩) (v := .int .i64 0) (by simp [go_sem]); have z0 := U.frozen (p := ⟨w.heap.size + 1 + 1, 0, none⟩) (by simp [go_sem]); have z1 := U.frozen (p := ⟨w.heap.size + 1 + 1, 1, none⟩) (by simp [go_sem]); have z2 := U.frozen (p := ⟨w.heap.size + 1 + 1, 2, none⟩) (by simp [go_sem]))
      | (go_at_call 73; go_fit (C2.out _); rintro e M ⟨(⟨rfl, h2⟩ | ⟨rfl, h2⟩), UM⟩; replace a1 := UM.cell a1; replace b1 := UM.cell b1; replace r0 := UM.cell r0; replace r1 := UM.cell r1; replace r2 := UM.cell r2; replace z0 := UM.frozen z0; replace z1 := UM.frozen z1; replace z2 := UM.frozen z2; have sU := U.size; (try (simp at sU)); have sM := UM.size))
    all_goals try (first | (exact ⟨rfl, (N1.out h1.out).symm, G.out.trans U⟩) | (exact ⟨rfl, (N2.out h1.out h2.out).symm, (G.out.trans U).trans UM⟩))
    obtain ⟨L, hL⟩ : ∃ L, L = M.alloc (.cells #[.int .i64 p, .int .i64 q] 26) := ⟨_, rfl⟩
    rw [← hL]
    have gL : Grew M L := by rw [hL]; exact (Grew.refl M).alloc _ _
    have sL : L.heap.size = M.heap.size + 1 := by rw [hL]; simp [go_sem]
    have q0 : L.cell? ⟨M.heap.size, 0, none⟩ = some (.int .i64 p) := by rw [hL]; simp [go_sem]
    have q1 : L.cell? ⟨M.heap.size, 1, none⟩ = some (.int .i64 q) := by rw [hL]; simp [go_sem]
    replace a1 := gL.cell a1
    replace b1 := gL.cell b1
    replace r0 := gL.cell r0
    replace r1 := gL.cell r1
    replace r2 := gL.cell r2
    replace z0 := gL.frozen z0
    replace z1 := gL.frozen z1
    replace z2 := gL.frozen z2
    have GL : Hid (Grew w L) := ((G.out.trans U).trans UM).trans gL
    clear hL gL U UM G C1 C2 N1 N2
    have f1 := set_far (show w.heap.size ≠ w.heap.size + 1 + 1 by omega)
    have f2 := set_far (show M.heap.size ≠ w.heap.size + 1 + 1 by omega)
    go_region_held2 (fun w' => w'.cell? ⟨w.heap.size, 1, none⟩ = some (.int .i64 A.a) ∧ w'.cell? ⟨w.heap.size + 1, 1, none⟩ = some (.int .i64 B.a) ∧ w'.cell? ⟨M.heap.size, 0, none⟩ = some (.int .i64 p) ∧ w'.cell? ⟨M.heap.size, 1, none⟩ = some (.int .i64 q)) (go_keep)
      (first
        | (go_at_call 47; go_fit (C3.out _); rintro e w' ⟨(⟨rfl, h3⟩ | ⟨rfl, h3⟩), rfl⟩; rotate_left; (exact post_panic (P := Tryz.prog) (fn := Tryz.f85) (R := fun e w' => e = outH T ∧ Grew w w') rfl ⟨(N3.out h1.out h2.out h3.out).symm, GL.out.drew⟩))
        | (go_at_call 77; go_fit (C4.out _); rintro e w' ⟨(⟨rfl, h4⟩ | ⟨rfl, h4⟩), rfl⟩; rotate_left; (exact post_panic (P := Tryz.prog) (fn := Tryz.f85) (R := fun e w' => e = outH T ∧ Grew w w') rfl ⟨(N4.out h1.out h2.out h3.out h4.out).symm, GL.out.drew⟩))
        | (go_at_call 107; go_fit (C6.out _); rintro e V2 ⟨rfl, U2⟩; have k0 := U2.cells (b := w.heap.size) (by first | omega | (simp; omega)); have k1 := U2.cells (b := w.heap.size + 1) (by first | omega | (simp; omega)); have k2 := U2.cells (b := M.heap.size) (by first | omega | (simp; omega)); have GV : Grew L V2 := (Grew.refl L).drew.trans U2; have s0 := GV.cell r0; have s1 := GV.cell r1; have s2 := GV.cell r2; have y0 := GV.frozen z0; have y1 := GV.frozen z1; have y2 := GV.frozen z2))
    go_wp2
    simp [bodyPost, results, Tryz.results85, go_sem, s0, s1, s2]
    exact ⟨(N5.out h1.out h2.out h3.out h4.out).symm, hit_set (GL.out.trans GV) (by omega) _ _ _⟩
end Go.Proofs.YtcoooehcgbohgaaGreat
