/-
  The document's own Unit with whatever error so far, and its Joint with none (maquetteref1's Calc): what they answer, and the error behind them.
-/
import Derived.Test.YtcancbgaejekiaaJRef3
import Derived.Test.YtcancbgaejekiaaJJoint
namespace Go.Proofs.Ytcancbgaejekiaa
open Go.RowKit

theorem rlen_k (b : Nat) (k x y : Int) (w : World) (hx : inF x) (hy : inF y) (h : Err w b 0 k) :
    Calls Try.prog 69 #[.pointer (some ⟨b, 0, none⟩), .int .i64 x, .int .i64 y] w fun e w' => e = .returned (.int .i64 (ifK k (lenR x y)).1) ∧ Err w' b 0 (ifK k (lenR x y)).2 ∧ Past b w w' := by
  by_cases hk : k = 0
  · subst hk
    exact (rlen_any b 0 x y w hx hy h.1 h.2).mono fun e w' ⟨he, hw⟩ => ⟨he, by rw [hw]; exact h.set _, by rw [hw]; exact past_setCell _ _ _ _ _⟩
  · rw [ifK_no hk]
    have hz : (k == 0) = false := by simpa using hk
    have hc := h.1; have hf := h.2
    have H : Hid (Err w b 0 k) := h
    clear h
    go_enter Try.func69, Try.ntmps69
    go_wp2
    go_ret
    exact ⟨rfl, H.out, Past.refl _ _⟩
def overT (x y : Int) (n : Int × Int) : (Int × Int) × Int × Int := if n.1 = 0 then ((0, 0), 0, n.2) else (((pairK n.2 (divR x n.1) (divR y n.1)).1, (pairK n.2 (divR x n.1) (divR y n.1)).2.1), n.1, (pairK n.2 (divR x n.1) (divR y n.1)).2.2)
def unitK (k x y : Int) : (Int × Int) × Int × Int := overT x y (ifK k (lenR x y))
set_option maxHeartbeats 1000000 in
theorem runit_u (b : Nat) (k x y : Int) (w : World) (hx : inF x) (hy : inF y) (h : Err w b 0 k) :
    Calls Try.prog 51 #[.pointer (some ⟨b, 0, none⟩), vec x y] w fun e w' => e = .returned (.tuple #[.agg #[.int .i64 (unitK k x y).1.1, .int .i64 (unitK k x y).1.2], .int .i64 (unitK k x y).2.1]) ∧ Err w' b 0 (unitK k x y).2.2 ∧ Past b w w' := by
  have hb : b < w.heap.size := cell_block h.1
  have CL : Hid (∀ W, Err W b 0 k → _) := fun W => rlen_k b k x y W hx hy
  have fl : inF (ifK k (lenR x y)).1 := ifK_in (lenR_in hx hy)
  unfold unitK overT
  generalize ifK k (lenR x y) = n at *
  obtain ⟨W, hW⟩ : ∃ W, W = (w.alloc (.cells #[.int .i64 x, .int .i64 y] 24)).alloc (.cells #[.int .i64 0, .int .i64 0] 24) := ⟨_, rfl⟩
  have GW : Grew w W := by rw [hW]; exact ((Grew.refl w).alloc _ _).alloc _ _
  have sz : W.heap.size = w.heap.size + 1 + 1 := by rw [hW]; simp [go_sem]
  have zW : ∀ o, W.frozen? ⟨w.heap.size + 1, o, none⟩ = false := fun o => GW.free (by simp)
  have E0 := h.grew GW
  by_cases hz : n.1 = 0
  · rw [if_pos hz]
    have hz1 : (n.1 == 0) = true := by simpa using hz
    clear hz
    unfold vec
    go_enter Try.func51, Try.ntmps51
    go_wp2_with (first
      | (go_at_call 69; rw [← hW]; go_fit (CL.out _ E0); rintro e V ⟨rfl, E1, U1⟩; have n0 := U1.cell (p := ⟨w.heap.size + 1, 0, none⟩) (v := .int .i64 0) (by simp; omega) (by rw [hW]; simp [go_sem]); have n1 := U1.cell (p := ⟨w.heap.size + 1, 1, none⟩) (v := .int .i64 0) (by simp; omega) (by rw [hW]; simp [go_sem]); have y0 := U1.frozen (by simp; omega) (by simp; omega) (zW 0); have y1 := U1.frozen (by simp; omega) (by simp; omega) (zW 1)))
    simp [bodyPost, results, Try.results51, go_sem, n0, n1]
    exact ⟨Err.past (Err.past E1 (by omega) _ rfl) (by omega) _ rfl, ((GW.past.trans U1).setNew (by omega) _ _ _).setNew (by omega) _ _ _⟩
  · rw [if_neg hz]
    have hz1 : (n.1 == 0) = false := by simpa using hz
    clear hz
    have CO : Hid (∀ W, Err W b 0 n.2 → _) := fun W => rover_u b n.2 x y n.1 W hx hy fl
    generalize pairK n.2 (divR x n.1) (divR y n.1) = t at *
    unfold vec at CO ⊢
    go_enter Try.func51, Try.ntmps51
    go_wp2_with (first
      | (go_at_call 69; rw [← hW]; go_fit (CL.out _ E0); rintro e V ⟨rfl, E1, U1⟩; have m0 := U1.cell (p := ⟨w.heap.size, 0, none⟩) (v := .int .i64 x) (by simp; omega) (by rw [hW]; simp [go_sem]); have m1 := U1.cell (p := ⟨w.heap.size, 1, none⟩) (v := .int .i64 y) (by simp; omega) (by rw [hW]; simp [go_sem]); have n0 := U1.cell (p := ⟨w.heap.size + 1, 0, none⟩) (v := .int .i64 0) (by simp; omega) (by rw [hW]; simp [go_sem]); have n1 := U1.cell (p := ⟨w.heap.size + 1, 1, none⟩) (v := .int .i64 0) (by simp; omega) (by rw [hW]; simp [go_sem]); have y0 := U1.frozen (by simp; omega) (by simp; omega) (zW 0); have y1 := U1.frozen (by simp; omega) (by simp; omega) (zW 1))
      | (go_at_call 64; go_fit (CO.out _ E1); rintro e V2 ⟨rfl, E2, U2⟩; have l0 := U2.cell (by simp; omega) n0; have l1 := U2.cell (by simp; omega) n1; have i0 := U2.frozen (cell_block n0) (by simp; omega) y0; have i1 := U2.frozen (cell_block n1) (by simp; omega) y1))
    simp [bodyPost, results, Try.results51, go_sem, l0, l1]
    exact ⟨Err.past (Err.past E2 (by omega) _ rfl) (by omega) _ rfl, (((GW.past.trans U1).trans U2).setNew (by omega) _ _ _).setNew (by omega) _ _ _⟩
theorem overT_in {x y : Int} {n : Int × Int} (h : inF n.1) : inF (overT x y n).1.1 ∧ inF (overT x y n).1.2 ∧ inF (overT x y n).2.1 := by
  unfold overT
  split
  · exact ⟨inF0, inF0, inF0⟩
  · exact ⟨ifK_in (divR_in _ _).1, ifK_in (divR_in _ _).1, h⟩

def pullT (v : Int × Int) (l n : Int) : Int × Int := addT v.1 (mulT (ifK v.2 (subR l n)).2 (ifK v.2 (subR l n)).1 34359738368)
def holdK (A B : Bd) (u : (Int × Int) × Int × Int) (n : Int) (k v : Int × Int) : (Bd × Bd) × Int := appT A B (scaleT u.1.1 u.1.2 (divT k.1 (subT (pullT v u.2.1 n))))
def heldK (A B : Bd) (u : (Int × Int) × Int × Int) (n : Int) : (Bd × Bd) × Int :=
  if u.2.1 = 0 then ((A, B), u.2.2) else
  if (addT (lightK u.2.2 A).1 (lightK (lightK u.2.2 A).2 B)).1 = 0 then ((A, B), (addT (lightK u.2.2 A).1 (lightK (lightK u.2.2 A).2 B)).2) else
  holdK A B u n (addT (lightK u.2.2 A).1 (lightK (lightK u.2.2 A).2 B)) (vK (addT (lightK u.2.2 A).1 (lightK (lightK u.2.2 A).2 B)).2 A B u.1.1 u.1.2)
def wayK (A B : Bd) : Int × Int × Int := pairK 0 (subR B.p A.p) (subR B.q A.q)
def jointK (A B : Bd) (n : Int) : (Bd × Bd) × Int := heldK A B (unitK (wayK A B).2.2 (wayK A B).1 (wayK A B).2.1) n
theorem jr_start (c : Nat) (w : World) (A B : Bd) (V : World) (hV : V = ((((w.alloc (.cells #[.int .i64 A.s, .int .i64 A.a, .int .i64 A.b, .int .i64 A.m, .int .i64 A.p, .int .i64 A.q, .int .i64 A.u, .int .i64 A.v] 26)).alloc (.cells #[.int .i64 B.s, .int .i64 B.a, .int .i64 B.b, .int .i64 B.m, .int .i64 B.p, .int .i64 B.q, .int .i64 B.u, .int .i64 B.v] 26)).alloc (.cells #[.int .i64 0, .int .i64 0, .int .i64 0, .int .i64 0, .int .i64 0, .int .i64 0, .int .i64 0, .int .i64 0] 26)).alloc (.cells #[.int .i64 0, .int .i64 0, .int .i64 0, .int .i64 0, .int .i64 0, .int .i64 0, .int .i64 0, .int .i64 0] 26))) : Jp c w V (w.heap.size + 1 + 1) (w.heap.size + 1 + 1 + 1) A B ∧ Grew w V := by
  have J := jj_start w A B V hV
  exact ⟨⟨J.g.past, J.a, J.b, J.r, J.s, J.g.freeB (by omega), J.g.freeB (by omega), J.g.freeB (by omega), J.g.freeB (by omega)⟩, J.g⟩

set_option maxHeartbeats 16000000 in
set_option maxRecDepth 100000 in
theorem rjoint_u (c : Nat) (A B : Bd) (n : Int) (hA : A.ok) (hB : B.ok) (hn : inF n) (w : World) (hE : Err w c 0 0) :
    Calls Try.prog 17 #[.pointer (some ⟨c, 0, none⟩), A.val, B.val, .int .i64 n] w fun e w' => e = retP (jointK A B n) ∧ Err w' c 0 (jointK A B n).2 ∧ Past c w w' := by
  have hc : c < w.heap.size := cell_block hE.1
  have js := jr_start c w A B
  have nr : w.heap.size + 1 < w.heap.size + 1 + 1 := by omega
  have ns : w.heap.size + 1 < w.heap.size + 1 + 1 + 1 := by omega
  obtain ⟨R, hR⟩ : ∃ R, jointK A B n = R := ⟨_, rfl⟩
  rw [hR]
  unfold jointK wayK at hR
  have C1 : Hid (∀ W, Err W c 0 0 → _) := fun W => rless_u c 0 B.p B.q A.p A.q W hB.p hB.q hA.p hA.q
  have i1 : inF _ ∧ inF _ := pairK_in (k := 0) (subR_in B.p A.p) (subR_in B.q A.q)
  generalize pairK 0 (subR B.p A.p) (subR B.q A.q) = g at *
  have C2 : Hid (∀ W, Err W c 0 g.2.2 → _) := fun W => runit_u c g.2.2 g.1 g.2.1 W i1.1 i1.2
  have i2 : inF (unitK g.2.2 g.1 g.2.1).1.1 ∧ inF (unitK g.2.2 g.1 g.2.1).1.2 ∧ inF (unitK g.2.2 g.1 g.2.1).2.1 := overT_in (ifK_in (lenR_in i1.1 i1.2))
  generalize unitK g.2.2 g.1 g.2.1 = u at *
  have JS : Hid _ := js
  have EH : Hid (Err w c 0 0) := hE
  clear js hE i1
  unfold vec at C1 C2
  unfold Bd.val
  go_enter Try.func17, Try.ntmps17
  go_upto_if 32 with (first
    | (go_at_call 40; go_fit (C1.out _ (EH.out.grew (JS.out _ rfl).2)); rintro e V1 ⟨rfl, E1, U1⟩; have J1 : Hid _ := (JS.out _ rfl).1.past U1 hc (by omega) (by omega))
    | (go_at_call 51; go_fit (C2.out _ E1); rintro e V2 ⟨rfl, E2, U2⟩))
  obtain ⟨V3, hV3⟩ : ∃ V3, V3 = V2.alloc (.cells #[.int .i64 u.1.1, .int .i64 u.1.2] 24) := ⟨_, rfl⟩
  rw [← hV3]
  have J2 := J1.out.past U2 hc (by omega) (by omega)
  have g3 : Grew V2 V3 := by rw [hV3]; exact (Grew.refl V2).alloc _ _
  have T3 : At V3 V2.heap.size u.1.1 u.1.2 := by rw [hV3]; constructor <;> simp [go_sem]
  have J := J2.past g3.past hc (by omega) (by omega)
  have E := E2.grew g3
  have lx : w.heap.size < V2.heap.size := J2.a.size
  obtain ⟨X, hX⟩ : ∃ X, V2.heap.size = X := ⟨_, rfl⟩
  rw [hX] at T3 lx ⊢
  clear hV3 hX g3 U1 U2 JS EH C1 C2 E1 E2 J1 J2
  unfold heldK at hR
  by_cases hl : u.2.1 = 0
  · have hl1 : (u.2.1 == 0) = true := by simpa using hl
    rw [if_pos hl] at hR
    have HR : Hid (_ = _) := hR
    have JH : Hid _ := J
    have EH : Hid (Err V3 c 0 u.2.2) := E
    clear J E T3 hR hl i2 hA hB hn
    go_upto_region 3 with (fail)
    have J := JH.out
    have E : Err V3 c 0 u.2.2 := EH.out
    clear JH EH
    obtain ⟨A1, hA1⟩ : ∃ A1, A = A1 := ⟨_, rfl⟩
    obtain ⟨B1, hB1⟩ : ∃ B1, B = B1 := ⟨_, rfl⟩
    rw [hA1, hB1] at J HR
    have ⟨a0, a1, a2, a3, a4, a5, a6, a7⟩ := J.a
    have ⟨b0, b1, b2, b3, b4, b5, b6, b7⟩ := J.b
    have ⟨r0, r1, r2, r3, r4, r5, r6, r7⟩ := J.r
    have ⟨s0, s1, s2, s3, s4, s5, s6, s7⟩ := J.s
    have y0 := J.zr 0 none
    have y1 := J.zr 1 none
    have y2 := J.zr 2 none
    have y3 := J.zr 3 none
    have y4 := J.zr 4 none
    have y5 := J.zr 5 none
    have y6 := J.zr 6 none
    have y7 := J.zr 7 none
    have z0 := J.zs 0 none
    have z1 := J.zs 1 none
    have z2 := J.zs 2 none
    have z3 := J.zs 3 none
    have z4 := J.zs 4 none
    have z5 := J.zs 5 none
    have z6 := J.zs 6 none
    have z7 := J.zs 7 none
    have f0 := set_far (a := w.heap.size + 1 + 1) (c := w.heap.size) (by omega)
    have f1 := set_far (a := w.heap.size + 1 + 1) (c := w.heap.size + 1) (by omega)
    have f2 := set_far (a := w.heap.size + 1 + 1 + 1) (c := w.heap.size) (by omega)
    have f3 := set_far (a := w.heap.size + 1 + 1 + 1) (c := w.heap.size + 1) (by omega)
    have f4 := set_far (a := w.heap.size + 1 + 1) (c := w.heap.size + 1 + 1 + 1) (by omega)
    have f5 := set_far (a := w.heap.size + 1 + 1 + 1) (c := w.heap.size + 1 + 1) (by omega)
    have JH : Hid _ := J
    have EH : Hid _ := E
    clear J E
    go_wp2_with (fail)
    go_region_held2 (fun w' => w'.cell? ⟨w.heap.size, 0, none⟩ = some (.int .i64 A1.s) ∧ w'.cell? ⟨w.heap.size, 1, none⟩ = some (.int .i64 A1.a) ∧ w'.cell? ⟨w.heap.size, 2, none⟩ = some (.int .i64 A1.b) ∧ w'.cell? ⟨w.heap.size, 3, none⟩ = some (.int .i64 A1.m) ∧ w'.cell? ⟨w.heap.size, 4, none⟩ = some (.int .i64 A1.p) ∧ w'.cell? ⟨w.heap.size, 5, none⟩ = some (.int .i64 A1.q) ∧ w'.cell? ⟨w.heap.size, 6, none⟩ = some (.int .i64 A1.u) ∧ w'.cell? ⟨w.heap.size, 7, none⟩ = some (.int .i64 A1.v) ∧ w'.cell? ⟨w.heap.size + 1, 0, none⟩ = some (.int .i64 B1.s) ∧ w'.cell? ⟨w.heap.size + 1, 1, none⟩ = some (.int .i64 B1.a) ∧ w'.cell? ⟨w.heap.size + 1, 2, none⟩ = some (.int .i64 B1.b) ∧ w'.cell? ⟨w.heap.size + 1, 3, none⟩ = some (.int .i64 B1.m) ∧ w'.cell? ⟨w.heap.size + 1, 4, none⟩ = some (.int .i64 B1.p) ∧ w'.cell? ⟨w.heap.size + 1, 5, none⟩ = some (.int .i64 B1.q) ∧ w'.cell? ⟨w.heap.size + 1, 6, none⟩ = some (.int .i64 B1.u) ∧ w'.cell? ⟨w.heap.size + 1, 7, none⟩ = some (.int .i64 B1.v)) (go_keep) (fail)
    rename_i hH; clear hH
    go_wp2
    simp [bodyPost, results, Try.results17, go_sem, r0, r1, r2, r3, r4, r5, r6, r7, s0, s1, s2, s3, s4, s5, s6, s7, f4, f5]
    exact ⟨by rw [← HR.out]; rfl, by rw [← HR.out]; exact drew_err (lay_err (lay_err EH.out (by omega) A1) (by omega) B1), drew_past (lay_past (lay_past JH.out.p (by omega) A1) (by omega) B1)⟩

  have hl0 : (u.2.1 == 0) = false := by simpa using hl
  rw [if_neg hl] at hR
  clear hl
  have C3 : Hid (∀ W, Err W c 0 u.2.2 → _) := fun W => rlight_u c u.2.2 A hA W
  have i3 := lightK_in u.2.2 A
  generalize lightK u.2.2 A = l1 at *
  have C4 : Hid (∀ W, Err W c 0 l1.2 → _) := fun W => rlight_u c l1.2 B hB W
  have i4 := lightK_in l1.2 B
  generalize lightK l1.2 B = l2 at *
  have C5 : Hid (∀ W, Err W c 0 l2.2 → _) := fun W => radd_k c 0 l2.2 l1.1 l2.1 W i3 i4
  have i5 : inF (ifK l2.2 (addR l1.1 l2.1)).1 := ifK_in (addR_in _ _)
  unfold addT at hR
  generalize ifK l2.2 (addR l1.1 l2.1) = k at *
  unfold Bd.val at C3 C4
  have ⟨a0, a1, a2, a3, a4, a5, a6, a7⟩ := J.a
  have JH : Hid _ := J
  have TH : Hid (At V3 X u.1.1 u.1.2) := T3
  have EH : Hid (Err V3 c 0 u.2.2) := E
  have HR0 : Hid (_ = _) := hR
  clear J T3 E hR
  go_upto_if 45 with (first
    | (go_at_call 42; go_fit (C3.out _ EH.out); rintro e V4 ⟨rfl, E4, U4⟩; clear a0 a1 a2 a3 a4 a5 a6 a7; have J4 : Hid _ := JH.out.past U4 hc (by omega) (by omega); have ⟨b0, b1, b2, b3, b4, b5, b6, b7⟩ := J4.out.b)
    | (go_at_call 42; go_fit (C4.out _ E4); rintro e V5 ⟨rfl, E5, U5⟩; clear b0 b1 b2 b3 b4 b5 b6 b7)
    | (go_at_call 43; go_fit (C5.out _ E5); rintro e V6 ⟨rfl, E6, U6⟩))
  have J := (J4.out.past U5 hc (by omega) (by omega)).past U6 hc (by omega) (by omega)
  have T := ((At.pst TH.out U4 (by omega)).pst U5 (by omega)).pst U6 (by omega)
  have E := E6
  have hr := HR0.out
  clear JH TH EH HR0 U4 U5 U6 E4 E5 E6 J4 C3 C4 C5 i3 i4
  by_cases hz : k.1 = 0
  · have hz1 : (k.1 == 0) = true := by simpa using hz
    rw [if_pos hz] at hr
    have HR : Hid (_ = _) := hr
    have JH : Hid _ := J
    have EH : Hid (Err V6 c 0 k.2) := E
    clear J E T hr hz i2 hA hB hn i5
    go_upto_region 7 with (fail)
    have J := JH.out
    have E : Err V6 c 0 k.2 := EH.out
    clear JH EH
    obtain ⟨A1, hA1⟩ : ∃ A1, A = A1 := ⟨_, rfl⟩
    obtain ⟨B1, hB1⟩ : ∃ B1, B = B1 := ⟨_, rfl⟩
    rw [hA1, hB1] at J HR
    have ⟨a0, a1, a2, a3, a4, a5, a6, a7⟩ := J.a
    have ⟨b0, b1, b2, b3, b4, b5, b6, b7⟩ := J.b
    have ⟨r0, r1, r2, r3, r4, r5, r6, r7⟩ := J.r
    have ⟨s0, s1, s2, s3, s4, s5, s6, s7⟩ := J.s
    have y0 := J.zr 0 none
    have y1 := J.zr 1 none
    have y2 := J.zr 2 none
    have y3 := J.zr 3 none
    have y4 := J.zr 4 none
    have y5 := J.zr 5 none
    have y6 := J.zr 6 none
    have y7 := J.zr 7 none
    have z0 := J.zs 0 none
    have z1 := J.zs 1 none
    have z2 := J.zs 2 none
    have z3 := J.zs 3 none
    have z4 := J.zs 4 none
    have z5 := J.zs 5 none
    have z6 := J.zs 6 none
    have z7 := J.zs 7 none
    have f0 := set_far (a := w.heap.size + 1 + 1) (c := w.heap.size) (by omega)
    have f1 := set_far (a := w.heap.size + 1 + 1) (c := w.heap.size + 1) (by omega)
    have f2 := set_far (a := w.heap.size + 1 + 1 + 1) (c := w.heap.size) (by omega)
    have f3 := set_far (a := w.heap.size + 1 + 1 + 1) (c := w.heap.size + 1) (by omega)
    have f4 := set_far (a := w.heap.size + 1 + 1) (c := w.heap.size + 1 + 1 + 1) (by omega)
    have f5 := set_far (a := w.heap.size + 1 + 1 + 1) (c := w.heap.size + 1 + 1) (by omega)
    have JH : Hid _ := J
    have EH : Hid _ := E
    clear J E
    go_wp2_with (fail)
    go_region_held2 (fun w' => w'.cell? ⟨w.heap.size, 0, none⟩ = some (.int .i64 A1.s) ∧ w'.cell? ⟨w.heap.size, 1, none⟩ = some (.int .i64 A1.a) ∧ w'.cell? ⟨w.heap.size, 2, none⟩ = some (.int .i64 A1.b) ∧ w'.cell? ⟨w.heap.size, 3, none⟩ = some (.int .i64 A1.m) ∧ w'.cell? ⟨w.heap.size, 4, none⟩ = some (.int .i64 A1.p) ∧ w'.cell? ⟨w.heap.size, 5, none⟩ = some (.int .i64 A1.q) ∧ w'.cell? ⟨w.heap.size, 6, none⟩ = some (.int .i64 A1.u) ∧ w'.cell? ⟨w.heap.size, 7, none⟩ = some (.int .i64 A1.v) ∧ w'.cell? ⟨w.heap.size + 1, 0, none⟩ = some (.int .i64 B1.s) ∧ w'.cell? ⟨w.heap.size + 1, 1, none⟩ = some (.int .i64 B1.a) ∧ w'.cell? ⟨w.heap.size + 1, 2, none⟩ = some (.int .i64 B1.b) ∧ w'.cell? ⟨w.heap.size + 1, 3, none⟩ = some (.int .i64 B1.m) ∧ w'.cell? ⟨w.heap.size + 1, 4, none⟩ = some (.int .i64 B1.p) ∧ w'.cell? ⟨w.heap.size + 1, 5, none⟩ = some (.int .i64 B1.q) ∧ w'.cell? ⟨w.heap.size + 1, 6, none⟩ = some (.int .i64 B1.u) ∧ w'.cell? ⟨w.heap.size + 1, 7, none⟩ = some (.int .i64 B1.v)) (go_keep) (fail)
    rename_i hH; clear hH
    go_wp2
    simp [bodyPost, results, Try.results17, go_sem, r0, r1, r2, r3, r4, r5, r6, r7, s0, s1, s2, s3, s4, s5, s6, s7, f4, f5]
    exact ⟨by rw [← HR.out]; rfl, by rw [← HR.out]; exact drew_err (lay_err (lay_err EH.out (by omega) A1) (by omega) B1), drew_past (lay_past (lay_past JH.out.p (by omega) A1) (by omega) B1)⟩

  have hz0 : (k.1 == 0) = false := by simpa using hz
  rw [if_neg hz] at hr
  clear hz
  unfold vK at hr
  have C4 : Hid (∀ W, Err W c 0 k.2 → _) := fun W => rspeed_u c k.2 B hB W
  have i4 := speedK_in k.2 B
  generalize speedK k.2 B = sb at *
  have C5 : Hid (∀ W, Err W c 0 sb.2.2 → _) := fun W => rspeed_u c sb.2.2 A hA W
  have i6 := speedK_in sb.2.2 A
  generalize speedK sb.2.2 A = sa at *
  unfold gapT at hr
  have C6 : Hid (∀ W, Err W c 0 sa.2.2 → _) := fun W => rless_u c sa.2.2 sb.1 sb.2.1 sa.1 sa.2.1 W i4.1 i4.2 i6.1 i6.2
  have i7 : inF _ ∧ inF _ := pairK_in (k := sa.2.2) (subR_in sb.1 sa.1) (subR_in sb.2.1 sa.2.1)
  generalize pairK sa.2.2 (subR sb.1 sa.1) (subR sb.2.1 sa.2.1) = d at *
  unfold dotT at hr
  have C7 : Hid (∀ W, Err W c 0 d.2.2 → _) := fun W => rdot_u c d.2.2 d.1 d.2.1 u.1.1 u.1.2 W i7.1 i7.2 i2.1 i2.2.1
  have i8 : inF (dotK d.2.2 d.1 d.2.1 u.1.1 u.1.2).1 := ifK_in (addR_in _ _)
  generalize dotK d.2.2 d.1 d.2.1 u.1.1 u.1.2 = v at *
  unfold holdK pullT mulT at hr
  have C8 : Hid (∀ W, Err W c 0 v.2 → _) := fun W => rsub_k c 0 v.2 u.2.1 n W i2.2.2 hn
  have i9 : inF (ifK v.2 (subR u.2.1 n)).1 := ifK_in (subR_in _ _)
  generalize ifK v.2 (subR u.2.1 n) = s at *
  have C9 : Hid (∀ W, Err W c 0 s.2 → _) := fun W => rmul_k c 0 s.2 s.1 34359738368 W i9 ⟨by decide, by decide⟩
  have i10 : inF (ifK s.2 (mulR s.1 34359738368)).1 := ifK_in (mulR_in _ _).1
  generalize ifK s.2 (mulR s.1 34359738368) = m at *
  unfold addT at hr
  have C10 : Hid (∀ W, Err W c 0 m.2 → _) := fun W => radd_k c 0 m.2 v.1 m.1 W i8 i10
  have i11 : inF (ifK m.2 (addR v.1 m.1)).1 := ifK_in (addR_in _ _)
  generalize ifK m.2 (addR v.1 m.1) = t at *
  unfold subT at hr
  have C11 : Hid (∀ W, Err W c 0 t.2 → _) := fun W => rsub_k c 0 t.2 0 t.1 W inF0 i11
  have i12 : inF (ifK t.2 (subR 0 t.1)).1 := ifK_in (subR_in _ _)
  generalize ifK t.2 (subR 0 t.1) = o at *
  unfold divT at hr
  have C12 : Hid (∀ W, Err W c 0 o.2 → _) := fun W => rdiv_k c 0 o.2 o.1 k.1 W i12 i5
  have i13 : inF (ifK o.2 (divR o.1 k.1)).1 := ifK_in (divR_in _ _).1
  generalize ifK o.2 (divR o.1 k.1) = j at *
  unfold scaleT at hr
  have C13 : Hid (∀ W, Err W c 0 j.2 → _) := fun W => rtimes_u c j.2 u.1.1 u.1.2 j.1 W i2.1 i2.2.1 i13
  have i14 : inF _ ∧ inF _ := pairK_in (k := j.2) (mulR_in u.1.1 j.1).1 (mulR_in u.1.2 j.1).1
  generalize pairK j.2 (mulR u.1.1 j.1) (mulR u.1.2 j.1) = z at *
  unfold appT at hr
  have c14 := fun W hE => rapply_u c z.2.2 A B z.1 z.2.1 hA hB i14.1 i14.2 W hE
  generalize applyK z.2.2 A B z.1 z.2.1 = Q at *
  subst hr
  unfold vec at C6 C7 C13
  unfold Bd.val at C4 C5
  have hret : ∀ t : (Bd × Bd) × Int, retP t = .returned (.tuple #[t.1.1.val, t.1.2.val]) := fun _ => rfl
  have c14' : ∀ W, Err W c 0 z.2.2 → _ := fun W hE => (c14 W hE)
  have HRT : Hid (∀ t : (Bd × Bd) × Int, retP t = .returned (.tuple #[t.1.1.val, t.1.2.val])) := hret
  simp only [hret, Bd.val] at c14'
  have C14 : Hid (∀ W, Err W c 0 z.2.2 → _) := c14'
  have ⟨b0, b1, b2, b3, b4, b5, b6, b7⟩ := J.b
  have JH : Hid _ := J
  have TH : Hid (At V6 X u.1.1 u.1.2) := T
  have lX : X < V6.heap.size := T.size
  clear c14 c14' hret i2 i4 i5 i6 i7 i8 i9 i10 i11 i12 i13 i14 hA hB hn J T
  go_upto_region 10 with (first
    | (go_at_call 44; go_fit (C4.out _ E); rintro e V7 ⟨rfl, E7, U7⟩; clear b0 b1 b2 b3 b4 b5 b6 b7; have J7 : Hid _ := JH.out.past U7 hc (by omega) (by omega); have ⟨a0, a1, a2, a3, a4, a5, a6, a7⟩ := J7.out.a; have l7 : w.heap.size < V7.heap.size := J7.out.a.size)
    | (go_at_call 44; go_fit (C5.out _ (E7.grew ((Grew.refl V7).alloc #[.int .i64 sb.1, .int .i64 sb.2.1] 24))); rintro e V8 ⟨rfl, E8, U8⟩; clear a0 a1 a2 a3 a4 a5 a6 a7))
  have g7 : Grew V7 (V7.alloc (.cells #[.int .i64 sb.1, .int .i64 sb.2.1] 24)) := (Grew.refl V7).alloc _ _
  have S7 : At (V7.alloc (.cells #[.int .i64 sb.1, .int .i64 sb.2.1] 24)) V7.heap.size sb.1 sb.2.1 := by constructor <;> simp [go_sem]
  have T7 := At.pst TH.out U7 (by omega)
  have J8 := (J7.out.past g7.past hc (by omega) (by omega)).past U8 hc (by omega) (by omega)
  have T8 := (T7.pst (c := c) g7.past (by omega)).pst U8 (by omega)
  have S8 : At V8 V7.heap.size sb.1 sb.2.1 := S7.pst U8 (by omega)
  obtain ⟨V9, hV9⟩ : ∃ V9, V9 = V8.alloc (.cells #[.int .i64 sa.1, .int .i64 sa.2.1] 24) := ⟨_, rfl⟩
  rw [← hV9]
  have g8 : Grew V8 V9 := by rw [hV9]; exact (Grew.refl V8).alloc _ _
  have Z9 : At V9 V8.heap.size sa.1 sa.2.1 := by rw [hV9]; constructor <;> simp [go_sem]
  have l8 : V7.heap.size < V8.heap.size := S8.size
  have J9 := J8.past g8.past hc (by omega) (by omega)
  have T9 := T8.pst (c := c) g8.past (by omega)
  have S9 := S8.pst (c := c) g8.past (by omega)
  have E9 := E8.grew g8
  obtain ⟨X1, hX1⟩ : ∃ X, V7.heap.size = X := ⟨_, rfl⟩
  obtain ⟨X2, hX2⟩ : ∃ X, V8.heap.size = X := ⟨_, rfl⟩
  rw [hX1] at S9 l8 l7 ⊢
  rw [hX2] at Z9 l8 ⊢
  clear hV9 hX1 hX2 g7 g8 S7 T7 T8 S8 J8 E8 U8 U7 E7 E J7 JH TH C4 C5 lX
  refine late_region (S := (fun w' => At w' X1 sb.1 sb.2.1 ∧ At w' X2 sa.1 sa.2.1 ∧ At w' X u.1.1 u.1.2)) [] (by kernel_rfl) ?_ (fun hH0 => ?_)
  · exact ⟨S9.grew (Grew.refl V9).drew, Z9.grew (Grew.refl V9).drew, T9.grew (Grew.refl V9).drew⟩
  refine late_take (i := 0) (oi := { dst := some 54, op := Go.Op.move (Go.Operand.tmp 0), type := 52, pos := "world.go:501", after := #[], guard := none }) (v := ?ve1) rfl (by kernel_rfl) (by kernel_rfl) (by kernel_rfl) (by kernel_rfl) (by kernel_rfl) (fun _ _ _ h => h) (Or.inl ⟨by rfl, ?hye1⟩) hH0 ?reste1
  case hye1 => (intro w hSw; obtain ⟨⟨p0, p1⟩, ⟨q0, q1⟩, ⟨h0, h1⟩⟩ := hSw; go_simp; try (with_reducible rfl))
  simp only [Act.put, List.setIfInBounds_toArray, List.set_cons_zero, List.set_cons_succ]
  refine late_take (i := 1) (oi := { dst := some 55, op := Go.Op.move (Go.Operand.tmp 0), type := 52, pos := "world.go:501", after := #[], guard := none }) (v := ?ve2) rfl (by kernel_rfl) (by kernel_rfl) (by kernel_rfl) (by kernel_rfl) (by kernel_rfl) (fun _ _ _ h => h) (Or.inl ⟨by rfl, ?hye2⟩) hH0 ?reste2
  case hye2 => (intro w hSw; obtain ⟨⟨p0, p1⟩, ⟨q0, q1⟩, ⟨h0, h1⟩⟩ := hSw; go_simp; try (with_reducible rfl))
  simp only [Act.put, List.setIfInBounds_toArray, List.set_cons_zero, List.set_cons_succ]
  refine late_take (i := 2) (oi := { dst := some 56, op := Go.Op.load 24 (Go.Operand.tmp 14), type := 24, pos := "world.go:501", after := #[], guard := none }) (v := ?ve3) rfl (by kernel_rfl) (by kernel_rfl) (by kernel_rfl) (by kernel_rfl) (by kernel_rfl) (fun _ _ _ h => h) (Or.inl ⟨by rfl, ?hye3⟩) hH0 ?reste3
  case hye3 => (intro w hSw; obtain ⟨⟨p0, p1⟩, ⟨q0, q1⟩, ⟨h0, h1⟩⟩ := hSw; go_simp; try (with_reducible rfl))
  simp only [Act.put, List.setIfInBounds_toArray, List.set_cons_zero, List.set_cons_succ]
  refine late_take (i := 3) (oi := { dst := some 57, op := Go.Op.load 24 (Go.Operand.tmp 15), type := 24, pos := "world.go:501", after := #[], guard := none }) (v := ?ve4) rfl (by kernel_rfl) (by kernel_rfl) (by kernel_rfl) (by kernel_rfl) (by kernel_rfl) (fun _ _ _ h => h) (Or.inl ⟨by rfl, ?hye4⟩) hH0 ?reste4
  case hye4 => (intro w hSw; obtain ⟨⟨p0, p1⟩, ⟨q0, q1⟩, ⟨h0, h1⟩⟩ := hSw; go_simp; try (with_reducible rfl))
  simp only [Act.put, List.setIfInBounds_toArray, List.set_cons_zero, List.set_cons_succ]
  refine late_take (i := 5) (oi := { dst := some 59, op := Go.Op.load 24 (Go.Operand.tmp 10), type := 24, pos := "world.go:501", after := #[], guard := none }) (v := ?ve5) rfl (by kernel_rfl) (by kernel_rfl) (by kernel_rfl) (by kernel_rfl) (by kernel_rfl) (fun _ _ _ h => h) (Or.inl ⟨by rfl, ?hye5⟩) hH0 ?reste5
  case hye5 => (intro w hSw; obtain ⟨⟨p0, p1⟩, ⟨q0, q1⟩, ⟨h0, h1⟩⟩ := hSw; go_simp; try (with_reducible rfl))
  simp only [Act.put, List.setIfInBounds_toArray, List.set_cons_zero, List.set_cons_succ]
  refine late_one (i := 4) (by kernel_rfl) ?_
  refine late_run (o := { dst := some 58, op := Go.Op.call { callee := Go.Callee.value (Go.Operand.func 40), args := #[Go.Operand.tmp 55, Go.Operand.tmp 56, Go.Operand.tmp 57], argTypes := #[52, 24, 24] }, type := 24, pos := "world.go:501", after := #[{ on := 1, ground := Go.Ground.data }, { on := 2, ground := Go.Ground.data }, { on := 3, ground := Go.Ground.data }], guard := none }) rfl (fun K hK => ?_)
  go_simp
  go_wp2_with (first
    | (go_at_call 40; go_fit (C6.out _ (drew_err E9)); rintro e V10 ⟨rfl, E10, U10⟩)
    | fail)
  refine hK.out _ _ (⟨hH0.1.pst U10 (by omega), hH0.2.1.pst U10 (by omega), hH0.2.2.pst U10 (by omega)⟩) (fun hHe6 => ?_)
  clear hK K
  refine late_one (i := 6) (by kernel_rfl) ?_
  refine late_run (o := { dst := some 60, op := Go.Op.call { callee := Go.Callee.value (Go.Operand.func 45), args := #[Go.Operand.tmp 54, Go.Operand.tmp 58, Go.Operand.tmp 59], argTypes := #[52, 24, 24] }, type := 22, pos := "world.go:501", after := #[{ on := 0, ground := Go.Ground.data }, { on := 4, ground := Go.Ground.data }, { on := 5, ground := Go.Ground.data }, { on := 4, ground := Go.Ground.chain }], guard := none }) rfl (fun K hK => ?_)
  go_simp
  go_wp2_with (first
    | (go_at_call 45; go_fit (C7.out _ E10); rintro e V11 ⟨rfl, E11, U11⟩)
    | fail)
  refine hK.out _ _ (⟨hHe6.1.pst U11 (by omega), hHe6.2.1.pst U11 (by omega), hHe6.2.2.pst U11 (by omega)⟩) (fun hHe7 => ?_)
  clear hK K
  refine late_take (i := 7) (oi := { dst := some 16, op := Go.Op.assign (Go.Operand.tmp 60), type := 22, pos := "world.go:501", after := #[{ on := 6, ground := Go.Ground.data }, { on := 6, ground := Go.Ground.chain }, { on := 0, ground := Go.Ground.phase }, { on := 1, ground := Go.Ground.phase }, { on := 2, ground := Go.Ground.phase }, { on := 3, ground := Go.Ground.phase }, { on := 4, ground := Go.Ground.phase }, { on := 5, ground := Go.Ground.phase }, { on := 6, ground := Go.Ground.phase }], guard := none }) (v := ?ve8) rfl (by kernel_rfl) (by kernel_rfl) (by kernel_rfl) (by kernel_rfl) (by kernel_rfl) (fun _ _ _ h => h) (Or.inl ⟨by rfl, ?hye8⟩) hHe7 ?reste8
  case hye8 => (intro w hSw; obtain ⟨⟨p0, p1⟩, ⟨q0, q1⟩, ⟨h0, h1⟩⟩ := hSw; go_simp; try (with_reducible rfl))
  simp only [Act.put, List.setIfInBounds_toArray, List.set_cons_zero, List.set_cons_succ]
  refine late_done (by kernel_rfl) ?_ _
  have UA : Past c V9 V11 := ((Grew.refl V9).drew.past.trans U10).trans U11
  have J11 : Hid _ := J9.past UA hc (by omega) (by omega)
  have T11 : Hid (At V11 X u.1.1 u.1.2) := T9.pst UA (by omega)
  clear J9 T9 S9 Z9 E9 E10 U10 U11 UA C6 C7
  go_upto_region 14 with (first
    | (go_at_call 48; go_fit (C8.out _ E11); rintro e V12 ⟨rfl, E12, U12⟩)
    | (go_at_call 50; go_fit (C9.out _ E12); rintro e V13 ⟨rfl, E13, U13⟩)
    | (go_at_call 43; go_fit (C10.out _ E13); rintro e V14 ⟨rfl, E14, U14⟩)
    | (go_at_call 48; go_fit (C11.out _ E14); rintro e V15 ⟨rfl, E15, U15⟩)
    | (go_at_call 47; go_fit (C12.out _ E15); rintro e V16 ⟨rfl, E16, U16⟩))
  have UB := (((U12.trans U13).trans U14).trans U15).trans U16
  have J := J11.out.past UB hc (by omega) (by omega)
  have T := At.pst T11.out UB (by omega)
  have E := E16
  clear J11 T11 E11 E12 E13 E14 E15 E16 U12 U13 U14 U15 U16 UB C8 C9 C10 C11 C12
  refine late_region (S := (fun w' => BAt w' w.heap.size A ∧ BAt w' (w.heap.size + 1) B ∧ At w' X u.1.1 u.1.2)) [10, 11] (by kernel_rfl) ?_ (fun hH0 => ?_)
  · exact ⟨J.a.grew (Grew.refl V16).drew, J.b.grew (Grew.refl V16).drew, T.grew (Grew.refl V16).drew⟩
  refine late_take (i := 0) (oi := { dst := some 77, op := Go.Op.move (Go.Operand.tmp 0), type := 52, pos := "world.go:505", after := #[], guard := none }) (v := ?vf1) rfl (by kernel_rfl) (by kernel_rfl) (by kernel_rfl) (by kernel_rfl) (by kernel_rfl) (fun _ _ _ h => h) (Or.inl ⟨by rfl, ?hyf1⟩) hH0 ?restf1
  case hyf1 => (intro w hSw; obtain ⟨⟨a0, a1, a2, a3, a4, a5, a6, a7⟩, ⟨b0, b1, b2, b3, b4, b5, b6, b7⟩, ⟨h0, h1⟩⟩ := hSw; go_simp; try (with_reducible rfl))
  simp only [Act.put, List.setIfInBounds_toArray, List.set_cons_zero, List.set_cons_succ]
  refine late_take (i := 1) (oi := { dst := some 78, op := Go.Op.load 26 (Go.Operand.tmp 5), type := 26, pos := "world.go:505", after := #[], guard := none }) (v := ?vf2) rfl (by kernel_rfl) (by kernel_rfl) (by kernel_rfl) (by kernel_rfl) (by kernel_rfl) (fun _ _ _ h => h) (Or.inl ⟨by rfl, ?hyf2⟩) hH0 ?restf2
  case hyf2 => (intro w hSw; obtain ⟨⟨a0, a1, a2, a3, a4, a5, a6, a7⟩, ⟨b0, b1, b2, b3, b4, b5, b6, b7⟩, ⟨h0, h1⟩⟩ := hSw; go_simp; try (with_reducible rfl))
  simp only [Act.put, List.setIfInBounds_toArray, List.set_cons_zero, List.set_cons_succ]
  refine late_take (i := 2) (oi := { dst := some 79, op := Go.Op.load 26 (Go.Operand.tmp 6), type := 26, pos := "world.go:505", after := #[], guard := none }) (v := ?vf3) rfl (by kernel_rfl) (by kernel_rfl) (by kernel_rfl) (by kernel_rfl) (by kernel_rfl) (fun _ _ _ h => h) (Or.inl ⟨by rfl, ?hyf3⟩) hH0 ?restf3
  case hyf3 => (intro w hSw; obtain ⟨⟨a0, a1, a2, a3, a4, a5, a6, a7⟩, ⟨b0, b1, b2, b3, b4, b5, b6, b7⟩, ⟨h0, h1⟩⟩ := hSw; go_simp; try (with_reducible rfl))
  simp only [Act.put, List.setIfInBounds_toArray, List.set_cons_zero, List.set_cons_succ]
  refine late_take (i := 3) (oi := { dst := some 80, op := Go.Op.move (Go.Operand.tmp 0), type := 52, pos := "world.go:505", after := #[], guard := none }) (v := ?vf4) rfl (by kernel_rfl) (by kernel_rfl) (by kernel_rfl) (by kernel_rfl) (by kernel_rfl) (fun _ _ _ h => h) (Or.inl ⟨by rfl, ?hyf4⟩) hH0 ?restf4
  case hyf4 => (intro w hSw; obtain ⟨⟨a0, a1, a2, a3, a4, a5, a6, a7⟩, ⟨b0, b1, b2, b3, b4, b5, b6, b7⟩, ⟨h0, h1⟩⟩ := hSw; go_simp; try (with_reducible rfl))
  simp only [Act.put, List.setIfInBounds_toArray, List.set_cons_zero, List.set_cons_succ]
  refine late_take (i := 4) (oi := { dst := some 81, op := Go.Op.load 24 (Go.Operand.tmp 10), type := 24, pos := "world.go:505", after := #[], guard := none }) (v := ?vf5) rfl (by kernel_rfl) (by kernel_rfl) (by kernel_rfl) (by kernel_rfl) (by kernel_rfl) (fun _ _ _ h => h) (Or.inl ⟨by rfl, ?hyf5⟩) hH0 ?restf5
  case hyf5 => (intro w hSw; obtain ⟨⟨a0, a1, a2, a3, a4, a5, a6, a7⟩, ⟨b0, b1, b2, b3, b4, b5, b6, b7⟩, ⟨h0, h1⟩⟩ := hSw; go_simp; try (with_reducible rfl))
  simp only [Act.put, List.setIfInBounds_toArray, List.set_cons_zero, List.set_cons_succ]
  refine late_take (i := 5) (oi := { dst := some 82, op := Go.Op.move (Go.Operand.tmp 19), type := 22, pos := "world.go:505", after := #[], guard := none }) (v := ?vf6) rfl (by kernel_rfl) (by kernel_rfl) (by kernel_rfl) (by kernel_rfl) (by kernel_rfl) (fun _ _ _ h => h) (Or.inl ⟨by rfl, ?hyf6⟩) hH0 ?restf6
  case hyf6 => (intro w hSw; obtain ⟨⟨a0, a1, a2, a3, a4, a5, a6, a7⟩, ⟨b0, b1, b2, b3, b4, b5, b6, b7⟩, ⟨h0, h1⟩⟩ := hSw; go_simp; try (with_reducible rfl))
  simp only [Act.put, List.setIfInBounds_toArray, List.set_cons_zero, List.set_cons_succ]
  refine late_one (i := 6) (by kernel_rfl) ?_
  refine late_run (o := { dst := some 83, op := Go.Op.call { callee := Go.Callee.value (Go.Operand.func 49), args := #[Go.Operand.tmp 80, Go.Operand.tmp 81, Go.Operand.tmp 82], argTypes := #[52, 24, 22] }, type := 24, pos := "world.go:505", after := #[{ on := 3, ground := Go.Ground.data }, { on := 4, ground := Go.Ground.data }, { on := 5, ground := Go.Ground.data }], guard := none }) rfl (fun K hK => ?_)
  go_simp
  go_wp2_with (first
    | (go_at_call 49; go_fit (C13.out _ (drew_err E)); rintro e V17 ⟨rfl, E17, U17⟩)
    | fail)
  refine hK.out _ _ (⟨hH0.1.past U17 (by omega), hH0.2.1.past U17 (by omega), hH0.2.2.pst U17 (by omega)⟩) (fun hHf7 => ?_)
  clear hK K
  refine late_one (i := 7) (by kernel_rfl) ?_
  refine late_run (o := { dst := some 84, op := Go.Op.call { callee := Go.Callee.value (Go.Operand.func 15), args := #[Go.Operand.tmp 77, Go.Operand.tmp 78, Go.Operand.tmp 79, Go.Operand.tmp 83], argTypes := #[52, 26, 26, 24] }, type := 34, pos := "world.go:505", after := #[{ on := 0, ground := Go.Ground.data }, { on := 1, ground := Go.Ground.data }, { on := 2, ground := Go.Ground.data }, { on := 6, ground := Go.Ground.data }, { on := 6, ground := Go.Ground.chain }], guard := none }) rfl (fun K hK => ?_)
  go_simp
  go_wp2_with (first
    | (go_at_call 15; go_fit (C14.out _ E17); rintro e V18 ⟨rfl, E18, U18⟩)
    | fail)
  refine hK.out _ _ (⟨hHf7.1.past U18 (by omega), hHf7.2.1.past U18 (by omega), hHf7.2.2.pst U18 (by omega)⟩) (fun hHf8 => ?_)
  clear hK K
  refine late_take (i := 8) (oi := { dst := some 85, op := Go.Op.extract (Go.Operand.tmp 84) 0, type := 26, pos := "world.go:505", after := #[{ on := 7, ground := Go.Ground.data }], guard := none }) (v := ?vf9) rfl (by kernel_rfl) (by kernel_rfl) (by kernel_rfl) (by kernel_rfl) (by kernel_rfl) (fun _ _ _ h => h) (Or.inl ⟨by rfl, ?hyf9⟩) hHf8 ?restf9
  case hyf9 => (intro w hSw; obtain ⟨⟨a0, a1, a2, a3, a4, a5, a6, a7⟩, ⟨b0, b1, b2, b3, b4, b5, b6, b7⟩, ⟨h0, h1⟩⟩ := hSw; go_simp; try (with_reducible rfl))
  simp only [Act.put, List.setIfInBounds_toArray, List.set_cons_zero, List.set_cons_succ]
  refine late_take (i := 9) (oi := { dst := some 86, op := Go.Op.extract (Go.Operand.tmp 84) 1, type := 26, pos := "world.go:505", after := #[{ on := 7, ground := Go.Ground.data }], guard := none }) (v := ?vf10) rfl (by kernel_rfl) (by kernel_rfl) (by kernel_rfl) (by kernel_rfl) (by kernel_rfl) (fun _ _ _ h => h) (Or.inl ⟨by rfl, ?hyf10⟩) hHf8 ?restf10
  case hyf10 => (intro w hSw; obtain ⟨⟨a0, a1, a2, a3, a4, a5, a6, a7⟩, ⟨b0, b1, b2, b3, b4, b5, b6, b7⟩, ⟨h0, h1⟩⟩ := hSw; go_simp; try (with_reducible rfl))
  simp only [Act.put, List.setIfInBounds_toArray, List.set_cons_zero, List.set_cons_succ]
  refine late_one (i := 10) (by kernel_rfl) ?_
  refine late_write (o := { dst := none, op := Go.Op.store 26 (Go.Operand.tmp 8) (Go.Operand.tmp 85), type := 0, pos := "world.go:505", after := #[{ on := 8, ground := Go.Ground.data }, { on := 7, ground := Go.Ground.chain }, { on := 0, ground := Go.Ground.phase }, { on := 1, ground := Go.Ground.phase }, { on := 2, ground := Go.Ground.phase }, { on := 3, ground := Go.Ground.phase }, { on := 4, ground := Go.Ground.phase }, { on := 5, ground := Go.Ground.phase }, { on := 6, ground := Go.Ground.phase }, { on := 7, ground := Go.Ground.phase }, { on := 8, ground := Go.Ground.phase }, { on := 9, ground := Go.Ground.phase }], guard := none }) rfl (by kernel_rfl) (fun K hK => ?_)
  have UC : Past c V16 V18 := ((Grew.refl V16).drew.past.trans U17).trans U18
  have J18 := J.past UC hc (by omega) (by omega)
  have ⟨r0, r1, r2, r3, r4, r5, r6, r7⟩ := J18.r
  have y0 := J18.zr 0 none
  have y1 := J18.zr 1 none
  have y2 := J18.zr 2 none
  have y3 := J18.zr 3 none
  have y4 := J18.zr 4 none
  have y5 := J18.zr 5 none
  have y6 := J18.zr 6 none
  have y7 := J18.zr 7 none
  go_simp
  refine hK.out _ _ ?_
  clear hK K
  refine late_one (i := 11) (by kernel_rfl) ?_
  refine late_write (o := { dst := none, op := Go.Op.store 26 (Go.Operand.tmp 9) (Go.Operand.tmp 86), type := 0, pos := "world.go:505", after := #[{ on := 9, ground := Go.Ground.data }, { on := 10, ground := Go.Ground.chain }, { on := 0, ground := Go.Ground.phase }, { on := 1, ground := Go.Ground.phase }, { on := 2, ground := Go.Ground.phase }, { on := 3, ground := Go.Ground.phase }, { on := 4, ground := Go.Ground.phase }, { on := 5, ground := Go.Ground.phase }, { on := 6, ground := Go.Ground.phase }, { on := 7, ground := Go.Ground.phase }, { on := 8, ground := Go.Ground.phase }, { on := 9, ground := Go.Ground.phase }, { on := 10, ground := Go.Ground.phase }], guard := none }) rfl (by kernel_rfl) (fun K hK => ?_)
  have ⟨s0, s1, s2, s3, s4, s5, s6, s7⟩ := J18.s
  have z0 := J18.zs 0 none
  have z1 := J18.zs 1 none
  have z2 := J18.zs 2 none
  have z3 := J18.zs 3 none
  have z4 := J18.zs 4 none
  have z5 := J18.zs 5 none
  have z6 := J18.zs 6 none
  have z7 := J18.zs 7 none
  have f4 := set_far (a := w.heap.size + 1 + 1) (c := w.heap.size + 1 + 1 + 1) (by omega)
  have f5 := set_far (a := w.heap.size + 1 + 1 + 1) (c := w.heap.size + 1 + 1) (by omega)
  go_simp
  refine hK.out _ _ ?_
  clear hK K
  refine late_done (by kernel_rfl) ?_ _
  go_wp2
  simp [bodyPost, results, Try.results17, go_sem, r0, r1, r2, r3, r4, r5, r6, r7, s0, s1, s2, s3, s4, s5, s6, s7, f4, f5]
  exact ⟨by rw [HRT.out]; rfl, lay_err (lay_err E18 (by omega) _) (by omega) _, lay_past (lay_past J18.p (by omega) _) (by omega) _⟩
end Go.Proofs.Ytcancbgaejekiaa
