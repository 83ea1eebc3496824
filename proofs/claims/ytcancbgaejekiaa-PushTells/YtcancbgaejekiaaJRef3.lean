/-
  The document's own Contact (maquetteref1's Calc), with no error so far: what it answers, and the error behind it.
-/
import Derived.Test.YtcancbgaejekiaaJRef2
import Derived.Test.YtcancbgaejekiaaJContact
namespace Go.Proofs.Ytcancbgaejekiaa
open Go.RowKit

def addT (v : Int) (p : Int × Int) : Int × Int := ifK p.2 (addR v p.1)
def subT (p : Int × Int) : Int × Int := ifK p.2 (subR 0 p.1)
def divT (k : Int) (p : Int × Int) : Int × Int := ifK p.2 (divR p.1 k)
def partT (e v : Int) : Int × Int := ifK e (partR v 2)
def mulT (e m l : Int) : Int × Int := ifK e (mulR m l)
def scaleT (x y : Int) (t : Int × Int) : Int × Int × Int := pairK t.2 (mulR x t.1) (mulR y t.1)
def appT (A B : Bd) (s : Int × Int × Int) : (Bd × Bd) × Int := applyK s.2.2 A B s.1 s.2.1
def lessT (A : Bd) (s : Int × Int × Int) : Int × Int × Int := pairK s.2.2 (subR A.p s.1) (subR A.q s.2.1)
def plusT (A : Bd) (s : Int × Int × Int) : Int × Int × Int := pairK s.2.2 (addR A.p s.1) (addR A.q s.2.1)
def gapT (r s : Int × Int × Int) : Int × Int × Int := pairK s.2.2 (subR r.1 s.1) (subR r.2.1 s.2.1)
def dotT (d : Int × Int × Int) (x y : Int) : Int × Int := dotK d.2.2 d.1 d.2.1 x y
def vK (e : Int) (A B : Bd) (x y : Int) : Int × Int := dotT (gapT (speedK e B) (speedK (speedK e B).2.2 A)) x y
def metK (A B : Bd) (x y : Int) (v : Int × Int) (k : Int) : (Bd × Bd) × Int := if v.1 < 0 then appT A B (scaleT x y (divT k (subT (addT v.1 (partT v.2 v.1))))) else ((A, B), v.2)
def posK (M : (Bd × Bd) × Int) (p q : Int × Int × Int) : (Bd × Bd) × Int := ((M.1.1.pos p.1 p.2.1, M.1.2.pos q.1 q.2.1), q.2.2)
def backK (M : (Bd × Bd) × Int) (m : Int × Int) (l x y : Int) : Int × Int × Int := lessT M.1.1 (scaleT x y (mulT m.2 m.1 l))
def forthK (e : Int) (M : (Bd × Bd) × Int) (m l x y : Int) : Int × Int × Int := plusT M.1.2 (scaleT x y (mulT e m l))
def apartK (M : (Bd × Bd) × Int) (m : Int × Int) (l n x y : Int) : (Bd × Bd) × Int := posK M (backK M m l x y) (forthK (backK M m l x y).2.2 M m.1 n x y)
def contactK (A B : Bd) (h : Ht) : (Bd × Bd) × Int :=
  if (addT (lightK 0 A).1 (lightK (lightK 0 A).2 B)).1 = 0 then ((A, B), (addT (lightK 0 A).1 (lightK (lightK 0 A).2 B)).2) else
  apartK (metK A B h.x h.y (vK (addT (lightK 0 A).1 (lightK (lightK 0 A).2 B)).2 A B h.x h.y) (addT (lightK 0 A).1 (lightK (lightK 0 A).2 B)).1)
    (divT (addT (lightK 0 A).1 (lightK (lightK 0 A).2 B)).1 (partT (metK A B h.x h.y (vK (addT (lightK 0 A).1 (lightK (lightK 0 A).2 B)).2 A B h.x h.y) (addT (lightK 0 A).1 (lightK (lightK 0 A).2 B)).1).2 h.d))
    (lightK 0 A).1 (lightK (lightK 0 A).2 B).1 h.x h.y

theorem lightK_in (k : Int) (A : Bd) : inF (lightK k A).1 := by unfold lightK; split; exact inF0; exact ifK_in (divR_in _ _).1
theorem speedK_in (k : Int) (A : Bd) : inF (speedK k A).1 ∧ inF (speedK k A).2.1 := by unfold speedK; split; exact ⟨inF0, inF0⟩; exact pairK_in (divR_in _ _).1 (divR_in _ _).1
theorem partR_in {v : Int} (h : inF v) : inF (partR v 2).1 := by unfold partR; rw [if_neg (by decide), if_neg (by omega)]; exact tdiv2_in h
theorem lessK_in {k : Int} {A : Bd} (h : A.ok) (x y : Int) : (lessK k A x y).1.ok := by
  unfold lessK
  split
  · exact h
  · exact h.mom (pairK_in (subR_in _ _) (subR_in _ _)).1 (pairK_in (subR_in _ _) (subR_in _ _)).2
theorem plusK_in {k : Int} {A : Bd} (h : A.ok) (x y : Int) : (plusK k A x y).1.ok := by
  unfold plusK
  split
  · exact h
  · exact h.mom (pairK_in (addR_in _ _) (addR_in _ _)).1 (pairK_in (addR_in _ _) (addR_in _ _)).2
theorem HAt.past {V V' : World} {c b : Nat} {h : Ht} (k : HAt V b h) (U : Past c V V') (hc : b ≠ c) : HAt V' b h := k.heap (U.block _ k.size hc)
theorem inF2 : inF 2 := ⟨by decide, by decide⟩
theorem jq_start (c : Nat) (w : World) (A B : Bd) (h : Ht) (V : World) (hV : V = (((((w.alloc (.cells #[.int .i64 A.s, .int .i64 A.a, .int .i64 A.b, .int .i64 A.m, .int .i64 A.p, .int .i64 A.q, .int .i64 A.u, .int .i64 A.v] 26)).alloc (.cells #[.int .i64 B.s, .int .i64 B.a, .int .i64 B.b, .int .i64 B.m, .int .i64 B.p, .int .i64 B.q, .int .i64 B.u, .int .i64 B.v] 26)).alloc (.cells #[.int .i64 h.x, .int .i64 h.y, .int .i64 h.d] 28)).alloc (.cells #[.int .i64 0, .int .i64 0, .int .i64 0, .int .i64 0, .int .i64 0, .int .i64 0, .int .i64 0, .int .i64 0] 26)).alloc (.cells #[.int .i64 0, .int .i64 0, .int .i64 0, .int .i64 0, .int .i64 0, .int .i64 0, .int .i64 0, .int .i64 0] 26))) : Jp c w V (w.heap.size + 1 + 1 + 1) (w.heap.size + 1 + 1 + 1 + 1) A B ∧ HAt V (w.heap.size + 1 + 1) h ∧ Grew w V := by
  obtain ⟨J, T⟩ := jh_start w A B h V hV
  exact ⟨⟨J.g.past, J.a, J.b, J.r, J.s, J.g.freeB (by omega), J.g.freeB (by omega), J.g.freeB (by omega), J.g.freeB (by omega)⟩, T, J.g⟩

set_option maxHeartbeats 16000000 in
set_option maxRecDepth 100000 in
theorem rcontact_u (c : Nat) (A B : Bd) (h : Ht) (hA : A.ok) (hB : B.ok) (hh : h.ok) (w : World) (hE : Err w c 0 0) :
    Calls Try.prog 16 #[.pointer (some ⟨c, 0, none⟩), A.val, B.val, .agg #[.int .i64 h.x, .int .i64 h.y, .int .i64 h.d]] w fun e w' => e = retP (contactK A B h) ∧ Err w' c 0 (contactK A B h).2 ∧ Past c w w' := by
  have hc : c < w.heap.size := cell_block hE.1
  have js := jq_start c w A B h
  have nr : w.heap.size + 1 < w.heap.size + 1 + 1 + 1 := by omega
  have ns : w.heap.size + 1 < w.heap.size + 1 + 1 + 1 + 1 := by omega
  obtain ⟨R, hR⟩ : ∃ R, contactK A B h = R := ⟨_, rfl⟩
  rw [hR]
  unfold contactK at hR
  have C1 : Hid (∀ W, Err W c 0 0 → _) := fun W => rlight_u c 0 A hA W
  have i1 := lightK_in 0 A
  generalize lightK 0 A = l1 at *
  have C2 : Hid (∀ W, Err W c 0 l1.2 → _) := fun W => rlight_u c l1.2 B hB W
  have i2 := lightK_in l1.2 B
  generalize lightK l1.2 B = l2 at *
  have C3 : Hid (∀ W, Err W c 0 l2.2 → _) := fun W => radd_k c 0 l2.2 l1.1 l2.1 W i1 i2
  have i3 : inF (addT l1.1 l2).1 := ifK_in (addR_in _ _)
  unfold addT at hR i3
  generalize ifK l2.2 (addR l1.1 l2.1) = k at *
  have JS : Hid _ := js
  have EH : Hid (Err w c 0 0) := hE
  clear js hE
  by_cases hz : k.1 = 0
  · rw [if_pos hz] at hR
    have hz1 : (k.1 == 0) = true := by simpa using hz
    have HR : Hid (_ = _) := hR
    clear hR hA hB hh i1 i2 i3 hz
    unfold Bd.val at C1 C2 ⊢
    go_enter Try.func16, Try.ntmps16
    go_upto_region 5 with (first
      | (go_at_call 42; go_fit (C1.out _ (EH.out.grew (JS.out _ rfl).2.2)); rintro e V1 ⟨rfl, E1, U1⟩; have J1 : Hid _ := (JS.out _ rfl).1.past U1 hc (by omega) (by omega); have ⟨b0, b1, b2, b3, b4, b5, b6, b7⟩ := J1.out.b)
      | (go_at_call 42; go_fit (C2.out _ E1); rintro e V2 ⟨rfl, E2, U2⟩)
      | (go_at_call 43; go_fit (C3.out _ E2); rintro e V3 ⟨rfl, E3, U3⟩))
    have J := (J1.out.past U2 hc (by omega) (by omega)).past U3 hc (by omega) (by omega)
    have E := E3
    obtain ⟨A1, hA1⟩ : ∃ A1, A = A1 := ⟨_, rfl⟩
    obtain ⟨B1, hB1⟩ : ∃ B1, B = B1 := ⟨_, rfl⟩
    rw [hA1, hB1] at J HR
    clear JS U1 U2 U3 C1 C2 C3 E1 E2 E3 J1 EH b0 b1 b2 b3 b4 b5 b6 b7
    have ⟨a0, a1, a2, a3, a4, a5, a6, a7⟩ := J.a
    have ⟨b0, b1, b2, b3, b4, b5, b6, b7⟩ := J.b
    have ⟨r0, r1, r2, r3, r4, r5, r6, r7⟩ := J.r
    have ⟨s0, s1, s2, s3, s4, s5, s6, s7⟩ := J.s
    have y0 := J.zr 0 none
    have y1 := J.zr 1 none
    have y2 := J.zr 2 none
    have y3 := J.zr 3 none
    have y4 := J.zr 4 none
    have y5 := J.zr 5 none
    have y6 := J.zr 6 none
    have y7 := J.zr 7 none
    have z0 := J.zs 0 none
    have z1 := J.zs 1 none
    have z2 := J.zs 2 none
    have z3 := J.zs 3 none
    have z4 := J.zs 4 none
    have z5 := J.zs 5 none
    have z6 := J.zs 6 none
    have z7 := J.zs 7 none
    have f0 := set_far (a := w.heap.size + 1 + 1 + 1) (c := w.heap.size) (by omega)
    have f1 := set_far (a := w.heap.size + 1 + 1 + 1) (c := w.heap.size + 1) (by omega)
    have f2 := set_far (a := w.heap.size + 1 + 1 + 1 + 1) (c := w.heap.size) (by omega)
    have f3 := set_far (a := w.heap.size + 1 + 1 + 1 + 1) (c := w.heap.size + 1) (by omega)
    have f4 := set_far (a := w.heap.size + 1 + 1 + 1) (c := w.heap.size + 1 + 1 + 1 + 1) (by omega)
    have f5 := set_far (a := w.heap.size + 1 + 1 + 1 + 1) (c := w.heap.size + 1 + 1 + 1) (by omega)
    have JH : Hid _ := J
    have EH : Hid _ := E
    clear J E
    go_wp2_with (fail)
    go_region_held2 (fun w' => w'.cell? ⟨w.heap.size, 0, none⟩ = some (.int .i64 A1.s) ∧ w'.cell? ⟨w.heap.size, 1, none⟩ = some (.int .i64 A1.a) ∧ w'.cell? ⟨w.heap.size, 2, none⟩ = some (.int .i64 A1.b) ∧ w'.cell? ⟨w.heap.size, 3, none⟩ = some (.int .i64 A1.m) ∧ w'.cell? ⟨w.heap.size, 4, none⟩ = some (.int .i64 A1.p) ∧ w'.cell? ⟨w.heap.size, 5, none⟩ = some (.int .i64 A1.q) ∧ w'.cell? ⟨w.heap.size, 6, none⟩ = some (.int .i64 A1.u) ∧ w'.cell? ⟨w.heap.size, 7, none⟩ = some (.int .i64 A1.v) ∧ w'.cell? ⟨w.heap.size + 1, 0, none⟩ = some (.int .i64 B1.s) ∧ w'.cell? ⟨w.heap.size + 1, 1, none⟩ = some (.int .i64 B1.a) ∧ w'.cell? ⟨w.heap.size + 1, 2, none⟩ = some (.int .i64 B1.b) ∧ w'.cell? ⟨w.heap.size + 1, 3, none⟩ = some (.int .i64 B1.m) ∧ w'.cell? ⟨w.heap.size + 1, 4, none⟩ = some (.int .i64 B1.p) ∧ w'.cell? ⟨w.heap.size + 1, 5, none⟩ = some (.int .i64 B1.q) ∧ w'.cell? ⟨w.heap.size + 1, 6, none⟩ = some (.int .i64 B1.u) ∧ w'.cell? ⟨w.heap.size + 1, 7, none⟩ = some (.int .i64 B1.v)) (go_keep) (fail)
    rename_i hH; clear hH
    go_wp2
    simp [bodyPost, results, Try.results16, go_sem, r0, r1, r2, r3, r4, r5, r6, r7, s0, s1, s2, s3, s4, s5, s6, s7, f4, f5]
    exact ⟨by rw [← HR.out]; rfl, by rw [← HR.out]; exact drew_err (lay_err (lay_err EH.out (by omega) A1) (by omega) B1), drew_past (lay_past (lay_past JH.out.p (by omega) A1) (by omega) B1)⟩

  rw [if_neg hz] at hR
  have hz1 : (k.1 == 0) = false := by simpa using hz
  unfold vK at hR
  have C4 : Hid (∀ W, Err W c 0 k.2 → _) := fun W => rspeed_u c k.2 B hB W
  have i4 := speedK_in k.2 B
  generalize speedK k.2 B = sb at *
  have C5 : Hid (∀ W, Err W c 0 sb.2.2 → _) := fun W => rspeed_u c sb.2.2 A hA W
  have i5 := speedK_in sb.2.2 A
  generalize speedK sb.2.2 A = sa at *
  unfold gapT at hR
  have C6 : Hid (∀ W, Err W c 0 sa.2.2 → _) := fun W => rless_u c sa.2.2 sb.1 sb.2.1 sa.1 sa.2.1 W i4.1 i4.2 i5.1 i5.2
  have i6 : inF _ ∧ inF _ := pairK_in (k := sa.2.2) (subR_in sb.1 sa.1) (subR_in sb.2.1 sa.2.1)
  generalize pairK sa.2.2 (subR sb.1 sa.1) (subR sb.2.1 sa.2.1) = d at *
  unfold dotT at hR
  have C7 : Hid (∀ W, Err W c 0 d.2.2 → _) := fun W => rdot_u c d.2.2 d.1 d.2.1 h.x h.y W i6.1 i6.2 hh.x hh.y
  have i7 : inF (dotK d.2.2 d.1 d.2.1 h.x h.y).1 := ifK_in (addR_in _ _)
  generalize dotK d.2.2 d.1 d.2.1 h.x h.y = v at *
  have eM : ∃ M, metK A B h.x h.y v k.1 = M := ⟨_, rfl⟩
  obtain ⟨M, eM⟩ := eM
  rw [eM] at hR
  have oM : M.1.1.ok ∧ M.1.2.ok := by
    rw [← eM]
    unfold metK
    split
    · exact ⟨lessK_in hA _ _, plusK_in hB _ _⟩
    · exact ⟨hA, hB⟩
  have HR0 : Hid (_ = _) := hR
  have EM : Hid (_ = _) := eM
  clear hR eM hz i4 i5 i6
  unfold vec at C6 C7
  unfold Bd.val at C1 C2 C4 C5 ⊢
  go_enter Try.func16, Try.ntmps16
  go_upto_region 8 with (first
    | (go_at_call 42; go_fit (C1.out _ (EH.out.grew (JS.out _ rfl).2.2)); rintro e V1 ⟨rfl, E1, U1⟩; have J1 : Hid _ := (JS.out _ rfl).1.past U1 hc (by omega) (by omega); have H1 : Hid _ := HAt.past (JS.out _ rfl).2.1 U1 (by omega); have ⟨b0, b1, b2, b3, b4, b5, b6, b7⟩ := J1.out.b)
    | (go_at_call 42; go_fit (C2.out _ E1); rintro e V2 ⟨rfl, E2, U2⟩; clear b0 b1 b2 b3 b4 b5 b6 b7)
    | (go_at_call 43; go_fit (C3.out _ E2); rintro e V3 ⟨rfl, E3, U3⟩; have J3 : Hid _ := (J1.out.past U2 hc (by omega) (by omega)).past U3 hc (by omega) (by omega); have H3 : Hid _ := (HAt.past H1.out U2 (by omega)).past U3 (by omega); have ⟨b0, b1, b2, b3, b4, b5, b6, b7⟩ := J3.out.b)
    | (go_at_call 44; go_fit (C4.out _ E3); rintro e V4 ⟨rfl, E4, U4⟩; clear b0 b1 b2 b3 b4 b5 b6 b7; have J4 : Hid _ := J3.out.past U4 hc (by omega) (by omega); have H4 : Hid _ := HAt.past H3.out U4 (by omega); have ⟨a0, a1, a2, a3, a4, a5, a6, a7⟩ := J4.out.a; have l4 : w.heap.size < V4.heap.size := J4.out.a.size)
    | (go_at_call 44; go_fit (C5.out _ (E4.grew ((Grew.refl V4).alloc #[.int .i64 sb.1, .int .i64 sb.2.1] 24))); rintro e V5 ⟨rfl, E5, U5⟩; clear a0 a1 a2 a3 a4 a5 a6 a7))
  have g4 : Grew V4 (V4.alloc (.cells #[.int .i64 sb.1, .int .i64 sb.2.1] 24)) := (Grew.refl V4).alloc _ _
  have T4 : At (V4.alloc (.cells #[.int .i64 sb.1, .int .i64 sb.2.1] 24)) V4.heap.size sb.1 sb.2.1 := by constructor <;> simp [go_sem]
  have l4c : c < V4.heap.size := by omega
  have J5 := (J4.out.past g4.past hc (by omega) (by omega)).past U5 hc (by omega) (by omega)
  have H5 := (HAt.past H4.out g4.past (c := c) (by omega)).past U5 (by omega)
  have T5 : At V5 V4.heap.size sb.1 sb.2.1 := T4.pst U5 (by omega)
  obtain ⟨V6, hV6⟩ : ∃ V6, V6 = V5.alloc (.cells #[.int .i64 sa.1, .int .i64 sa.2.1] 24) := ⟨_, rfl⟩
  rw [← hV6]
  have g5 : Grew V5 V6 := by rw [hV6]; exact (Grew.refl V5).alloc _ _
  have Z6 : At V6 V5.heap.size sa.1 sa.2.1 := by rw [hV6]; constructor <;> simp [go_sem]
  have l5 : V4.heap.size < V5.heap.size := T5.size
  have J6 := J5.past g5.past hc (by omega) (by omega)
  have H6 := H5.past (c := c) g5.past (by omega)
  have T6 := T5.pst (c := c) g5.past (by omega)
  have E6 := E5.grew g5
  obtain ⟨X1, hX1⟩ : ∃ X, V4.heap.size = X := ⟨_, rfl⟩
  obtain ⟨X2, hX2⟩ : ∃ X, V5.heap.size = X := ⟨_, rfl⟩
  rw [hX1] at T6 l5 l4c ⊢
  rw [hX2] at Z6 l5 ⊢
  clear hV6 hX1 hX2 g4 g5 T4 T5 J5 H5 E5 U5 U4 U3 U2 U1 E1 E2 E3 E4 J1 J3 J4 H1 H3 H4 JS EH C1 C2 C3 C4 C5 l4
  refine late_region (S := (fun w' => At w' X1 sb.1 sb.2.1 ∧ At w' X2 sa.1 sa.2.1 ∧ HAt w' (w.heap.size + 1 + 1) h)) [] (by kernel_rfl) ?_ (fun hH0 => ?_)
  · exact ⟨T6.grew (Grew.refl V6).drew, Z6.grew (Grew.refl V6).drew, H6.grew (Grew.refl V6).drew⟩
  refine late_take (i := 0) (oi := { dst := some 39, op := Go.Op.move (Go.Operand.tmp 0), type := 52, pos := "world.go:477", after := #[], guard := none }) (v := ?ve1) rfl (by kernel_rfl) (by kernel_rfl) (by kernel_rfl) (by kernel_rfl) (by kernel_rfl) (fun _ _ _ h => h) (Or.inl ⟨by rfl, ?hye1⟩) hH0 ?reste1
  case hye1 => (intro w hSw; obtain ⟨⟨p0, p1⟩, ⟨q0, q1⟩, ⟨h0, h1, h2⟩⟩ := hSw; go_simp; try (with_reducible rfl))
  simp only [Act.put, List.setIfInBounds_toArray, List.set_cons_zero, List.set_cons_succ]
  refine late_take (i := 1) (oi := { dst := some 40, op := Go.Op.move (Go.Operand.tmp 0), type := 52, pos := "world.go:477", after := #[], guard := none }) (v := ?ve2) rfl (by kernel_rfl) (by kernel_rfl) (by kernel_rfl) (by kernel_rfl) (by kernel_rfl) (fun _ _ _ h => h) (Or.inl ⟨by rfl, ?hye2⟩) hH0 ?reste2
  case hye2 => (intro w hSw; obtain ⟨⟨p0, p1⟩, ⟨q0, q1⟩, ⟨h0, h1, h2⟩⟩ := hSw; go_simp; try (with_reducible rfl))
  simp only [Act.put, List.setIfInBounds_toArray, List.set_cons_zero, List.set_cons_succ]
  refine late_take (i := 2) (oi := { dst := some 41, op := Go.Op.load 24 (Go.Operand.tmp 13), type := 24, pos := "world.go:477", after := #[], guard := none }) (v := ?ve3) rfl (by kernel_rfl) (by kernel_rfl) (by kernel_rfl) (by kernel_rfl) (by kernel_rfl) (fun _ _ _ h => h) (Or.inl ⟨by rfl, ?hye3⟩) hH0 ?reste3
  case hye3 => (intro w hSw; obtain ⟨⟨p0, p1⟩, ⟨q0, q1⟩, ⟨h0, h1, h2⟩⟩ := hSw; go_simp; try (with_reducible rfl))
  simp only [Act.put, List.setIfInBounds_toArray, List.set_cons_zero, List.set_cons_succ]
  refine late_take (i := 3) (oi := { dst := some 42, op := Go.Op.load 24 (Go.Operand.tmp 14), type := 24, pos := "world.go:477", after := #[], guard := none }) (v := ?ve4) rfl (by kernel_rfl) (by kernel_rfl) (by kernel_rfl) (by kernel_rfl) (by kernel_rfl) (fun _ _ _ h => h) (Or.inl ⟨by rfl, ?hye4⟩) hH0 ?reste4
  case hye4 => (intro w hSw; obtain ⟨⟨p0, p1⟩, ⟨q0, q1⟩, ⟨h0, h1, h2⟩⟩ := hSw; go_simp; try (with_reducible rfl))
  simp only [Act.put, List.setIfInBounds_toArray, List.set_cons_zero, List.set_cons_succ]
  refine late_take (i := 5) (oi := { dst := some 44, op := Go.Op.fieldAddr 28 (Go.Operand.tmp 7) 0, type := 0, pos := "world.go:477", after := #[], guard := none }) (v := ?ve5) rfl (by kernel_rfl) (by kernel_rfl) (by kernel_rfl) (by kernel_rfl) (by kernel_rfl) (fun _ _ _ h => h) (Or.inl ⟨by rfl, ?hye5⟩) hH0 ?reste5
  case hye5 => (intro w hSw; obtain ⟨⟨p0, p1⟩, ⟨q0, q1⟩, ⟨h0, h1, h2⟩⟩ := hSw; go_simp; try (with_reducible rfl))
  simp only [Act.put, List.setIfInBounds_toArray, List.set_cons_zero, List.set_cons_succ]
  refine late_take (i := 6) (oi := { dst := some 45, op := Go.Op.load 24 (Go.Operand.tmp 44), type := 24, pos := "world.go:477", after := #[{ on := 5, ground := Go.Ground.data }], guard := none }) (v := ?ve6) rfl (by kernel_rfl) (by kernel_rfl) (by kernel_rfl) (by kernel_rfl) (by kernel_rfl) (fun _ _ _ h => h) (Or.inl ⟨by rfl, ?hye6⟩) hH0 ?reste6
  case hye6 => (intro w hSw; obtain ⟨⟨p0, p1⟩, ⟨q0, q1⟩, ⟨h0, h1, h2⟩⟩ := hSw; go_simp; try (with_reducible rfl))
  simp only [Act.put, List.setIfInBounds_toArray, List.set_cons_zero, List.set_cons_succ]
  refine late_one (i := 4) (by kernel_rfl) ?_
  refine late_run (o := { dst := some 43, op := Go.Op.call { callee := Go.Callee.value (Go.Operand.func 40), args := #[Go.Operand.tmp 40, Go.Operand.tmp 41, Go.Operand.tmp 42], argTypes := #[52, 24, 24] }, type := 24, pos := "world.go:477", after := #[{ on := 1, ground := Go.Ground.data }, { on := 2, ground := Go.Ground.data }, { on := 3, ground := Go.Ground.data }], guard := none }) rfl (fun K hK => ?_)
  go_simp
  go_wp2_with (first
    | (go_at_call 40; go_fit (C6.out _ (drew_err E6)); rintro e V7 ⟨rfl, E7, U7⟩)
    | fail)
  refine hK.out _ _ (⟨hH0.1.pst U7 (by omega), hH0.2.1.pst U7 (by omega), hH0.2.2.past U7 (by omega)⟩) (fun hHe7 => ?_)
  clear hK K
  refine late_one (i := 7) (by kernel_rfl) ?_
  refine late_run (o := { dst := some 46, op := Go.Op.call { callee := Go.Callee.value (Go.Operand.func 45), args := #[Go.Operand.tmp 39, Go.Operand.tmp 43, Go.Operand.tmp 45], argTypes := #[52, 24, 24] }, type := 22, pos := "world.go:477", after := #[{ on := 0, ground := Go.Ground.data }, { on := 4, ground := Go.Ground.data }, { on := 6, ground := Go.Ground.data }, { on := 4, ground := Go.Ground.chain }], guard := none }) rfl (fun K hK => ?_)
  go_simp
  go_wp2_with (first
    | (go_at_call 45; go_fit (C7.out _ E7); rintro e V8 ⟨rfl, E8, U8⟩)
    | fail)
  refine hK.out _ _ (⟨hHe7.1.pst U8 (by omega), hHe7.2.1.pst U8 (by omega), hHe7.2.2.past U8 (by omega)⟩) (fun hHe8 => ?_)
  clear hK K
  refine late_take (i := 8) (oi := { dst := some 15, op := Go.Op.assign (Go.Operand.tmp 46), type := 22, pos := "world.go:477", after := #[{ on := 7, ground := Go.Ground.data }, { on := 7, ground := Go.Ground.chain }, { on := 0, ground := Go.Ground.phase }, { on := 1, ground := Go.Ground.phase }, { on := 2, ground := Go.Ground.phase }, { on := 3, ground := Go.Ground.phase }, { on := 4, ground := Go.Ground.phase }, { on := 5, ground := Go.Ground.phase }, { on := 6, ground := Go.Ground.phase }, { on := 7, ground := Go.Ground.phase }], guard := none }) (v := ?ve9) rfl (by kernel_rfl) (by kernel_rfl) (by kernel_rfl) (by kernel_rfl) (by kernel_rfl) (fun _ _ _ h => h) (Or.inl ⟨by rfl, ?hye9⟩) hHe8 ?reste9
  case hye9 => (intro w hSw; obtain ⟨⟨p0, p1⟩, ⟨q0, q1⟩, ⟨h0, h1, h2⟩⟩ := hSw; go_simp; try (with_reducible rfl))
  simp only [Act.put, List.setIfInBounds_toArray, List.set_cons_zero, List.set_cons_succ]
  refine late_done (by kernel_rfl) ?_ _
  have U68 : Past c V6 V8 := ((Grew.refl V6).drew.past.trans U7).trans U8
  have J := J6.past U68 hc (by omega) (by omega)
  have H := H6.past U68 (by omega)
  have E := E8
  clear J6 H6 T6 Z6 E6 E7 E8 U7 U8 C6 C7 U68
  have IV : Hid _ := i7
  clear i7
  go_upto_if 48 with (fail)
  go_cut [] from 16 to 107 (fun wx => Err wx c 0 M.2 ∧ Jp c w wx (w.heap.size + 1 + 1 + 1) (w.heap.size + 1 + 1 + 1 + 1) M.1.1 M.1.2 ∧ HAt wx (w.heap.size + 1 + 1) h)
  case first =>
    by_cases hl : v.1 < 0
    rotate_left
    · have JH : Hid _ := J
      have HH : Hid _ := H
      have HE : Hid _ := E
      clear J H E
      go_wp2
      go_meet
      case rel =>
        have e : ((A, B), v.2) = M := by rw [← EM.out]; unfold metK; rw [if_neg (by omega)]
        rw [← e]
        exact ⟨HE.out, JH.out, HH.out⟩
    have em := EM.out
    unfold metK at em
    rw [if_pos hl] at em
    unfold partT at em
    have C8 : Hid (∀ W, Err W c 0 v.2 → _) := fun W => rpart_k c 0 v.2 v.1 2 W IV.out inF2
    have i8 : inF (ifK v.2 (partR v.1 2)).1 := ifK_in (partR_in IV.out)
    generalize ifK v.2 (partR v.1 2) = t1 at *
    unfold addT at em
    have C9 : Hid (∀ W, Err W c 0 t1.2 → _) := fun W => radd_k c 0 t1.2 v.1 t1.1 W IV.out i8
    have i9 : inF (ifK t1.2 (addR v.1 t1.1)).1 := ifK_in (addR_in _ _)
    generalize ifK t1.2 (addR v.1 t1.1) = t2 at *
    unfold subT at em
    have C10 : Hid (∀ W, Err W c 0 t2.2 → _) := fun W => rsub_k c 0 t2.2 0 t2.1 W inF0 i9
    have i10 : inF (ifK t2.2 (subR 0 t2.1)).1 := ifK_in (subR_in _ _)
    generalize ifK t2.2 (subR 0 t2.1) = t3 at *
    unfold divT at em
    have C11 : Hid (∀ W, Err W c 0 t3.2 → _) := fun W => rdiv_k c 0 t3.2 t3.1 k.1 W i10 i3
    have i11 : inF (ifK t3.2 (divR t3.1 k.1)).1 := ifK_in (divR_in _ _).1
    generalize ifK t3.2 (divR t3.1 k.1) = t4 at *
    unfold scaleT at em
    have C12 : Hid (∀ W, Err W c 0 t4.2 → _) := fun W => rtimes_u c t4.2 h.x h.y t4.1 W hh.x hh.y i11
    have i12 : inF _ ∧ inF _ := pairK_in (k := t4.2) (mulR_in h.x t4.1).1 (mulR_in h.y t4.1).1
    generalize pairK t4.2 (mulR h.x t4.1) (mulR h.y t4.1) = s1 at *
    unfold appT at em
    have c13 := fun W hE => rapply_u c s1.2.2 A B s1.1 s1.2.1 hA hB i12.1 i12.2 W hE
    generalize applyK s1.2.2 A B s1.1 s1.2.1 = Q at *
    subst em
    unfold vec at C12
    unfold retP Bd.val at c13
    have C13 : Hid (∀ W, Err W c 0 s1.2.2 → _) := c13
    have JH : Hid _ := J
    have HH : Hid _ := H
    clear c13 i8 i9 i10 i11 i12 hA hB hh J H EM HR0
    go_upto_region 12 with (first
      | (go_at_call 46; go_fit (C8.out _ E); rintro e V1 ⟨rfl, E1, U1⟩)
      | (go_at_call 43; go_fit (C9.out _ E1); rintro e V2 ⟨rfl, E2, U2⟩)
      | (go_at_call 48; go_fit (C10.out _ E2); rintro e V3 ⟨rfl, E3, U3⟩)
      | (go_at_call 47; go_fit (C11.out _ E3); rintro e V4 ⟨rfl, E4, U4⟩))
    have U14 := ((U1.trans U2).trans U3).trans U4
    have J4 := JH.out.past U14 hc (by omega) (by omega)
    have H4 := HAt.past HH.out U14 (by omega)
    have f2 := set_far (a := w.heap.size) (c := w.heap.size + 1) (by omega)
    have f3 := set_far (a := w.heap.size + 1) (c := w.heap.size) (by omega)
    clear JH HH U1 U2 U3 U14 E E1 E2 E3 C8 C9 C10 C11
    refine late_region (S := (fun w' => BAt w' w.heap.size A ∧ BAt w' (w.heap.size + 1) B ∧ HAt w' (w.heap.size + 1 + 1) h)) [12, 13] (by kernel_rfl) ?_ (fun hH0 => ?_)
    · exact ⟨J4.a.grew (Grew.refl V4).drew, J4.b.grew (Grew.refl V4).drew, H4.grew (Grew.refl V4).drew⟩
    refine late_take (i := 0) (oi := { dst := some 62, op := Go.Op.move (Go.Operand.tmp 0), type := 52, pos := "world.go:481", after := #[], guard := none }) (v := ?vf1) rfl (by kernel_rfl) (by kernel_rfl) (by kernel_rfl) (by kernel_rfl) (by kernel_rfl) (fun _ _ _ h => h) (Or.inl ⟨by rfl, ?hyf1⟩) hH0 ?restf1
    case hyf1 => (intro w hSw; obtain ⟨⟨a0, a1, a2, a3, a4, a5, a6, a7⟩, ⟨b0, b1, b2, b3, b4, b5, b6, b7⟩, ⟨h0, h1, h2⟩⟩ := hSw; go_simp; try (with_reducible rfl))
    simp only [Act.put, List.setIfInBounds_toArray, List.set_cons_zero, List.set_cons_succ]
    refine late_take (i := 1) (oi := { dst := some 63, op := Go.Op.load 26 (Go.Operand.tmp 5), type := 26, pos := "world.go:481", after := #[], guard := none }) (v := ?vf2) rfl (by kernel_rfl) (by kernel_rfl) (by kernel_rfl) (by kernel_rfl) (by kernel_rfl) (fun _ _ _ h => h) (Or.inl ⟨by rfl, ?hyf2⟩) hH0 ?restf2
    case hyf2 => (intro w hSw; obtain ⟨⟨a0, a1, a2, a3, a4, a5, a6, a7⟩, ⟨b0, b1, b2, b3, b4, b5, b6, b7⟩, ⟨h0, h1, h2⟩⟩ := hSw; go_simp; try (with_reducible rfl))
    simp only [Act.put, List.setIfInBounds_toArray, List.set_cons_zero, List.set_cons_succ]
    refine late_take (i := 2) (oi := { dst := some 64, op := Go.Op.load 26 (Go.Operand.tmp 6), type := 26, pos := "world.go:481", after := #[], guard := none }) (v := ?vf3) rfl (by kernel_rfl) (by kernel_rfl) (by kernel_rfl) (by kernel_rfl) (by kernel_rfl) (fun _ _ _ h => h) (Or.inl ⟨by rfl, ?hyf3⟩) hH0 ?restf3
    case hyf3 => (intro w hSw; obtain ⟨⟨a0, a1, a2, a3, a4, a5, a6, a7⟩, ⟨b0, b1, b2, b3, b4, b5, b6, b7⟩, ⟨h0, h1, h2⟩⟩ := hSw; go_simp; try (with_reducible rfl))
    simp only [Act.put, List.setIfInBounds_toArray, List.set_cons_zero, List.set_cons_succ]
    refine late_take (i := 3) (oi := { dst := some 65, op := Go.Op.move (Go.Operand.tmp 0), type := 52, pos := "world.go:481", after := #[], guard := none }) (v := ?vf4) rfl (by kernel_rfl) (by kernel_rfl) (by kernel_rfl) (by kernel_rfl) (by kernel_rfl) (fun _ _ _ h => h) (Or.inl ⟨by rfl, ?hyf4⟩) hH0 ?restf4
    case hyf4 => (intro w hSw; obtain ⟨⟨a0, a1, a2, a3, a4, a5, a6, a7⟩, ⟨b0, b1, b2, b3, b4, b5, b6, b7⟩, ⟨h0, h1, h2⟩⟩ := hSw; go_simp; try (with_reducible rfl))
    simp only [Act.put, List.setIfInBounds_toArray, List.set_cons_zero, List.set_cons_succ]
    refine late_take (i := 4) (oi := { dst := some 66, op := Go.Op.fieldAddr 28 (Go.Operand.tmp 7) 0, type := 0, pos := "world.go:481", after := #[], guard := none }) (v := ?vf5) rfl (by kernel_rfl) (by kernel_rfl) (by kernel_rfl) (by kernel_rfl) (by kernel_rfl) (fun _ _ _ h => h) (Or.inl ⟨by rfl, ?hyf5⟩) hH0 ?restf5
    case hyf5 => (intro w hSw; obtain ⟨⟨a0, a1, a2, a3, a4, a5, a6, a7⟩, ⟨b0, b1, b2, b3, b4, b5, b6, b7⟩, ⟨h0, h1, h2⟩⟩ := hSw; go_simp; try (with_reducible rfl))
    simp only [Act.put, List.setIfInBounds_toArray, List.set_cons_zero, List.set_cons_succ]
    refine late_take (i := 5) (oi := { dst := some 67, op := Go.Op.load 24 (Go.Operand.tmp 66), type := 24, pos := "world.go:481", after := #[{ on := 4, ground := Go.Ground.data }], guard := none }) (v := ?vf6) rfl (by kernel_rfl) (by kernel_rfl) (by kernel_rfl) (by kernel_rfl) (by kernel_rfl) (fun _ _ _ h => h) (Or.inl ⟨by rfl, ?hyf6⟩) hH0 ?restf6
    case hyf6 => (intro w hSw; obtain ⟨⟨a0, a1, a2, a3, a4, a5, a6, a7⟩, ⟨b0, b1, b2, b3, b4, b5, b6, b7⟩, ⟨h0, h1, h2⟩⟩ := hSw; go_simp; try (with_reducible rfl))
    simp only [Act.put, List.setIfInBounds_toArray, List.set_cons_zero, List.set_cons_succ]
    refine late_take (i := 6) (oi := { dst := some 68, op := Go.Op.move (Go.Operand.tmp 17), type := 22, pos := "world.go:481", after := #[], guard := none }) (v := ?vf7) rfl (by kernel_rfl) (by kernel_rfl) (by kernel_rfl) (by kernel_rfl) (by kernel_rfl) (fun _ _ _ h => h) (Or.inl ⟨by rfl, ?hyf7⟩) hH0 ?restf7
    case hyf7 => (intro w hSw; obtain ⟨⟨a0, a1, a2, a3, a4, a5, a6, a7⟩, ⟨b0, b1, b2, b3, b4, b5, b6, b7⟩, ⟨h0, h1, h2⟩⟩ := hSw; go_simp; try (with_reducible rfl))
    simp only [Act.put, List.setIfInBounds_toArray, List.set_cons_zero, List.set_cons_succ]
    refine late_one (i := 7) (by kernel_rfl) ?_
    refine late_run (o := { dst := some 69, op := Go.Op.call { callee := Go.Callee.value (Go.Operand.func 49), args := #[Go.Operand.tmp 65, Go.Operand.tmp 67, Go.Operand.tmp 68], argTypes := #[52, 24, 22] }, type := 24, pos := "world.go:481", after := #[{ on := 3, ground := Go.Ground.data }, { on := 5, ground := Go.Ground.data }, { on := 6, ground := Go.Ground.data }], guard := none }) rfl (fun K hK => ?_)
    go_simp
    go_wp2_with (first
      | (go_at_call 49; go_fit (C12.out _ (drew_err E4)); rintro e V5 ⟨rfl, E5, U5⟩)
      | fail)
    refine hK.out _ _ (⟨hH0.1.past U5 (by omega), hH0.2.1.past U5 (by omega), hH0.2.2.past U5 (by omega)⟩) (fun hHf8 => ?_)
    clear hK K
    refine late_one (i := 8) (by kernel_rfl) ?_
    refine late_run (o := { dst := some 70, op := Go.Op.call { callee := Go.Callee.value (Go.Operand.func 15), args := #[Go.Operand.tmp 62, Go.Operand.tmp 63, Go.Operand.tmp 64, Go.Operand.tmp 69], argTypes := #[52, 26, 26, 24] }, type := 34, pos := "world.go:481", after := #[{ on := 0, ground := Go.Ground.data }, { on := 1, ground := Go.Ground.data }, { on := 2, ground := Go.Ground.data }, { on := 7, ground := Go.Ground.data }, { on := 7, ground := Go.Ground.chain }], guard := none }) rfl (fun K hK => ?_)
    go_simp
    go_wp2_with (first
      | (go_at_call 15; go_fit (C13.out _ E5); rintro e V6 ⟨rfl, E6, U6⟩)
      | fail)
    refine hK.out _ _ (⟨hHf8.1.past U6 (by omega), hHf8.2.1.past U6 (by omega), hHf8.2.2.past U6 (by omega)⟩) (fun hHf9 => ?_)
    clear hK K
    refine late_take (i := 9) (oi := { dst := some 61, op := Go.Op.move (Go.Operand.tmp 70), type := 34, pos := "world.go:481", after := #[{ on := 8, ground := Go.Ground.data }], guard := none }) (v := ?vf10) rfl (by kernel_rfl) (by kernel_rfl) (by kernel_rfl) (by kernel_rfl) (by kernel_rfl) (fun _ _ _ h => h) (Or.inl ⟨by rfl, ?hyf10⟩) hHf9 ?restf10
    case hyf10 => (intro w hSw; obtain ⟨⟨a0, a1, a2, a3, a4, a5, a6, a7⟩, ⟨b0, b1, b2, b3, b4, b5, b6, b7⟩, ⟨h0, h1, h2⟩⟩ := hSw; go_simp; try (with_reducible rfl))
    simp only [Act.put, List.setIfInBounds_toArray, List.set_cons_zero, List.set_cons_succ]
    refine late_take (i := 10) (oi := { dst := some 71, op := Go.Op.extract (Go.Operand.tmp 61) 0, type := 26, pos := "world.go:481", after := #[{ on := 9, ground := Go.Ground.data }], guard := none }) (v := ?vf11) rfl (by kernel_rfl) (by kernel_rfl) (by kernel_rfl) (by kernel_rfl) (by kernel_rfl) (fun _ _ _ h => h) (Or.inl ⟨by rfl, ?hyf11⟩) hHf9 ?restf11
    case hyf11 => (intro w hSw; obtain ⟨⟨a0, a1, a2, a3, a4, a5, a6, a7⟩, ⟨b0, b1, b2, b3, b4, b5, b6, b7⟩, ⟨h0, h1, h2⟩⟩ := hSw; go_simp; try (with_reducible rfl))
    simp only [Act.put, List.setIfInBounds_toArray, List.set_cons_zero, List.set_cons_succ]
    refine late_two (i := 11) (k := 12) (by kernel_rfl) ?_ ?_
    · refine late_run (o := { dst := some 72, op := Go.Op.extract (Go.Operand.tmp 61) 1, type := 26, pos := "world.go:481", after := #[{ on := 9, ground := Go.Ground.data }, { on := 12, ground := Go.Ground.gcOnly Go.Departure.lateStores }], guard := none }) rfl (fun K hK => ?_)
      go_simp
      refine hK.out _ _ hHf9 (fun hHf12 => ?_)
      clear hK K
      refine late_one (i := 12) (by kernel_rfl) ?_
      refine late_write (o := { dst := none, op := Go.Op.store 26 (Go.Operand.tmp 5) (Go.Operand.tmp 71), type := 0, pos := "world.go:481", after := #[{ on := 10, ground := Go.Ground.data }, { on := 8, ground := Go.Ground.chain }, { on := 0, ground := Go.Ground.phase }, { on := 1, ground := Go.Ground.phase }, { on := 2, ground := Go.Ground.phase }, { on := 3, ground := Go.Ground.phase }, { on := 4, ground := Go.Ground.phase }, { on := 5, ground := Go.Ground.phase }, { on := 6, ground := Go.Ground.phase }, { on := 7, ground := Go.Ground.phase }, { on := 8, ground := Go.Ground.phase }, { on := 9, ground := Go.Ground.phase }, { on := 10, ground := Go.Ground.phase }, { on := 11, ground := Go.Ground.textOnly Go.Departure.lateStores }], guard := none }) rfl (by kernel_rfl) (fun K hK => ?_)
      have U46 : Past c V4 V6 := ((Grew.refl V4).drew.past.trans U5).trans U6
      have J6 := J4.past U46 hc (by omega) (by omega)
      have ⟨a0, a1, a2, a3, a4, a5, a6, a7⟩ := J6.a
      have y0 := J6.za 0 none
      have y1 := J6.za 1 none
      have y2 := J6.za 2 none
      have y3 := J6.za 3 none
      have y4 := J6.za 4 none
      have y5 := J6.za 5 none
      have y6 := J6.za 6 none
      have y7 := J6.za 7 none
      go_simp
      refine hK.out _ _ ?_
      clear hK K
      refine late_one (i := 13) (by kernel_rfl) ?_
      refine late_write (o := { dst := none, op := Go.Op.store 26 (Go.Operand.tmp 6) (Go.Operand.tmp 72), type := 0, pos := "world.go:481", after := #[{ on := 11, ground := Go.Ground.data }, { on := 12, ground := Go.Ground.chain }, { on := 0, ground := Go.Ground.phase }, { on := 1, ground := Go.Ground.phase }, { on := 2, ground := Go.Ground.phase }, { on := 3, ground := Go.Ground.phase }, { on := 4, ground := Go.Ground.phase }, { on := 5, ground := Go.Ground.phase }, { on := 6, ground := Go.Ground.phase }, { on := 7, ground := Go.Ground.phase }, { on := 8, ground := Go.Ground.phase }, { on := 9, ground := Go.Ground.phase }, { on := 10, ground := Go.Ground.phase }, { on := 11, ground := Go.Ground.phase }, { on := 12, ground := Go.Ground.phase }], guard := none }) rfl (by kernel_rfl) (fun K hK => ?_)
      have ⟨b0, b1, b2, b3, b4, b5, b6, b7⟩ := J6.b
      have z0 := J6.zb 0 none
      have z1 := J6.zb 1 none
      have z2 := J6.zb 2 none
      have z3 := J6.zb 3 none
      have z4 := J6.zb 4 none
      have z5 := J6.zb 5 none
      have z6 := J6.zb 6 none
      have z7 := J6.zb 7 none
      go_simp
      refine hK.out _ _ ?_
      clear hK K
      refine late_done (by kernel_rfl) ?_ _
      go_wp2
      go_meet
      exact ⟨lay_err (lay_err E6 (by omega) _) (by omega) _, J6.lay2 nr ns, ((H4.past U46 (by omega)).lay (by omega) _).lay (by omega) _⟩
    · refine late_write (o := { dst := none, op := Go.Op.store 26 (Go.Operand.tmp 5) (Go.Operand.tmp 71), type := 0, pos := "world.go:481", after := #[{ on := 10, ground := Go.Ground.data }, { on := 8, ground := Go.Ground.chain }, { on := 0, ground := Go.Ground.phase }, { on := 1, ground := Go.Ground.phase }, { on := 2, ground := Go.Ground.phase }, { on := 3, ground := Go.Ground.phase }, { on := 4, ground := Go.Ground.phase }, { on := 5, ground := Go.Ground.phase }, { on := 6, ground := Go.Ground.phase }, { on := 7, ground := Go.Ground.phase }, { on := 8, ground := Go.Ground.phase }, { on := 9, ground := Go.Ground.phase }, { on := 10, ground := Go.Ground.phase }, { on := 11, ground := Go.Ground.textOnly Go.Departure.lateStores }], guard := none }) rfl (by kernel_rfl) (fun K hK => ?_)
      have U46 : Past c V4 V6 := ((Grew.refl V4).drew.past.trans U5).trans U6
      have J6 := J4.past U46 hc (by omega) (by omega)
      have ⟨a0, a1, a2, a3, a4, a5, a6, a7⟩ := J6.a
      have y0 := J6.za 0 none
      have y1 := J6.za 1 none
      have y2 := J6.za 2 none
      have y3 := J6.za 3 none
      have y4 := J6.za 4 none
      have y5 := J6.za 5 none
      have y6 := J6.za 6 none
      have y7 := J6.za 7 none
      go_simp
      refine hK.out _ _ ?_
      clear hK K
      refine late_one (i := 11) (by kernel_rfl) ?_
      refine late_write (o := { dst := some 72, op := Go.Op.extract (Go.Operand.tmp 61) 1, type := 26, pos := "world.go:481", after := #[{ on := 9, ground := Go.Ground.data }, { on := 12, ground := Go.Ground.gcOnly Go.Departure.lateStores }], guard := none }) rfl (by kernel_rfl) (fun K hK => ?_)
      go_simp
      refine hK.out _ _ ?_
      clear hK K
      refine late_one (i := 13) (by kernel_rfl) ?_
      refine late_write (o := { dst := none, op := Go.Op.store 26 (Go.Operand.tmp 6) (Go.Operand.tmp 72), type := 0, pos := "world.go:481", after := #[{ on := 11, ground := Go.Ground.data }, { on := 12, ground := Go.Ground.chain }, { on := 0, ground := Go.Ground.phase }, { on := 1, ground := Go.Ground.phase }, { on := 2, ground := Go.Ground.phase }, { on := 3, ground := Go.Ground.phase }, { on := 4, ground := Go.Ground.phase }, { on := 5, ground := Go.Ground.phase }, { on := 6, ground := Go.Ground.phase }, { on := 7, ground := Go.Ground.phase }, { on := 8, ground := Go.Ground.phase }, { on := 9, ground := Go.Ground.phase }, { on := 10, ground := Go.Ground.phase }, { on := 11, ground := Go.Ground.phase }, { on := 12, ground := Go.Ground.phase }], guard := none }) rfl (by kernel_rfl) (fun K hK => ?_)
      have ⟨b0, b1, b2, b3, b4, b5, b6, b7⟩ := J6.b
      have z0 := J6.zb 0 none
      have z1 := J6.zb 1 none
      have z2 := J6.zb 2 none
      have z3 := J6.zb 3 none
      have z4 := J6.zb 4 none
      have z5 := J6.zb 5 none
      have z6 := J6.zb 6 none
      have z7 := J6.zb 7 none
      go_simp
      refine hK.out _ _ ?_
      clear hK K
      refine late_done (by kernel_rfl) ?_ _
      go_wp2
      go_meet
      exact ⟨lay_err (lay_err E6 (by omega) _) (by omega) _, J6.lay2 nr ns, ((H4.past U46 (by omega)).lay (by omega) _).lay (by omega) _⟩
  case rest =>
    obtain ⟨E', J', H'⟩ := hcut
    clear J H E EM IV
    have hr := HR0.out
    unfold partT at hr
    have J := J'
    have H := H'
    have E := E'
    clear HR0 J' H' E'
    obtain ⟨⟨A1, B1⟩, eM⟩ := M
    simp only at J E oM
    obtain ⟨oA, oB⟩ := oM
    have C8 : Hid (∀ W, Err W c 0 eM → _) := fun W => rpart_k c 0 eM h.d 2 W hh.d inF2
    have i8 : inF (ifK eM (partR h.d 2)).1 := ifK_in (partR_in hh.d)
    simp only at hr
    generalize ifK eM (partR h.d 2) = t1 at *
    unfold divT at hr
    have C9 : Hid (∀ W, Err W c 0 t1.2 → _) := fun W => rdiv_k c 0 t1.2 t1.1 k.1 W i8 i3
    have i9 : inF (ifK t1.2 (divR t1.1 k.1)).1 := ifK_in (divR_in _ _).1
    generalize ifK t1.2 (divR t1.1 k.1) = m at *
    unfold apartK backK mulT at hr
    have C10 : Hid (∀ W, Err W c 0 m.2 → _) := fun W => rmul_k c 0 m.2 m.1 l1.1 W i9 i1
    have i10 : inF (ifK m.2 (mulR m.1 l1.1)).1 := ifK_in (mulR_in _ _).1
    generalize ifK m.2 (mulR m.1 l1.1) = o1 at *
    unfold scaleT at hr
    have C11 : Hid (∀ W, Err W c 0 o1.2 → _) := fun W => rtimes_u c o1.2 h.x h.y o1.1 W hh.x hh.y i10
    have i11 : inF _ ∧ inF _ := pairK_in (k := o1.2) (mulR_in h.x o1.1).1 (mulR_in h.y o1.1).1
    generalize pairK o1.2 (mulR h.x o1.1) (mulR h.y o1.1) = s1 at *
    unfold lessT at hr
    simp only at hr
    have C12 : Hid (∀ W, Err W c 0 s1.2.2 → _) := fun W => rless_u c s1.2.2 A1.p A1.q s1.1 s1.2.1 W oA.p oA.q i11.1 i11.2
    generalize pairK s1.2.2 (subR A1.p s1.1) (subR A1.q s1.2.1) = P at *
    unfold forthK mulT at hr
    have C13 : Hid (∀ W, Err W c 0 P.2.2 → _) := fun W => rmul_k c 0 P.2.2 m.1 l2.1 W i9 i2
    have i13 : inF (ifK P.2.2 (mulR m.1 l2.1)).1 := ifK_in (mulR_in _ _).1
    generalize ifK P.2.2 (mulR m.1 l2.1) = o2 at *
    unfold scaleT at hr
    have C14 : Hid (∀ W, Err W c 0 o2.2 → _) := fun W => rtimes_u c o2.2 h.x h.y o2.1 W hh.x hh.y i13
    have i14 : inF _ ∧ inF _ := pairK_in (k := o2.2) (mulR_in h.x o2.1).1 (mulR_in h.y o2.1).1
    generalize pairK o2.2 (mulR h.x o2.1) (mulR h.y o2.1) = s2 at *
    unfold plusT at hr
    simp only at hr
    have C15 : Hid (∀ W, Err W c 0 s2.2.2 → _) := fun W => rplus_u c s2.2.2 B1.p B1.q s2.1 s2.2.1 W oB.p oB.q i14.1 i14.2
    generalize pairK s2.2.2 (addR B1.p s2.1) (addR B1.q s2.2.1) = O at *
    unfold posK at hr
    simp only at hr
    have HR1 : Hid (_ = R) := hr
    unfold vec at C11 C12 C14 C15
    have g2 := H.c2
    clear hr i8 i9 i10 i11 i13 i14 oA oB hh hA hB i1 i2 i3
    go_upto_region 14 with (first
      | (go_at_call 46; go_fit (C8.out _ E); rintro e V1 ⟨rfl, E1, U1⟩)
      | (go_at_call 47; go_fit (C9.out _ E1); rintro e V2 ⟨rfl, E2, U2⟩))
    have J4 := J.past (U1.trans U2) hc (by omega) (by omega)
    have H4 := H.past (U1.trans U2) (by omega)
    obtain ⟨V4, hV4⟩ : ∃ V4, V4 = V2 := ⟨_, rfl⟩
    rw [← hV4] at J4 H4 E2 ⊢
    clear J H E U1 U2 E1 C8 C9 g2 hV4
    refine late_region (S := (fun w' => BAt w' (w.heap.size) A1 ∧ HAt w' (w.heap.size + 1 + 1) h)) [13] (by kernel_rfl) ?_ (fun hH0 => ?_)
    · exact ⟨J4.a.grew (Grew.refl V4).drew, H4.grew (Grew.refl V4).drew⟩
    refine late_take (i := 0) (oi := { dst := some 80, op := Go.Op.move (Go.Operand.tmp 0), type := 52, pos := "world.go:484", after := #[], guard := none }) (v := ?vg1) rfl (by kernel_rfl) (by kernel_rfl) (by kernel_rfl) (by kernel_rfl) (by kernel_rfl) (fun _ _ _ h => h) (Or.inl ⟨by rfl, ?hyg1⟩) hH0 ?restg1
    case hyg1 => (intro w hSw; obtain ⟨⟨a0, a1, a2, a3, a4, a5, a6, a7⟩, ⟨h0, h1, h2⟩⟩ := hSw; go_simp; try (with_reducible rfl))
    simp only [Act.put, List.setIfInBounds_toArray, List.set_cons_zero, List.set_cons_succ]
    refine late_take (i := 1) (oi := { dst := some 81, op := Go.Op.fieldAddr 26 (Go.Operand.tmp 5) 3, type := 0, pos := "world.go:484", after := #[], guard := none }) (v := ?vg2) rfl (by kernel_rfl) (by kernel_rfl) (by kernel_rfl) (by kernel_rfl) (by kernel_rfl) (fun _ _ _ h => h) (Or.inl ⟨by rfl, ?hyg2⟩) hH0 ?restg2
    case hyg2 => (intro w hSw; obtain ⟨⟨a0, a1, a2, a3, a4, a5, a6, a7⟩, ⟨h0, h1, h2⟩⟩ := hSw; go_simp; try (with_reducible rfl))
    simp only [Act.put, List.setIfInBounds_toArray, List.set_cons_zero, List.set_cons_succ]
    refine late_take (i := 2) (oi := { dst := some 82, op := Go.Op.load 24 (Go.Operand.tmp 81), type := 24, pos := "world.go:484", after := #[{ on := 1, ground := Go.Ground.data }], guard := none }) (v := ?vg3) rfl (by kernel_rfl) (by kernel_rfl) (by kernel_rfl) (by kernel_rfl) (by kernel_rfl) (fun _ _ _ h => h) (Or.inl ⟨by rfl, ?hyg3⟩) hH0 ?restg3
    case hyg3 => (intro w hSw; obtain ⟨⟨a0, a1, a2, a3, a4, a5, a6, a7⟩, ⟨h0, h1, h2⟩⟩ := hSw; go_simp; try (with_reducible rfl))
    simp only [Act.put, List.setIfInBounds_toArray, List.set_cons_zero, List.set_cons_succ]
    refine late_take (i := 3) (oi := { dst := some 83, op := Go.Op.move (Go.Operand.tmp 0), type := 52, pos := "world.go:484", after := #[], guard := none }) (v := ?vg4) rfl (by kernel_rfl) (by kernel_rfl) (by kernel_rfl) (by kernel_rfl) (by kernel_rfl) (fun _ _ _ h => h) (Or.inl ⟨by rfl, ?hyg4⟩) hH0 ?restg4
    case hyg4 => (intro w hSw; obtain ⟨⟨a0, a1, a2, a3, a4, a5, a6, a7⟩, ⟨h0, h1, h2⟩⟩ := hSw; go_simp; try (with_reducible rfl))
    simp only [Act.put, List.setIfInBounds_toArray, List.set_cons_zero, List.set_cons_succ]
    refine late_take (i := 4) (oi := { dst := some 84, op := Go.Op.fieldAddr 28 (Go.Operand.tmp 7) 0, type := 0, pos := "world.go:484", after := #[], guard := none }) (v := ?vg5) rfl (by kernel_rfl) (by kernel_rfl) (by kernel_rfl) (by kernel_rfl) (by kernel_rfl) (fun _ _ _ h => h) (Or.inl ⟨by rfl, ?hyg5⟩) hH0 ?restg5
    case hyg5 => (intro w hSw; obtain ⟨⟨a0, a1, a2, a3, a4, a5, a6, a7⟩, ⟨h0, h1, h2⟩⟩ := hSw; go_simp; try (with_reducible rfl))
    simp only [Act.put, List.setIfInBounds_toArray, List.set_cons_zero, List.set_cons_succ]
    refine late_take (i := 5) (oi := { dst := some 85, op := Go.Op.load 24 (Go.Operand.tmp 84), type := 24, pos := "world.go:484", after := #[{ on := 4, ground := Go.Ground.data }], guard := none }) (v := ?vg6) rfl (by kernel_rfl) (by kernel_rfl) (by kernel_rfl) (by kernel_rfl) (by kernel_rfl) (fun _ _ _ h => h) (Or.inl ⟨by rfl, ?hyg6⟩) hH0 ?restg6
    case hyg6 => (intro w hSw; obtain ⟨⟨a0, a1, a2, a3, a4, a5, a6, a7⟩, ⟨h0, h1, h2⟩⟩ := hSw; go_simp; try (with_reducible rfl))
    simp only [Act.put, List.setIfInBounds_toArray, List.set_cons_zero, List.set_cons_succ]
    refine late_take (i := 6) (oi := { dst := some 86, op := Go.Op.move (Go.Operand.tmp 0), type := 52, pos := "world.go:484", after := #[], guard := none }) (v := ?vg7) rfl (by kernel_rfl) (by kernel_rfl) (by kernel_rfl) (by kernel_rfl) (by kernel_rfl) (fun _ _ _ h => h) (Or.inl ⟨by rfl, ?hyg7⟩) hH0 ?restg7
    case hyg7 => (intro w hSw; obtain ⟨⟨a0, a1, a2, a3, a4, a5, a6, a7⟩, ⟨h0, h1, h2⟩⟩ := hSw; go_simp; try (with_reducible rfl))
    simp only [Act.put, List.setIfInBounds_toArray, List.set_cons_zero, List.set_cons_succ]
    refine late_take (i := 7) (oi := { dst := some 87, op := Go.Op.move (Go.Operand.tmp 18), type := 22, pos := "world.go:484", after := #[], guard := none }) (v := ?vg8) rfl (by kernel_rfl) (by kernel_rfl) (by kernel_rfl) (by kernel_rfl) (by kernel_rfl) (fun _ _ _ h => h) (Or.inl ⟨by rfl, ?hyg8⟩) hH0 ?restg8
    case hyg8 => (intro w hSw; obtain ⟨⟨a0, a1, a2, a3, a4, a5, a6, a7⟩, ⟨h0, h1, h2⟩⟩ := hSw; go_simp; try (with_reducible rfl))
    simp only [Act.put, List.setIfInBounds_toArray, List.set_cons_zero, List.set_cons_succ]
    refine late_take (i := 8) (oi := { dst := some 88, op := Go.Op.move (Go.Operand.tmp 10), type := 22, pos := "world.go:484", after := #[], guard := none }) (v := ?vg9) rfl (by kernel_rfl) (by kernel_rfl) (by kernel_rfl) (by kernel_rfl) (by kernel_rfl) (fun _ _ _ h => h) (Or.inl ⟨by rfl, ?hyg9⟩) hH0 ?restg9
    case hyg9 => (intro w hSw; obtain ⟨⟨a0, a1, a2, a3, a4, a5, a6, a7⟩, ⟨h0, h1, h2⟩⟩ := hSw; go_simp; try (with_reducible rfl))
    simp only [Act.put, List.setIfInBounds_toArray, List.set_cons_zero, List.set_cons_succ]
    refine late_one (i := 9) (by kernel_rfl) ?_
    refine late_run (o := { dst := some 89, op := Go.Op.call { callee := Go.Callee.value (Go.Operand.func 50), args := #[Go.Operand.tmp 86, Go.Operand.tmp 87, Go.Operand.tmp 88], argTypes := #[52, 22, 22] }, type := 22, pos := "world.go:484", after := #[{ on := 6, ground := Go.Ground.data }, { on := 7, ground := Go.Ground.data }, { on := 8, ground := Go.Ground.data }], guard := none }) rfl (fun K hK => ?_)
    go_simp
    go_wp2_with (first
      | (go_at_call 50; go_fit (C10.out _ (drew_err E2)); rintro e V5 ⟨rfl, Ea, Ua⟩)
      | fail)
    refine hK.out _ _ (⟨hH0.1.past Ua (by omega), hH0.2.past Ua (by omega)⟩) (fun hHg10 => ?_)
    clear hK K
    refine late_one (i := 10) (by kernel_rfl) ?_
    refine late_run (o := { dst := some 90, op := Go.Op.call { callee := Go.Callee.value (Go.Operand.func 49), args := #[Go.Operand.tmp 83, Go.Operand.tmp 85, Go.Operand.tmp 89], argTypes := #[52, 24, 22] }, type := 24, pos := "world.go:484", after := #[{ on := 3, ground := Go.Ground.data }, { on := 5, ground := Go.Ground.data }, { on := 9, ground := Go.Ground.data }, { on := 9, ground := Go.Ground.chain }], guard := none }) rfl (fun K hK => ?_)
    go_simp
    go_wp2_with (first
      | (go_at_call 49; go_fit (C11.out _ Ea); rintro e V6 ⟨rfl, Eb, Ub⟩)
      | fail)
    refine hK.out _ _ (⟨hHg10.1.past Ub (by omega), hHg10.2.past Ub (by omega)⟩) (fun hHg11 => ?_)
    clear hK K
    refine late_one (i := 11) (by kernel_rfl) ?_
    refine late_run (o := { dst := some 91, op := Go.Op.call { callee := Go.Callee.value (Go.Operand.func 40), args := #[Go.Operand.tmp 80, Go.Operand.tmp 82, Go.Operand.tmp 90], argTypes := #[52, 24, 24] }, type := 24, pos := "world.go:484", after := #[{ on := 0, ground := Go.Ground.data }, { on := 2, ground := Go.Ground.data }, { on := 10, ground := Go.Ground.data }, { on := 10, ground := Go.Ground.chain }], guard := none }) rfl (fun K hK => ?_)
    go_simp
    go_wp2_with (first
      | (go_at_call 40; go_fit (C12.out _ Eb); rintro e V7 ⟨rfl, Ed, Ud⟩)
      | fail)
    refine hK.out _ _ (⟨hHg11.1.past Ud (by omega), hHg11.2.past Ud (by omega)⟩) (fun hHg12 => ?_)
    clear hK K
    refine late_take (i := 12) (oi := { dst := some 92, op := Go.Op.fieldAddr 26 (Go.Operand.tmp 5) 3, type := 0, pos := "world.go:484", after := #[{ on := 0, ground := Go.Ground.phase }, { on := 1, ground := Go.Ground.phase }, { on := 2, ground := Go.Ground.phase }, { on := 3, ground := Go.Ground.phase }, { on := 4, ground := Go.Ground.phase }, { on := 5, ground := Go.Ground.phase }, { on := 6, ground := Go.Ground.phase }, { on := 7, ground := Go.Ground.phase }, { on := 8, ground := Go.Ground.phase }, { on := 9, ground := Go.Ground.phase }, { on := 10, ground := Go.Ground.phase }, { on := 11, ground := Go.Ground.phase }], guard := none }) (v := ?vg13) rfl (by kernel_rfl) (by kernel_rfl) (by kernel_rfl) (by kernel_rfl) (by kernel_rfl) (fun _ _ _ h => h) (Or.inl ⟨by rfl, ?hyg13⟩) hHg12 ?restg13
    case hyg13 => (intro w hSw; obtain ⟨⟨a0, a1, a2, a3, a4, a5, a6, a7⟩, ⟨h0, h1, h2⟩⟩ := hSw; go_simp; try (with_reducible rfl))
    simp only [Act.put, List.setIfInBounds_toArray, List.set_cons_zero, List.set_cons_succ]
    refine late_one (i := 13) (by kernel_rfl) ?_
    refine late_write (o := { dst := none, op := Go.Op.store 24 (Go.Operand.tmp 92) (Go.Operand.tmp 91), type := 0, pos := "world.go:484", after := #[{ on := 12, ground := Go.Ground.data }, { on := 11, ground := Go.Ground.data }, { on := 11, ground := Go.Ground.chain }, { on := 0, ground := Go.Ground.phase }, { on := 1, ground := Go.Ground.phase }, { on := 2, ground := Go.Ground.phase }, { on := 3, ground := Go.Ground.phase }, { on := 4, ground := Go.Ground.phase }, { on := 5, ground := Go.Ground.phase }, { on := 6, ground := Go.Ground.phase }, { on := 7, ground := Go.Ground.phase }, { on := 8, ground := Go.Ground.phase }, { on := 9, ground := Go.Ground.phase }, { on := 10, ground := Go.Ground.phase }, { on := 11, ground := Go.Ground.phase }], guard := none }) rfl (by kernel_rfl) (fun K hK => ?_)
    have UU : Past c V4 V7 := (((Grew.refl V4).drew.past.trans Ua).trans Ub).trans Ud
    have J5 := J4.past UU hc (by omega) (by omega)
    have H5 := H4.past UU (by omega)
    have ⟨a0, a1, a2, a3, a4, a5, a6, a7⟩ := J5.a
    have y4 := J5.za 4 none
    have y5 := J5.za 5 none
    go_simp
    refine hK.out _ _ ?_
    clear hK K
    refine late_done (by kernel_rfl) ?_ _
    obtain ⟨W1, hW1⟩ : ∃ W1, W1 = (V7.setCell ⟨w.heap.size, 4, none⟩ (.int .i64 P.1)).setCell ⟨w.heap.size, 5, none⟩ (.int .i64 P.2.1) := ⟨_, rfl⟩
    rw [← hW1]
    have JN : Jp c w W1 (w.heap.size + 1 + 1 + 1) (w.heap.size + 1 + 1 + 1 + 1) (A1.pos P.1 P.2.1) B1 := by rw [hW1]; exact J5.posA nr ns _ _
    have HN : HAt W1 (w.heap.size + 1 + 1) h := by rw [hW1]; exact H5.far (by omega) _ _ _ _
    have EN : Err W1 c 0 P.2.2 := by rw [hW1]; exact Err.past (Err.past Ed (by omega) _ rfl) (by omega) _ rfl
    clear hW1 J4 H4 J5 H5 Ea Eb Ed Ua Ub Ud UU E2 a0 a1 a2 a3 a4 a5 a6 a7 y4 y5 C10 C11 C12
    have J4 := JN
    have H4 := HN
    clear JN HN
    generalize A1.pos P.1 P.2.1 = A2 at *
    go_upto_region 15 with (fail)
    refine late_region (S := (fun w' => BAt w' (w.heap.size + 1) B1 ∧ HAt w' (w.heap.size + 1 + 1) h)) [13] (by kernel_rfl) ?_ (fun hH0 => ?_)
    · exact ⟨J4.b.grew (Grew.refl W1).drew, H4.grew (Grew.refl W1).drew⟩
    refine late_take (i := 0) (oi := { dst := some 93, op := Go.Op.move (Go.Operand.tmp 0), type := 52, pos := "world.go:485", after := #[], guard := none }) (v := ?vi1) rfl (by kernel_rfl) (by kernel_rfl) (by kernel_rfl) (by kernel_rfl) (by kernel_rfl) (fun _ _ _ h => h) (Or.inl ⟨by rfl, ?hyi1⟩) hH0 ?resti1
    case hyi1 => (intro w hSw; obtain ⟨⟨a0, a1, a2, a3, a4, a5, a6, a7⟩, ⟨h0, h1, h2⟩⟩ := hSw; go_simp; try (with_reducible rfl))
    simp only [Act.put, List.setIfInBounds_toArray, List.set_cons_zero, List.set_cons_succ]
    refine late_take (i := 1) (oi := { dst := some 94, op := Go.Op.fieldAddr 26 (Go.Operand.tmp 6) 3, type := 0, pos := "world.go:485", after := #[], guard := none }) (v := ?vi2) rfl (by kernel_rfl) (by kernel_rfl) (by kernel_rfl) (by kernel_rfl) (by kernel_rfl) (fun _ _ _ h => h) (Or.inl ⟨by rfl, ?hyi2⟩) hH0 ?resti2
    case hyi2 => (intro w hSw; obtain ⟨⟨a0, a1, a2, a3, a4, a5, a6, a7⟩, ⟨h0, h1, h2⟩⟩ := hSw; go_simp; try (with_reducible rfl))
    simp only [Act.put, List.setIfInBounds_toArray, List.set_cons_zero, List.set_cons_succ]
    refine late_take (i := 2) (oi := { dst := some 95, op := Go.Op.load 24 (Go.Operand.tmp 94), type := 24, pos := "world.go:485", after := #[{ on := 1, ground := Go.Ground.data }], guard := none }) (v := ?vi3) rfl (by kernel_rfl) (by kernel_rfl) (by kernel_rfl) (by kernel_rfl) (by kernel_rfl) (fun _ _ _ h => h) (Or.inl ⟨by rfl, ?hyi3⟩) hH0 ?resti3
    case hyi3 => (intro w hSw; obtain ⟨⟨a0, a1, a2, a3, a4, a5, a6, a7⟩, ⟨h0, h1, h2⟩⟩ := hSw; go_simp; try (with_reducible rfl))
    simp only [Act.put, List.setIfInBounds_toArray, List.set_cons_zero, List.set_cons_succ]
    refine late_take (i := 3) (oi := { dst := some 96, op := Go.Op.move (Go.Operand.tmp 0), type := 52, pos := "world.go:485", after := #[], guard := none }) (v := ?vi4) rfl (by kernel_rfl) (by kernel_rfl) (by kernel_rfl) (by kernel_rfl) (by kernel_rfl) (fun _ _ _ h => h) (Or.inl ⟨by rfl, ?hyi4⟩) hH0 ?resti4
    case hyi4 => (intro w hSw; obtain ⟨⟨a0, a1, a2, a3, a4, a5, a6, a7⟩, ⟨h0, h1, h2⟩⟩ := hSw; go_simp; try (with_reducible rfl))
    simp only [Act.put, List.setIfInBounds_toArray, List.set_cons_zero, List.set_cons_succ]
    refine late_take (i := 4) (oi := { dst := some 97, op := Go.Op.fieldAddr 28 (Go.Operand.tmp 7) 0, type := 0, pos := "world.go:485", after := #[], guard := none }) (v := ?vi5) rfl (by kernel_rfl) (by kernel_rfl) (by kernel_rfl) (by kernel_rfl) (by kernel_rfl) (fun _ _ _ h => h) (Or.inl ⟨by rfl, ?hyi5⟩) hH0 ?resti5
    case hyi5 => (intro w hSw; obtain ⟨⟨a0, a1, a2, a3, a4, a5, a6, a7⟩, ⟨h0, h1, h2⟩⟩ := hSw; go_simp; try (with_reducible rfl))
    simp only [Act.put, List.setIfInBounds_toArray, List.set_cons_zero, List.set_cons_succ]
    refine late_take (i := 5) (oi := { dst := some 98, op := Go.Op.load 24 (Go.Operand.tmp 97), type := 24, pos := "world.go:485", after := #[{ on := 4, ground := Go.Ground.data }], guard := none }) (v := ?vi6) rfl (by kernel_rfl) (by kernel_rfl) (by kernel_rfl) (by kernel_rfl) (by kernel_rfl) (fun _ _ _ h => h) (Or.inl ⟨by rfl, ?hyi6⟩) hH0 ?resti6
    case hyi6 => (intro w hSw; obtain ⟨⟨a0, a1, a2, a3, a4, a5, a6, a7⟩, ⟨h0, h1, h2⟩⟩ := hSw; go_simp; try (with_reducible rfl))
    simp only [Act.put, List.setIfInBounds_toArray, List.set_cons_zero, List.set_cons_succ]
    refine late_take (i := 6) (oi := { dst := some 99, op := Go.Op.move (Go.Operand.tmp 0), type := 52, pos := "world.go:485", after := #[], guard := none }) (v := ?vi7) rfl (by kernel_rfl) (by kernel_rfl) (by kernel_rfl) (by kernel_rfl) (by kernel_rfl) (fun _ _ _ h => h) (Or.inl ⟨by rfl, ?hyi7⟩) hH0 ?resti7
    case hyi7 => (intro w hSw; obtain ⟨⟨a0, a1, a2, a3, a4, a5, a6, a7⟩, ⟨h0, h1, h2⟩⟩ := hSw; go_simp; try (with_reducible rfl))
    simp only [Act.put, List.setIfInBounds_toArray, List.set_cons_zero, List.set_cons_succ]
    refine late_take (i := 7) (oi := { dst := some 100, op := Go.Op.move (Go.Operand.tmp 18), type := 22, pos := "world.go:485", after := #[], guard := none }) (v := ?vi8) rfl (by kernel_rfl) (by kernel_rfl) (by kernel_rfl) (by kernel_rfl) (by kernel_rfl) (fun _ _ _ h => h) (Or.inl ⟨by rfl, ?hyi8⟩) hH0 ?resti8
    case hyi8 => (intro w hSw; obtain ⟨⟨a0, a1, a2, a3, a4, a5, a6, a7⟩, ⟨h0, h1, h2⟩⟩ := hSw; go_simp; try (with_reducible rfl))
    simp only [Act.put, List.setIfInBounds_toArray, List.set_cons_zero, List.set_cons_succ]
    refine late_take (i := 8) (oi := { dst := some 101, op := Go.Op.move (Go.Operand.tmp 11), type := 22, pos := "world.go:485", after := #[], guard := none }) (v := ?vi9) rfl (by kernel_rfl) (by kernel_rfl) (by kernel_rfl) (by kernel_rfl) (by kernel_rfl) (fun _ _ _ h => h) (Or.inl ⟨by rfl, ?hyi9⟩) hH0 ?resti9
    case hyi9 => (intro w hSw; obtain ⟨⟨a0, a1, a2, a3, a4, a5, a6, a7⟩, ⟨h0, h1, h2⟩⟩ := hSw; go_simp; try (with_reducible rfl))
    simp only [Act.put, List.setIfInBounds_toArray, List.set_cons_zero, List.set_cons_succ]
    refine late_one (i := 9) (by kernel_rfl) ?_
    refine late_run (o := { dst := some 102, op := Go.Op.call { callee := Go.Callee.value (Go.Operand.func 50), args := #[Go.Operand.tmp 99, Go.Operand.tmp 100, Go.Operand.tmp 101], argTypes := #[52, 22, 22] }, type := 22, pos := "world.go:485", after := #[{ on := 6, ground := Go.Ground.data }, { on := 7, ground := Go.Ground.data }, { on := 8, ground := Go.Ground.data }], guard := none }) rfl (fun K hK => ?_)
    go_simp
    go_wp2_with (first
      | (go_at_call 50; go_fit (C13.out _ (drew_err EN)); rintro e V8 ⟨rfl, Ea, Ua⟩)
      | fail)
    refine hK.out _ _ (⟨hH0.1.past Ua (by omega), hH0.2.past Ua (by omega)⟩) (fun hHi10 => ?_)
    clear hK K
    refine late_one (i := 10) (by kernel_rfl) ?_
    refine late_run (o := { dst := some 103, op := Go.Op.call { callee := Go.Callee.value (Go.Operand.func 49), args := #[Go.Operand.tmp 96, Go.Operand.tmp 98, Go.Operand.tmp 102], argTypes := #[52, 24, 22] }, type := 24, pos := "world.go:485", after := #[{ on := 3, ground := Go.Ground.data }, { on := 5, ground := Go.Ground.data }, { on := 9, ground := Go.Ground.data }, { on := 9, ground := Go.Ground.chain }], guard := none }) rfl (fun K hK => ?_)
    go_simp
    go_wp2_with (first
      | (go_at_call 49; go_fit (C14.out _ Ea); rintro e V9 ⟨rfl, Eb, Ub⟩)
      | fail)
    refine hK.out _ _ (⟨hHi10.1.past Ub (by omega), hHi10.2.past Ub (by omega)⟩) (fun hHi11 => ?_)
    clear hK K
    refine late_one (i := 11) (by kernel_rfl) ?_
    refine late_run (o := { dst := some 104, op := Go.Op.call { callee := Go.Callee.value (Go.Operand.func 41), args := #[Go.Operand.tmp 93, Go.Operand.tmp 95, Go.Operand.tmp 103], argTypes := #[52, 24, 24] }, type := 24, pos := "world.go:485", after := #[{ on := 0, ground := Go.Ground.data }, { on := 2, ground := Go.Ground.data }, { on := 10, ground := Go.Ground.data }, { on := 10, ground := Go.Ground.chain }], guard := none }) rfl (fun K hK => ?_)
    go_simp
    go_wp2_with (first
      | (go_at_call 41; go_fit (C15.out _ Eb); rintro e V10 ⟨rfl, Ed, Ud⟩)
      | fail)
    refine hK.out _ _ (⟨hHi11.1.past Ud (by omega), hHi11.2.past Ud (by omega)⟩) (fun hHi12 => ?_)
    clear hK K
    refine late_take (i := 12) (oi := { dst := some 105, op := Go.Op.fieldAddr 26 (Go.Operand.tmp 6) 3, type := 0, pos := "world.go:485", after := #[{ on := 0, ground := Go.Ground.phase }, { on := 1, ground := Go.Ground.phase }, { on := 2, ground := Go.Ground.phase }, { on := 3, ground := Go.Ground.phase }, { on := 4, ground := Go.Ground.phase }, { on := 5, ground := Go.Ground.phase }, { on := 6, ground := Go.Ground.phase }, { on := 7, ground := Go.Ground.phase }, { on := 8, ground := Go.Ground.phase }, { on := 9, ground := Go.Ground.phase }, { on := 10, ground := Go.Ground.phase }, { on := 11, ground := Go.Ground.phase }], guard := none }) (v := ?vi13) rfl (by kernel_rfl) (by kernel_rfl) (by kernel_rfl) (by kernel_rfl) (by kernel_rfl) (fun _ _ _ h => h) (Or.inl ⟨by rfl, ?hyi13⟩) hHi12 ?resti13
    case hyi13 => (intro w hSw; obtain ⟨⟨a0, a1, a2, a3, a4, a5, a6, a7⟩, ⟨h0, h1, h2⟩⟩ := hSw; go_simp; try (with_reducible rfl))
    simp only [Act.put, List.setIfInBounds_toArray, List.set_cons_zero, List.set_cons_succ]
    refine late_one (i := 13) (by kernel_rfl) ?_
    refine late_write (o := { dst := none, op := Go.Op.store 24 (Go.Operand.tmp 105) (Go.Operand.tmp 104), type := 0, pos := "world.go:485", after := #[{ on := 12, ground := Go.Ground.data }, { on := 11, ground := Go.Ground.data }, { on := 11, ground := Go.Ground.chain }, { on := 0, ground := Go.Ground.phase }, { on := 1, ground := Go.Ground.phase }, { on := 2, ground := Go.Ground.phase }, { on := 3, ground := Go.Ground.phase }, { on := 4, ground := Go.Ground.phase }, { on := 5, ground := Go.Ground.phase }, { on := 6, ground := Go.Ground.phase }, { on := 7, ground := Go.Ground.phase }, { on := 8, ground := Go.Ground.phase }, { on := 9, ground := Go.Ground.phase }, { on := 10, ground := Go.Ground.phase }, { on := 11, ground := Go.Ground.phase }], guard := none }) rfl (by kernel_rfl) (fun K hK => ?_)
    have UU : Past c W1 V10 := (((Grew.refl W1).drew.past.trans Ua).trans Ub).trans Ud
    have J5 := J4.past UU hc (by omega) (by omega)
    have H5 := H4.past UU (by omega)
    have ⟨a0, a1, a2, a3, a4, a5, a6, a7⟩ := J5.b
    have y4 := J5.zb 4 none
    have y5 := J5.zb 5 none
    go_simp
    refine hK.out _ _ ?_
    clear hK K
    refine late_done (by kernel_rfl) ?_ _
    obtain ⟨W2, hW2⟩ : ∃ W2, W2 = (V10.setCell ⟨w.heap.size + 1, 4, none⟩ (.int .i64 O.1)).setCell ⟨w.heap.size + 1, 5, none⟩ (.int .i64 O.2.1) := ⟨_, rfl⟩
    rw [← hW2]
    have J : Jp c w W2 (w.heap.size + 1 + 1 + 1) (w.heap.size + 1 + 1 + 1 + 1) A2 (B1.pos O.1 O.2.1) := by rw [hW2]; exact J5.posB nr ns _ _
    have E : Err W2 c 0 O.2.2 := by rw [hW2]; exact Err.past (Err.past Ed (by omega) _ rfl) (by omega) _ rfl
    clear hW2 J4 H4 J5 H5 Ea Eb Ed Ua Ub Ud UU EN a0 a1 a2 a3 a4 a5 a6 a7 y4 y5 C13 C14 C15
    have HR : Hid (((A2, B1.pos O.1 O.2.1), O.2.2) = R) := HR1.out
    clear HR1
    generalize B1.pos O.1 O.2.1 = B2 at *
    generalize O.2.2 = kk at *
    obtain ⟨A3, hA3⟩ : ∃ A3, A2 = A3 := ⟨_, rfl⟩
    rw [hA3] at J HR
    have ⟨a0, a1, a2, a3, a4, a5, a6, a7⟩ := J.a
    have ⟨b0, b1, b2, b3, b4, b5, b6, b7⟩ := J.b
    have ⟨r0, r1, r2, r3, r4, r5, r6, r7⟩ := J.r
    have ⟨s0, s1, s2, s3, s4, s5, s6, s7⟩ := J.s
    have y0 := J.zr 0 none
    have y1 := J.zr 1 none
    have y2 := J.zr 2 none
    have y3 := J.zr 3 none
    have y4 := J.zr 4 none
    have y5 := J.zr 5 none
    have y6 := J.zr 6 none
    have y7 := J.zr 7 none
    have z0 := J.zs 0 none
    have z1 := J.zs 1 none
    have z2 := J.zs 2 none
    have z3 := J.zs 3 none
    have z4 := J.zs 4 none
    have z5 := J.zs 5 none
    have z6 := J.zs 6 none
    have z7 := J.zs 7 none
    have f0 := set_far (a := w.heap.size + 1 + 1 + 1) (c := w.heap.size) (by omega)
    have f1 := set_far (a := w.heap.size + 1 + 1 + 1) (c := w.heap.size + 1) (by omega)
    have f2 := set_far (a := w.heap.size + 1 + 1 + 1 + 1) (c := w.heap.size) (by omega)
    have f3 := set_far (a := w.heap.size + 1 + 1 + 1 + 1) (c := w.heap.size + 1) (by omega)
    have f4 := set_far (a := w.heap.size + 1 + 1 + 1) (c := w.heap.size + 1 + 1 + 1 + 1) (by omega)
    have f5 := set_far (a := w.heap.size + 1 + 1 + 1 + 1) (c := w.heap.size + 1 + 1 + 1) (by omega)
    have JH : Hid _ := J
    have EH : Hid _ := E
    clear J E
    go_wp2_with (fail)
    go_region_held2 (fun w' => w'.cell? ⟨w.heap.size, 0, none⟩ = some (.int .i64 A3.s) ∧ w'.cell? ⟨w.heap.size, 1, none⟩ = some (.int .i64 A3.a) ∧ w'.cell? ⟨w.heap.size, 2, none⟩ = some (.int .i64 A3.b) ∧ w'.cell? ⟨w.heap.size, 3, none⟩ = some (.int .i64 A3.m) ∧ w'.cell? ⟨w.heap.size, 4, none⟩ = some (.int .i64 A3.p) ∧ w'.cell? ⟨w.heap.size, 5, none⟩ = some (.int .i64 A3.q) ∧ w'.cell? ⟨w.heap.size, 6, none⟩ = some (.int .i64 A3.u) ∧ w'.cell? ⟨w.heap.size, 7, none⟩ = some (.int .i64 A3.v) ∧ w'.cell? ⟨w.heap.size + 1, 0, none⟩ = some (.int .i64 B2.s) ∧ w'.cell? ⟨w.heap.size + 1, 1, none⟩ = some (.int .i64 B2.a) ∧ w'.cell? ⟨w.heap.size + 1, 2, none⟩ = some (.int .i64 B2.b) ∧ w'.cell? ⟨w.heap.size + 1, 3, none⟩ = some (.int .i64 B2.m) ∧ w'.cell? ⟨w.heap.size + 1, 4, none⟩ = some (.int .i64 B2.p) ∧ w'.cell? ⟨w.heap.size + 1, 5, none⟩ = some (.int .i64 B2.q) ∧ w'.cell? ⟨w.heap.size + 1, 6, none⟩ = some (.int .i64 B2.u) ∧ w'.cell? ⟨w.heap.size + 1, 7, none⟩ = some (.int .i64 B2.v)) (go_keep) (fail)
    rename_i hH; clear hH
    go_wp2
    simp [bodyPost, results, Try.results16, go_sem, r0, r1, r2, r3, r4, r5, r6, r7, s0, s1, s2, s3, s4, s5, s6, s7, f4, f5]
    exact ⟨by rw [← HR.out]; rfl, by rw [← HR.out]; exact drew_err (lay_err (lay_err EH.out (by omega) A3) (by omega) B2), drew_past (lay_past (lay_past JH.out.p (by omega) A3) (by omega) B2)⟩
end Go.Proofs.Ytcancbgaejekiaa
