/-
  The document's own Apply (maquetteref1's Calc) with whatever error so far: what it answers, and the error behind it.
-/
import Derived.Test.YtcancbgaejekiaaJRef1
import Derived.Test.YtcancbgaejekiaaJCalls
namespace Go.Proofs.Ytcancbgaejekiaa
open Go.RowKit

/-- How a call ends that answers two bodies. -/
def retP (t : (Bd × Bd) × Int) : Ending := .returned (.tuple #[t.1.1.val, t.1.2.val])
def lessK (k : Int) (A : Bd) (x y : Int) : Bd × Int := if A.m = 0 then (A, k) else (A.mom (pairK k (subR A.u x) (subR A.v y)).1 (pairK k (subR A.u x) (subR A.v y)).2.1, (pairK k (subR A.u x) (subR A.v y)).2.2)
def plusK (k : Int) (A : Bd) (x y : Int) : Bd × Int := if A.m = 0 then (A, k) else (A.mom (pairK k (addR A.u x) (addR A.v y)).1 (pairK k (addR A.u x) (addR A.v y)).2.1, (pairK k (addR A.u x) (addR A.v y)).2.2)
def applyK (k : Int) (A B : Bd) (x y : Int) : (Bd × Bd) × Int := (((lessK k A x y).1, (plusK (lessK k A x y).2 B x y).1), (plusK (lessK k A x y).2 B x y).2)
theorem lessK_0 {k : Int} {A : Bd} {x y : Int} (h : A.m = 0) : lessK k A x y = (A, k) := if_pos h
theorem lessK_m {k : Int} {A : Bd} {x y : Int} (h : ¬ A.m = 0) : lessK k A x y = (A.mom (pairK k (subR A.u x) (subR A.v y)).1 (pairK k (subR A.u x) (subR A.v y)).2.1, (pairK k (subR A.u x) (subR A.v y)).2.2) := if_neg h
theorem plusK_0 {k : Int} {A : Bd} {x y : Int} (h : A.m = 0) : plusK k A x y = (A, k) := if_pos h
theorem plusK_m {k : Int} {A : Bd} {x y : Int} (h : ¬ A.m = 0) : plusK k A x y = (A.mom (pairK k (addR A.u x) (addR A.v y)).1 (pairK k (addR A.u x) (addR A.v y)).2.1, (pairK k (addR A.u x) (addR A.v y)).2.2) := if_neg h

/-- Where a function of two bodies has them, and lays its two answers; block c may have been written. -/
structure Jp (c : Nat) (w V : World) (rr ss : Nat) (A B : Bd) : Prop where
  p : Past c w V
  a : BAt V w.heap.size A
  b : BAt V (w.heap.size + 1) B
  r : BAt V rr noB
  s : BAt V ss noB
  za : Free V w.heap.size
  zb : Free V (w.heap.size + 1)
  zr : Free V rr
  zs : Free V ss
theorem BAt.past {V V' : World} {c b : Nat} {A : Bd} (h : BAt V b A) (U : Past c V V') (hc : b ≠ c) : BAt V' b A := h.heap (U.block _ h.size hc)
theorem At.pst {V V' : World} {c b : Nat} {x y : Int} (h : At V b x y) (U : Past c V V') (hc : b ≠ c) : At V' b x y := h.heap (U.block _ h.size hc)
theorem Free.past {V V' : World} {c b : Nat} {A : Bd} (h : Free V b) (k : BAt V b A) (U : Past c V V') (hc : b ≠ c) : Free V' b := fun o s => U.frozen (p := ⟨b, o, s⟩) k.size hc (h o s)
theorem Jp.past {c : Nat} {w V V' : World} {r s : Nat} {A B : Bd} (h : Jp c w V r s A B) (U : Past c V V') (hc : c < w.heap.size) (hr : w.heap.size ≤ r) (hs : w.heap.size ≤ s) : Jp c w V' r s A B :=
  ⟨h.p.trans U, h.a.past U (by omega), h.b.past U (by omega), h.r.past U (by omega), h.s.past U (by omega), h.za.past h.a U (by omega), h.zb.past h.b U (by omega), h.zr.past h.r U (by omega), h.zs.past h.s U (by omega)⟩
theorem Free.to {V : World} {b d o : Nat} {v : Value} (h : Free V b) : Free (V.setCell ⟨d, o, none⟩ v) b := fun o' s => by rw [World.frozen?_setCell]; exact h o' s
theorem Jp.momA {c : Nat} {w V : World} {r s : Nat} {A B : Bd} (h : Jp c w V r s A B) (hr : w.heap.size + 1 < r) (hs : w.heap.size + 1 < s) (p q : Int) : Jp c w ((V.setCell ⟨w.heap.size, 6, none⟩ (.int .i64 p)).setCell ⟨w.heap.size, 7, none⟩ (.int .i64 q)) r s (A.mom p q) B :=
  ⟨(h.p.setNew (by omega) _ _ _).setNew (by omega) _ _ _, h.a.mom p q, h.b.far (by omega) _ _ _ _, h.r.far (by omega) _ _ _ _, h.s.far (by omega) _ _ _ _, h.za.to.to, h.zb.to.to, h.zr.to.to, h.zs.to.to⟩
theorem Jp.momB {c : Nat} {w V : World} {r s : Nat} {A B : Bd} (h : Jp c w V r s A B) (hr : w.heap.size + 1 < r) (hs : w.heap.size + 1 < s) (p q : Int) : Jp c w ((V.setCell ⟨w.heap.size + 1, 6, none⟩ (.int .i64 p)).setCell ⟨w.heap.size + 1, 7, none⟩ (.int .i64 q)) r s A (B.mom p q) :=
  ⟨(h.p.setNew (by omega) _ _ _).setNew (by omega) _ _ _, h.a.far (by omega) _ _ _ _, h.b.mom p q, h.r.far (by omega) _ _ _ _, h.s.far (by omega) _ _ _ _, h.za.to.to, h.zb.to.to, h.zr.to.to, h.zs.to.to⟩
theorem Jp.posA {c : Nat} {w V : World} {r s : Nat} {A B : Bd} (h : Jp c w V r s A B) (hr : w.heap.size + 1 < r) (hs : w.heap.size + 1 < s) (p q : Int) : Jp c w ((V.setCell ⟨w.heap.size, 4, none⟩ (.int .i64 p)).setCell ⟨w.heap.size, 5, none⟩ (.int .i64 q)) r s (A.pos p q) B :=
  ⟨(h.p.setNew (by omega) _ _ _).setNew (by omega) _ _ _, h.a.pos p q, h.b.far (by omega) _ _ _ _, h.r.far (by omega) _ _ _ _, h.s.far (by omega) _ _ _ _, h.za.to.to, h.zb.to.to, h.zr.to.to, h.zs.to.to⟩
theorem Jp.posB {c : Nat} {w V : World} {r s : Nat} {A B : Bd} (h : Jp c w V r s A B) (hr : w.heap.size + 1 < r) (hs : w.heap.size + 1 < s) (p q : Int) : Jp c w ((V.setCell ⟨w.heap.size + 1, 4, none⟩ (.int .i64 p)).setCell ⟨w.heap.size + 1, 5, none⟩ (.int .i64 q)) r s A (B.pos p q) :=
  ⟨(h.p.setNew (by omega) _ _ _).setNew (by omega) _ _ _, h.a.far (by omega) _ _ _ _, h.b.pos p q, h.r.far (by omega) _ _ _ _, h.s.far (by omega) _ _ _ _, h.za.to.to, h.zb.to.to, h.zr.to.to, h.zs.to.to⟩
theorem lay_past {c : Nat} {w V : World} (g : Past c w V) {b : Nat} (hb : w.heap.size ≤ b) (B : Bd) : Past c w (lay V b B) := by
  unfold lay
  exact (((((((g.setNew hb _ _ _).setNew hb _ _ _).setNew hb _ _ _).setNew hb _ _ _).setNew hb _ _ _).setNew hb _ _ _).setNew hb _ _ _).setNew hb _ _ _
theorem lay_err {c b : Nat} {k : Int} {V : World} (h : Err V c 0 k) (hb : c ≠ b) (B : Bd) : Err (lay V b B) c 0 k := by
  unfold lay
  exact Err.past (Err.past (Err.past (Err.past (Err.past (Err.past (Err.past (Err.past h hb _ rfl) hb _ rfl) hb _ rfl) hb _ rfl) hb _ rfl) hb _ rfl) hb _ rfl) hb _ rfl
theorem drew_err {c : Nat} {k : Int} {V : World} (h : Err V c 0 k) : Err V.drew c 0 k := h.grew (Grew.refl V).drew
theorem drew_past {c : Nat} {w V : World} (h : Past c w V) : Past c w V.drew := h.trans (Grew.refl V).drew.past
theorem Free.lay {V : World} {b d : Nat} (h : Free V b) (B : Bd) : Free (lay V d B) b := by
  unfold Go.Proofs.Ytcancbgaejekiaa.lay
  exact h.to.to.to.to.to.to.to.to
theorem Jp.lay2 {c : Nat} {w V : World} {r s : Nat} {A B A' B' : Bd} (h : Jp c w V r s A B) (hr : w.heap.size + 1 < r) (hs : w.heap.size + 1 < s) : Jp c w (lay (lay V w.heap.size A') (w.heap.size + 1) B') r s A' B' :=
  ⟨lay_past (lay_past h.p (by omega) A') (by omega) B', lay_far (lay_at h.a A') (by omega) B', lay_at (lay_far h.b (by omega) A') B', lay_far (lay_far h.r (by omega) _) (by omega) _, lay_far (lay_far h.s (by omega) _) (by omega) _, (h.za.lay _).lay _, (h.zb.lay _).lay _, (h.zr.lay _).lay _, (h.zs.lay _).lay _⟩
theorem jp_start (c : Nat) (w : World) (A B : Bd) (x y : Int) (V : World) (hV : V = (((((w.alloc (.cells #[.int .i64 A.s, .int .i64 A.a, .int .i64 A.b, .int .i64 A.m, .int .i64 A.p, .int .i64 A.q, .int .i64 A.u, .int .i64 A.v] 26)).alloc (.cells #[.int .i64 B.s, .int .i64 B.a, .int .i64 B.b, .int .i64 B.m, .int .i64 B.p, .int .i64 B.q, .int .i64 B.u, .int .i64 B.v] 26)).alloc (.cells #[.int .i64 x, .int .i64 y] 24)).alloc (.cells #[.int .i64 0, .int .i64 0, .int .i64 0, .int .i64 0, .int .i64 0, .int .i64 0, .int .i64 0, .int .i64 0] 26)).alloc (.cells #[.int .i64 0, .int .i64 0, .int .i64 0, .int .i64 0, .int .i64 0, .int .i64 0, .int .i64 0, .int .i64 0] 26))) : Jp c w V (w.heap.size + 1 + 1 + 1) (w.heap.size + 1 + 1 + 1 + 1) A B ∧ At V (w.heap.size + 1 + 1) x y ∧ Grew w V := by
  obtain ⟨J, T⟩ := jm_start w A B x y V hV
  exact ⟨⟨J.g.past, J.a, J.b, J.r, J.s, J.g.freeB (by omega), J.g.freeB (by omega), J.g.freeB (by omega), J.g.freeB (by omega)⟩, T, J.g⟩

set_option maxHeartbeats 8000000 in
theorem rapply_u (c : Nat) (k : Int) (A B : Bd) (x y : Int) (hA : A.ok) (hB : B.ok) (hx : inF x) (hy : inF y) (w : World) (h : Err w c 0 k) :
    Calls Try.prog 15 #[.pointer (some ⟨c, 0, none⟩), A.val, B.val, .agg #[.int .i64 x, .int .i64 y]] w fun e w' => e = retP (applyK k A B x y) ∧ Err w' c 0 (applyK k A B x y).2 ∧ Past c w w' := by
  have hc : c < w.heap.size := cell_block h.1
  have js := jp_start c w A B x y
  have nr : w.heap.size + 1 < w.heap.size + 1 + 1 + 1 := by omega
  have ns : w.heap.size + 1 < w.heap.size + 1 + 1 + 1 + 1 := by omega
  have c1 : Hid (∀ W, Err W c 0 k → _) := fun W => rless_u c k A.u A.v x y W hA.u hA.v hx hy
  have c2 : ∀ k' W, Err W c 0 k' → _ := fun k' W => rplus_u c k' B.u B.v x y W hB.u hB.v hx hy
  have l0 := @lessK_0 k A x y
  have l1 := @lessK_m k A x y
  generalize pairK k (subR A.u x) (subR A.v y) = Q at *
  have p0 := fun k' => @plusK_0 k' B x y
  have p1 := fun k' => @plusK_m k' B x y
  unfold applyK
  generalize lessK k A x y = L at *
  have p0 := p0 L.2
  have p1 := p1 L.2
  have C2 : Hid (∀ W, Err W c 0 L.2 → _) := c2 L.2
  clear c2
  generalize pairK L.2 (addR B.u x) (addR B.v y) = S at *
  generalize plusK L.2 B x y = M at *
  obtain ⟨R, hR⟩ : ∃ R : (Bd × Bd) × Int, ((L.1, M.1), M.2) = R := ⟨_, rfl⟩
  rw [hR]
  have HR0 : Hid (_ = _) := hR
  clear hR
  unfold vec at c1 C2
  have JS : Hid _ := js
  have L0 : Hid _ := l0
  have L1 : Hid _ := l1
  have P0 : Hid _ := p0
  have P1 : Hid _ := p1
  have EH : Hid (Err w c 0 k) := h
  clear hA hB hx hy js l0 l1 p0 p1 h
  unfold Bd.val
  go_enter Try.func15, Try.ntmps15
  go_upto_if 12 with (fail)
  obtain ⟨V, hV⟩ : ∃ V, V = (((((w.alloc (.cells #[.int .i64 A.s, .int .i64 A.a, .int .i64 A.b, .int .i64 A.m, .int .i64 A.p, .int .i64 A.q, .int .i64 A.u, .int .i64 A.v] 26)).alloc (.cells #[.int .i64 B.s, .int .i64 B.a, .int .i64 B.b, .int .i64 B.m, .int .i64 B.p, .int .i64 B.q, .int .i64 B.u, .int .i64 B.v] 26)).alloc (.cells #[.int .i64 x, .int .i64 y] 24)).alloc (.cells #[.int .i64 0, .int .i64 0, .int .i64 0, .int .i64 0, .int .i64 0, .int .i64 0, .int .i64 0, .int .i64 0] 26)).alloc (.cells #[.int .i64 0, .int .i64 0, .int .i64 0, .int .i64 0, .int .i64 0, .int .i64 0, .int .i64 0, .int .i64 0] 26)) := ⟨_, rfl⟩
  rw [← hV]
  obtain ⟨J, T, gV⟩ := JS.out V hV
  have E := EH.out.grew gV
  clear hV JS EH gV
  go_cut [] from 10 to 29 (fun wx => Err wx c 0 L.2 ∧ Jp c w wx (w.heap.size + 1 + 1 + 1) (w.heap.size + 1 + 1 + 1 + 1) L.1 B ∧ At wx (w.heap.size + 1 + 1) x y)
  case first =>
    by_cases ha : A.m = 0
    · have hm : (A.m != 0) = false := by simpa using ha
      have LH : Hid _ := L0.out ha
      have JH : Hid _ := J
      have TH : Hid _ := T
      have HE : Hid _ := E
      clear J T E c1 C2 L0 L1 P0 P1
      go_wp2
      go_meet
      case rel => exact ⟨by rw [LH.out]; exact HE.out, by rw [LH.out]; exact JH.out, TH.out⟩
    · have hm : (A.m != 0) = true := by simpa using ha
      have ⟨a0, a1, a2, a3, a4, a5, a6, a7⟩ := J.a
      have ⟨t0, t1⟩ := T
      have LH : Hid _ := L1.out ha
      have JH : Hid _ := J
      have TH : Hid _ := T
      have HE : Hid _ := E
      clear J T E C2 L0 L1 P0 P1
      go_wp2_with (first
        | (go_at_call 40; go_fit (c1.out _ HE.out); rintro e V1 ⟨rfl, E1, U1⟩; have J1 : Hid _ := JH.out.past U1 hc (by omega) (by omega); have ⟨b0, b1, b2, b3, b4, b5, b6, b7⟩ := J1.out.a; have z6 := J1.out.za 6 none; have z7 := J1.out.za 7 none; have HE1 : Hid _ := E1; clear E1))
      go_meet
      case rel => exact ⟨by rw [LH.out]; exact Err.past (Err.past HE1.out (by omega) _ rfl) (by omega) _ rfl, by rw [LH.out]; exact J1.out.momA nr ns _ _, (At.pst TH.out U1 (by omega)).far (by omega) _ _ _ _⟩
  case rest =>
    obtain ⟨E', J', T'⟩ := hcut
    clear J T E
    have J := J'
    have T := T'
    have E := E'
    clear J' T' E' V L0 L1 c1
    have b3 := J.b.c3
    go_upto_if 21 with (fail)
    go_cut [] from 10 to 29 (fun wx => Err wx c 0 M.2 ∧ Jp c w wx (w.heap.size + 1 + 1 + 1) (w.heap.size + 1 + 1 + 1 + 1) L.1 M.1)
    case first =>
      by_cases ha : B.m = 0
      · have hm : (B.m != 0) = false := by simpa using ha
        have LH : Hid _ := P0.out ha
        have JH : Hid _ := J
        have HE : Hid _ := E
        clear J T E C2 P0 P1
        go_wp2
        go_meet
        case rel => exact ⟨by rw [LH.out]; exact HE.out, by rw [LH.out]; exact JH.out⟩
      · have hm : (B.m != 0) = true := by simpa using ha
        have ⟨a0, a1, a2, a3, a4, a5, a6, a7⟩ := J.b
        have ⟨t0, t1⟩ := T
        have LH : Hid _ := P1.out ha
        have JH : Hid _ := J
        have HE : Hid _ := E
        clear J T E P0 P1
        go_wp2_with (first
          | (go_at_call 41; go_fit (C2.out _ HE.out); rintro e V1 ⟨rfl, E1, U1⟩; have J1 : Hid _ := JH.out.past U1 hc (by omega) (by omega); have ⟨b0, b1, b2, b3, b4, b5, b6, b7⟩ := J1.out.b; have z6 := J1.out.zb 6 none; have z7 := J1.out.zb 7 none; have HE1 : Hid _ := E1; clear E1))
        go_meet
        case rel => exact ⟨by rw [LH.out]; exact Err.past (Err.past HE1.out (by omega) _ rfl) (by omega) _ rfl, by rw [LH.out]; exact J1.out.momB nr ns _ _⟩
    case rest =>
      obtain ⟨E', J'⟩ := hcut
      clear J T E b3
      have J := J'
      have E := E'
      clear J' E' P0 P1 C2
      have HR : Hid (((L.1, M.1), M.2) = R) := HR0.out
      clear HR0
      generalize L.1 = A1 at *
      generalize M.1 = B1 at *
      generalize M.2 = kk at *
      have ⟨a0, a1, a2, a3, a4, a5, a6, a7⟩ := J.a
      have ⟨b0, b1, b2, b3, b4, b5, b6, b7⟩ := J.b
      have ⟨r0, r1, r2, r3, r4, r5, r6, r7⟩ := J.r
      have ⟨s0, s1, s2, s3, s4, s5, s6, s7⟩ := J.s
      have y0 := J.zr 0 none
      have y1 := J.zr 1 none
      have y2 := J.zr 2 none
      have y3 := J.zr 3 none
      have y4 := J.zr 4 none
      have y5 := J.zr 5 none
      have y6 := J.zr 6 none
      have y7 := J.zr 7 none
      have z0 := J.zs 0 none
      have z1 := J.zs 1 none
      have z2 := J.zs 2 none
      have z3 := J.zs 3 none
      have z4 := J.zs 4 none
      have z5 := J.zs 5 none
      have z6 := J.zs 6 none
      have z7 := J.zs 7 none
      have f0 := set_far (a := w.heap.size + 1 + 1 + 1) (c := w.heap.size) (by omega)
      have f1 := set_far (a := w.heap.size + 1 + 1 + 1) (c := w.heap.size + 1) (by omega)
      have f2 := set_far (a := w.heap.size + 1 + 1 + 1 + 1) (c := w.heap.size) (by omega)
      have f3 := set_far (a := w.heap.size + 1 + 1 + 1 + 1) (c := w.heap.size + 1) (by omega)
      have f4 := set_far (a := w.heap.size + 1 + 1 + 1) (c := w.heap.size + 1 + 1 + 1 + 1) (by omega)
      have f5 := set_far (a := w.heap.size + 1 + 1 + 1 + 1) (c := w.heap.size + 1 + 1 + 1) (by omega)
      have JH : Hid _ := J
      have EH : Hid _ := E
      clear J E
      go_wp2_with (fail)
      go_region_held2 (fun w' => w'.cell? ⟨w.heap.size, 0, none⟩ = some (.int .i64 A1.s) ∧ w'.cell? ⟨w.heap.size, 1, none⟩ = some (.int .i64 A1.a) ∧ w'.cell? ⟨w.heap.size, 2, none⟩ = some (.int .i64 A1.b) ∧ w'.cell? ⟨w.heap.size, 3, none⟩ = some (.int .i64 A1.m) ∧ w'.cell? ⟨w.heap.size, 4, none⟩ = some (.int .i64 A1.p) ∧ w'.cell? ⟨w.heap.size, 5, none⟩ = some (.int .i64 A1.q) ∧ w'.cell? ⟨w.heap.size, 6, none⟩ = some (.int .i64 A1.u) ∧ w'.cell? ⟨w.heap.size, 7, none⟩ = some (.int .i64 A1.v) ∧ w'.cell? ⟨w.heap.size + 1, 0, none⟩ = some (.int .i64 B1.s) ∧ w'.cell? ⟨w.heap.size + 1, 1, none⟩ = some (.int .i64 B1.a) ∧ w'.cell? ⟨w.heap.size + 1, 2, none⟩ = some (.int .i64 B1.b) ∧ w'.cell? ⟨w.heap.size + 1, 3, none⟩ = some (.int .i64 B1.m) ∧ w'.cell? ⟨w.heap.size + 1, 4, none⟩ = some (.int .i64 B1.p) ∧ w'.cell? ⟨w.heap.size + 1, 5, none⟩ = some (.int .i64 B1.q) ∧ w'.cell? ⟨w.heap.size + 1, 6, none⟩ = some (.int .i64 B1.u) ∧ w'.cell? ⟨w.heap.size + 1, 7, none⟩ = some (.int .i64 B1.v)) (go_keep) (fail)
      rename_i hH; clear hH
      go_wp2
      simp [bodyPost, results, Try.results15, go_sem, r0, r1, r2, r3, r4, r5, r6, r7, s0, s1, s2, s3, s4, s5, s6, s7, f4, f5]
      exact ⟨by rw [← HR.out]; rfl, by rw [← HR.out]; exact drew_err (lay_err (lay_err EH.out (by omega) A1) (by omega) B1), drew_past (lay_past (lay_past JH.out.p (by omega) A1) (by omega) B1)⟩
end Go.Proofs.Ytcancbgaejekiaa
