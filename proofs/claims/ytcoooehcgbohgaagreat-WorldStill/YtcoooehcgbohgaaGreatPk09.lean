/-
  Contacts in memory; what a closure that asks one leaves; whether two contacts are the same. What push.Contact does: what the plain function says, or a panic of a Fault; more blocks are in memory, and nothing else.
-/
import Derived.Test.YtcoooehcgbohgaaGreatPk03
import Derived.Test.YtcoooehcgbohgaaGreatPk07
namespace Go.Proofs.YtcoooehcgbohgaaGreat
open Go.RowKit

/-- A contact that lies in memory. -/
structure HAt (w : World) (b : Nat) (h : Ht) : Prop where
  c0 : w.cell? ⟨b, 0, none⟩ = some (.int .i64 h.x)
  c1 : w.cell? ⟨b, 1, none⟩ = some (.int .i64 h.y)
  c2 : w.cell? ⟨b, 2, none⟩ = some (.int .i64 h.d)
theorem HAt.heap {w W : World} {b : Nat} {h : Ht} (k : HAt w b h) (g : W.heap[b]? = w.heap[b]?) : HAt W b h := by
  have e : ∀ o s, W.cell? ⟨b, o, s⟩ = w.cell? ⟨b, o, s⟩ := fun o s => cell_of_heap g
  exact ⟨(e _ _).trans k.c0, (e _ _).trans k.c1, (e _ _).trans k.c2⟩
theorem HAt.size {w : World} {b : Nat} {h : Ht} (k : HAt w b h) : b < w.heap.size := cell_block k.c0
theorem HAt.grew {w W : World} {b : Nat} {h : Ht} (k : HAt w b h) (g : Grew w W) : HAt W b h := k.heap (g.heap k.size)
theorem HAt.wrote {S : Nat → Prop} {w W : World} {b : Nat} {h : Ht} (k : HAt w b h) (g : Wrote S w W) (hb : ¬ S b) : HAt W b h := k.heap (g.block b k.size hb)
theorem hat_set (V : World) (a : Nat) (h g : Ht) (k : HAt V a h) : HAt (((V.setCell ⟨a, 0, none⟩ (.int .i64 g.x)).setCell ⟨a, 1, none⟩ (.int .i64 g.y)).setCell ⟨a, 2, none⟩ (.int .i64 g.d)) a g := by
  obtain ⟨h0, h1, h2⟩ := k
  constructor <;> simp [go_sem, h0, h1, h2]
theorem Grew.set3 {W V : World} (U : Grew W V) (S : Nat) (p q r : Value) : Wrote (fun n => n = S) W (((V.setCell ⟨S, 0, none⟩ p).setCell ⟨S, 1, none⟩ q).setCell ⟨S, 2, none⟩ r) :=
  ((U.wrote.set (S := fun n => n = S) rfl _ _ _).set (S := fun n => n = S) rfl _ _ _).set (S := fun n => n = S) rfl _ _ _
/-- A contact and a Boolean, laid into two variables. -/
theorem hit_laid (V : World) (c d : Nat) (hcd : c ≠ d) (h g : Ht) (z : Value) (t : Bool) (k : HAt V c h) (hb : V.cell? ⟨d, 0, none⟩ = some z) :
    HAt ((((V.setCell ⟨c, 0, none⟩ (.int .i64 g.x)).setCell ⟨c, 1, none⟩ (.int .i64 g.y)).setCell ⟨c, 2, none⟩ (.int .i64 g.d)).setCell ⟨d, 0, none⟩ (.bool t)) c g ∧ ((((V.setCell ⟨c, 0, none⟩ (.int .i64 g.x)).setCell ⟨c, 1, none⟩ (.int .i64 g.y)).setCell ⟨c, 2, none⟩ (.int .i64 g.d)).setCell ⟨d, 0, none⟩ (.bool t)).cell? ⟨d, 0, none⟩ = some (.bool t) := by
  have A := hat_set V c h g k
  have K := (Grew.refl V).set3 c (.int .i64 g.x) (.int .i64 g.y) (.int .i64 g.d)
  have B := K.cell hb (fun e => hcd e.symm)
  generalize ((V.setCell ⟨c, 0, none⟩ (.int .i64 g.x)).setCell ⟨c, 1, none⟩ (.int .i64 g.y)).setCell ⟨c, 2, none⟩ (.int .i64 g.d) = M at *
  have P := past_setCell d M 0 none (.bool t)
  exact ⟨⟨P.cell hcd A.c0, P.cell hcd A.c1, P.cell hcd A.c2⟩, World.cell?_setCell_same _ _ _ B⟩
theorem wrote_hit {S : Nat → Prop} {W V : World} (U : Wrote S W V) {c d : Nat} (hc : S c) (hd : S d) (p q r t : Value) :
    Wrote S W ((((V.setCell ⟨c, 0, none⟩ p).setCell ⟨c, 1, none⟩ q).setCell ⟨c, 2, none⟩ r).setCell ⟨d, 0, none⟩ t) := (((U.set hc _ _ _).set hc _ _ _).set hc _ _ _).set hd _ _ _
/-- What a closure that asks a contact leaves: the error, and the contact where there is none. -/
def LeftH (c d : Nat) (t : (Ht × Bool) × Int) (k : Int) (W : World) : Prop := k = t.2 ∧ (k = 0 → HAt W c t.1.1 ∧ W.cell? ⟨d, 0, none⟩ = some (.bool t.1.2))
theorem LeftH.keep {c d n : Nat} {t : (Ht × Bool) × Int} (hc : c < n) (hd : d < n) : ∀ k W W', (∀ i, i < n → W'.heap[i]? = W.heap[i]?) → LeftH c d t k W → LeftH c d t k W' :=
  fun _ _ _ hh h => ⟨h.1, fun hk => ⟨(h.2 hk).1.heap (hh c hc), by rw [cell_of_heap (hh d hd)]; exact (h.2 hk).2⟩⟩

theorem eq_hit (a b c p q r : Int) (w : World) : (binOp .eql 34 (.agg #[.int .i64 a, .int .i64 b, .int .i64 c]) (.agg #[.int .i64 p, .int .i64 q, .int .i64 r])).run Tryz.prog w = .ok (.bool ((a == p && b == q) && c == r)) w := by
  have hu := run_underlying Tryz.underlying34 w
  have hd : ∀ t x y, Op.equal t x y = Op.equalIn (9997 + 1 + 1 + 1) t x y := fun _ _ _ => rfl
  simp only [binOp, hd]
  rw [Op.equalIn]
  simp [go_sem, hu]
  by_cases h1 : a = p <;> by_cases h2 : b = q <;> by_cases h3 : c = r <;> simp [h1, h2, h3]
theorem ne_hit (a b c p q r : Int) (w : World) : (binOp .neq 34 (.agg #[.int .i64 a, .int .i64 b, .int .i64 c]) (.agg #[.int .i64 p, .int .i64 q, .int .i64 r])).run Tryz.prog w = .ok (.bool (!((a == p && b == q) && c == r))) w := by
  have hu := run_underlying Tryz.underlying34 w
  have hd : ∀ t x y, Op.equal t x y = Op.equalIn (9997 + 1 + 1 + 1) t x y := fun _ _ _ => rfl
  simp only [binOp, hd]
  rw [Op.equalIn]
  simp [go_sem, hu]
  by_cases h1 : a = p <;> by_cases h2 : b = q <;> by_cases h3 : c = r <;> simp [h1, h2, h3]
theorem same_hit (a b c : Int) (w : World) : (binOp .eql 34 (.agg #[.int .i64 a, .int .i64 b, .int .i64 c]) (.agg #[.int .i64 a, .int .i64 b, .int .i64 c])).run Tryz.prog w = .ok (.bool true) w := by rw [eq_hit]; simp
theorem ne_same_hit (a b c : Int) (w : World) : (binOp .neq 34 (.agg #[.int .i64 a, .int .i64 b, .int .i64 c]) (.agg #[.int .i64 a, .int .i64 b, .int .i64 c])).run Tryz.prog w = .ok (.bool false) w := by rw [ne_hit]; simp

end Go.Proofs.YtcoooehcgbohgaaGreat

namespace Go.Proofs.YtcoooehcgbohgaaGreat
open Go.RowKit

theorem jh_start (w : World) (A B : Bd) (h : Ht) (V : World) (hV : V = (((((w.alloc (.cells #[.int .i64 A.s, .int .i64 A.a, .int .i64 A.b, .int .i64 A.m, .int .i64 A.p, .int .i64 A.q, .int .i64 A.u, .int .i64 A.v] 28)).alloc (.cells #[.int .i64 B.s, .int .i64 B.a, .int .i64 B.b, .int .i64 B.m, .int .i64 B.p, .int .i64 B.q, .int .i64 B.u, .int .i64 B.v] 28)).alloc (.cells #[.int .i64 h.x, .int .i64 h.y, .int .i64 h.d] 34)).alloc (.cells #[.int .i64 0, .int .i64 0, .int .i64 0, .int .i64 0, .int .i64 0, .int .i64 0, .int .i64 0, .int .i64 0] 28)).alloc (.cells #[.int .i64 0, .int .i64 0, .int .i64 0, .int .i64 0, .int .i64 0, .int .i64 0, .int .i64 0, .int .i64 0] 28))) : Jm w V (w.heap.size + 1 + 1 + 1) (w.heap.size + 1 + 1 + 1 + 1) A B ∧ HAt V (w.heap.size + 1 + 1) h := by
  refine ⟨⟨?_, ?_, ?_, ?_, ?_⟩, ?_⟩
  · rw [hV]; exact ((((((Grew.refl w).alloc _ _).alloc _ _).alloc _ _).alloc _ _).alloc _ _)
  all_goals (rw [hV]; constructor <;> simp [go_sem, noB])
theorem HAt.far {V : World} {b c : Nat} {h : Ht} (k : HAt V c h) (hc : c ≠ b) (o o' : Nat) (u v : Value) : HAt ((V.setCell ⟨b, o, none⟩ u).setCell ⟨b, o', none⟩ v) c h := by
  have e := fun V o o' v => set_far (a := b) (c := c) hc V o o' v
  obtain ⟨h0, h1, h2⟩ := k
  constructor <;> simp only [e] <;> assumption
theorem HAt.lay {V : World} {b c : Nat} {h : Ht} (k : HAt V c h) (hc : c ≠ b) (B : Bd) : HAt (lay V b B) c h := by
  have e := fun V o o' v => set_far (a := b) (c := c) hc V o o' v
  obtain ⟨h0, h1, h2⟩ := k
  unfold Go.Proofs.YtcoooehcgbohgaaGreat.lay
  constructor <;> simp only [e] <;> assumption
theorem Jm.lay2 {w V : World} {r s : Nat} {A B A' B' : Bd} (h : Jm w V r s A B) (hr : w.heap.size + 1 < r) (hs : w.heap.size + 1 < s) : Jm w (lay (lay V w.heap.size A') (w.heap.size + 1) B') r s A' B' :=
  ⟨lay_grew (lay_grew h.g (by omega) A') (by omega) B', lay_far (lay_at h.a A') (by omega) B', lay_at (lay_far h.b (by omega) A') B', lay_far (lay_far h.r (by omega) _) (by omega) _, lay_far (lay_far h.s (by omega) _) (by omega) _⟩

set_option maxHeartbeats 16000000 in
theorem contact_any (A B : Bd) (h : Ht) (hA : A.ok) (hB : B.ok) (hh : h.ok) (w : World) :
    Calls Tryz.prog 62 #[A.val, B.val, .agg #[.int .i64 h.x, .int .i64 h.y, .int .i64 h.d]] w fun e w' => e = outP (contactR A B h) ∧ Grew w w' := by
  have js := jh_start w A B h
  have nr : w.heap.size + 1 < w.heap.size + 1 + 1 + 1 := by omega
  have ns : w.heap.size + 1 < w.heap.size + 1 + 1 + 1 + 1 := by omega
  obtain ⟨R, hR⟩ : ∃ R, contactR A B h = R := ⟨_, rfl⟩
  rw [hR]
  unfold contactR at hR
  have ck := fun W => plight_any A B hA hB W
  have ik := kR_in A B
  generalize kR A B = K at *
  obtain ⟨k, kk⟩ := K
  simp only at hR ik
  by_cases hk : kk = 0
  rotate_left
  · have CK : Hid (∀ W, Calls Tryz.prog 75 #[A.val, B.val] W fun e w' => e = .panicked [fault kk] ∧ Grew W w') := fun W => by have := ck W; rw [outR_bad hk] at this; exact this
    have HR : Hid (_ = _) := hR
    have JS : Hid _ := js
    unfold Bd.val at CK ⊢
    clear ck hR js ik
    go_enter Tryz.func62, Tryz.ntmps62
    go_wp2_with (first
      | (go_at_call 75; go_fit (CK.out _); rintro e V1 ⟨rfl, U1⟩))
    exact ⟨rfl, by rw [← HR.out]; exact (outP_no hk _).symm, (JS.out _ rfl).1.g.trans U1⟩
  subst hk
  rw [ifP_ok rfl] at hR
  have CK : Hid (∀ W, Calls Tryz.prog 75 #[A.val, B.val] W fun e w' => e = .returned (.int .i64 k) ∧ Grew W w') := fun W => by have := ck W; rw [outR_ok] at this; exact this
  clear ck
  by_cases hz : k = 0
  · rw [if_pos hz] at hR
    subst hz
    have HR : Hid (_ = _) := hR
    have JS : Hid _ := js
    unfold Bd.val at CK ⊢
    clear hR js ik
    go_enter Tryz.func62, Tryz.ntmps62
    go_upto_region 3 with (first
      | (go_at_call 75; go_fit (CK.out _); rintro e V1 ⟨rfl, U1⟩))
    have J := (JS.out _ rfl).1.grew U1
    obtain ⟨A1, hA1⟩ : ∃ A1, A = A1 := ⟨_, rfl⟩
    obtain ⟨B1, hB1⟩ : ∃ B1, B = B1 := ⟨_, rfl⟩
    rw [hA1, hB1] at J HR
    clear JS U1 CK
    have ⟨a0, a1, a2, a3, a4, a5, a6, a7⟩ := J.a
    have ⟨b0, b1, b2, b3, b4, b5, b6, b7⟩ := J.b
    have ⟨r0, r1, r2, r3, r4, r5, r6, r7⟩ := J.r
    have ⟨s0, s1, s2, s3, s4, s5, s6, s7⟩ := J.s
    have y0 := J.g.freeB (b := w.heap.size + 1 + 1 + 1) (by omega) 0 none
    have y1 := J.g.freeB (b := w.heap.size + 1 + 1 + 1) (by omega) 1 none
    have y2 := J.g.freeB (b := w.heap.size + 1 + 1 + 1) (by omega) 2 none
    have y3 := J.g.freeB (b := w.heap.size + 1 + 1 + 1) (by omega) 3 none
    have y4 := J.g.freeB (b := w.heap.size + 1 + 1 + 1) (by omega) 4 none
    have y5 := J.g.freeB (b := w.heap.size + 1 + 1 + 1) (by omega) 5 none
    have y6 := J.g.freeB (b := w.heap.size + 1 + 1 + 1) (by omega) 6 none
    have y7 := J.g.freeB (b := w.heap.size + 1 + 1 + 1) (by omega) 7 none
    have z0 := J.g.freeB (b := w.heap.size + 1 + 1 + 1 + 1) (by omega) 0 none
    have z1 := J.g.freeB (b := w.heap.size + 1 + 1 + 1 + 1) (by omega) 1 none
    have z2 := J.g.freeB (b := w.heap.size + 1 + 1 + 1 + 1) (by omega) 2 none
    have z3 := J.g.freeB (b := w.heap.size + 1 + 1 + 1 + 1) (by omega) 3 none
    have z4 := J.g.freeB (b := w.heap.size + 1 + 1 + 1 + 1) (by omega) 4 none
    have z5 := J.g.freeB (b := w.heap.size + 1 + 1 + 1 + 1) (by omega) 5 none
    have z6 := J.g.freeB (b := w.heap.size + 1 + 1 + 1 + 1) (by omega) 6 none
    have z7 := J.g.freeB (b := w.heap.size + 1 + 1 + 1 + 1) (by omega) 7 none
    have f0 := set_far (a := w.heap.size + 1 + 1 + 1) (c := w.heap.size) (by omega)
    have f1 := set_far (a := w.heap.size + 1 + 1 + 1) (c := w.heap.size + 1) (by omega)
    have f2 := set_far (a := w.heap.size + 1 + 1 + 1 + 1) (c := w.heap.size) (by omega)
    have f3 := set_far (a := w.heap.size + 1 + 1 + 1 + 1) (c := w.heap.size + 1) (by omega)
    have f4 := set_far (a := w.heap.size + 1 + 1 + 1) (c := w.heap.size + 1 + 1 + 1 + 1) (by omega)
    have f5 := set_far (a := w.heap.size + 1 + 1 + 1 + 1) (c := w.heap.size + 1 + 1 + 1) (by omega)
    have JH : Hid _ := J
    clear J
    go_wp2_with (fail)
    go_region_held2 (fun w' => w'.cell? ⟨w.heap.size, 0, none⟩ = some (.int .i64 A1.s) ∧ w'.cell? ⟨w.heap.size, 1, none⟩ = some (.int .i64 A1.a) ∧ w'.cell? ⟨w.heap.size, 2, none⟩ = some (.int .i64 A1.b) ∧ w'.cell? ⟨w.heap.size, 3, none⟩ = some (.int .i64 A1.m) ∧ w'.cell? ⟨w.heap.size, 4, none⟩ = some (.int .i64 A1.p) ∧ w'.cell? ⟨w.heap.size, 5, none⟩ = some (.int .i64 A1.q) ∧ w'.cell? ⟨w.heap.size, 6, none⟩ = some (.int .i64 A1.u) ∧ w'.cell? ⟨w.heap.size, 7, none⟩ = some (.int .i64 A1.v) ∧ w'.cell? ⟨w.heap.size + 1, 0, none⟩ = some (.int .i64 B1.s) ∧ w'.cell? ⟨w.heap.size + 1, 1, none⟩ = some (.int .i64 B1.a) ∧ w'.cell? ⟨w.heap.size + 1, 2, none⟩ = some (.int .i64 B1.b) ∧ w'.cell? ⟨w.heap.size + 1, 3, none⟩ = some (.int .i64 B1.m) ∧ w'.cell? ⟨w.heap.size + 1, 4, none⟩ = some (.int .i64 B1.p) ∧ w'.cell? ⟨w.heap.size + 1, 5, none⟩ = some (.int .i64 B1.q) ∧ w'.cell? ⟨w.heap.size + 1, 6, none⟩ = some (.int .i64 B1.u) ∧ w'.cell? ⟨w.heap.size + 1, 7, none⟩ = some (.int .i64 B1.v)) (go_keep) (fail)
    rename_i hH; clear hH
    go_wp2
    simp [bodyPost, results, Tryz.results62, go_sem, r0, r1, r2, r3, r4, r5, r6, r7, s0, s1, s2, s3, s4, s5, s6, s7, f4, f5]
    exact ⟨by rw [← HR.out]; rfl, (lay_grew (lay_grew JH.out.g (by omega) A1) (by omega) B1).drew⟩

  rw [if_neg hz] at hR
  have cv := fun W => pparting_any A B h.x h.y hA hB hh.x hh.y W
  have iv := vR_in A B h.x h.y
  generalize vR A B h.x h.y = v at *
  obtain ⟨v, vv⟩ := v
  simp only at hR iv
  have hz0 : (k == 0) = false := by simpa using hz
  by_cases hv : vv = 0
  rotate_left
  · have CV : Hid (∀ W, Calls Tryz.prog 76 #[A.val, B.val, .agg #[.int .i64 h.x, .int .i64 h.y]] W fun e w' => e = .panicked [fault vv] ∧ Grew W w') := fun W => by have := cv W; rw [outR_bad hv] at this; exact this
    have HR : Hid (_ = _) := hR
    have JS : Hid _ := js
    unfold Bd.val at CK CV ⊢
    clear cv hR js ik iv
    go_enter Tryz.func62, Tryz.ntmps62
    go_wp2_with (first
      | (go_at_call 75; go_fit (CK.out _); rintro e V1 ⟨rfl, U1⟩; obtain ⟨⟨_, ⟨a0, a1, a2, a3, a4, a5, a6, a7⟩, ⟨b0, b1, b2, b3, b4, b5, b6, b7⟩, _, _⟩, _⟩ := JS.out _ rfl; have ⟨h0, h1, h2⟩ := (JS.out _ rfl).2.grew U1; have d0 := U1.cell a0; have d1 := U1.cell a1; have d2 := U1.cell a2; have d3 := U1.cell a3; have d4 := U1.cell a4; have d5 := U1.cell a5; have d6 := U1.cell a6; have d7 := U1.cell a7; have e0 := U1.cell b0; have e1 := U1.cell b1; have e2 := U1.cell b2; have e3 := U1.cell b3; have e4 := U1.cell b4; have e5 := U1.cell b5; have e6 := U1.cell b6; have e7 := U1.cell b7; have GU : Hid _ := (JS.out _ rfl).1.g.trans U1; clear a0 a1 a2 a3 a4 a5 a6 a7 b0 b1 b2 b3 b4 b5 b6 b7)
      | (go_at_call 76; go_fit (CV.out _); rintro e V2 ⟨rfl, U2⟩))
    exact ⟨rfl, by rw [← HR.out]; exact (outP_no hv _).symm, GU.out.trans U2⟩
  subst hv
  rw [ifP_ok rfl] at hR
  have CV : Hid (∀ W, Calls Tryz.prog 76 #[A.val, B.val, .agg #[.int .i64 h.x, .int .i64 h.y]] W fun e w' => e = .returned (.int .i64 v) ∧ Grew W w') := fun W => by have := cv W; rw [outR_ok] at this; exact this
  clear cv
  have hM := @metR_in A B hA hB h.x h.y v k
  obtain ⟨M, eM⟩ : ∃ M, metR A B h.x h.y v k = M := ⟨_, rfl⟩
  rw [eM] at hR hM
  have HR : Hid (_ = _) := hR
  have JS : Hid _ := js
  have EM : Hid (_ = _) := eM
  clear hR js eM
  unfold Bd.val at CK CV ⊢
  go_enter Tryz.func62, Tryz.ntmps62
  go_upto_if 25 with (first
      | (go_at_call 75; go_fit (CK.out _); rintro e V1 ⟨rfl, U1⟩; obtain ⟨⟨_, ⟨a0, a1, a2, a3, a4, a5, a6, a7⟩, ⟨b0, b1, b2, b3, b4, b5, b6, b7⟩, _, _⟩, _⟩ := JS.out _ rfl; have ⟨h0, h1, h2⟩ := (JS.out _ rfl).2.grew U1; have d0 := U1.cell a0; have d1 := U1.cell a1; have d2 := U1.cell a2; have d3 := U1.cell a3; have d4 := U1.cell a4; have d5 := U1.cell a5; have d6 := U1.cell a6; have d7 := U1.cell a7; have e0 := U1.cell b0; have e1 := U1.cell b1; have e2 := U1.cell b2; have e3 := U1.cell b3; have e4 := U1.cell b4; have e5 := U1.cell b5; have e6 := U1.cell b6; have e7 := U1.cell b7; have JU : Hid _ := (JS.out _ rfl).1.grew U1; have HU : Hid _ := (JS.out _ rfl).2.grew U1; clear a0 a1 a2 a3 a4 a5 a6 a7 b0 b1 b2 b3 b4 b5 b6 b7)
      | (go_at_call 76; go_fit (CV.out _); rintro e V2 ⟨rfl, U2⟩))
  have J := JU.out.grew U2
  have H := HAt.grew HU.out U2
  clear d0 d1 d2 d3 d4 d5 d6 d7 e0 e1 e2 e3 e4 e5 e6 e7 h0 h1 h2 JU HU U1 U2 CK CV JS
  go_cut [] from 10 to 71 (fun wx => M.2 = 0 ∧ Jm w wx (w.heap.size + 1 + 1 + 1) (w.heap.size + 1 + 1 + 1 + 1) M.1.1 M.1.2 ∧ HAt wx (w.heap.size + 1 + 1) h)
  case first =>
    by_cases hl : v < 0
    rotate_left
    · have JH : Hid _ := J
      have HH : Hid _ := H
      clear J H
      go_wp2
      go_meet
      case rel =>
        have e : ((A, B), 0) = M := by rw [← EM.out]; unfold metR; rw [if_neg (by omega)]
        rw [← e]
        exact ⟨rfl, JH.out, HH.out⟩
    have em := EM.out
    unfold metR pushR at em
    rw [if_pos hl] at em
    unfold halfR jR turnR halfR at em
    have c1 := fun W => ways_of (cadd_any v (v.tdiv 2) W iv (tdiv2_in iv))
    have i1 := addR_in v (v.tdiv 2)
    generalize addR v (v.tdiv 2) = D1 at *
    have c2 := fun W => ways_of (csub_any 0 D1.1 W inF0 i1)
    have i2 := subR_in 0 D1.1
    generalize subR 0 D1.1 = D2 at *
    have c3 : ∀ W, Calls Tryz.prog 79 #[.int .i64 D2.1, .int .i64 k] W fun e w' => ((e = .returned (.int .i64 (divR D2.1 k).1) ∧ Hid ((divR D2.1 k).2 = 0)) ∨ (e = .panicked [fault (divR D2.1 k).2] ∧ Hid (¬ (divR D2.1 k).2 = 0))) ∧ Grew W w' := fun W => (ways_of (cdiv_any D2.1 k W i2 ik)).mono fun e w' ⟨he, n, hw⟩ => ⟨he, by rw [hw]; exact (Grew.refl W).drewN n⟩
    have i3 := (divR_in D2.1 k).1
    generalize divR D2.1 k = D3 at *
    have c4 := fun W => waysV_of (vscale_any h.x h.y D3.1 W hh.x hh.y i3)
    have i4 := scaleV_in h.x h.y D3.1
    unfold scaleV at em i4
    generalize two (mulR h.x D3.1) (mulR h.y D3.1) = D4 at *
    have c5 := fun W => waysP_of (apply_any A B D4.1 D4.2.1 hA hB i4.1 i4.2 W)
    generalize applyR A B D4.1 D4.2.1 = Q at *
    unfold vec at c4
    unfold Bd.val at c5
    have EQ : Hid (_ = _) := em
    have C1 : Hid _ := c1
    have C2 : Hid _ := c2
    have C3 : Hid _ := c3
    have C4 : Hid _ := c4
    have C5 : Hid _ := c5
    have JH : Hid _ := J
    have HH : Hid _ := H
    have IV : Hid _ := iv
    clear em c1 c2 c3 c4 c5 J H i1 i2 i3 i4 EM hM hA hB hh hz hz0 ik
    have w1 := IntWalk.wrap64_in _ (tdiv2_in iv)
    go_wp2_with (first
      | (go_at_call 47; go_fit (C1.out _); rintro e w' ⟨(⟨rfl, h1⟩ | ⟨rfl, h1⟩), rfl⟩)
      | (go_at_call 77; go_fit (C2.out _); rintro e w' ⟨(⟨rfl, h2⟩ | ⟨rfl, h2⟩), rfl⟩)
      | (go_at_call 79; go_fit (C3.out _); rintro e V3 ⟨(⟨rfl, h3⟩ | ⟨rfl, h3⟩), U3⟩))
    · have G3 : Grew w' V3 := U3
      have J3 := JH.out.grew G3
      have H3 := HAt.grew HH.out G3
      have f2 := set_far (a := w.heap.size) (c := w.heap.size + 1) (by omega)
      have f3 := set_far (a := w.heap.size + 1) (c := w.heap.size) (by omega)
      clear JH HH
      refine late_region (S := (fun w' => BAt w' w.heap.size A ∧ BAt w' (w.heap.size + 1) B ∧ HAt w' (w.heap.size + 1 + 1) h)) [10, 11] (by kernel_rfl) ?_ (fun hH0 => ?_)
      · exact ⟨J3.a.grew (Grew.refl V3).drew, J3.b.grew (Grew.refl V3).drew, H3.grew (Grew.refl V3).drew⟩
      refine late_take (i := 0) (oi := { dst := some 34, op := Go.Op.load 28 (Go.Operand.tmp 3), type := 28, pos := "push.go:23", after := #[], guard := none }) (v := ?va1) rfl (by kernel_rfl) (by kernel_rfl) (by kernel_rfl) (by kernel_rfl) (by kernel_rfl) (fun _ _ _ h => h) (Or.inl ⟨by rfl, ?hya1⟩) hH0 ?resta1
      case hya1 => (intro w hSw; obtain ⟨⟨a0, a1, a2, a3, a4, a5, a6, a7⟩, ⟨b0, b1, b2, b3, b4, b5, b6, b7⟩, ⟨h0, h1, h2⟩⟩ := hSw; go_simp; try (with_reducible rfl))
      simp only [Act.put, List.setIfInBounds_toArray, List.set_cons_zero, List.set_cons_succ]
      refine late_take (i := 1) (oi := { dst := some 35, op := Go.Op.load 28 (Go.Operand.tmp 4), type := 28, pos := "push.go:23", after := #[], guard := none }) (v := ?va2) rfl (by kernel_rfl) (by kernel_rfl) (by kernel_rfl) (by kernel_rfl) (by kernel_rfl) (fun _ _ _ h => h) (Or.inl ⟨by rfl, ?hya2⟩) hH0 ?resta2
      case hya2 => (intro w hSw; obtain ⟨⟨a0, a1, a2, a3, a4, a5, a6, a7⟩, ⟨b0, b1, b2, b3, b4, b5, b6, b7⟩, ⟨h0, h1, h2⟩⟩ := hSw; go_simp; try (with_reducible rfl))
      simp only [Act.put, List.setIfInBounds_toArray, List.set_cons_zero, List.set_cons_succ]
      refine late_take (i := 2) (oi := { dst := some 36, op := Go.Op.fieldAddr 34 (Go.Operand.tmp 5) 0, type := 0, pos := "push.go:23", after := #[], guard := none }) (v := ?va3) rfl (by kernel_rfl) (by kernel_rfl) (by kernel_rfl) (by kernel_rfl) (by kernel_rfl) (fun _ _ _ h => h) (Or.inl ⟨by rfl, ?hya3⟩) hH0 ?resta3
      case hya3 => (intro w hSw; obtain ⟨⟨a0, a1, a2, a3, a4, a5, a6, a7⟩, ⟨b0, b1, b2, b3, b4, b5, b6, b7⟩, ⟨h0, h1, h2⟩⟩ := hSw; go_simp; try (with_reducible rfl))
      simp only [Act.put, List.setIfInBounds_toArray, List.set_cons_zero, List.set_cons_succ]
      refine late_take (i := 3) (oi := { dst := some 37, op := Go.Op.load 26 (Go.Operand.tmp 36), type := 26, pos := "push.go:23", after := #[{ on := 2, ground := Go.Ground.data }], guard := none }) (v := ?va4) rfl (by kernel_rfl) (by kernel_rfl) (by kernel_rfl) (by kernel_rfl) (by kernel_rfl) (fun _ _ _ h => h) (Or.inl ⟨by rfl, ?hya4⟩) hH0 ?resta4
      case hya4 => (intro w hSw; obtain ⟨⟨a0, a1, a2, a3, a4, a5, a6, a7⟩, ⟨b0, b1, b2, b3, b4, b5, b6, b7⟩, ⟨h0, h1, h2⟩⟩ := hSw; go_simp; try (with_reducible rfl))
      simp only [Act.put, List.setIfInBounds_toArray, List.set_cons_zero, List.set_cons_succ]
      refine late_take (i := 4) (oi := { dst := some 38, op := Go.Op.move (Go.Operand.tmp 10), type := 24, pos := "push.go:23", after := #[], guard := none }) (v := ?va5) rfl (by kernel_rfl) (by kernel_rfl) (by kernel_rfl) (by kernel_rfl) (by kernel_rfl) (fun _ _ _ h => h) (Or.inl ⟨by rfl, ?hya5⟩) hH0 ?resta5
      case hya5 => (intro w hSw; obtain ⟨⟨a0, a1, a2, a3, a4, a5, a6, a7⟩, ⟨b0, b1, b2, b3, b4, b5, b6, b7⟩, ⟨h0, h1, h2⟩⟩ := hSw; go_simp; try (with_reducible rfl))
      simp only [Act.put, List.setIfInBounds_toArray, List.set_cons_zero, List.set_cons_succ]
      refine late_one (i := 5) (by kernel_rfl) ?_
      refine late_run (o := { dst := some 39, op := Go.Op.call { callee := Go.Callee.value (Go.Operand.func 57), args := #[Go.Operand.tmp 37, Go.Operand.tmp 38], argTypes := #[26, 24] }, type := 26, pos := "push.go:23", after := #[{ on := 3, ground := Go.Ground.data }, { on := 4, ground := Go.Ground.data }], guard := none }) rfl (fun K hK => ?_)
      go_simp
      go_wp2_with (first
        | (go_at_call 57; go_fit (C4.out _); rintro e V4 ⟨(⟨rfl, h4⟩ | ⟨rfl, h4⟩), U4⟩; rotate_left; (exact post_panic (P := Tryz.prog) (fn := Tryz.f62) (R := fun e w' => e = outP R ∧ Grew w w') rfl ⟨Eq.symm (by rw [← HR.out]; unfold thenR; rw [← EQ.out, ifP_ok h1.out, ifP_ok h2.out, ifP_ok h3.out, ifP_no h4.out]; exact outP_no h4.out _), J3.g.drew.trans U4⟩))
        | fail)
      refine hK.out _ _ (⟨hH0.1.grew U4, hH0.2.1.grew U4, hH0.2.2.grew U4⟩) (fun hHa6 => ?_)
      clear hK K
      refine late_one (i := 6) (by kernel_rfl) ?_
      refine late_run (o := { dst := some 40, op := Go.Op.call { callee := Go.Callee.value (Go.Operand.func 78), args := #[Go.Operand.tmp 34, Go.Operand.tmp 35, Go.Operand.tmp 39], argTypes := #[28, 28, 26] }, type := 92, pos := "push.go:23", after := #[{ on := 0, ground := Go.Ground.data }, { on := 1, ground := Go.Ground.data }, { on := 5, ground := Go.Ground.data }, { on := 5, ground := Go.Ground.chain }], guard := none }) rfl (fun K hK => ?_)
      go_simp
      go_wp2_with (first
        | (go_at_call 78; go_fit (C5.out _); rintro e V5 ⟨(⟨rfl, h5⟩ | ⟨rfl, h5⟩), U5⟩; rotate_left; (exact post_panic (P := Tryz.prog) (fn := Tryz.f62) (R := fun e w' => e = outP R ∧ Grew w w') rfl ⟨Eq.symm (by rw [← HR.out]; unfold thenR; rw [← EQ.out, ifP_ok h1.out, ifP_ok h2.out, ifP_ok h3.out, ifP_ok h4.out]; exact outP_no h5.out _), (J3.g.drew.trans U4).trans U5⟩))
        | fail)
      refine hK.out _ _ (⟨hHa6.1.grew U5, hHa6.2.1.grew U5, hHa6.2.2.grew U5⟩) (fun hHa7 => ?_)
      clear hK K
      refine late_take (i := 7) (oi := { dst := some 33, op := Go.Op.move (Go.Operand.tmp 40), type := 92, pos := "push.go:23", after := #[{ on := 6, ground := Go.Ground.data }], guard := none }) (v := ?va8) rfl (by kernel_rfl) (by kernel_rfl) (by kernel_rfl) (by kernel_rfl) (by kernel_rfl) (fun _ _ _ h => h) (Or.inl ⟨by rfl, ?hya8⟩) hHa7 ?resta8
      case hya8 => (intro w hSw; obtain ⟨⟨a0, a1, a2, a3, a4, a5, a6, a7⟩, ⟨b0, b1, b2, b3, b4, b5, b6, b7⟩, ⟨h0, h1, h2⟩⟩ := hSw; go_simp; try (with_reducible rfl))
      simp only [Act.put, List.setIfInBounds_toArray, List.set_cons_zero, List.set_cons_succ]
      refine late_take (i := 8) (oi := { dst := some 41, op := Go.Op.extract (Go.Operand.tmp 33) 0, type := 28, pos := "push.go:23", after := #[{ on := 7, ground := Go.Ground.data }], guard := none }) (v := ?va9) rfl (by kernel_rfl) (by kernel_rfl) (by kernel_rfl) (by kernel_rfl) (by kernel_rfl) (fun _ _ _ h => h) (Or.inl ⟨by rfl, ?hya9⟩) hHa7 ?resta9
      case hya9 => (intro w hSw; obtain ⟨⟨a0, a1, a2, a3, a4, a5, a6, a7⟩, ⟨b0, b1, b2, b3, b4, b5, b6, b7⟩, ⟨h0, h1, h2⟩⟩ := hSw; go_simp; try (with_reducible rfl))
      simp only [Act.put, List.setIfInBounds_toArray, List.set_cons_zero, List.set_cons_succ]
      refine late_two (i := 9) (k := 10) (by kernel_rfl) ?_ ?_
      · refine late_run (o := { dst := some 42, op := Go.Op.extract (Go.Operand.tmp 33) 1, type := 28, pos := "push.go:23", after := #[{ on := 7, ground := Go.Ground.data }, { on := 10, ground := Go.Ground.gcOnly Go.Departure.lateStores }], guard := none }) rfl (fun K hK => ?_)
        go_simp
        refine hK.out _ _ hHa7 (fun hHa10 => ?_)
        clear hK K
        refine late_one (i := 10) (by kernel_rfl) ?_
        refine late_write (o := { dst := none, op := Go.Op.store 28 (Go.Operand.tmp 3) (Go.Operand.tmp 41), type := 0, pos := "push.go:23", after := #[{ on := 8, ground := Go.Ground.data }, { on := 6, ground := Go.Ground.chain }, { on := 0, ground := Go.Ground.phase }, { on := 1, ground := Go.Ground.phase }, { on := 2, ground := Go.Ground.phase }, { on := 3, ground := Go.Ground.phase }, { on := 4, ground := Go.Ground.phase }, { on := 5, ground := Go.Ground.phase }, { on := 6, ground := Go.Ground.phase }, { on := 7, ground := Go.Ground.phase }, { on := 8, ground := Go.Ground.phase }, { on := 9, ground := Go.Ground.textOnly Go.Departure.lateStores }], guard := none }) rfl (by kernel_rfl) (fun K hK => ?_)
        have G5 : Grew V3 V5 := ((Grew.refl V3).drew.trans U4).trans U5
        have ⟨a0, a1, a2, a3, a4, a5, a6, a7⟩ := J3.a.grew G5
        have y0 := (J3.g.trans G5).freeB (b := w.heap.size) (by omega) 0 none
        have y1 := (J3.g.trans G5).freeB (b := w.heap.size) (by omega) 1 none
        have y2 := (J3.g.trans G5).freeB (b := w.heap.size) (by omega) 2 none
        have y3 := (J3.g.trans G5).freeB (b := w.heap.size) (by omega) 3 none
        have y4 := (J3.g.trans G5).freeB (b := w.heap.size) (by omega) 4 none
        have y5 := (J3.g.trans G5).freeB (b := w.heap.size) (by omega) 5 none
        have y6 := (J3.g.trans G5).freeB (b := w.heap.size) (by omega) 6 none
        have y7 := (J3.g.trans G5).freeB (b := w.heap.size) (by omega) 7 none
        go_simp
        refine hK.out _ _ ?_
        clear hK K
        refine late_one (i := 11) (by kernel_rfl) ?_
        refine late_write (o := { dst := none, op := Go.Op.store 28 (Go.Operand.tmp 4) (Go.Operand.tmp 42), type := 0, pos := "push.go:23", after := #[{ on := 9, ground := Go.Ground.data }, { on := 10, ground := Go.Ground.chain }, { on := 0, ground := Go.Ground.phase }, { on := 1, ground := Go.Ground.phase }, { on := 2, ground := Go.Ground.phase }, { on := 3, ground := Go.Ground.phase }, { on := 4, ground := Go.Ground.phase }, { on := 5, ground := Go.Ground.phase }, { on := 6, ground := Go.Ground.phase }, { on := 7, ground := Go.Ground.phase }, { on := 8, ground := Go.Ground.phase }, { on := 9, ground := Go.Ground.phase }, { on := 10, ground := Go.Ground.phase }], guard := none }) rfl (by kernel_rfl) (fun K hK => ?_)
        have ⟨b0, b1, b2, b3, b4, b5, b6, b7⟩ := J3.b.grew G5
        have z0 := (J3.g.trans G5).freeB (b := w.heap.size + 1) (by omega) 0 none
        have z1 := (J3.g.trans G5).freeB (b := w.heap.size + 1) (by omega) 1 none
        have z2 := (J3.g.trans G5).freeB (b := w.heap.size + 1) (by omega) 2 none
        have z3 := (J3.g.trans G5).freeB (b := w.heap.size + 1) (by omega) 3 none
        have z4 := (J3.g.trans G5).freeB (b := w.heap.size + 1) (by omega) 4 none
        have z5 := (J3.g.trans G5).freeB (b := w.heap.size + 1) (by omega) 5 none
        have z6 := (J3.g.trans G5).freeB (b := w.heap.size + 1) (by omega) 6 none
        have z7 := (J3.g.trans G5).freeB (b := w.heap.size + 1) (by omega) 7 none
        go_simp
        refine hK.out _ _ ?_
        clear hK K
        refine late_done (by kernel_rfl) ?_ _
        go_wp2
        go_meet
        have eM : Q = M := by rw [← EQ.out, ifP_ok h1.out, ifP_ok h2.out, ifP_ok h3.out, ifP_ok h4.out]
        rw [← eM]
        exact ⟨h5.out, (J3.grew G5).lay2 nr ns, ((H3.grew G5).lay (by omega) _).lay (by omega) _⟩
      · refine late_write (o := { dst := none, op := Go.Op.store 28 (Go.Operand.tmp 3) (Go.Operand.tmp 41), type := 0, pos := "push.go:23", after := #[{ on := 8, ground := Go.Ground.data }, { on := 6, ground := Go.Ground.chain }, { on := 0, ground := Go.Ground.phase }, { on := 1, ground := Go.Ground.phase }, { on := 2, ground := Go.Ground.phase }, { on := 3, ground := Go.Ground.phase }, { on := 4, ground := Go.Ground.phase }, { on := 5, ground := Go.Ground.phase }, { on := 6, ground := Go.Ground.phase }, { on := 7, ground := Go.Ground.phase }, { on := 8, ground := Go.Ground.phase }, { on := 9, ground := Go.Ground.textOnly Go.Departure.lateStores }], guard := none }) rfl (by kernel_rfl) (fun K hK => ?_)
        have G5 : Grew V3 V5 := ((Grew.refl V3).drew.trans U4).trans U5
        have ⟨a0, a1, a2, a3, a4, a5, a6, a7⟩ := J3.a.grew G5
        have y0 := (J3.g.trans G5).freeB (b := w.heap.size) (by omega) 0 none
        have y1 := (J3.g.trans G5).freeB (b := w.heap.size) (by omega) 1 none
        have y2 := (J3.g.trans G5).freeB (b := w.heap.size) (by omega) 2 none
        have y3 := (J3.g.trans G5).freeB (b := w.heap.size) (by omega) 3 none
        have y4 := (J3.g.trans G5).freeB (b := w.heap.size) (by omega) 4 none
        have y5 := (J3.g.trans G5).freeB (b := w.heap.size) (by omega) 5 none
        have y6 := (J3.g.trans G5).freeB (b := w.heap.size) (by omega) 6 none
        have y7 := (J3.g.trans G5).freeB (b := w.heap.size) (by omega) 7 none
        go_simp
        refine hK.out _ _ ?_
        clear hK K
        refine late_one (i := 9) (by kernel_rfl) ?_
        refine late_write (o := { dst := some 42, op := Go.Op.extract (Go.Operand.tmp 33) 1, type := 28, pos := "push.go:23", after := #[{ on := 7, ground := Go.Ground.data }, { on := 10, ground := Go.Ground.gcOnly Go.Departure.lateStores }], guard := none }) rfl (by kernel_rfl) (fun K hK => ?_)
        go_simp
        refine hK.out _ _ ?_
        clear hK K
        refine late_one (i := 11) (by kernel_rfl) ?_
        refine late_write (o := { dst := none, op := Go.Op.store 28 (Go.Operand.tmp 4) (Go.Operand.tmp 42), type := 0, pos := "push.go:23", after := #[{ on := 9, ground := Go.Ground.data }, { on := 10, ground := Go.Ground.chain }, { on := 0, ground := Go.Ground.phase }, { on := 1, ground := Go.Ground.phase }, { on := 2, ground := Go.Ground.phase }, { on := 3, ground := Go.Ground.phase }, { on := 4, ground := Go.Ground.phase }, { on := 5, ground := Go.Ground.phase }, { on := 6, ground := Go.Ground.phase }, { on := 7, ground := Go.Ground.phase }, { on := 8, ground := Go.Ground.phase }, { on := 9, ground := Go.Ground.phase }, { on := 10, ground := Go.Ground.phase }], guard := none }) rfl (by kernel_rfl) (fun K hK => ?_)
        have ⟨b0, b1, b2, b3, b4, b5, b6, b7⟩ := J3.b.grew G5
        have z0 := (J3.g.trans G5).freeB (b := w.heap.size + 1) (by omega) 0 none
        have z1 := (J3.g.trans G5).freeB (b := w.heap.size + 1) (by omega) 1 none
        have z2 := (J3.g.trans G5).freeB (b := w.heap.size + 1) (by omega) 2 none
        have z3 := (J3.g.trans G5).freeB (b := w.heap.size + 1) (by omega) 3 none
        have z4 := (J3.g.trans G5).freeB (b := w.heap.size + 1) (by omega) 4 none
        have z5 := (J3.g.trans G5).freeB (b := w.heap.size + 1) (by omega) 5 none
        have z6 := (J3.g.trans G5).freeB (b := w.heap.size + 1) (by omega) 6 none
        have z7 := (J3.g.trans G5).freeB (b := w.heap.size + 1) (by omega) 7 none
        go_simp
        refine hK.out _ _ ?_
        clear hK K
        refine late_done (by kernel_rfl) ?_ _
        go_wp2
        go_meet
        have eM : Q = M := by rw [← EQ.out, ifP_ok h1.out, ifP_ok h2.out, ifP_ok h3.out, ifP_ok h4.out]
        rw [← eM]
        exact ⟨h5.out, (J3.grew G5).lay2 nr ns, ((H3.grew G5).lay (by omega) _).lay (by omega) _⟩
    · exact ⟨rfl, by rw [← HR.out]; unfold thenR; rw [← EQ.out, ifP_ok h1.out, ifP_ok h2.out, ifP_no h3.out]; exact (outP_no h3.out _).symm, JH.out.g.trans U3⟩
    · exact ⟨rfl, by rw [← HR.out]; unfold thenR; rw [← EQ.out, ifP_ok h1.out, ifP_no h2.out]; exact (outP_no h2.out _).symm, JH.out.g⟩
    · exact ⟨rfl, by rw [← HR.out]; unfold thenR; rw [← EQ.out, ifP_no h1.out]; exact (outP_no h1.out _).symm, JH.out.g⟩
  case rest =>
    obtain ⟨hM2, J', H'⟩ := hcut
    clear J H EM
    have hr := HR.out
    unfold thenR at hr
    rw [ifP_ok hM2] at hr
    clear HR hM2
    generalize M.1.1 = A1 at *
    generalize M.1.2 = B1 at *
    obtain ⟨hA1, hB1⟩ := hM
    clear hA hB iv M hz0
    have cc : ∀ W, Calls Tryz.prog 79 #[.int .i64 (h.d.tdiv 2), .int .i64 k] W fun e w' => e = outR (divR (h.d.tdiv 2) k) ∧ Grew W w' := fun W => (cdiv_any (h.d.tdiv 2) k W (tdiv2_in hh.d) ik).mono fun e w' ⟨he, n, hw⟩ => ⟨he, by rw [hw]; exact (Grew.refl W).drewN n⟩
    have ic := (divR_in (h.d.tdiv 2) k).1
    have w1 := IntWalk.wrap64_in _ (tdiv2_in hh.d)
    unfold cR at hr
    generalize divR (h.d.tdiv 2) k = C at *
    obtain ⟨c, ec⟩ := C
    simp only at hr ic
    have g2 := H'.c2
    by_cases hc : ec = 0
    rotate_left
    · have CC : Hid (∀ W, Calls Tryz.prog 79 #[.int .i64 (h.d.tdiv 2), .int .i64 k] W fun e w' => e = .panicked [fault ec] ∧ Grew W w') := fun W => by have := cc W; rw [outR_bad hc] at this; exact this
      have HR : Hid (_ = _) := hr
      clear cc hr hA1 hB1 ik ic hh
      go_wp2_with (first
        | (go_at_call 79; go_fit (CC.out _); rintro e V6 ⟨rfl, U6⟩))
      exact ⟨rfl, by rw [← HR.out]; exact (outP_no hc _).symm, J'.g.trans U6⟩
    subst hc
    rw [ifP_ok rfl] at hr
    have CC : Hid (∀ W, Calls Tryz.prog 79 #[.int .i64 (h.d.tdiv 2), .int .i64 k] W fun e w' => e = .returned (.int .i64 c) ∧ Grew W w') := fun W => by have := cc W; rw [outR_ok] at this; exact this
    clear cc
    have c1 := fun W => ways_of (shape_light A1 hA1 W)
    have i1 := lightR_in A1
    have d1 := fun W => ways_of (shape_light B1 hB1 W)
    have j1 := lightR_in B1
    unfold apartR backV forthV offV offR scaleV at hr
    generalize lightR A1 = LA at *
    generalize lightR B1 = LB at *
    have c2 := fun W => ways_of (cmul_any c LA.1 W ic i1)
    have i2 := (mulR_in c LA.1).1
    have d2 := fun W => ways_of (cmul_any c LB.1 W ic j1)
    have j2 := (mulR_in c LB.1).1
    generalize mulR c LA.1 = OA at *
    generalize mulR c LB.1 = OB at *
    have c3 := fun W => waysV_of (vscale_any h.x h.y OA.1 W hh.x hh.y i2)
    have i3 := two_in (mulR_in h.x OA.1).1 (mulR_in h.y OA.1).1
    have d3 := fun W => waysV_of (vscale_any h.x h.y OB.1 W hh.x hh.y j2)
    have j3 := two_in (mulR_in h.x OB.1).1 (mulR_in h.y OB.1).1
    generalize two (mulR h.x OA.1) (mulR h.y OA.1) = SA at *
    generalize two (mulR h.x OB.1) (mulR h.y OB.1) = SB at *
    have c4 := fun W => waysV_of (vsub_any A1.p A1.q SA.1 SA.2.1 W hA1.p hA1.q i3.1 i3.2)
    have d4 := fun W => waysV_of (vadd_any B1.p B1.q SB.1 SB.2.1 W hB1.p hB1.q j3.1 j3.2)
    generalize two (subR A1.p SA.1) (subR A1.q SA.2.1) = PA at *
    generalize two (addR B1.p SB.1) (addR B1.q SB.2.1) = PB at *
    unfold vec at c3 c4 d3 d4
    unfold Bd.val at c1 d1
    have C1 : Hid _ := c1
    have C2 : Hid _ := c2
    have C3 : Hid _ := c3
    have C4 : Hid _ := c4
    have D1 : Hid _ := d1
    have D2 : Hid _ := d2
    have D3 : Hid _ := d3
    have D4 : Hid _ := d4
    have HR : Hid (_ = _) := hr
    have JH : Hid _ := J'
    have HH : Hid _ := H'
    clear c1 c2 c3 c4 d1 d2 d3 d4 hr i1 i2 i3 j1 j2 j3 ic ik hA1 hB1 hh J' H'
    go_upto_region 9 with (first
      | (go_at_call 79; go_fit (CC.out _); rintro e V6 ⟨rfl, U6⟩))
    have J3 := JH.out.grew U6
    have H3 := HAt.grew HH.out U6
    clear JH HH U6 CC g2
    go_cut [] from 12 to 71 (fun wx => LA.2 = 0 ∧ OA.2 = 0 ∧ SA.2.2 = 0 ∧ PA.2.2 = 0 ∧ Jm w wx (w.heap.size + 1 + 1 + 1) (w.heap.size + 1 + 1 + 1 + 1) (A1.pos PA.1 PA.2.1) B1 ∧ HAt wx (w.heap.size + 1 + 1) h)
    case first =>
      clear D1 D2 D3 D4
      refine late_region (S := (fun w' => BAt w' (w.heap.size) A1 ∧ HAt w' (w.heap.size + 1 + 1) h)) [11] (by kernel_rfl) ?_ (fun hH0 => ?_)
      · exact ⟨J3.a.grew (Grew.refl V6).drew, H3.grew (Grew.refl V6).drew⟩
      refine late_take (i := 0) (oi := { dst := some 48, op := Go.Op.fieldAddr 28 (Go.Operand.tmp 3) 3, type := 0, pos := "push.go:26", after := #[], guard := none }) (v := ?vb1) rfl (by kernel_rfl) (by kernel_rfl) (by kernel_rfl) (by kernel_rfl) (by kernel_rfl) (fun _ _ _ h => h) (Or.inl ⟨by rfl, ?hyb1⟩) hH0 ?restb1
      case hyb1 => (intro w hSw; obtain ⟨⟨a0, a1, a2, a3, a4, a5, a6, a7⟩, ⟨h0, h1, h2⟩⟩ := hSw; go_simp; try (with_reducible rfl))
      simp only [Act.put, List.setIfInBounds_toArray, List.set_cons_zero, List.set_cons_succ]
      refine late_take (i := 1) (oi := { dst := some 49, op := Go.Op.load 26 (Go.Operand.tmp 48), type := 26, pos := "push.go:26", after := #[{ on := 0, ground := Go.Ground.data }], guard := none }) (v := ?vb2) rfl (by kernel_rfl) (by kernel_rfl) (by kernel_rfl) (by kernel_rfl) (by kernel_rfl) (fun _ _ _ h => h) (Or.inl ⟨by rfl, ?hyb2⟩) hH0 ?restb2
      case hyb2 => (intro w hSw; obtain ⟨⟨a0, a1, a2, a3, a4, a5, a6, a7⟩, ⟨h0, h1, h2⟩⟩ := hSw; go_simp; try (with_reducible rfl))
      simp only [Act.put, List.setIfInBounds_toArray, List.set_cons_zero, List.set_cons_succ]
      refine late_take (i := 2) (oi := { dst := some 50, op := Go.Op.fieldAddr 34 (Go.Operand.tmp 5) 0, type := 0, pos := "push.go:26", after := #[], guard := none }) (v := ?vb3) rfl (by kernel_rfl) (by kernel_rfl) (by kernel_rfl) (by kernel_rfl) (by kernel_rfl) (fun _ _ _ h => h) (Or.inl ⟨by rfl, ?hyb3⟩) hH0 ?restb3
      case hyb3 => (intro w hSw; obtain ⟨⟨a0, a1, a2, a3, a4, a5, a6, a7⟩, ⟨h0, h1, h2⟩⟩ := hSw; go_simp; try (with_reducible rfl))
      simp only [Act.put, List.setIfInBounds_toArray, List.set_cons_zero, List.set_cons_succ]
      refine late_take (i := 3) (oi := { dst := some 51, op := Go.Op.load 26 (Go.Operand.tmp 50), type := 26, pos := "push.go:26", after := #[{ on := 2, ground := Go.Ground.data }], guard := none }) (v := ?vb4) rfl (by kernel_rfl) (by kernel_rfl) (by kernel_rfl) (by kernel_rfl) (by kernel_rfl) (fun _ _ _ h => h) (Or.inl ⟨by rfl, ?hyb4⟩) hH0 ?restb4
      case hyb4 => (intro w hSw; obtain ⟨⟨a0, a1, a2, a3, a4, a5, a6, a7⟩, ⟨h0, h1, h2⟩⟩ := hSw; go_simp; try (with_reducible rfl))
      simp only [Act.put, List.setIfInBounds_toArray, List.set_cons_zero, List.set_cons_succ]
      refine late_take (i := 4) (oi := { dst := some 52, op := Go.Op.move (Go.Operand.tmp 11), type := 24, pos := "push.go:26", after := #[], guard := none }) (v := ?vb5) rfl (by kernel_rfl) (by kernel_rfl) (by kernel_rfl) (by kernel_rfl) (by kernel_rfl) (fun _ _ _ h => h) (Or.inl ⟨by rfl, ?hyb5⟩) hH0 ?restb5
      case hyb5 => (intro w hSw; obtain ⟨⟨a0, a1, a2, a3, a4, a5, a6, a7⟩, ⟨h0, h1, h2⟩⟩ := hSw; go_simp; try (with_reducible rfl))
      simp only [Act.put, List.setIfInBounds_toArray, List.set_cons_zero, List.set_cons_succ]
      refine late_take (i := 5) (oi := { dst := some 53, op := Go.Op.load 28 (Go.Operand.tmp 3), type := 28, pos := "push.go:26", after := #[], guard := none }) (v := ?vb6) rfl (by kernel_rfl) (by kernel_rfl) (by kernel_rfl) (by kernel_rfl) (by kernel_rfl) (fun _ _ _ h => h) (Or.inl ⟨by rfl, ?hyb6⟩) hH0 ?restb6
      case hyb6 => (intro w hSw; obtain ⟨⟨a0, a1, a2, a3, a4, a5, a6, a7⟩, ⟨h0, h1, h2⟩⟩ := hSw; go_simp; try (with_reducible rfl))
      simp only [Act.put, List.setIfInBounds_toArray, List.set_cons_zero, List.set_cons_succ]
      refine late_one (i := 6) (by kernel_rfl) ?_
      refine late_run (o := { dst := some 54, op := Go.Op.call { callee := Go.Callee.value (Go.Operand.func 89), args := #[Go.Operand.tmp 53], argTypes := #[28] }, type := 24, pos := "push.go:26", after := #[{ on := 5, ground := Go.Ground.data }], guard := none }) rfl (fun K hK => ?_)
      go_simp
      go_wp2_with (first
        | (go_at_call 89; go_fit (C1.out _); rintro e V1 ⟨(⟨rfl, l1⟩ | ⟨rfl, l1⟩), U1⟩; rotate_left; (exact post_panic (P := Tryz.prog) (fn := Tryz.f62) (R := fun e w' => e = outP R ∧ Grew w w') rfl ⟨Eq.symm (by rw [← HR.out, ifP_no l1.out]; exact if_neg l1.out), (J3.g.drew.trans U1)⟩))
        | fail)
      refine hK.out _ _ (⟨hH0.1.grew U1, hH0.2.grew U1⟩) (fun hHb7 => ?_)
      clear hK K
      refine late_one (i := 7) (by kernel_rfl) ?_
      refine late_run (o := { dst := some 55, op := Go.Op.call { callee := Go.Callee.value (Go.Operand.func 72), args := #[Go.Operand.tmp 52, Go.Operand.tmp 54], argTypes := #[24, 24] }, type := 24, pos := "push.go:26", after := #[{ on := 4, ground := Go.Ground.data }, { on := 6, ground := Go.Ground.data }, { on := 6, ground := Go.Ground.chain }], guard := none }) rfl (fun K hK => ?_)
      go_simp
      go_wp2_with (first
        | (go_at_call 72; go_fit (C2.out _); rintro e w' ⟨(⟨rfl, l2⟩ | ⟨rfl, l2⟩), rfl⟩; rotate_left; (exact post_panic (P := Tryz.prog) (fn := Tryz.f62) (R := fun e w' => e = outP R ∧ Grew w w') rfl ⟨Eq.symm (by rw [← HR.out, ifP_ok l1.out, ifP_no l2.out]; exact if_neg l2.out), (J3.g.drew.trans U1)⟩))
        | fail)
      refine hK.out _ _ (hHb7) (fun hHb8 => ?_)
      clear hK K
      refine late_one (i := 8) (by kernel_rfl) ?_
      refine late_run (o := { dst := some 56, op := Go.Op.call { callee := Go.Callee.value (Go.Operand.func 57), args := #[Go.Operand.tmp 51, Go.Operand.tmp 55], argTypes := #[26, 24] }, type := 26, pos := "push.go:26", after := #[{ on := 3, ground := Go.Ground.data }, { on := 7, ground := Go.Ground.data }, { on := 7, ground := Go.Ground.chain }], guard := none }) rfl (fun K hK => ?_)
      go_simp
      go_wp2_with (first
        | (go_at_call 57; go_fit (C3.out _); rintro e V3 ⟨(⟨rfl, l3⟩ | ⟨rfl, l3⟩), U3⟩; rotate_left; (exact post_panic (P := Tryz.prog) (fn := Tryz.f62) (R := fun e w' => e = outP R ∧ Grew w w') rfl ⟨Eq.symm (by rw [← HR.out, ifP_ok l1.out, ifP_ok l2.out, ifP_no l3.out]; exact if_neg l3.out), (J3.g.drew.trans U1).trans U3⟩))
        | fail)
      refine hK.out _ _ (⟨hHb8.1.grew U3, hHb8.2.grew U3⟩) (fun hHb9 => ?_)
      clear hK K
      refine late_one (i := 9) (by kernel_rfl) ?_
      refine late_run (o := { dst := some 57, op := Go.Op.call { callee := Go.Callee.value (Go.Operand.func 74), args := #[Go.Operand.tmp 49, Go.Operand.tmp 56], argTypes := #[26, 26] }, type := 26, pos := "push.go:26", after := #[{ on := 1, ground := Go.Ground.data }, { on := 8, ground := Go.Ground.data }, { on := 8, ground := Go.Ground.chain }], guard := none }) rfl (fun K hK => ?_)
      go_simp
      go_wp2_with (first
        | (go_at_call 74; go_fit (C4.out _); rintro e V4 ⟨(⟨rfl, l4⟩ | ⟨rfl, l4⟩), U4⟩; rotate_left; (exact post_panic (P := Tryz.prog) (fn := Tryz.f62) (R := fun e w' => e = outP R ∧ Grew w w') rfl ⟨Eq.symm (by rw [← HR.out, ifP_ok l1.out, ifP_ok l2.out, ifP_ok l3.out, ifP_no l4.out]; exact if_neg l4.out), ((J3.g.drew.trans U1).trans U3).trans U4⟩))
        | fail)
      refine hK.out _ _ (⟨hHb9.1.grew U4, hHb9.2.grew U4⟩) (fun hHb10 => ?_)
      clear hK K
      refine late_take (i := 10) (oi := { dst := some 58, op := Go.Op.fieldAddr 28 (Go.Operand.tmp 3) 3, type := 0, pos := "push.go:26", after := #[{ on := 0, ground := Go.Ground.phase }, { on := 1, ground := Go.Ground.phase }, { on := 2, ground := Go.Ground.phase }, { on := 3, ground := Go.Ground.phase }, { on := 4, ground := Go.Ground.phase }, { on := 5, ground := Go.Ground.phase }, { on := 6, ground := Go.Ground.phase }, { on := 7, ground := Go.Ground.phase }, { on := 8, ground := Go.Ground.phase }, { on := 9, ground := Go.Ground.phase }], guard := none }) (v := ?vb11) rfl (by kernel_rfl) (by kernel_rfl) (by kernel_rfl) (by kernel_rfl) (by kernel_rfl) (fun _ _ _ h => h) (Or.inl ⟨by rfl, ?hyb11⟩) hHb10 ?restb11
      case hyb11 => (intro w hSw; obtain ⟨⟨a0, a1, a2, a3, a4, a5, a6, a7⟩, ⟨h0, h1, h2⟩⟩ := hSw; go_simp; try (with_reducible rfl))
      simp only [Act.put, List.setIfInBounds_toArray, List.set_cons_zero, List.set_cons_succ]
      refine late_one (i := 11) (by kernel_rfl) ?_
      refine late_write (o := { dst := none, op := Go.Op.store 26 (Go.Operand.tmp 58) (Go.Operand.tmp 57), type := 0, pos := "push.go:26", after := #[{ on := 10, ground := Go.Ground.data }, { on := 9, ground := Go.Ground.data }, { on := 9, ground := Go.Ground.chain }, { on := 0, ground := Go.Ground.phase }, { on := 1, ground := Go.Ground.phase }, { on := 2, ground := Go.Ground.phase }, { on := 3, ground := Go.Ground.phase }, { on := 4, ground := Go.Ground.phase }, { on := 5, ground := Go.Ground.phase }, { on := 6, ground := Go.Ground.phase }, { on := 7, ground := Go.Ground.phase }, { on := 8, ground := Go.Ground.phase }, { on := 9, ground := Go.Ground.phase }], guard := none }) rfl (by kernel_rfl) (fun K hK => ?_)
      have G4 : Grew V6 V4 := (((Grew.refl V6).drew.trans U1).trans U3).trans U4
      have ⟨a0, a1, a2, a3, a4, a5, a6, a7⟩ := J3.a.grew G4
      have y4 := (J3.g.trans G4).freeB (b := w.heap.size) (by omega) 4 none
      have y5 := (J3.g.trans G4).freeB (b := w.heap.size) (by omega) 5 none
      go_simp
      refine hK.out _ _ ?_
      clear hK K
      refine late_done (by kernel_rfl) ?_ _
      go_wp2
      go_meet
      exact ⟨l1.out, l2.out, l3.out, l4.out, (J3.grew G4).posA nr ns _ _, (H3.grew G4).far (by omega) _ _ _ _⟩
    case rest =>
      obtain ⟨e1, e2, e3, e4, J', H'⟩ := hcut
      have hr := HR.out
      rw [ifP_ok e1, ifP_ok e2, ifP_ok e3, ifP_ok e4] at hr
      clear HR C1 C2 C3 C4 J3 H3 e1 e2 e3 e4
      have HR : Hid (_ = _) := hr
      have J3 := J'
      have H3 := H'
      clear J' H' hr
      generalize A1.pos PA.1 PA.2.1 = A2 at *
      go_upto_region 10 with (fail)
      obtain ⟨V6, hV6⟩ : ∃ V6, V6 = wc := ⟨_, rfl⟩
      rw [← hV6] at J3 H3 ⊢
      clear hV6
      go_cut [] from 12 to 71 (fun wx => LB.2 = 0 ∧ OB.2 = 0 ∧ SB.2.2 = 0 ∧ PB.2.2 = 0 ∧ Jm w wx (w.heap.size + 1 + 1 + 1) (w.heap.size + 1 + 1 + 1 + 1) A2 (B1.pos PB.1 PB.2.1))
      case first =>
        refine late_region (S := (fun w' => BAt w' (w.heap.size + 1) B1 ∧ HAt w' (w.heap.size + 1 + 1) h)) [11] (by kernel_rfl) ?_ (fun hH0 => ?_)
        · exact ⟨J3.b.grew (Grew.refl V6).drew, H3.grew (Grew.refl V6).drew⟩
        refine late_take (i := 0) (oi := { dst := some 59, op := Go.Op.fieldAddr 28 (Go.Operand.tmp 4) 3, type := 0, pos := "push.go:27", after := #[], guard := none }) (v := ?vc1) rfl (by kernel_rfl) (by kernel_rfl) (by kernel_rfl) (by kernel_rfl) (by kernel_rfl) (fun _ _ _ h => h) (Or.inl ⟨by rfl, ?hyc1⟩) hH0 ?restc1
        case hyc1 => (intro w hSw; obtain ⟨⟨a0, a1, a2, a3, a4, a5, a6, a7⟩, ⟨h0, h1, h2⟩⟩ := hSw; go_simp; try (with_reducible rfl))
        simp only [Act.put, List.setIfInBounds_toArray, List.set_cons_zero, List.set_cons_succ]
        refine late_take (i := 1) (oi := { dst := some 60, op := Go.Op.load 26 (Go.Operand.tmp 59), type := 26, pos := "push.go:27", after := #[{ on := 0, ground := Go.Ground.data }], guard := none }) (v := ?vc2) rfl (by kernel_rfl) (by kernel_rfl) (by kernel_rfl) (by kernel_rfl) (by kernel_rfl) (fun _ _ _ h => h) (Or.inl ⟨by rfl, ?hyc2⟩) hH0 ?restc2
        case hyc2 => (intro w hSw; obtain ⟨⟨a0, a1, a2, a3, a4, a5, a6, a7⟩, ⟨h0, h1, h2⟩⟩ := hSw; go_simp; try (with_reducible rfl))
        simp only [Act.put, List.setIfInBounds_toArray, List.set_cons_zero, List.set_cons_succ]
        refine late_take (i := 2) (oi := { dst := some 61, op := Go.Op.fieldAddr 34 (Go.Operand.tmp 5) 0, type := 0, pos := "push.go:27", after := #[], guard := none }) (v := ?vc3) rfl (by kernel_rfl) (by kernel_rfl) (by kernel_rfl) (by kernel_rfl) (by kernel_rfl) (fun _ _ _ h => h) (Or.inl ⟨by rfl, ?hyc3⟩) hH0 ?restc3
        case hyc3 => (intro w hSw; obtain ⟨⟨a0, a1, a2, a3, a4, a5, a6, a7⟩, ⟨h0, h1, h2⟩⟩ := hSw; go_simp; try (with_reducible rfl))
        simp only [Act.put, List.setIfInBounds_toArray, List.set_cons_zero, List.set_cons_succ]
        refine late_take (i := 3) (oi := { dst := some 62, op := Go.Op.load 26 (Go.Operand.tmp 61), type := 26, pos := "push.go:27", after := #[{ on := 2, ground := Go.Ground.data }], guard := none }) (v := ?vc4) rfl (by kernel_rfl) (by kernel_rfl) (by kernel_rfl) (by kernel_rfl) (by kernel_rfl) (fun _ _ _ h => h) (Or.inl ⟨by rfl, ?hyc4⟩) hH0 ?restc4
        case hyc4 => (intro w hSw; obtain ⟨⟨a0, a1, a2, a3, a4, a5, a6, a7⟩, ⟨h0, h1, h2⟩⟩ := hSw; go_simp; try (with_reducible rfl))
        simp only [Act.put, List.setIfInBounds_toArray, List.set_cons_zero, List.set_cons_succ]
        refine late_take (i := 4) (oi := { dst := some 63, op := Go.Op.move (Go.Operand.tmp 11), type := 24, pos := "push.go:27", after := #[], guard := none }) (v := ?vc5) rfl (by kernel_rfl) (by kernel_rfl) (by kernel_rfl) (by kernel_rfl) (by kernel_rfl) (fun _ _ _ h => h) (Or.inl ⟨by rfl, ?hyc5⟩) hH0 ?restc5
        case hyc5 => (intro w hSw; obtain ⟨⟨a0, a1, a2, a3, a4, a5, a6, a7⟩, ⟨h0, h1, h2⟩⟩ := hSw; go_simp; try (with_reducible rfl))
        simp only [Act.put, List.setIfInBounds_toArray, List.set_cons_zero, List.set_cons_succ]
        refine late_take (i := 5) (oi := { dst := some 64, op := Go.Op.load 28 (Go.Operand.tmp 4), type := 28, pos := "push.go:27", after := #[], guard := none }) (v := ?vc6) rfl (by kernel_rfl) (by kernel_rfl) (by kernel_rfl) (by kernel_rfl) (by kernel_rfl) (fun _ _ _ h => h) (Or.inl ⟨by rfl, ?hyc6⟩) hH0 ?restc6
        case hyc6 => (intro w hSw; obtain ⟨⟨a0, a1, a2, a3, a4, a5, a6, a7⟩, ⟨h0, h1, h2⟩⟩ := hSw; go_simp; try (with_reducible rfl))
        simp only [Act.put, List.setIfInBounds_toArray, List.set_cons_zero, List.set_cons_succ]
        refine late_one (i := 6) (by kernel_rfl) ?_
        refine late_run (o := { dst := some 65, op := Go.Op.call { callee := Go.Callee.value (Go.Operand.func 89), args := #[Go.Operand.tmp 64], argTypes := #[28] }, type := 24, pos := "push.go:27", after := #[{ on := 5, ground := Go.Ground.data }], guard := none }) rfl (fun K hK => ?_)
        go_simp
        go_wp2_with (first
          | (go_at_call 89; go_fit (D1.out _); rintro e V1 ⟨(⟨rfl, l1⟩ | ⟨rfl, l1⟩), U1⟩; rotate_left; (exact post_panic (P := Tryz.prog) (fn := Tryz.f62) (R := fun e w' => e = outP R ∧ Grew w w') rfl ⟨Eq.symm (by rw [← HR.out, ifP_no l1.out]; exact if_neg l1.out), (J3.g.drew.trans U1)⟩))
          | fail)
        refine hK.out _ _ (⟨hH0.1.grew U1, hH0.2.grew U1⟩) (fun hHc7 => ?_)
        clear hK K
        refine late_one (i := 7) (by kernel_rfl) ?_
        refine late_run (o := { dst := some 66, op := Go.Op.call { callee := Go.Callee.value (Go.Operand.func 72), args := #[Go.Operand.tmp 63, Go.Operand.tmp 65], argTypes := #[24, 24] }, type := 24, pos := "push.go:27", after := #[{ on := 4, ground := Go.Ground.data }, { on := 6, ground := Go.Ground.data }, { on := 6, ground := Go.Ground.chain }], guard := none }) rfl (fun K hK => ?_)
        go_simp
        go_wp2_with (first
          | (go_at_call 72; go_fit (D2.out _); rintro e w' ⟨(⟨rfl, l2⟩ | ⟨rfl, l2⟩), rfl⟩; rotate_left; (exact post_panic (P := Tryz.prog) (fn := Tryz.f62) (R := fun e w' => e = outP R ∧ Grew w w') rfl ⟨Eq.symm (by rw [← HR.out, ifP_ok l1.out, ifP_no l2.out]; exact if_neg l2.out), (J3.g.drew.trans U1)⟩))
          | fail)
        refine hK.out _ _ (hHc7) (fun hHc8 => ?_)
        clear hK K
        refine late_one (i := 8) (by kernel_rfl) ?_
        refine late_run (o := { dst := some 67, op := Go.Op.call { callee := Go.Callee.value (Go.Operand.func 57), args := #[Go.Operand.tmp 62, Go.Operand.tmp 66], argTypes := #[26, 24] }, type := 26, pos := "push.go:27", after := #[{ on := 3, ground := Go.Ground.data }, { on := 7, ground := Go.Ground.data }, { on := 7, ground := Go.Ground.chain }], guard := none }) rfl (fun K hK => ?_)
        go_simp
        go_wp2_with (first
          | (go_at_call 57; go_fit (D3.out _); rintro e V3 ⟨(⟨rfl, l3⟩ | ⟨rfl, l3⟩), U3⟩; rotate_left; (exact post_panic (P := Tryz.prog) (fn := Tryz.f62) (R := fun e w' => e = outP R ∧ Grew w w') rfl ⟨Eq.symm (by rw [← HR.out, ifP_ok l1.out, ifP_ok l2.out, ifP_no l3.out]; exact if_neg l3.out), (J3.g.drew.trans U1).trans U3⟩))
          | fail)
        refine hK.out _ _ (⟨hHc8.1.grew U3, hHc8.2.grew U3⟩) (fun hHc9 => ?_)
        clear hK K
        refine late_one (i := 9) (by kernel_rfl) ?_
        refine late_run (o := { dst := some 68, op := Go.Op.call { callee := Go.Callee.value (Go.Operand.func 29), args := #[Go.Operand.tmp 60, Go.Operand.tmp 67], argTypes := #[26, 26] }, type := 26, pos := "push.go:27", after := #[{ on := 1, ground := Go.Ground.data }, { on := 8, ground := Go.Ground.data }, { on := 8, ground := Go.Ground.chain }], guard := none }) rfl (fun K hK => ?_)
        go_simp
        go_wp2_with (first
          | (go_at_call 29; go_fit (D4.out _); rintro e V4 ⟨(⟨rfl, l4⟩ | ⟨rfl, l4⟩), U4⟩; rotate_left; (exact post_panic (P := Tryz.prog) (fn := Tryz.f62) (R := fun e w' => e = outP R ∧ Grew w w') rfl ⟨Eq.symm (by rw [← HR.out, ifP_ok l1.out, ifP_ok l2.out, ifP_ok l3.out, ifP_no l4.out]; exact if_neg l4.out), ((J3.g.drew.trans U1).trans U3).trans U4⟩))
          | fail)
        refine hK.out _ _ (⟨hHc9.1.grew U4, hHc9.2.grew U4⟩) (fun hHc10 => ?_)
        clear hK K
        refine late_take (i := 10) (oi := { dst := some 69, op := Go.Op.fieldAddr 28 (Go.Operand.tmp 4) 3, type := 0, pos := "push.go:27", after := #[{ on := 0, ground := Go.Ground.phase }, { on := 1, ground := Go.Ground.phase }, { on := 2, ground := Go.Ground.phase }, { on := 3, ground := Go.Ground.phase }, { on := 4, ground := Go.Ground.phase }, { on := 5, ground := Go.Ground.phase }, { on := 6, ground := Go.Ground.phase }, { on := 7, ground := Go.Ground.phase }, { on := 8, ground := Go.Ground.phase }, { on := 9, ground := Go.Ground.phase }], guard := none }) (v := ?vc11) rfl (by kernel_rfl) (by kernel_rfl) (by kernel_rfl) (by kernel_rfl) (by kernel_rfl) (fun _ _ _ h => h) (Or.inl ⟨by rfl, ?hyc11⟩) hHc10 ?restc11
        case hyc11 => (intro w hSw; obtain ⟨⟨a0, a1, a2, a3, a4, a5, a6, a7⟩, ⟨h0, h1, h2⟩⟩ := hSw; go_simp; try (with_reducible rfl))
        simp only [Act.put, List.setIfInBounds_toArray, List.set_cons_zero, List.set_cons_succ]
        refine late_one (i := 11) (by kernel_rfl) ?_
        refine late_write (o := { dst := none, op := Go.Op.store 26 (Go.Operand.tmp 69) (Go.Operand.tmp 68), type := 0, pos := "push.go:27", after := #[{ on := 10, ground := Go.Ground.data }, { on := 9, ground := Go.Ground.data }, { on := 9, ground := Go.Ground.chain }, { on := 0, ground := Go.Ground.phase }, { on := 1, ground := Go.Ground.phase }, { on := 2, ground := Go.Ground.phase }, { on := 3, ground := Go.Ground.phase }, { on := 4, ground := Go.Ground.phase }, { on := 5, ground := Go.Ground.phase }, { on := 6, ground := Go.Ground.phase }, { on := 7, ground := Go.Ground.phase }, { on := 8, ground := Go.Ground.phase }, { on := 9, ground := Go.Ground.phase }], guard := none }) rfl (by kernel_rfl) (fun K hK => ?_)
        have G4 : Grew V6 V4 := (((Grew.refl V6).drew.trans U1).trans U3).trans U4
        have ⟨a0, a1, a2, a3, a4, a5, a6, a7⟩ := J3.b.grew G4
        have y4 := (J3.g.trans G4).freeB (b := w.heap.size + 1) (by omega) 4 none
        have y5 := (J3.g.trans G4).freeB (b := w.heap.size + 1) (by omega) 5 none
        go_simp
        refine hK.out _ _ ?_
        clear hK K
        refine late_done (by kernel_rfl) ?_ _
        go_wp2
        go_meet
        exact ⟨l1.out, l2.out, l3.out, l4.out, (J3.grew G4).posB nr ns _ _⟩
      case rest =>
        obtain ⟨e1, e2, e3, e4, J'⟩ := hcut
        have hr := HR.out
        rw [ifP_ok e1, ifP_ok e2, ifP_ok e3, ifP_ok e4] at hr
        clear HR D1 D2 D3 D4 J3 H3 e1 e2 e3 e4
        have HR : Hid (_ = _) := hr
        have J := J'
        clear J' hr
        generalize B1.pos PB.1 PB.2.1 = B2 at *
        obtain ⟨A1, hA1⟩ : ∃ A1, A2 = A1 := ⟨_, rfl⟩
        obtain ⟨B3, hB3⟩ : ∃ B3, B2 = B3 := ⟨_, rfl⟩
        rw [hA1, hB3] at J HR
        have ⟨a0, a1, a2, a3, a4, a5, a6, a7⟩ := J.a
        have ⟨b0, b1, b2, b3, b4, b5, b6, b7⟩ := J.b
        have ⟨r0, r1, r2, r3, r4, r5, r6, r7⟩ := J.r
        have ⟨s0, s1, s2, s3, s4, s5, s6, s7⟩ := J.s
        have y0 := J.g.freeB (b := w.heap.size + 1 + 1 + 1) (by omega) 0 none
        have y1 := J.g.freeB (b := w.heap.size + 1 + 1 + 1) (by omega) 1 none
        have y2 := J.g.freeB (b := w.heap.size + 1 + 1 + 1) (by omega) 2 none
        have y3 := J.g.freeB (b := w.heap.size + 1 + 1 + 1) (by omega) 3 none
        have y4 := J.g.freeB (b := w.heap.size + 1 + 1 + 1) (by omega) 4 none
        have y5 := J.g.freeB (b := w.heap.size + 1 + 1 + 1) (by omega) 5 none
        have y6 := J.g.freeB (b := w.heap.size + 1 + 1 + 1) (by omega) 6 none
        have y7 := J.g.freeB (b := w.heap.size + 1 + 1 + 1) (by omega) 7 none
        have z0 := J.g.freeB (b := w.heap.size + 1 + 1 + 1 + 1) (by omega) 0 none
        have z1 := J.g.freeB (b := w.heap.size + 1 + 1 + 1 + 1) (by omega) 1 none
        have z2 := J.g.freeB (b := w.heap.size + 1 + 1 + 1 + 1) (by omega) 2 none
        have z3 := J.g.freeB (b := w.heap.size + 1 + 1 + 1 + 1) (by omega) 3 none
        have z4 := J.g.freeB (b := w.heap.size + 1 + 1 + 1 + 1) (by omega) 4 none
        have z5 := J.g.freeB (b := w.heap.size + 1 + 1 + 1 + 1) (by omega) 5 none
        have z6 := J.g.freeB (b := w.heap.size + 1 + 1 + 1 + 1) (by omega) 6 none
        have z7 := J.g.freeB (b := w.heap.size + 1 + 1 + 1 + 1) (by omega) 7 none
        have f0 := set_far (a := w.heap.size + 1 + 1 + 1) (c := w.heap.size) (by omega)
        have f1 := set_far (a := w.heap.size + 1 + 1 + 1) (c := w.heap.size + 1) (by omega)
        have f2 := set_far (a := w.heap.size + 1 + 1 + 1 + 1) (c := w.heap.size) (by omega)
        have f3 := set_far (a := w.heap.size + 1 + 1 + 1 + 1) (c := w.heap.size + 1) (by omega)
        have f4 := set_far (a := w.heap.size + 1 + 1 + 1) (c := w.heap.size + 1 + 1 + 1 + 1) (by omega)
        have f5 := set_far (a := w.heap.size + 1 + 1 + 1 + 1) (c := w.heap.size + 1 + 1 + 1) (by omega)
        have JH : Hid _ := J
        clear J
        go_wp2_with (fail)
        go_region_held2 (fun w' => w'.cell? ⟨w.heap.size, 0, none⟩ = some (.int .i64 A1.s) ∧ w'.cell? ⟨w.heap.size, 1, none⟩ = some (.int .i64 A1.a) ∧ w'.cell? ⟨w.heap.size, 2, none⟩ = some (.int .i64 A1.b) ∧ w'.cell? ⟨w.heap.size, 3, none⟩ = some (.int .i64 A1.m) ∧ w'.cell? ⟨w.heap.size, 4, none⟩ = some (.int .i64 A1.p) ∧ w'.cell? ⟨w.heap.size, 5, none⟩ = some (.int .i64 A1.q) ∧ w'.cell? ⟨w.heap.size, 6, none⟩ = some (.int .i64 A1.u) ∧ w'.cell? ⟨w.heap.size, 7, none⟩ = some (.int .i64 A1.v) ∧ w'.cell? ⟨w.heap.size + 1, 0, none⟩ = some (.int .i64 B3.s) ∧ w'.cell? ⟨w.heap.size + 1, 1, none⟩ = some (.int .i64 B3.a) ∧ w'.cell? ⟨w.heap.size + 1, 2, none⟩ = some (.int .i64 B3.b) ∧ w'.cell? ⟨w.heap.size + 1, 3, none⟩ = some (.int .i64 B3.m) ∧ w'.cell? ⟨w.heap.size + 1, 4, none⟩ = some (.int .i64 B3.p) ∧ w'.cell? ⟨w.heap.size + 1, 5, none⟩ = some (.int .i64 B3.q) ∧ w'.cell? ⟨w.heap.size + 1, 6, none⟩ = some (.int .i64 B3.u) ∧ w'.cell? ⟨w.heap.size + 1, 7, none⟩ = some (.int .i64 B3.v)) (go_keep) (fail)
        rename_i hH; clear hH
        go_wp2
        simp [bodyPost, results, Tryz.results62, go_sem, r0, r1, r2, r3, r4, r5, r6, r7, s0, s1, s2, s3, s4, s5, s6, s7, f4, f5]
        exact ⟨by rw [← HR.out]; rfl, (lay_grew (lay_grew JH.out.g (by omega) A1) (by omega) B3).drew⟩
end Go.Proofs.YtcoooehcgbohgaaGreat
