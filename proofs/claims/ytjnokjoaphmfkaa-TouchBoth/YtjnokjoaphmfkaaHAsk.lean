/-
  Hit asked of two bodies both ways round, within a Try, and a contact turned around twice.
-/
import Derived.Test.YtjnokjoaphmfkaaHAlive
import Derived.Deep.CutRange
import Derived.Deep.CutBlock
namespace Go.Proofs.Ytjnokjoaphmfkaa
open Go.RowKit

set_option maxHeartbeats 2000000 in
theorem ask_both (a b c d g q : Nat) (A B : Bd) (hA : A.ok) (hB : B.ok) (R1 R2 : Ht × Bool) (e1 : hitR A B = (R1, 0)) (e2 : hitR B A = (R2, 0)) (ha : a ≠ c ∧ a ≠ d ∧ a ≠ g ∧ a ≠ q) (hb : b ≠ c ∧ b ≠ d ∧ b ≠ g ∧ b ≠ q) (hc : c ≠ d ∧ c ≠ g ∧ c ≠ q ∧ d ≠ g ∧ d ≠ q ∧ g ≠ q)
    (W : World) (bA : BAt W a A) (bB : BAt W b B) (h1 : HAt W c ⟨0, 0, 0⟩) (p1 : W.cell? ⟨d, 0, none⟩ = some (.bool false)) (h2 : HAt W g ⟨0, 0, 0⟩) (p2 : W.cell? ⟨q, 0, none⟩ = some (.bool false)) (z1 : Free W c) (z2 : Free W d) (z3 : Free W g) (z4 : Free W q) :
    Calls Try.prog 20 #[.pointer (some ⟨a, 0, none⟩), .pointer (some ⟨b, 0, none⟩), .pointer (some ⟨c, 0, none⟩), .pointer (some ⟨d, 0, none⟩), .pointer (some ⟨g, 0, none⟩), .pointer (some ⟨q, 0, none⟩)] W fun e w' =>
      Wrote (fun n => n = c ∨ n = d ∨ n = g ∨ n = q) W w' ∧ ∃ x, (e = .returned (.tuple #[]) ∧ x = 0 ∨ e = .panicked [fault x]) ∧ x = 0 ∧ HAt w' c R1.1 ∧ w'.cell? ⟨d, 0, none⟩ = some (.bool R1.2) ∧ HAt w' g R2.1 ∧ w'.cell? ⟨q, 0, none⟩ = some (.bool R2.2) := by
  have C1 : Hid (∀ W, Calls Try.prog 13 #[A.val, B.val] W fun e w' => e = .returned (.tuple #[.agg #[.int .i64 R1.1.x, .int .i64 R1.1.y, .int .i64 R1.1.d], .bool R1.2]) ∧ Grew W w') := fun W => by
    have := touch_hit A B hA hB W
    rw [e1] at this
    exact this
  have C2 : Hid (∀ W, Calls Try.prog 13 #[B.val, A.val] W fun e w' => e = .returned (.tuple #[.agg #[.int .i64 R2.1.x, .int .i64 R2.1.y, .int .i64 R2.1.d], .bool R2.2]) ∧ Grew W w') := fun W => by
    have := touch_hit B A hB hA W
    rw [e2] at this
    exact this
  unfold Bd.val at C1 C2
  clear e1 e2 hA hB
  have HA : Hid (BAt W a A) := bA
  have HB : Hid (BAt W b B) := bB
  have HG : Hid (HAt W g ⟨0, 0, 0⟩) := h2
  have HQ : Hid (W.cell? ⟨q, 0, none⟩ = some (.bool false)) := p2
  have ZG : Hid (Free W g) := z3
  have ZQ : Hid (Free W q) := z4
  obtain ⟨a0, a1, a2, a3, a4, a5, a6, a7⟩ := bA
  obtain ⟨b0, b1, b2, b3, b4, b5, b6, b7⟩ := bB
  obtain ⟨u0, u1, u2⟩ := h1
  clear h2 p2 z3 z4
  go_enter Try.func20, Try.ntmps20
  go_upto_region 1 with (first
    | (go_at_call 13; go_fit (C1.out _); rintro e V ⟨rfl, U⟩; have v0 := U.cell u0; have v1 := U.cell u1; have v2 := U.cell u2; have v3 := U.cell p1; have vz0 := U.frozen (z1 0 none); have vz1 := U.frozen (z1 1 none); have vz2 := U.frozen (z1 2 none); have vz3 := U.frozen (z2 0 none)))
  obtain ⟨M, hM⟩ : ∃ M, M = (((V.setCell ⟨c, 0, none⟩ (.int .i64 R1.1.x)).setCell ⟨c, 1, none⟩ (.int .i64 R1.1.y)).setCell ⟨c, 2, none⟩ (.int .i64 R1.1.d)).setCell ⟨d, 0, none⟩ (.bool R1.2) := ⟨_, rfl⟩
  rw [← hM]
  have KM : Hid (Wrote (fun n => n = c ∨ n = d) W M) := by rw [hM]; exact wrote_hit U.wrote (.inl rfl) (.inr rfl) _ _ _ _
  obtain ⟨L1, L2⟩ : HAt M c R1.1 ∧ M.cell? ⟨d, 0, none⟩ = some (.bool R1.2) := by rw [hM]; exact hit_laid V c d hc.1 ⟨0, 0, 0⟩ R1.1 _ R1.2 ⟨v0, v1, v2⟩ v3
  have L1' : Hid _ := L1
  have L2' : Hid _ := L2
  clear hM U L1 L2 v0 v1 v2 v3 vz0 vz1 vz2 vz3 a0 a1 a2 a3 a4 a5 a6 a7 b0 b1 b2 b3 b4 b5 b6 b7 u0 u1 u2 p1 z1 z2 C1
  obtain ⟨a0, a1, a2, a3, a4, a5, a6, a7⟩ := HA.out.wrote KM.out (by first | omega | (simp only; omega))
  obtain ⟨b0, b1, b2, b3, b4, b5, b6, b7⟩ := HB.out.wrote KM.out (by first | omega | (simp only; omega))
  obtain ⟨u0, u1, u2⟩ := HG.out.wrote KM.out (by first | omega | (simp only; omega))
  have p1 := KM.out.cell HQ.out (by first | omega | (simp only; omega))
  have z1 : Free M g := ZG.out.wrote KM.out (by first | omega | (simp only; omega)) HG.out.size
  have z2 : Free M q := ZQ.out.wrote KM.out (by first | omega | (simp only; omega)) (cell_block HQ.out)
  go_wp2_with (first
    | (go_at_call 13; go_fit (C2.out _); rintro e V2 ⟨rfl, U2⟩; have v0 := U2.cell u0; have v1 := U2.cell u1; have v2 := U2.cell u2; have v3 := U2.cell p1; have vz0 := U2.frozen (z1 0 none); have vz1 := U2.frozen (z1 1 none); have vz2 := U2.frozen (z1 2 none); have vz3 := U2.frozen (z2 0 none)))
  go_end0
  obtain ⟨N, hN⟩ : ∃ N, N = (((V2.setCell ⟨g, 0, none⟩ (.int .i64 R2.1.x)).setCell ⟨g, 1, none⟩ (.int .i64 R2.1.y)).setCell ⟨g, 2, none⟩ (.int .i64 R2.1.d)).setCell ⟨q, 0, none⟩ (.bool R2.2) := ⟨_, rfl⟩
  rw [← hN]
  have KN : Wrote (fun n => n = g ∨ n = q) M N := by rw [hN]; exact wrote_hit U2.wrote (.inl rfl) (.inr rfl) _ _ _ _
  obtain ⟨L3, L4⟩ : HAt N g R2.1 ∧ N.cell? ⟨q, 0, none⟩ = some (.bool R2.2) := by rw [hN]; exact hit_laid V2 g q hc.2.2.2.2.2 ⟨0, 0, 0⟩ R2.1 _ R2.2 ⟨v0, v1, v2⟩ v3
  exact ⟨(KM.out.more (fun n h => by first | omega | (simp only at h ⊢; omega))).trans (KN.more (fun n h => by first | omega | (simp only at h ⊢; omega))), 0, .inl ⟨rfl, rfl⟩, rfl, L1'.out.wrote KN (by first | omega | (simp only; omega)), KN.cell L2'.out (by first | omega | (simp only; omega)), L3, L4⟩
set_option maxHeartbeats 2000000 in
theorem ask_flips (a b c d g q : Nat) (A B : Bd) (hA : A.ok) (hB : B.ok) (R1 R2 : Ht × Bool) (e1 : hitR A B = (R1, 0)) (e2 : hitR B A = (R2, 0)) (F : Ht) (f1 : flipR R1.1 = (F, 0)) (f2 : flipR F = (R1.1, 0)) (oR : R1.1.ok) (oF : F.ok) (f : Nat) (ha : a ≠ c ∧ a ≠ d ∧ a ≠ g ∧ a ≠ q) (hb : b ≠ c ∧ b ≠ d ∧ b ≠ g ∧ b ≠ q) (hc : c ≠ d ∧ c ≠ g ∧ c ≠ q ∧ d ≠ g ∧ d ≠ q ∧ g ≠ q) (hf : f ≠ c ∧ f ≠ d ∧ f ≠ g ∧ f ≠ q)
    (W : World) (bA : BAt W a A) (bB : BAt W b B) (h1 : HAt W c ⟨0, 0, 0⟩) (p1 : W.cell? ⟨d, 0, none⟩ = some (.bool false)) (h2 : HAt W g ⟨0, 0, 0⟩) (p2 : W.cell? ⟨q, 0, none⟩ = some (.bool false)) (z1 : Free W c) (z2 : Free W d) (z3 : Free W g) (z4 : Free W q) (h3 : HAt W f ⟨0, 0, 0⟩) (z5 : Free W f) :
    Calls Try.prog 25 #[.pointer (some ⟨a, 0, none⟩), .pointer (some ⟨b, 0, none⟩), .pointer (some ⟨c, 0, none⟩), .pointer (some ⟨d, 0, none⟩), .pointer (some ⟨g, 0, none⟩), .pointer (some ⟨q, 0, none⟩), .pointer (some ⟨f, 0, none⟩)] W fun e w' =>
      Wrote (fun n => n = c ∨ n = d ∨ n = g ∨ n = q ∨ n = f) W w' ∧ ∃ x, (e = .returned (.tuple #[]) ∧ x = 0 ∨ e = .panicked [fault x]) ∧ x = 0 ∧ HAt w' c R1.1 ∧ w'.cell? ⟨d, 0, none⟩ = some (.bool R1.2) ∧ HAt w' g R2.1 ∧ w'.cell? ⟨q, 0, none⟩ = some (.bool R2.2) ∧ HAt w' f R1.1 := by
  have C1 : Hid (∀ W, Calls Try.prog 13 #[A.val, B.val] W fun e w' => e = .returned (.tuple #[.agg #[.int .i64 R1.1.x, .int .i64 R1.1.y, .int .i64 R1.1.d], .bool R1.2]) ∧ Grew W w') := fun W => by
    have := touch_hit A B hA hB W
    rw [e1] at this
    exact this
  have C2 : Hid (∀ W, Calls Try.prog 13 #[B.val, A.val] W fun e w' => e = .returned (.tuple #[.agg #[.int .i64 R2.1.x, .int .i64 R2.1.y, .int .i64 R2.1.d], .bool R2.2]) ∧ Grew W w') := fun W => by
    have := touch_hit B A hB hA W
    rw [e2] at this
    exact this
  have C3 : Hid (∀ W, Calls Try.prog 15 #[.agg #[.int .i64 R1.1.x, .int .i64 R1.1.y, .int .i64 R1.1.d]] W fun e w' => e = .returned (.agg #[.int .i64 F.x, .int .i64 F.y, .int .i64 F.d]) ∧ Grew W w') := fun W => by
    have := flip_any R1.1 oR W
    rw [f1] at this
    exact this
  have C4 : Hid (∀ W, Calls Try.prog 15 #[.agg #[.int .i64 F.x, .int .i64 F.y, .int .i64 F.d]] W fun e w' => e = .returned (.agg #[.int .i64 R1.1.x, .int .i64 R1.1.y, .int .i64 R1.1.d]) ∧ Grew W w') := fun W => by
    have := flip_any F oF W
    rw [f2] at this
    exact this
  unfold Bd.val at C1 C2
  clear e1 e2 hA hB f1 f2 oR oF
  have HA : Hid (BAt W a A) := bA
  have HB : Hid (BAt W b B) := bB
  have HG : Hid (HAt W g ⟨0, 0, 0⟩) := h2
  have HQ : Hid (W.cell? ⟨q, 0, none⟩ = some (.bool false)) := p2
  have ZG : Hid (Free W g) := z3
  have ZQ : Hid (Free W q) := z4
  have HF : Hid (HAt W f ⟨0, 0, 0⟩) := h3
  have ZF : Hid (Free W f) := z5
  obtain ⟨a0, a1, a2, a3, a4, a5, a6, a7⟩ := bA
  obtain ⟨b0, b1, b2, b3, b4, b5, b6, b7⟩ := bB
  obtain ⟨u0, u1, u2⟩ := h1
  clear h2 p2 z3 z4 h3 z5
  go_enter Try.func25, Try.ntmps25
  go_upto_region 1 with (first
    | (go_at_call 13; go_fit (C1.out _); rintro e V ⟨rfl, U⟩; have v0 := U.cell u0; have v1 := U.cell u1; have v2 := U.cell u2; have v3 := U.cell p1; have vz0 := U.frozen (z1 0 none); have vz1 := U.frozen (z1 1 none); have vz2 := U.frozen (z1 2 none); have vz3 := U.frozen (z2 0 none)))
  obtain ⟨M, hM⟩ : ∃ M, M = (((V.setCell ⟨c, 0, none⟩ (.int .i64 R1.1.x)).setCell ⟨c, 1, none⟩ (.int .i64 R1.1.y)).setCell ⟨c, 2, none⟩ (.int .i64 R1.1.d)).setCell ⟨d, 0, none⟩ (.bool R1.2) := ⟨_, rfl⟩
  rw [← hM]
  have KM : Hid (Wrote (fun n => n = c ∨ n = d) W M) := by rw [hM]; exact wrote_hit U.wrote (.inl rfl) (.inr rfl) _ _ _ _
  obtain ⟨L1, L2⟩ : HAt M c R1.1 ∧ M.cell? ⟨d, 0, none⟩ = some (.bool R1.2) := by rw [hM]; exact hit_laid V c d hc.1 ⟨0, 0, 0⟩ R1.1 _ R1.2 ⟨v0, v1, v2⟩ v3
  have L1' : Hid _ := L1
  have L2' : Hid _ := L2
  clear hM U L1 L2 v0 v1 v2 v3 vz0 vz1 vz2 vz3 a0 a1 a2 a3 a4 a5 a6 a7 b0 b1 b2 b3 b4 b5 b6 b7 u0 u1 u2 p1 z1 z2 C1
  obtain ⟨a0, a1, a2, a3, a4, a5, a6, a7⟩ := HA.out.wrote KM.out (by first | omega | (simp only; omega))
  obtain ⟨b0, b1, b2, b3, b4, b5, b6, b7⟩ := HB.out.wrote KM.out (by first | omega | (simp only; omega))
  obtain ⟨u0, u1, u2⟩ := HG.out.wrote KM.out (by first | omega | (simp only; omega))
  have p1 := KM.out.cell HQ.out (by first | omega | (simp only; omega))
  have z1 : Free M g := ZG.out.wrote KM.out (by first | omega | (simp only; omega)) HG.out.size
  have z2 : Free M q := ZQ.out.wrote KM.out (by first | omega | (simp only; omega)) (cell_block HQ.out)
  go_upto_region 2 with (first
    | (go_at_call 13; go_fit (C2.out _); rintro e V2 ⟨rfl, U2⟩; have v0 := U2.cell u0; have v1 := U2.cell u1; have v2 := U2.cell u2; have v3 := U2.cell p1; have vz0 := U2.frozen (z1 0 none); have vz1 := U2.frozen (z1 1 none); have vz2 := U2.frozen (z1 2 none); have vz3 := U2.frozen (z2 0 none)))
  obtain ⟨N, hN⟩ : ∃ N, N = (((V2.setCell ⟨g, 0, none⟩ (.int .i64 R2.1.x)).setCell ⟨g, 1, none⟩ (.int .i64 R2.1.y)).setCell ⟨g, 2, none⟩ (.int .i64 R2.1.d)).setCell ⟨q, 0, none⟩ (.bool R2.2) := ⟨_, rfl⟩
  rw [← hN]
  have KN : Wrote (fun n => n = g ∨ n = q) M N := by rw [hN]; exact wrote_hit U2.wrote (.inl rfl) (.inr rfl) _ _ _ _
  obtain ⟨L3, L4⟩ : HAt N g R2.1 ∧ N.cell? ⟨q, 0, none⟩ = some (.bool R2.2) := by rw [hN]; exact hit_laid V2 g q hc.2.2.2.2.2 ⟨0, 0, 0⟩ R2.1 _ R2.2 ⟨v0, v1, v2⟩ v3
  have K2 : Hid (Wrote (fun n => n = c ∨ n = d ∨ n = g ∨ n = q ∨ n = f) W N) := (KM.out.more (fun n h => by first | omega | (simp only at h ⊢; omega))).trans (KN.more (fun n h => by first | omega | (simp only at h ⊢; omega)))
  have Q1 : Hid (HAt N c R1.1) := L1'.out.wrote KN (by first | omega | (simp only; omega))
  have Q2 : Hid (N.cell? ⟨d, 0, none⟩ = some (.bool R1.2)) := KN.cell L2'.out (by first | omega | (simp only; omega))
  have Q3 : Hid _ := L3
  have Q4 : Hid _ := L4
  have hF : HAt N f ⟨0, 0, 0⟩ := (HF.out.wrote KM.out (by first | omega | (simp only; omega))).wrote KN (by first | omega | (simp only; omega))
  have zF : Free N f := (ZF.out.wrote KM.out (by first | omega | (simp only; omega)) HF.out.size).wrote KN (by first | omega | (simp only; omega)) (HF.out.wrote KM.out (by first | omega | (simp only; omega))).size
  clear hN U2 L3 L4 L1' L2' v0 v1 v2 v3 vz0 vz1 vz2 vz3 a0 a1 a2 a3 a4 a5 a6 a7 b0 b1 b2 b3 b4 b5 b6 b7 u0 u1 u2 p1 z1 z2 C2 KM KN HA HB HG HQ ZG ZQ HF ZF
  obtain ⟨c0, c1, c2⟩ := Q1.out
  obtain ⟨u0, u1, u2⟩ := hF
  go_wp2_with (first
    | (go_at_call 15; go_fit (C3.out _); rintro e V3 ⟨rfl, U3⟩)
    | (go_at_call 15; go_fit (C4.out _); rintro e V4 ⟨rfl, U4⟩; have y0 := U4.cell (U3.cell u0); have y1 := U4.cell (U3.cell u1); have y2 := U4.cell (U3.cell u2); have x0 := U4.frozen (U3.frozen (zF 0 none)); have x1 := U4.frozen (U3.frozen (zF 1 none)); have x2 := U4.frozen (U3.frozen (zF 2 none))))
  go_end0
  have G4 : Grew N V4 := U3.trans U4
  have K4 := G4.set3 f (.int .i64 R1.1.x) (.int .i64 R1.1.y) (.int .i64 R1.1.d)
  exact ⟨K2.out.trans (K4.more (fun n h => by first | omega | (simp only at h ⊢; omega))), 0, .inl ⟨rfl, rfl⟩, rfl, Q1.out.wrote K4 (by first | omega | (simp only; omega)), K4.cell Q2.out (by first | omega | (simp only; omega)), Q3.out.wrote K4 (by first | omega | (simp only; omega)), K4.cell Q4.out (by first | omega | (simp only; omega)), hat_set V4 f ⟨0, 0, 0⟩ R1.1 ⟨y0, y1, y2⟩⟩
end Go.Proofs.Ytjnokjoaphmfkaa
