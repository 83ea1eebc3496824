/-
  A closure that asks Apply, Contact or Joint, by a number in a variable: what it leaves.
-/
import Derived.Test.YtcancbgaejekiaaJAlive
namespace Go.Proofs.Ytcancbgaejekiaa
open Go.RowKit

/-- Which of the three is asked. -/
def opR (i : Int) (A B : Bd) (h : Ht) (n x y : Int) : (Bd × Bd) × Int := if i = 0 then applyR A B x y else if i = 1 then contactR A B h else jointR A B n
theorem opR_0 (A B : Bd) (h : Ht) (n x y : Int) : opR 0 A B h n x y = applyR A B x y := rfl
theorem opR_1 (A B : Bd) (h : Ht) (n x y : Int) : opR 1 A B h n x y = contactR A B h := rfl
theorem opR_2 {i : Int} (h0 : ¬ i = 0) (h1 : ¬ i = 1) (A B : Bd) (h : Ht) (n x y : Int) : opR i A B h n x y = jointR A B n := by unfold opR; rw [if_neg h0, if_neg h1]

set_option maxHeartbeats 4000000 in
theorem ask_keeps (i a b j c d k l : Nat) (hcd : c ≠ d) (I : Int) (A B : Bd) (h : Ht) (n x y : Int) (hA : A.ok) (hB : B.ok) (hh : h.ok) (hn : inF n) (hx : inF x) (hy : inF y) (W : World) (bI : W.cell? ⟨i, 0, none⟩ = some (.int .i64 I)) (bA : BAt W a A) (bB : BAt W b B) (bJ : At W j x y) (bK : HAt W k h) (bL : W.cell? ⟨l, 0, none⟩ = some (.int .i64 n)) (C0 D0 : Bd) (bC : BAt W c C0) (bD : BAt W d D0) (zc : Free W c) (zd : Free W d) :
    Calls Try.prog 19 #[.pointer (some ⟨i, 0, none⟩), .pointer (some ⟨a, 0, none⟩), .pointer (some ⟨b, 0, none⟩), .pointer (some ⟨j, 0, none⟩), .pointer (some ⟨c, 0, none⟩), .pointer (some ⟨d, 0, none⟩), .pointer (some ⟨k, 0, none⟩), .pointer (some ⟨l, 0, none⟩)] W fun e w' =>
      Wrote (fun n => n = c ∨ n = d) W w' ∧ ∃ x', (e = .returned (.tuple #[]) ∧ x' = 0 ∨ e = .panicked [fault x']) ∧ LeftP c d (opR I A B h n x y) x' w' := by
  obtain ⟨a0, a1, a2, a3, a4, a5, a6, a7⟩ := bA
  obtain ⟨b0, b1, b2, b3, b4, b5, b6, b7⟩ := bB
  obtain ⟨j0, j1⟩ := bJ
  obtain ⟨k0, k1, k2⟩ := bK
  have f1 := set_far hcd
  have f2 := set_far hcd.symm
  by_cases i0 : I = 0
  · subst i0
    rw [opR_0]
    have c1 := fun W => waysP_of (apply_any A B x y hA hB hx hy W)
    generalize applyR A B x y = T at *
    unfold Bd.val at c1
    have C1 : Hid _ := c1
    clear c1 hA hB hh hn hx hy
    go_enter Try.func19, Try.ntmps19
    go_wp2_with (first
      | (go_at_call 12; go_fit (C1.out _); rintro e V ⟨(⟨rfl, h1⟩ | ⟨rfl, h1⟩), U⟩; have ⟨c0, c1, c2, c3, c4, c5, c6, c7⟩ := bC.grew U; have ⟨d0, d1, d2, d3, d4, d5, d6, d7⟩ := bD.grew U; have y0 := U.frozen (zc 0 none); have y1 := U.frozen (zc 1 none); have y2 := U.frozen (zc 2 none); have y3 := U.frozen (zc 3 none); have y4 := U.frozen (zc 4 none); have y5 := U.frozen (zc 5 none); have y6 := U.frozen (zc 6 none); have y7 := U.frozen (zc 7 none); have z0 := U.frozen (zd 0 none); have z1 := U.frozen (zd 1 none); have z2 := U.frozen (zd 2 none); have z3 := U.frozen (zd 3 none); have z4 := U.frozen (zd 4 none); have z5 := U.frozen (zd 5 none); have z6 := U.frozen (zd 6 none); have z7 := U.frozen (zd 7 none)))
    rotate_left
    · exact ⟨rfl, U.wrote, _, .inr rfl, rfl, fun e => absurd e h1.out⟩
    go_end0
    exact ⟨lay_wrote (lay_wrote U.wrote (.inl rfl) _) (.inr rfl) _, 0, .inl ⟨rfl, rfl⟩, h1.out.symm, fun _ => ⟨lay_far (lay_at (bC.grew U) _) hcd _, lay_at (lay_far (bD.grew U) hcd.symm _) _⟩⟩
  by_cases i1 : I = 1
  · subst i1
    rw [opR_1]
    have c1 := fun W => waysP_of (contact_any A B h hA hB hh W)
    generalize contactR A B h = T at *
    unfold Bd.val at c1
    have C1 : Hid _ := c1
    clear c1 hA hB hh hn hx hy
    go_enter Try.func19, Try.ntmps19
    go_wp2_with (first
      | (go_at_call 13; go_fit (C1.out _); rintro e V ⟨(⟨rfl, h1⟩ | ⟨rfl, h1⟩), U⟩; have ⟨c0, c1, c2, c3, c4, c5, c6, c7⟩ := bC.grew U; have ⟨d0, d1, d2, d3, d4, d5, d6, d7⟩ := bD.grew U; have y0 := U.frozen (zc 0 none); have y1 := U.frozen (zc 1 none); have y2 := U.frozen (zc 2 none); have y3 := U.frozen (zc 3 none); have y4 := U.frozen (zc 4 none); have y5 := U.frozen (zc 5 none); have y6 := U.frozen (zc 6 none); have y7 := U.frozen (zc 7 none); have z0 := U.frozen (zd 0 none); have z1 := U.frozen (zd 1 none); have z2 := U.frozen (zd 2 none); have z3 := U.frozen (zd 3 none); have z4 := U.frozen (zd 4 none); have z5 := U.frozen (zd 5 none); have z6 := U.frozen (zd 6 none); have z7 := U.frozen (zd 7 none)))
    rotate_left
    · exact ⟨rfl, U.wrote, _, .inr rfl, rfl, fun e => absurd e h1.out⟩
    go_end0
    exact ⟨lay_wrote (lay_wrote U.wrote (.inl rfl) _) (.inr rfl) _, 0, .inl ⟨rfl, rfl⟩, h1.out.symm, fun _ => ⟨lay_far (lay_at (bC.grew U) _) hcd _, lay_at (lay_far (bD.grew U) hcd.symm _) _⟩⟩
  have g0 : (I == 0) = false := by simpa using i0
  have g1 : (I == 1) = false := by simpa using i1
  rw [opR_2 i0 i1]
  clear i0 i1
  have c1 := fun W => waysP_of (joint_any A B n hA hB hn W)
  generalize jointR A B n = T at *
  unfold Bd.val at c1
  have C1 : Hid _ := c1
  clear c1 hA hB hh hn hx hy
  go_enter Try.func19, Try.ntmps19
  go_wp2_with (first
    | (go_at_call 14; go_fit (C1.out _); rintro e V ⟨(⟨rfl, h1⟩ | ⟨rfl, h1⟩), U⟩; have ⟨c0, c1, c2, c3, c4, c5, c6, c7⟩ := bC.grew U; have ⟨d0, d1, d2, d3, d4, d5, d6, d7⟩ := bD.grew U; have y0 := U.frozen (zc 0 none); have y1 := U.frozen (zc 1 none); have y2 := U.frozen (zc 2 none); have y3 := U.frozen (zc 3 none); have y4 := U.frozen (zc 4 none); have y5 := U.frozen (zc 5 none); have y6 := U.frozen (zc 6 none); have y7 := U.frozen (zc 7 none); have z0 := U.frozen (zd 0 none); have z1 := U.frozen (zd 1 none); have z2 := U.frozen (zd 2 none); have z3 := U.frozen (zd 3 none); have z4 := U.frozen (zd 4 none); have z5 := U.frozen (zd 5 none); have z6 := U.frozen (zd 6 none); have z7 := U.frozen (zd 7 none)))
  rotate_left
  · exact ⟨rfl, U.wrote, _, .inr rfl, rfl, fun e => absurd e h1.out⟩
  go_end0
  exact ⟨lay_wrote (lay_wrote U.wrote (.inl rfl) _) (.inr rfl) _, 0, .inl ⟨rfl, rfl⟩, h1.out.symm, fun _ => ⟨lay_far (lay_at (bC.grew U) _) hcd _, lay_at (lay_far (bD.grew U) hcd.symm _) _⟩⟩

set_option maxHeartbeats 4000000 in
theorem ask_tells (i a b j c d k l : Nat) (hcd : c ≠ d) (I : Int) (A B : Bd) (h : Ht) (n x y : Int) (hA : A.ok) (hB : B.ok) (hh : h.ok) (hn : inF n) (hx : inF x) (hy : inF y) (W : World) (bI : W.cell? ⟨i, 0, none⟩ = some (.int .i64 I)) (bA : BAt W a A) (bB : BAt W b B) (bJ : At W j x y) (bK : HAt W k h) (bL : W.cell? ⟨l, 0, none⟩ = some (.int .i64 n)) (C0 D0 : Bd) (bC : BAt W c C0) (bD : BAt W d D0) (zc : Free W c) (zd : Free W d) :
    Calls Try.prog 11 #[.pointer (some ⟨i, 0, none⟩), .pointer (some ⟨a, 0, none⟩), .pointer (some ⟨b, 0, none⟩), .pointer (some ⟨j, 0, none⟩), .pointer (some ⟨c, 0, none⟩), .pointer (some ⟨d, 0, none⟩), .pointer (some ⟨k, 0, none⟩), .pointer (some ⟨l, 0, none⟩)] W fun e w' =>
      Wrote (fun n => n = c ∨ n = d) W w' ∧ ∃ x', (e = .returned (.tuple #[]) ∧ x' = 0 ∨ e = .panicked [fault x']) ∧ LeftP c d (opR I A B h n x y) x' w' := by
  obtain ⟨a0, a1, a2, a3, a4, a5, a6, a7⟩ := bA
  obtain ⟨b0, b1, b2, b3, b4, b5, b6, b7⟩ := bB
  obtain ⟨j0, j1⟩ := bJ
  obtain ⟨k0, k1, k2⟩ := bK
  have f1 := set_far hcd
  have f2 := set_far hcd.symm
  by_cases i0 : I = 0
  · subst i0
    rw [opR_0]
    have c1 := fun W => waysP_of (apply_any A B x y hA hB hx hy W)
    generalize applyR A B x y = T at *
    unfold Bd.val at c1
    have C1 : Hid _ := c1
    clear c1 hA hB hh hn hx hy
    go_enter Try.func11, Try.ntmps11
    go_wp2_with (first
      | (go_at_call 12; go_fit (C1.out _); rintro e V ⟨(⟨rfl, h1⟩ | ⟨rfl, h1⟩), U⟩; have ⟨c0, c1, c2, c3, c4, c5, c6, c7⟩ := bC.grew U; have ⟨d0, d1, d2, d3, d4, d5, d6, d7⟩ := bD.grew U; have y0 := U.frozen (zc 0 none); have y1 := U.frozen (zc 1 none); have y2 := U.frozen (zc 2 none); have y3 := U.frozen (zc 3 none); have y4 := U.frozen (zc 4 none); have y5 := U.frozen (zc 5 none); have y6 := U.frozen (zc 6 none); have y7 := U.frozen (zc 7 none); have z0 := U.frozen (zd 0 none); have z1 := U.frozen (zd 1 none); have z2 := U.frozen (zd 2 none); have z3 := U.frozen (zd 3 none); have z4 := U.frozen (zd 4 none); have z5 := U.frozen (zd 5 none); have z6 := U.frozen (zd 6 none); have z7 := U.frozen (zd 7 none)))
    rotate_left
    · exact ⟨rfl, U.wrote, _, .inr rfl, rfl, fun e => absurd e h1.out⟩
    go_end0
    exact ⟨lay_wrote (lay_wrote U.wrote (.inl rfl) _) (.inr rfl) _, 0, .inl ⟨rfl, rfl⟩, h1.out.symm, fun _ => ⟨lay_far (lay_at (bC.grew U) _) hcd _, lay_at (lay_far (bD.grew U) hcd.symm _) _⟩⟩
  by_cases i1 : I = 1
  · subst i1
    rw [opR_1]
    have c1 := fun W => waysP_of (contact_any A B h hA hB hh W)
    generalize contactR A B h = T at *
    unfold Bd.val at c1
    have C1 : Hid _ := c1
    clear c1 hA hB hh hn hx hy
    go_enter Try.func11, Try.ntmps11
    go_wp2_with (first
      | (go_at_call 13; go_fit (C1.out _); rintro e V ⟨(⟨rfl, h1⟩ | ⟨rfl, h1⟩), U⟩; have ⟨c0, c1, c2, c3, c4, c5, c6, c7⟩ := bC.grew U; have ⟨d0, d1, d2, d3, d4, d5, d6, d7⟩ := bD.grew U; have y0 := U.frozen (zc 0 none); have y1 := U.frozen (zc 1 none); have y2 := U.frozen (zc 2 none); have y3 := U.frozen (zc 3 none); have y4 := U.frozen (zc 4 none); have y5 := U.frozen (zc 5 none); have y6 := U.frozen (zc 6 none); have y7 := U.frozen (zc 7 none); have z0 := U.frozen (zd 0 none); have z1 := U.frozen (zd 1 none); have z2 := U.frozen (zd 2 none); have z3 := U.frozen (zd 3 none); have z4 := U.frozen (zd 4 none); have z5 := U.frozen (zd 5 none); have z6 := U.frozen (zd 6 none); have z7 := U.frozen (zd 7 none)))
    rotate_left
    · exact ⟨rfl, U.wrote, _, .inr rfl, rfl, fun e => absurd e h1.out⟩
    go_end0
    exact ⟨lay_wrote (lay_wrote U.wrote (.inl rfl) _) (.inr rfl) _, 0, .inl ⟨rfl, rfl⟩, h1.out.symm, fun _ => ⟨lay_far (lay_at (bC.grew U) _) hcd _, lay_at (lay_far (bD.grew U) hcd.symm _) _⟩⟩
  have g0 : (I == 0) = false := by simpa using i0
  have g1 : (I == 1) = false := by simpa using i1
  rw [opR_2 i0 i1]
  clear i0 i1
  have c1 := fun W => waysP_of (joint_any A B n hA hB hn W)
  generalize jointR A B n = T at *
  unfold Bd.val at c1
  have C1 : Hid _ := c1
  clear c1 hA hB hh hn hx hy
  go_enter Try.func11, Try.ntmps11
  go_wp2_with (first
    | (go_at_call 14; go_fit (C1.out _); rintro e V ⟨(⟨rfl, h1⟩ | ⟨rfl, h1⟩), U⟩; have ⟨c0, c1, c2, c3, c4, c5, c6, c7⟩ := bC.grew U; have ⟨d0, d1, d2, d3, d4, d5, d6, d7⟩ := bD.grew U; have y0 := U.frozen (zc 0 none); have y1 := U.frozen (zc 1 none); have y2 := U.frozen (zc 2 none); have y3 := U.frozen (zc 3 none); have y4 := U.frozen (zc 4 none); have y5 := U.frozen (zc 5 none); have y6 := U.frozen (zc 6 none); have y7 := U.frozen (zc 7 none); have z0 := U.frozen (zd 0 none); have z1 := U.frozen (zd 1 none); have z2 := U.frozen (zd 2 none); have z3 := U.frozen (zd 3 none); have z4 := U.frozen (zd 4 none); have z5 := U.frozen (zd 5 none); have z6 := U.frozen (zd 6 none); have z7 := U.frozen (zd 7 none)))
  rotate_left
  · exact ⟨rfl, U.wrote, _, .inr rfl, rfl, fun e => absurd e h1.out⟩
  go_end0
  exact ⟨lay_wrote (lay_wrote U.wrote (.inl rfl) _) (.inr rfl) _, 0, .inl ⟨rfl, rfl⟩, h1.out.symm, fun _ => ⟨lay_far (lay_at (bC.grew U) _) hcd _, lay_at (lay_far (bD.grew U) hcd.symm _) _⟩⟩

end Go.Proofs.Ytcancbgaejekiaa
