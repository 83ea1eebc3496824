/-
  Two bodies laid by a closure that asks push's calls; whether two bodies are the same; the statements' own first look ('alive' of stage 11's laws): it returns true; what was there stays.
-/
import Derived.Test.YtcancbgaejekiabJContact
import Derived.Test.YtcancbgaejekiabJJoint
import Derived.Test.YtcancbgaejekiabJRest
namespace Go.Proofs.Ytcancbgaejekiab
open Go.RowKit

theorem lay_wrote {S : Nat → Prop} {W V : World} (U : Wrote S W V) {b : Nat} (hb : S b) (B : Bd) : Wrote S W (lay V b B) := by
  unfold lay
  exact ((((((((U.set hb _ _ _).set hb _ _ _).set hb _ _ _).set hb _ _ _).set hb _ _ _).set hb _ _ _).set hb _ _ _).set hb _ _ _)
/-- What a closure that asks two bodies leaves: the error, and the bodies where there is none. -/
def LeftP (c d : Nat) (t : (Bd × Bd) × Int) (k : Int) (W : World) : Prop := k = t.2 ∧ (k = 0 → BAt W c t.1.1 ∧ BAt W d t.1.2)
theorem LeftP.keep {c d n : Nat} {t : (Bd × Bd) × Int} (hc : c < n) (hd : d < n) : ∀ k W W', (∀ i, i < n → W'.heap[i]? = W.heap[i]?) → LeftP c d t k W → LeftP c d t k W' :=
  fun _ _ _ hh h => ⟨h.1, fun hk => ⟨(h.2 hk).1.heap (hh c hc), (h.2 hk).2.heap (hh d hd)⟩⟩
theorem same_body (A : Bd) (w : World) : (binOp .eql 27 A.val A.val).run Try.prog w = .ok (.bool true) w := by
  have hu := run_underlying Try.underlying27 w
  have hd : ∀ t x y, Op.equal t x y = Op.equalIn (9997 + 1 + 1 + 1) t x y := fun _ _ _ => rfl
  unfold Bd.val
  simp only [binOp, hd]
  rw [Op.equalIn]
  simp [go_sem, hu]
theorem ne_same_body (A : Bd) (w : World) : (binOp .neq 27 A.val A.val).run Try.prog w = .ok (.bool false) w := by
  have hu := run_underlying Try.underlying27 w
  have hd : ∀ t x y, Op.equal t x y = Op.equalIn (9997 + 1 + 1 + 1) t x y := fun _ _ _ => rfl
  unfold Bd.val
  simp only [binOp, hd]
  rw [Op.equalIn]
  simp [go_sem, hu]

set_option maxHeartbeats 2000000 in
theorem ask_alive (a b c d : Nat) (hcd : c ≠ d) (A B : Bd) (hA : A.ok) (hB : B.ok)  (W : World) (bA : BAt W a A) (bB : BAt W b B) (C0 D0 : Bd) (bC : BAt W c C0) (bD : BAt W d D0) (zc : Free W c) (zd : Free W d) :
    Calls Try.prog 8 #[.pointer (some ⟨a, 0, none⟩), .pointer (some ⟨b, 0, none⟩), .pointer (some ⟨c, 0, none⟩), .pointer (some ⟨d, 0, none⟩)] W fun e w' =>
      Wrote (fun n => n = c ∨ n = d) W w' ∧ ∃ x, (e = .returned (.tuple #[]) ∧ x = 0 ∨ e = .panicked [fault x]) ∧ LeftP c d (applyR A B 4294967296 0) x w' := by
  have c1 := fun W => waysP_of (apply_any A B 4294967296 0 hA hB ⟨by decide, by decide⟩ inF0 W)
  generalize applyR A B 4294967296 0 = T at *
  unfold Bd.val at c1
  have C1 : Hid _ := c1
  clear c1 hA hB
  obtain ⟨a0, a1, a2, a3, a4, a5, a6, a7⟩ := bA
  obtain ⟨b0, b1, b2, b3, b4, b5, b6, b7⟩ := bB
  have f1 := set_far hcd
  have f2 := set_far hcd.symm
  go_enter Try.func8, Try.ntmps8
  go_wp2_with (first
    | (go_at_call 9; go_fit (C1.out _); rintro e V ⟨(⟨rfl, h1⟩ | ⟨rfl, h1⟩), U⟩; have ⟨c0, c1, c2, c3, c4, c5, c6, c7⟩ := bC.grew U; have ⟨d0, d1, d2, d3, d4, d5, d6, d7⟩ := bD.grew U; have y0 := U.frozen (zc 0 none); have y1 := U.frozen (zc 1 none); have y2 := U.frozen (zc 2 none); have y3 := U.frozen (zc 3 none); have y4 := U.frozen (zc 4 none); have y5 := U.frozen (zc 5 none); have y6 := U.frozen (zc 6 none); have y7 := U.frozen (zc 7 none); have z0 := U.frozen (zd 0 none); have z1 := U.frozen (zd 1 none); have z2 := U.frozen (zd 2 none); have z3 := U.frozen (zd 3 none); have z4 := U.frozen (zd 4 none); have z5 := U.frozen (zd 5 none); have z6 := U.frozen (zd 6 none); have z7 := U.frozen (zd 7 none)))
  rotate_left
  · exact ⟨rfl, U.wrote, _, .inr rfl, rfl, fun e => absurd e h1.out⟩
  go_end0
  exact ⟨lay_wrote (lay_wrote U.wrote (.inl rfl) _) (.inr rfl) _, 0, .inl ⟨rfl, rfl⟩, h1.out.symm, fun _ => ⟨lay_far (lay_at (bC.grew U) _) hcd _, lay_at (lay_far (bD.grew U) hcd.symm _) _⟩⟩

set_option maxHeartbeats 2000000 in
theorem ask_slows (a b c d : Nat) (hcd : c ≠ d) (A B : Bd) (hA : A.ok) (hB : B.ok)  (W : World) (bA : BAt W a A) (bB : BAt W b B) (C0 D0 : Bd) (bC : BAt W c C0) (bD : BAt W d D0) (zc : Free W c) (zd : Free W d) :
    Calls Try.prog 6 #[.pointer (some ⟨a, 0, none⟩), .pointer (some ⟨b, 0, none⟩), .pointer (some ⟨c, 0, none⟩), .pointer (some ⟨d, 0, none⟩)] W fun e w' =>
      Wrote (fun n => n = c ∨ n = d) W w' ∧ ∃ x, (e = .returned (.tuple #[]) ∧ x = 0 ∨ e = .panicked [fault x]) ∧ LeftP c d (contactR A B ⟨4294967296, 0, 0⟩) x w' := by
  have c1 := fun W => waysP_of (contact_any A B ⟨4294967296, 0, 0⟩ hA hB ⟨⟨by decide, by decide⟩, inF0, inF0⟩ W)
  generalize contactR A B ⟨4294967296, 0, 0⟩ = T at *
  unfold Bd.val at c1
  have C1 : Hid _ := c1
  clear c1 hA hB
  obtain ⟨a0, a1, a2, a3, a4, a5, a6, a7⟩ := bA
  obtain ⟨b0, b1, b2, b3, b4, b5, b6, b7⟩ := bB
  have f1 := set_far hcd
  have f2 := set_far hcd.symm
  go_enter Try.func6, Try.ntmps6
  go_wp2_with (first
    | (go_at_call 7; go_fit (C1.out _); rintro e V ⟨(⟨rfl, h1⟩ | ⟨rfl, h1⟩), U⟩; have ⟨c0, c1, c2, c3, c4, c5, c6, c7⟩ := bC.grew U; have ⟨d0, d1, d2, d3, d4, d5, d6, d7⟩ := bD.grew U; have y0 := U.frozen (zc 0 none); have y1 := U.frozen (zc 1 none); have y2 := U.frozen (zc 2 none); have y3 := U.frozen (zc 3 none); have y4 := U.frozen (zc 4 none); have y5 := U.frozen (zc 5 none); have y6 := U.frozen (zc 6 none); have y7 := U.frozen (zc 7 none); have z0 := U.frozen (zd 0 none); have z1 := U.frozen (zd 1 none); have z2 := U.frozen (zd 2 none); have z3 := U.frozen (zd 3 none); have z4 := U.frozen (zd 4 none); have z5 := U.frozen (zd 5 none); have z6 := U.frozen (zd 6 none); have z7 := U.frozen (zd 7 none)))
  rotate_left
  · exact ⟨rfl, U.wrote, _, .inr rfl, rfl, fun e => absurd e h1.out⟩
  go_end0
  exact ⟨lay_wrote (lay_wrote U.wrote (.inl rfl) _) (.inr rfl) _, 0, .inl ⟨rfl, rfl⟩, h1.out.symm, fun _ => ⟨lay_far (lay_at (bC.grew U) _) hcd _, lay_at (lay_far (bD.grew U) hcd.symm _) _⟩⟩

theorem alJ_apply : applyR alJ alJ 4294967296 0 = ((alJ.mom (-4294967296) 0, alJ.mom 4294967296 0), 0) := by kernel_rfl

set_option maxHeartbeats 2000000 in
theorem alive_any (w : World) :
    Calls Try.prog 4 #[] w fun e w' => e = .returned (.bool true) ∧ Grew w w' := by
  have hmf := mk_func
  go_enter Try.func4, Try.ntmps4
  go_wp2_with (fail)
  obtain ⟨W, hW⟩ : ∃ W, W = (((w.alloc (.cells #[.int .i64 1, .int .i64 4294967296, .int .i64 0, .int .i64 4294967296, .int .i64 0, .int .i64 0, .int .i64 0, .int .i64 0] 27)).alloc (.cells #[.int .i64 1, .int .i64 4294967296, .int .i64 0, .int .i64 4294967296, .int .i64 0, .int .i64 0, .int .i64 0, .int .i64 0] 27)).alloc (.cells #[.int .i64 0, .int .i64 0, .int .i64 0, .int .i64 0, .int .i64 0, .int .i64 0, .int .i64 0, .int .i64 0] 27)).alloc (.cells #[.int .i64 0, .int .i64 0, .int .i64 0, .int .i64 0, .int .i64 0, .int .i64 0, .int .i64 0, .int .i64 0] 27) := ⟨_, rfl⟩
  rw [← hW]
  have GW : Grew w W := by rw [hW]; exact ((((Grew.refl w).alloc _ _).alloc _ _).alloc _ _).alloc _ _
  have sz : W.heap.size = w.heap.size + 1 + 1 + 1 + 1 := by rw [hW]; simp [go_sem]
  have hA : BAt W w.heap.size alJ := by rw [hW]; constructor <;> simp [go_sem, alJ]
  have hB : BAt W (w.heap.size + 1) alJ := by rw [hW]; constructor <;> simp [go_sem, alJ]
  have hC : BAt W (w.heap.size + 1 + 1) noB := by rw [hW]; constructor <;> simp [go_sem, noB]
  have hD : BAt W (w.heap.size + 1 + 1 + 1) noB := by rw [hW]; constructor <;> simp [go_sem, noB]
  clear hW
  generalize hX : w.heap.size = X at *
  refine (try_set (S := fun n => n = X + 1 + 1 ∨ n = X + 1 + 1 + 1) (P := LeftP (X + 1 + 1) (X + 1 + 1 + 1) (applyR alJ alJ 4294967296 0)) _ _ _ (fun _ => by simp [go_sem]) (fun n hn => by omega) (LeftP.keep (by omega) (by omega)) ?_).mono ?_
  · intro W0 G
    exact ask_alive _ _ _ _ (by omega) alJ alJ alJ_ok alJ_ok W0 (hA.grew G) (hB.grew G) noB noB (hC.grew G) (hD.grew G) ((GW.trans G).freeB (by omega)) ((GW.trans G).freeB (by omega))
  rintro e V ⟨hW, x, rfl, hx⟩
  rw [alJ_apply] at hx
  obtain ⟨rfl, hx⟩ := hx
  obtain ⟨⟨c0, c1, c2, c3, c4, c5, c6, c7⟩, ⟨d0, d1, d2, d3, d4, d5, d6, d7⟩⟩ := hx rfl
  have G1 : Grew w V := hW.to GW (fun n hn => by omega)
  simp only [Bd.mom, alJ] at c6 d6
  clear hW hA hB hC hD sz GW c0 c1 c2 c3 c4 c5 c7 d0 d1 d2 d3 d4 d5 d7 hx
  go_wp2
  go_ret
  exact ⟨rfl, G1⟩
end Go.Proofs.Ytcancbgaejekiab
