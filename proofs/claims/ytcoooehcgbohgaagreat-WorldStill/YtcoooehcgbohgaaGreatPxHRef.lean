/-
  The document's own word on numbers behind an error, and on overlaps (maquetteref1's Calc).
-/
import Derived.Test.YtcoooehcgbohgaaGreatPxXRef
import Derived.Test.YtcoooehcgbohgaaGreatPk05
import Derived.Test.YtcoooehcgbohgaaGreatPxHAlive
namespace Go.Proofs.YtcoooehcgbohgaaGreat
open Go.RowKit

theorem radd_no (b : Nat) (k x y : Int) (w : World) (hk : k ≠ 0) (h : Err w b 0 k) :
    Calls Tryz.prog 15 #[.pointer (some ⟨b, 0, none⟩), .int .i64 x, .int .i64 y] w fun e w' => e = .returned (.int .i64 0) ∧ Err w' b 0 k ∧ Past b w w' := by
  have hz : (k == 0) = false := by simpa using hk
  have hc := h.1; have hf := h.2
  have H : Hid (Err w b 0 k) := h
  clear h
  go_enter Tryz.func15, Tryz.ntmps15
  go_wp2
  go_ret
  exact ⟨rfl, H.out, Past.refl _ _⟩
theorem rsub_no (b : Nat) (k x y : Int) (w : World) (hk : k ≠ 0) (h : Err w b 0 k) :
    Calls Tryz.prog 16 #[.pointer (some ⟨b, 0, none⟩), .int .i64 x, .int .i64 y] w fun e w' => e = .returned (.int .i64 0) ∧ Err w' b 0 k ∧ Past b w w' := by
  have hz : (k == 0) = false := by simpa using hk
  have hc := h.1; have hf := h.2
  have H : Hid (Err w b 0 k) := h
  clear h
  go_enter Tryz.func16, Tryz.ntmps16
  go_wp2
  go_ret
  exact ⟨rfl, H.out, Past.refl _ _⟩
theorem rlen_no (b : Nat) (k x y : Int) (w : World) (hk : k ≠ 0) (h : Err w b 0 k) :
    Calls Tryz.prog 30 #[.pointer (some ⟨b, 0, none⟩), .int .i64 x, .int .i64 y] w fun e w' => e = .returned (.int .i64 0) ∧ Err w' b 0 k ∧ Past b w w' := by
  have hz : (k == 0) = false := by simpa using hk
  have hc := h.1; have hf := h.2
  have H : Hid (Err w b 0 k) := h
  clear h
  go_enter Tryz.func30, Tryz.ntmps30
  go_wp2
  go_ret
  exact ⟨rfl, H.out, Past.refl _ _⟩
theorem rsub_w (b : Nat) (k x y : Int) (w : World) (hxy : k = 0 → inF x ∧ inF y) (h : Err w b 0 k) :
    Calls Tryz.prog 16 #[.pointer (some ⟨b, 0, none⟩), .int .i64 x, .int .i64 y] w fun e w' => e = .returned (.int .i64 (ifK k (subR x y)).1) ∧ Err w' b 0 (ifK k (subR x y)).2 ∧ Past b w w' := by
  by_cases hk : k = 0
  · exact rsub_k b 0 k x y w (hxy hk).1 (hxy hk).2 h
  · rw [ifK_no hk]; exact rsub_no b k x y w hk h
/-- .. the amount of a number. -/
theorem ramt_no (b : Nat) (k d : Int) (w : World) (hk : k ≠ 0) (h : Err w b 0 k) :
    Calls Tryz.prog 33 #[.pointer (some ⟨b, 0, none⟩), .int .i64 d] w fun e w' => (∃ v, e = .returned (.int .i64 v)) ∧ Err w' b 0 k ∧ Past b w w' := by
  have C1 : Hid (∀ W, Err W b 0 k → Calls Tryz.prog 16 #[.pointer (some ⟨b, 0, none⟩), .int .i64 0, .int .i64 d] W fun e w' => e = .returned (.int .i64 0) ∧ Err w' b 0 k ∧ Past b W w') := fun W hE => rsub_no b k 0 d W hk hE
  by_cases g : d < 0
  · go_enter Tryz.func33, Tryz.ntmps33
    go_wp2_with (first
      | (go_at_call 16; go_fit (C1.out _ h); rintro e V ⟨rfl, E1, U1⟩))
    go_ret
    exact ⟨⟨_, rfl⟩, E1, U1⟩
  · clear C1
    have H : Hid (Err w b 0 k) := h
    clear h
    go_enter Tryz.func33, Tryz.ntmps33
    go_wp2
    go_ret
    exact ⟨⟨_, rfl⟩, H.out, Past.refl _ _⟩
theorem ramt_ok (b : Nat) (d : Int) (w : World) (hd : inF d) (h : Err w b 0 0) :
    Calls Tryz.prog 33 #[.pointer (some ⟨b, 0, none⟩), .int .i64 d] w fun e w' => e = .returned (.int .i64 (amtR d).1) ∧ Err w' b 0 (amtR d).2 ∧ Past b w w' := by
  have C1 : Hid (∀ W, Err W b 0 0 → Calls Tryz.prog 16 #[.pointer (some ⟨b, 0, none⟩), .int .i64 0, .int .i64 d] W fun e w' => e = .returned (.int .i64 (subR 0 d).1) ∧ Err w' b 0 (subR 0 d).2 ∧ Past b W w') := fun W hE => rsub_k b 0 0 0 d W inF0 hd hE
  unfold amtR
  by_cases g : d < 0
  · rw [if_pos g]
    generalize subR 0 d = r at *
    go_enter Tryz.func33, Tryz.ntmps33
    go_wp2_with (first
      | (go_at_call 16; go_fit (C1.out _ h); rintro e V ⟨rfl, E1, U1⟩))
    go_ret
    exact ⟨rfl, E1, U1⟩
  · rw [if_neg g]
    clear C1
    have H : Hid (Err w b 0 0) := h
    clear h
    go_enter Tryz.func33, Tryz.ntmps33
    go_wp2
    go_ret
    exact ⟨rfl, H.out, Past.refl _ _⟩
/-- The three calls that reckon an overlap. -/
structure OverC (b : Nat) (a c x s k1 k2 X i : Int) : Prop where
  add : ∀ W, Err W b 0 0 → Calls Tryz.prog 15 #[.pointer (some ⟨b, 0, none⟩), .int .i64 a, .int .i64 c] W fun e w' => e = .returned (.int .i64 s) ∧ Err w' b 0 k1 ∧ Past b W w'
  amt : ∀ W, Err W b 0 k1 → Calls Tryz.prog 33 #[.pointer (some ⟨b, 0, none⟩), .int .i64 x] W fun e w' => (∃ v, e = .returned (.int .i64 v) ∧ Hid (k1 = 0 → v = (amtR x).1)) ∧ Err w' b 0 k2 ∧ Past b W w'
  sub : ∀ W v, Hid (k1 = 0 → v = (amtR x).1) → Err W b 0 k2 → Calls Tryz.prog 16 #[.pointer (some ⟨b, 0, none⟩), .int .i64 s, .int .i64 v] W fun e w' => e = .returned (.int .i64 X) ∧ Err w' b 0 i ∧ Past b W w'
theorem overC (b : Nat) {a c x : Int} (ha : inF a) (hc : inF c) (hx : inF x) : ∃ s k1 k2, OverC b a c x s k1 k2 (overR a c x).1 (overR a c x).2 := by
  refine ⟨(addR a c).1, (addR a c).2, (if (addR a c).2 = 0 then (amtR x).2 else (addR a c).2), ?_, ?_, ?_⟩
  · intro W h
    exact radd_k b 0 0 a c W ha hc h
  · intro W h
    by_cases g : (addR a c).2 = 0
    · rw [if_pos g]
      rw [g] at h
      exact (ramt_ok b x W hx h).mono fun e w' ⟨he, hE, hP⟩ => ⟨⟨_, he, fun _ => rfl⟩, hE, hP⟩
    · rw [if_neg g]
      exact (ramt_no b _ x W g h).mono fun e w' ⟨⟨v, he⟩, hE, hP⟩ => ⟨⟨v, he, fun e => absurd e g⟩, hE, hP⟩
  · intro W v hv h
    have key : ifK (if (addR a c).2 = 0 then (amtR x).2 else (addR a c).2) (subR (addR a c).1 v) = overR a c x := by
      unfold overR behind ifK
      by_cases g : (addR a c).2 = 0
      · rw [if_pos g, if_pos g, hv.out g]
      · rw [if_neg g, if_neg g, if_neg g]
    rw [← key]
    refine rsub_w b _ _ v W (fun e => ⟨addR_in a c, ?_⟩) h
    by_cases g : (addR a c).2 = 0
    · rw [hv.out g]; exact amtR_in hx
    · rw [if_neg g] at e; exact absurd e g
theorem inR_zero {x : Int} (h : ¬ (inR x).2 = 0) : (inR x).1 = 0 := by
  rcases inR_cases x with ⟨e, _⟩ | ⟨e, _⟩
  · rw [e] at h; exact absurd rfl h
  · rw [e]
theorem over_zero {a c x : Int} (h : 0 < (overR a c x).1) : (overR a c x).2 = 0 := by
  refine Decidable.byContradiction fun g => ?_
  have : (overR a c x).1 = 0 := by
    revert g
    unfold overR behind
    split
    · split
      · exact fun g => inR_zero g
      · exact fun _ => rfl
    · exact fun _ => rfl
  omega

set_option maxHeartbeats 1000000 in
theorem rless_no (b : Nat) (x y u v k : Int) (w : World) (hk : k ≠ 0) (h : Err w b 0 k) :
    Calls Tryz.prog 13 #[.pointer (some ⟨b, 0, none⟩), vec x y, vec u v] w fun e w' => e = .returned (.agg #[.int .i64 0, .int .i64 0]) ∧ Err w' b 0 k ∧ Past b w w' := by
  have hb : b < w.heap.size := cell_block h.1
  have C1 : Hid (∀ W x y, Err W b 0 k → Calls Tryz.prog 16 #[.pointer (some ⟨b, 0, none⟩), .int .i64 x, .int .i64 y] W fun e w' => e = .returned (.int .i64 0) ∧ Err w' b 0 k ∧ Past b W w') := fun W x y hE => rsub_no b k x y W hk hE
  obtain ⟨W, hW⟩ : ∃ W, W = ((w.alloc (.cells #[.int .i64 x, .int .i64 y] 26)).alloc (.cells #[.int .i64 u, .int .i64 v] 26)).alloc (.cells #[.int .i64 0, .int .i64 0] 26) := ⟨_, rfl⟩
  have GW : Grew w W := by rw [hW]; exact (((Grew.refl w).alloc _ _).alloc _ _).alloc _ _
  have sz : W.heap.size = w.heap.size + 1 + 1 + 1 := by rw [hW]; simp [go_sem]
  have zW : ∀ o, W.frozen? ⟨w.heap.size + 1 + 1, o, none⟩ = false := fun o => GW.free (by simp; try omega)
  unfold vec
  go_enter Tryz.func13, Tryz.ntmps13
  go_wp2_with (first
    | (go_at_call 16; rw [← hW]; go_fit (C1.out _ _ _ (h.grew GW)); rintro e V ⟨rfl, E1, U1⟩; have m1 := U1.cell (p := ⟨w.heap.size, 1, none⟩) (v := .int .i64 y) (by simp; omega) (by rw [hW]; simp [go_sem]); have m3 := U1.cell (p := ⟨w.heap.size + 1, 1, none⟩) (v := .int .i64 v) (by simp; omega) (by rw [hW]; simp [go_sem]); have n0 := U1.cell (p := ⟨w.heap.size + 1 + 1, 0, none⟩) (v := .int .i64 0) (by simp; omega) (by rw [hW]; simp [go_sem]); have n1 := U1.cell (p := ⟨w.heap.size + 1 + 1, 1, none⟩) (v := .int .i64 0) (by simp; omega) (by rw [hW]; simp [go_sem]); have y0 := U1.frozen (by simp; omega) (by simp; omega) (zW 0); have y1 := U1.frozen (by simp; omega) (by simp; omega) (zW 1))
    | (go_at_call 16; go_fit (C1.out _ _ _ E1); rintro e V2 ⟨rfl, E2, U2⟩; have l0 := U2.cell (by simp; omega) n0; have l1 := U2.cell (by simp; omega) n1; have i0 := U2.frozen (cell_block n0) (by simp; omega) y0; have i1 := U2.frozen (cell_block n1) (by simp; omega) y1))
  simp [bodyPost, results, Tryz.results13, go_sem, l0, l1]
  refine ⟨?_, ?_⟩
  · exact Err.past (Err.past E2 (by omega) _ rfl) (by omega) _ rfl
  · exact (((GW.past.trans U1).trans U2).setNew (by omega) _ _ _).setNew (by omega) _ _ _
set_option maxHeartbeats 1000000 in
theorem runit_no (b : Nat) (x y k : Int) (w : World) (hk : k ≠ 0) (h : Err w b 0 k) :
    Calls Tryz.prog 14 #[.pointer (some ⟨b, 0, none⟩), .agg #[.int .i64 x, .int .i64 y]] w fun e w' => e = .returned (.tuple #[.agg #[.int .i64 0, .int .i64 0], .int .i64 0]) ∧ Err w' b 0 k ∧ Past b w w' := by
  have hb : b < w.heap.size := cell_block h.1
  have CL : Hid (∀ W, Err W b 0 k → Calls Tryz.prog 30 #[.pointer (some ⟨b, 0, none⟩), .int .i64 x, .int .i64 y] W fun e w' => e = .returned (.int .i64 0) ∧ Err w' b 0 k ∧ Past b W w') := fun W hE => rlen_no b k x y W hk hE
  obtain ⟨W, hW⟩ : ∃ W, W = (w.alloc (.cells #[.int .i64 x, .int .i64 y] 26)).alloc (.cells #[.int .i64 0, .int .i64 0] 26) := ⟨_, rfl⟩
  have GW : Grew w W := by rw [hW]; exact ((Grew.refl w).alloc _ _).alloc _ _
  have sz : W.heap.size = w.heap.size + 1 + 1 := by rw [hW]; simp [go_sem]
  have zW : ∀ o, W.frozen? ⟨w.heap.size + 1, o, none⟩ = false := fun o => GW.free (by simp)
  go_enter Tryz.func14, Tryz.ntmps14
  go_wp2_with (first
    | (go_at_call 30; rw [← hW]; go_fit (CL.out _ (h.grew GW)); rintro e V ⟨rfl, E1, U1⟩; have n0 := U1.cell (p := ⟨w.heap.size + 1, 0, none⟩) (v := .int .i64 0) (by simp; omega) (by rw [hW]; simp [go_sem]); have n1 := U1.cell (p := ⟨w.heap.size + 1, 1, none⟩) (v := .int .i64 0) (by simp; omega) (by rw [hW]; simp [go_sem]); have y0 := U1.frozen (by simp; omega) (by simp; omega) (zW 0); have y1 := U1.frozen (by simp; omega) (by simp; omega) (zW 1)))
  simp [bodyPost, results, Tryz.results14, go_sem, n0, n1]
  exact ⟨Err.past (Err.past E1 (by omega) _ rfl) (by omega) _ rfl, ((GW.past.trans U1).setNew (by omega) _ _ _).setNew (by omega) _ _ _⟩

/-- Two bodies handed by value, and the contact that a function of two bodies lays its answer in. -/
structure Fm (W : World) (n : Nat) (A B : Bd) : Prop where
  a : BAt W n A
  b : BAt W (n + 1) B
  h : HAt W (n + 1 + 1) ⟨0, 0, 0⟩
  z : Free W (n + 1 + 1)
theorem Fm.past {W V : World} {n c : Nat} {A B : Bd} (F : Fm W n A B) (U : Past c W V) (hc : c < n) : Fm V n A B :=
  ⟨F.a.heap (U.block _ F.a.size (by omega)), F.b.heap (U.block _ F.b.size (by omega)), F.h.heap (U.block _ F.h.size (by omega)), fun o s => U.frozen (p := ⟨n + 1 + 1, o, s⟩) F.h.size (by simp only; omega) (F.z o s)⟩
theorem At.past {W V : World} {n c : Nat} {x y : Int} (h : At W n x y) (U : Past c W V) (hc : n ≠ c) : At V n x y := h.heap (U.block _ h.size hc)
theorem fm_start (w : World) (A B : Bd) : Fm (((w.alloc (.cells #[.int .i64 A.s, .int .i64 A.a, .int .i64 A.b, .int .i64 A.m, .int .i64 A.p, .int .i64 A.q, .int .i64 A.u, .int .i64 A.v] 28)).alloc (.cells #[.int .i64 B.s, .int .i64 B.a, .int .i64 B.b, .int .i64 B.m, .int .i64 B.p, .int .i64 B.q, .int .i64 B.u, .int .i64 B.v] 28)).alloc (.cells #[.int .i64 0, .int .i64 0, .int .i64 0] 34)) w.heap.size A B := by
  refine ⟨?_, ?_, ?_, ?_⟩
  · constructor <;> simp [go_sem]
  · constructor <;> simp [go_sem]
  · constructor <;> simp [go_sem]
  · exact (((((Grew.refl w).alloc _ _).alloc _ _).alloc _ _)).freeB (by omega)
/-- The answer laid. -/
theorem past_hit {c : Nat} {w V : World} (P : Past c w V) (k : Int) (E : Err V c 0 k) (hc : c < w.heap.size) (p q r : Value) :
    Err (((V.setCell ⟨w.heap.size + 1 + 1, 0, none⟩ p).setCell ⟨w.heap.size + 1 + 1, 1, none⟩ q).setCell ⟨w.heap.size + 1 + 1, 2, none⟩ r) c 0 k ∧ Past c w (((V.setCell ⟨w.heap.size + 1 + 1, 0, none⟩ p).setCell ⟨w.heap.size + 1 + 1, 1, none⟩ q).setCell ⟨w.heap.size + 1 + 1, 2, none⟩ r) :=
  ⟨Err.past (Err.past (Err.past E (by omega) _ rfl) (by omega) _ rfl) (by omega) _ rfl, ((P.setNew (by omega) _ _ _).setNew (by omega) _ _ _).setNew (by omega) _ _ _⟩
end Go.Proofs.YtcoooehcgbohgaaGreat
