/-
  The document's own places (maquetteref1's Calc: Plus, Less, Times, Over, Dot, Unit, Share), with no error so far: what the plain functions say, and the error.
-/
import Derived.Test.YtcoooehcgbohgaaGreatPk03
import Derived.Test.YtcoooehcgbohgaaGreatPxKCalc
import Derived.Test.YtcoooehcgbohgaaGreatPxCalc
import Derived.Test.YtcoooehcgbohgaaGreatPxQRef
import Derived.Deep.DeepFit
namespace Go.Proofs.YtcoooehcgbohgaaGreat
open Go.RowKit

theorem Past.setNew {b N : Nat} {w W : World} (h : Past b w W) (hN : w.heap.size ≤ N) (o : Nat) (s : Option Nat) (v : Value) : Past b w (W.setCell ⟨N, o, s⟩ v) := by
  have P := past_setCell N W o s v
  exact ⟨fun w₀ hw G => P.grew w₀ (Nat.le_trans G.size hN) (h.grew w₀ hw G), fun i hi hn => (P.block i (Nat.lt_of_lt_of_le hi h.size) (by omega)).trans (h.block i hi hn), Nat.le_trans h.size P.size⟩
theorem Past.frozen {n : Nat} {w W : World} (h : Past n w W) {p : Addr} (hp : p.block < w.heap.size) (hn : p.block ≠ n) (hz : w.frozen? p = false) : W.frozen? p = false := by
  have e := h.block _ hp hn
  unfold World.frozen? at *
  rw [e]; exact hz
theorem Err.past {w W : World} {b N o : Nat} {k : Int} (h : Err w b 0 k) (hN : b ≠ N) (v : Value) (e : W = w.setCell ⟨N, o, none⟩ v) : Err W b 0 k := by
  subst e
  exact ⟨(past_setCell N w o none v).cell (p := ⟨b, 0, none⟩) hN h.1, by rw [World.frozen?_setCell]; exact h.2⟩
theorem ifK_two (r s : Int × Int) : (ifK r.2 s).2 = (two r s).2.2 := by
  unfold ifK two
  by_cases h : r.2 = 0
  · rw [if_pos h, if_pos h]
    by_cases g : s.2 = 0
    · rw [if_pos g, g]
    · rw [if_neg g]
  · rw [if_neg h, if_neg h]
theorem ifK_in {k : Int} {r : Int × Int} (h : inF r.1) : inF (ifK k r).1 := by
  unfold ifK
  split
  · exact h
  · exact ⟨show (-9223372036854775808 : Int) ≤ 0 by decide, show (0 : Int) ≤ 9223372036854775807 by decide⟩

set_option maxHeartbeats 400000 in
theorem rdiv_k (b off : Nat) (k x y : Int) (w : World) (hx : inF x) (hy : inF y) (h : Err w b off k) :
    Calls Tryz.prog 53 #[.pointer (some ⟨b, off, none⟩), .int .i64 x, .int .i64 y] w fun e w' => e = .returned (.int .i64 (ifK k (divR x y)).1) ∧ Err w' b off (ifK k (divR x y)).2 ∧ Past b w w' := by
  by_cases hk : k = 0
  · subst hk
    refine (rdiv_any b off x y w hx hy h.1 h.2).mono fun e w' ⟨he, n, hw⟩ => ⟨he, ?_, ?_⟩
    · rw [hw]; exact (h.set _).grew ((Grew.refl _).drewN n)
    · rw [hw]; exact (past_setCell _ _ _ _ _).trans ((Grew.refl _).drewN n).past
  · rw [ifK_no hk]
    have hz : (k == 0) = false := by simpa using hk
    have hc := h.1; have hf := h.2
    have H : Hid (Err w b off k) := h
    clear h
    go_enter Tryz.func53, Tryz.ntmps53
    go_wp2
    go_ret
    exact ⟨rfl, H.out, Past.refl _ _⟩
set_option maxHeartbeats 1000000 in
theorem rplus_any (b : Nat) (x y u v : Int) (w : World) (hx : inF x) (hy : inF y) (hu : inF u) (hv : inF v) (h : Err w b 0 0) :
    Calls Tryz.prog 35 #[.pointer (some ⟨b, 0, none⟩), vec x y, vec u v] w fun e w' => (∃ p q, e = .returned (.agg #[.int .i64 p, .int .i64 q]) ∧ ((two (addR x u) (addR y v)).2.2 = 0 → p = (addR x u).1 ∧ q = (addR y v).1)) ∧ Err w' b 0 (two (addR x u) (addR y v)).2.2 ∧ Past b w w' := by
  have hb : b < w.heap.size := cell_block h.1
  have k2 := ifK_two (addR x u) (addR y v)
  have k3 := @two_fst (addR x u) (addR y v)
  have C1 : Hid (∀ W, Err W b 0 0 → Calls Tryz.prog 15 #[.pointer (some ⟨b, 0, none⟩), .int .i64 x, .int .i64 u] W fun e w' => e = .returned (.int .i64 (addR x u).1) ∧ Err w' b 0 (addR x u).2 ∧ Past b W w') := fun W hE => radd_k b 0 0 x u W hx hu hE
  have C2 : Hid (∀ W j, Err W b 0 j → Calls Tryz.prog 15 #[.pointer (some ⟨b, 0, none⟩), .int .i64 y, .int .i64 v] W fun e w' => e = .returned (.int .i64 (ifK j (addR y v)).1) ∧ Err w' b 0 (ifK j (addR y v)).2 ∧ Past b W w') := fun W j hE => radd_k b 0 j y v W hy hv hE
  generalize addR x u = r at *
  generalize addR y v = s at *
  obtain ⟨z, ez⟩ : ∃ z, ifK r.2 s = z := ⟨_, rfl⟩
  have e4 : (two r s).2.2 = 0 → z.1 = s.1 := fun g => by rw [← ez, (k3 g).1]; rfl
  rw [ez] at k2
  rw [← k2] at e4 ⊢
  have EZ : Hid (_ = _) := ez
  clear ez k3 k2
  obtain ⟨W, hW⟩ : ∃ W, W = ((w.alloc (.cells #[.int .i64 x, .int .i64 y] 26)).alloc (.cells #[.int .i64 u, .int .i64 v] 26)).alloc (.cells #[.int .i64 0, .int .i64 0] 26) := ⟨_, rfl⟩
  have GW : Grew w W := by rw [hW]; exact (((Grew.refl w).alloc _ _).alloc _ _).alloc _ _
  have sz : W.heap.size = w.heap.size + 1 + 1 + 1 := by rw [hW]; simp [go_sem]
  have zW : ∀ o, W.frozen? ⟨w.heap.size + 1 + 1, o, none⟩ = false := fun o => GW.free (by simp; try omega)
  unfold vec
  go_enter Tryz.func35, Tryz.ntmps35
  go_wp2_with (first
    | (go_at_call 15; rw [← hW]; go_fit (C1.out _ (h.grew GW)); rintro e V ⟨rfl, E1, U1⟩; have m0 := U1.cell (p := ⟨w.heap.size, 0, none⟩) (v := .int .i64 x) (by simp; omega) (by rw [hW]; simp [go_sem]); have m1 := U1.cell (p := ⟨w.heap.size, 1, none⟩) (v := .int .i64 y) (by simp; omega) (by rw [hW]; simp [go_sem]); have m2 := U1.cell (p := ⟨w.heap.size + 1, 0, none⟩) (v := .int .i64 u) (by simp; omega) (by rw [hW]; simp [go_sem]); have m3 := U1.cell (p := ⟨w.heap.size + 1, 1, none⟩) (v := .int .i64 v) (by simp; omega) (by rw [hW]; simp [go_sem]); have n0 := U1.cell (p := ⟨w.heap.size + 1 + 1, 0, none⟩) (v := .int .i64 0) (by simp; omega) (by rw [hW]; simp [go_sem]); have n1 := U1.cell (p := ⟨w.heap.size + 1 + 1, 1, none⟩) (v := .int .i64 0) (by simp; omega) (by rw [hW]; simp [go_sem]); have y0 := U1.frozen (by simp; omega) (by simp; omega) (zW 0); have y1 := U1.frozen (by simp; omega) (by simp; omega) (zW 1))
    | (go_at_call 15; go_fit (C2.out _ _ E1); rintro e V2 ⟨rfl, E2, U2⟩; have l0 := U2.cell (by simp; omega) n0; have l1 := U2.cell (by simp; omega) n1; have i0 := U2.frozen (cell_block n0) (by simp; omega) y0; have i1 := U2.frozen (cell_block n1) (by simp; omega) y1; rw [EZ.out] at E2 ⊢))
  simp [bodyPost, results, Tryz.results35, go_sem, l0, l1]
  refine ⟨⟨_, _, ⟨rfl, rfl⟩, fun g => ⟨rfl, e4 g⟩⟩, ?_, ?_⟩
  · exact Err.past (Err.past E2 (by omega) _ rfl) (by omega) _ rfl
  · exact (((GW.past.trans U1).trans U2).setNew (by omega) _ _ _).setNew (by omega) _ _ _

set_option maxHeartbeats 1000000 in
theorem rless_any (b : Nat) (x y u v : Int) (w : World) (hx : inF x) (hy : inF y) (hu : inF u) (hv : inF v) (h : Err w b 0 0) :
    Calls Tryz.prog 13 #[.pointer (some ⟨b, 0, none⟩), vec x y, vec u v] w fun e w' => (∃ p q, e = .returned (.agg #[.int .i64 p, .int .i64 q]) ∧ ((two (subR x u) (subR y v)).2.2 = 0 → p = (subR x u).1 ∧ q = (subR y v).1)) ∧ Err w' b 0 (two (subR x u) (subR y v)).2.2 ∧ Past b w w' := by
  have hb : b < w.heap.size := cell_block h.1
  have k2 := ifK_two (subR x u) (subR y v)
  have k3 := @two_fst (subR x u) (subR y v)
  have C1 : Hid (∀ W, Err W b 0 0 → Calls Tryz.prog 16 #[.pointer (some ⟨b, 0, none⟩), .int .i64 x, .int .i64 u] W fun e w' => e = .returned (.int .i64 (subR x u).1) ∧ Err w' b 0 (subR x u).2 ∧ Past b W w') := fun W hE => rsub_k b 0 0 x u W hx hu hE
  have C2 : Hid (∀ W j, Err W b 0 j → Calls Tryz.prog 16 #[.pointer (some ⟨b, 0, none⟩), .int .i64 y, .int .i64 v] W fun e w' => e = .returned (.int .i64 (ifK j (subR y v)).1) ∧ Err w' b 0 (ifK j (subR y v)).2 ∧ Past b W w') := fun W j hE => rsub_k b 0 j y v W hy hv hE
  generalize subR x u = r at *
  generalize subR y v = s at *
  obtain ⟨z, ez⟩ : ∃ z, ifK r.2 s = z := ⟨_, rfl⟩
  have e4 : (two r s).2.2 = 0 → z.1 = s.1 := fun g => by rw [← ez, (k3 g).1]; rfl
  rw [ez] at k2
  rw [← k2] at e4 ⊢
  have EZ : Hid (_ = _) := ez
  clear ez k3 k2
  obtain ⟨W, hW⟩ : ∃ W, W = ((w.alloc (.cells #[.int .i64 x, .int .i64 y] 26)).alloc (.cells #[.int .i64 u, .int .i64 v] 26)).alloc (.cells #[.int .i64 0, .int .i64 0] 26) := ⟨_, rfl⟩
  have GW : Grew w W := by rw [hW]; exact (((Grew.refl w).alloc _ _).alloc _ _).alloc _ _
  have sz : W.heap.size = w.heap.size + 1 + 1 + 1 := by rw [hW]; simp [go_sem]
  have zW : ∀ o, W.frozen? ⟨w.heap.size + 1 + 1, o, none⟩ = false := fun o => GW.free (by simp; try omega)
  unfold vec
  go_enter Tryz.func13, Tryz.ntmps13
  go_wp2_with (first
    | (go_at_call 16; rw [← hW]; go_fit (C1.out _ (h.grew GW)); rintro e V ⟨rfl, E1, U1⟩; have m0 := U1.cell (p := ⟨w.heap.size, 0, none⟩) (v := .int .i64 x) (by simp; omega) (by rw [hW]; simp [go_sem]); have m1 := U1.cell (p := ⟨w.heap.size, 1, none⟩) (v := .int .i64 y) (by simp; omega) (by rw [hW]; simp [go_sem]); have m2 := U1.cell (p := ⟨w.heap.size + 1, 0, none⟩) (v := .int .i64 u) (by simp; omega) (by rw [hW]; simp [go_sem]); have m3 := U1.cell (p := ⟨w.heap.size + 1, 1, none⟩) (v := .int .i64 v) (by simp; omega) (by rw [hW]; simp [go_sem]); have n0 := U1.cell (p := ⟨w.heap.size + 1 + 1, 0, none⟩) (v := .int .i64 0) (by simp; omega) (by rw [hW]; simp [go_sem]); have n1 := U1.cell (p := ⟨w.heap.size + 1 + 1, 1, none⟩) (v := .int .i64 0) (by simp; omega) (by rw [hW]; simp [go_sem]); have y0 := U1.frozen (by simp; omega) (by simp; omega) (zW 0); have y1 := U1.frozen (by simp; omega) (by simp; omega) (zW 1))
    | (go_at_call 16; go_fit (C2.out _ _ E1); rintro e V2 ⟨rfl, E2, U2⟩; have l0 := U2.cell (by simp; omega) n0; have l1 := U2.cell (by simp; omega) n1; have i0 := U2.frozen (cell_block n0) (by simp; omega) y0; have i1 := U2.frozen (cell_block n1) (by simp; omega) y1; rw [EZ.out] at E2 ⊢))
  simp [bodyPost, results, Tryz.results13, go_sem, l0, l1]
  refine ⟨⟨_, _, ⟨rfl, rfl⟩, fun g => ⟨rfl, e4 g⟩⟩, ?_, ?_⟩
  · exact Err.past (Err.past E2 (by omega) _ rfl) (by omega) _ rfl
  · exact (((GW.past.trans U1).trans U2).setNew (by omega) _ _ _).setNew (by omega) _ _ _

set_option maxHeartbeats 1000000 in
theorem rover_any (b : Nat) (x y k : Int) (w : World) (hx : inF x) (hy : inF y) (hk : inF k) (h : Err w b 0 0) :
    Calls Tryz.prog 31 #[.pointer (some ⟨b, 0, none⟩), vec x y, .int .i64 k] w fun e w' => (∃ p q, e = .returned (.agg #[.int .i64 p, .int .i64 q]) ∧ ((two (divR x k) (divR y k)).2.2 = 0 → p = (divR x k).1 ∧ q = (divR y k).1)) ∧ Err w' b 0 (two (divR x k) (divR y k)).2.2 ∧ Past b w w' := by
  have hb : b < w.heap.size := cell_block h.1
  have k2 := ifK_two (divR x k) (divR y k)
  have k3 := @two_fst (divR x k) (divR y k)
  have C1 : Hid (∀ W, Err W b 0 0 → Calls Tryz.prog 53 #[.pointer (some ⟨b, 0, none⟩), .int .i64 x, .int .i64 k] W fun e w' => e = .returned (.int .i64 (divR x k).1) ∧ Err w' b 0 (divR x k).2 ∧ Past b W w') := fun W hE => rdiv_k b 0 0 x k W hx hk hE
  have C2 : Hid (∀ W j, Err W b 0 j → Calls Tryz.prog 53 #[.pointer (some ⟨b, 0, none⟩), .int .i64 y, .int .i64 k] W fun e w' => e = .returned (.int .i64 (ifK j (divR y k)).1) ∧ Err w' b 0 (ifK j (divR y k)).2 ∧ Past b W w') := fun W j hE => rdiv_k b 0 j y k W hy hk hE
  generalize divR x k = r at *
  generalize divR y k = s at *
  obtain ⟨z, ez⟩ : ∃ z, ifK r.2 s = z := ⟨_, rfl⟩
  have e4 : (two r s).2.2 = 0 → z.1 = s.1 := fun g => by rw [← ez, (k3 g).1]; rfl
  rw [ez] at k2
  rw [← k2] at e4 ⊢
  have EZ : Hid (_ = _) := ez
  clear ez k3 k2
  obtain ⟨W, hW⟩ : ∃ W, W = (w.alloc (.cells #[.int .i64 x, .int .i64 y] 26)).alloc (.cells #[.int .i64 0, .int .i64 0] 26) := ⟨_, rfl⟩
  have GW : Grew w W := by rw [hW]; exact ((Grew.refl w).alloc _ _).alloc _ _
  have sz : W.heap.size = w.heap.size + 1 + 1 := by rw [hW]; simp [go_sem]
  have zW : ∀ o, W.frozen? ⟨w.heap.size + 1, o, none⟩ = false := fun o => GW.free (by simp; try omega)
  unfold vec
  go_enter Tryz.func31, Tryz.ntmps31
  go_wp2_with (first
    | (go_at_call 53; rw [← hW]; go_fit (C1.out _ (h.grew GW)); rintro e V ⟨rfl, E1, U1⟩; have m0 := U1.cell (p := ⟨w.heap.size, 0, none⟩) (v := .int .i64 x) (by simp; omega) (by rw [hW]; simp [go_sem]); have m1 := U1.cell (p := ⟨w.heap.size, 1, none⟩) (v := .int .i64 y) (by simp; omega) (by rw [hW]; simp [go_sem]); have n0 := U1.cell (p := ⟨w.heap.size + 1, 0, none⟩) (v := .int .i64 0) (by simp; omega) (by rw [hW]; simp [go_sem]); have n1 := U1.cell (p := ⟨w.heap.size + 1, 1, none⟩) (v := .int .i64 0) (by simp; omega) (by rw [hW]; simp [go_sem]); have y0 := U1.frozen (by simp; omega) (by simp; omega) (zW 0); have y1 := U1.frozen (by simp; omega) (by simp; omega) (zW 1))
    | (go_at_call 53; go_fit (C2.out _ _ E1); rintro e V2 ⟨rfl, E2, U2⟩; have l0 := U2.cell (by simp; omega) n0; have l1 := U2.cell (by simp; omega) n1; have i0 := U2.frozen (cell_block n0) (by simp; omega) y0; have i1 := U2.frozen (cell_block n1) (by simp; omega) y1; rw [EZ.out] at E2 ⊢))
  simp [bodyPost, results, Tryz.results31, go_sem, l0, l1]
  refine ⟨⟨_, _, ⟨rfl, rfl⟩, fun g => ⟨rfl, e4 g⟩⟩, ?_, ?_⟩
  · exact Err.past (Err.past E2 (by omega) _ rfl) (by omega) _ rfl
  · exact (((GW.past.trans U1).trans U2).setNew (by omega) _ _ _).setNew (by omega) _ _ _

theorem dotV_ifK (x y u v : Int) : (ifK (ifK (mulR x u).2 (mulR y v)).2 (addR (mulR x u).1 (ifK (mulR x u).2 (mulR y v)).1)).2 = (dotV x y u v).2 ∧ ((dotV x y u v).2 = 0 → (ifK (ifK (mulR x u).2 (mulR y v)).2 (addR (mulR x u).1 (ifK (mulR x u).2 (mulR y v)).1)).1 = (dotV x y u v).1) := by
  unfold ifK dotV
  by_cases h : (mulR x u).2 = 0
  · rw [if_pos h, if_pos h]
    by_cases g : (mulR y v).2 = 0
    · rw [if_pos g]; exact ⟨rfl, fun _ => rfl⟩
    · rw [if_neg g]; exact ⟨rfl, fun e => absurd e g⟩
  · rw [if_neg h, if_neg h]
    simp only
    rw [if_neg h]; exact ⟨rfl, fun e => absurd e h⟩
theorem over_k (b : Nat) (x y k e : Int) (w : World) (hx : inF x) (hy : inF y) (hk : inF k) (h : Err w b 0 e) (he : e = 0) :
    Calls Tryz.prog 31 #[.pointer (some ⟨b, 0, none⟩), .agg #[.int .i64 x, .int .i64 y], .int .i64 k] w fun e w' => (∃ p q, e = .returned (.agg #[.int .i64 p, .int .i64 q]) ∧ ((two (divR x k) (divR y k)).2.2 = 0 → p = (divR x k).1 ∧ q = (divR y k).1)) ∧ Err w' b 0 (two (divR x k) (divR y k)).2.2 ∧ Past b w w' := by
  subst he
  exact rover_any b x y k w hx hy hk h
theorem len_zero {x y : Int} (h : ¬ (lenR x y).2 = 0) : (lenR x y).1 = 0 := by
  unfold lenR at *
  split at h
  · exact absurd rfl h
  · rename_i g; rw [if_neg g]
set_option maxHeartbeats 1000000 in
theorem runit_any (b : Nat) (x y : Int) (w : World) (hx : inF x) (hy : inF y) (h : Err w b 0 0) :
    Calls Tryz.prog 14 #[.pointer (some ⟨b, 0, none⟩), vec x y] w fun e w' => (∃ p q n, e = .returned (.tuple #[.agg #[.int .i64 p, .int .i64 q], .int .i64 n]) ∧ ((unitR x y).2.2 = 0 → p = (unitR x y).1.1 ∧ q = (unitR x y).1.2 ∧ n = (unitR x y).2.1)) ∧ Err w' b 0 (unitR x y).2.2 ∧ Past b w w' := by
  have hb : b < w.heap.size := cell_block h.1
  have fl := lenR_in hx hy
  have lz := @len_zero x y
  have CL : Hid (∀ W, Err W b 0 0 → Calls Tryz.prog 30 #[.pointer (some ⟨b, 0, none⟩), .int .i64 x, .int .i64 y] W fun e w' => e = .returned (.int .i64 (lenR x y).1) ∧ Err w' b 0 (lenR x y).2 ∧ Past b W w') := fun W hE => (rlen_any b 0 x y W hx hy hE.1 hE.2).mono fun e w' ⟨he, hw⟩ => ⟨he, by rw [hw]; exact hE.set _, by rw [hw]; exact past_setCell _ _ _ _ _⟩
  obtain ⟨W, hW⟩ : ∃ W, W = (w.alloc (.cells #[.int .i64 x, .int .i64 y] 26)).alloc (.cells #[.int .i64 0, .int .i64 0] 26) := ⟨_, rfl⟩
  have GW : Grew w W := by rw [hW]; exact ((Grew.refl w).alloc _ _).alloc _ _
  have sz : W.heap.size = w.heap.size + 1 + 1 := by rw [hW]; simp [go_sem]
  have zW : ∀ o, W.frozen? ⟨w.heap.size + 1, o, none⟩ = false := fun o => GW.free (by simp)
  by_cases hz : (lenR x y).1 = 0
  · have hu : unitR x y = ((0, 0), 0, (lenR x y).2) := by
      by_cases g : (lenR x y).2 = 0
      · rw [unitR_zero g hz, g]
      · unfold unitR; rw [if_neg g]
    rw [hu]
    clear hu lz
    rw [hz] at CL
    generalize (lenR x y).2 = k at *
    unfold vec
    go_enter Tryz.func14, Tryz.ntmps14
    go_wp2_with (first
      | (go_at_call 30; rw [← hW]; go_fit (CL.out _ (h.grew GW)); rintro e V ⟨rfl, E1, U1⟩; have n0 := U1.cell (p := ⟨w.heap.size + 1, 0, none⟩) (v := .int .i64 0) (by simp; omega) (by rw [hW]; simp [go_sem]); have n1 := U1.cell (p := ⟨w.heap.size + 1, 1, none⟩) (v := .int .i64 0) (by simp; omega) (by rw [hW]; simp [go_sem]); have y0 := U1.frozen (by simp; omega) (by simp; omega) (zW 0); have y1 := U1.frozen (by simp; omega) (by simp; omega) (zW 1)))
    simp [bodyPost, results, Tryz.results14, go_sem, n0, n1]
    exact ⟨⟨_, _, _, ⟨⟨rfl, rfl⟩, rfl⟩, fun _ => ⟨rfl, rfl, rfl⟩⟩, Err.past (Err.past E1 (by omega) _ rfl) (by omega) _ rfl, ((GW.past.trans U1).setNew (by omega) _ _ _).setNew (by omega) _ _ _⟩
  · have l2 : (lenR x y).2 = 0 := Decidable.byContradiction fun g => hz (lz g)
    have hz' : ((lenR x y).1 == 0) = false := by simp [hz]
    have e1 := @unitR_ok x y l2 hz
    have e2 : ¬ (two (divR x (lenR x y).1) (divR y (lenR x y).1)).2.2 = 0 → (unitR x y).2.2 = (two (divR x (lenR x y).1) (divR y (lenR x y).1)).2.2 := fun g => by unfold unitR; rw [if_pos l2, if_neg hz, if_neg g]
    have CO := fun W (hE : Err W b 0 0) => over_k b x y _ 0 W hx hy fl hE rfl
    rw [l2] at CL
    generalize (lenR x y).1 = n at *
    generalize divR x n = r at *
    generalize divR y n = s at *
    have ek : (unitR x y).2.2 = (two r s).2.2 := by
      by_cases g : (two r s).2.2 = 0
      · rw [e1 g, g]
      · exact e2 g
    have ev : (two r s).2.2 = 0 → unitR x y = ((r.1, s.1), n, 0) := e1
    clear e1 e2 lz
    generalize unitR x y = t at *
    rw [ek]
    have HO : Hid (∀ W, Err W b 0 0 → _) := CO
    clear CO
    unfold vec
    go_enter Tryz.func14, Tryz.ntmps14
    go_wp2_with (first
      | (go_at_call 30; rw [← hW]; go_fit (CL.out _ (h.grew GW)); rintro e V ⟨rfl, E1, U1⟩; have m0 := U1.cell (p := ⟨w.heap.size, 0, none⟩) (v := .int .i64 x) (by simp; omega) (by rw [hW]; simp [go_sem]); have m1 := U1.cell (p := ⟨w.heap.size, 1, none⟩) (v := .int .i64 y) (by simp; omega) (by rw [hW]; simp [go_sem]); have n0 := U1.cell (p := ⟨w.heap.size + 1, 0, none⟩) (v := .int .i64 0) (by simp; omega) (by rw [hW]; simp [go_sem]); have n1 := U1.cell (p := ⟨w.heap.size + 1, 1, none⟩) (v := .int .i64 0) (by simp; omega) (by rw [hW]; simp [go_sem]); have y0 := U1.frozen (by simp; omega) (by simp; omega) (zW 0); have y1 := U1.frozen (by simp; omega) (by simp; omega) (zW 1))
      | (go_at_call 31; go_fit (HO.out _ E1); rintro e V2 ⟨⟨p, q, rfl, hpq⟩, E2, U2⟩; have l0 := U2.cell (by simp; omega) n0; have l1 := U2.cell (by simp; omega) n1; have i0 := U2.frozen (cell_block n0) (by simp; omega) y0; have i1 := U2.frozen (cell_block n1) (by simp; omega) y1))
    simp [bodyPost, results, Tryz.results14, go_sem, l0, l1]
    refine ⟨⟨_, _, _, ⟨⟨rfl, rfl⟩, rfl⟩, fun g => ?_⟩, Err.past (Err.past E2 (by omega) _ rfl) (by omega) _ rfl, (((GW.past.trans U1).trans U2).setNew (by omega) _ _ _).setNew (by omega) _ _ _⟩
    rw [ev g]
    exact ⟨(hpq g).1, (hpq g).2, rfl⟩
end Go.Proofs.YtcoooehcgbohgaaGreat
