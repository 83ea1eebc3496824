/-
  The document's own places, speeds and lightness (maquetteref1's Calc) with whatever error so far: what they answer, and the error behind them.
-/
import Derived.Test.YtcancbgaejekiaaBRef
import Derived.Test.YtcancbgaejekiaaJNum
namespace Go.Proofs.Ytcancbgaejekiaa
open Go.RowKit

/-- Two reckonings, one behind the other, with an error so far: both, and the error. -/
def pairK (k : Int) (r s : Int × Int) : Int × Int × Int := ((ifK k r).1, (ifK (ifK k r).2 s).1, (ifK (ifK k r).2 s).2)
theorem pairK_in {k : Int} {r s : Int × Int} (h : inF r.1) (g : inF s.1) : inF (pairK k r s).1 ∧ inF (pairK k r s).2.1 := ⟨ifK_in h, ifK_in g⟩
theorem pairK_no {k : Int} (h : k ≠ 0) (r s : Int × Int) : pairK k r s = (0, 0, k) := by unfold pairK; rw [ifK_no h]; simp only; rw [ifK_no h]
theorem pairK_err (r s : Int × Int) : (pairK 0 r s).2.2 = (two r s).2.2 := by show (ifK r.2 s).2 = _; exact ifK_two r s
theorem pairK_val {r s : Int × Int} (h : (two r s).2.2 = 0) : pairK 0 r s = two r s := by
  obtain ⟨h1, h2⟩ := two_fst h
  unfold pairK
  rw [ifK_ok, h1, ifK_ok, two_ok h1 h2, h2]

set_option maxHeartbeats 1000000 in
theorem rless_u (b : Nat) (k x y u v : Int) (w : World) (hx : inF x) (hy : inF y) (hu : inF u) (hv : inF v) (h : Err w b 0 k) :
    Calls Try.prog 40 #[.pointer (some ⟨b, 0, none⟩), vec x y, vec u v] w fun e w' => e = .returned (.agg #[.int .i64 (pairK k (subR x u) (subR y v)).1, .int .i64 (pairK k (subR x u) (subR y v)).2.1]) ∧ Err w' b 0 (pairK k (subR x u) (subR y v)).2.2 ∧ Past b w w' := by
  have hb : b < w.heap.size := cell_block h.1
  have C1 : Hid (∀ W, Err W b 0 k → _) := fun W hE => rsub_k b 0 k x u W hx hu hE
  have C2 : Hid (∀ W, Err W b 0 (ifK k (subR x u)).2 → _) := fun W hE => rsub_k b 0 (ifK k (subR x u)).2 y v W hy hv hE
  unfold pairK
  generalize ifK k (subR x u) = r at *
  generalize ifK r.2 (subR y v) = s at *
  obtain ⟨W, hW⟩ : ∃ W, W = ((w.alloc (.cells #[.int .i64 x, .int .i64 y] 24)).alloc (.cells #[.int .i64 u, .int .i64 v] 24)).alloc (.cells #[.int .i64 0, .int .i64 0] 24) := ⟨_, rfl⟩
  have GW : Grew w W := by rw [hW]; exact (((Grew.refl w).alloc _ _).alloc _ _).alloc _ _
  have sz : W.heap.size = w.heap.size + 1 + 1 + 1 := by rw [hW]; simp [go_sem]
  have zW : ∀ o, W.frozen? ⟨w.heap.size + 1 + 1, o, none⟩ = false := fun o => GW.free (by simp; try omega)
  unfold vec
  go_enter Try.func40, Try.ntmps40
  go_wp2_with (first
    | (go_at_call 48; rw [← hW]; go_fit (C1.out _ (h.grew GW)); rintro e V ⟨rfl, E1, U1⟩; have m1 := U1.cell (p := ⟨w.heap.size, 1, none⟩) (v := .int .i64 y) (by simp; omega) (by rw [hW]; simp [go_sem]); have m3 := U1.cell (p := ⟨w.heap.size + 1, 1, none⟩) (v := .int .i64 v) (by simp; omega) (by rw [hW]; simp [go_sem]); have n0 := U1.cell (p := ⟨w.heap.size + 1 + 1, 0, none⟩) (v := .int .i64 0) (by simp; omega) (by rw [hW]; simp [go_sem]); have n1 := U1.cell (p := ⟨w.heap.size + 1 + 1, 1, none⟩) (v := .int .i64 0) (by simp; omega) (by rw [hW]; simp [go_sem]); have y0 := U1.frozen (by simp; omega) (by simp; omega) (zW 0); have y1 := U1.frozen (by simp; omega) (by simp; omega) (zW 1))
    | (go_at_call 48; go_fit (C2.out _ E1); rintro e V2 ⟨rfl, E2, U2⟩; have l0 := U2.cell (by simp; omega) n0; have l1 := U2.cell (by simp; omega) n1; have i0 := U2.frozen (cell_block n0) (by simp; omega) y0; have i1 := U2.frozen (cell_block n1) (by simp; omega) y1))
  simp [bodyPost, results, Try.results40, go_sem, l0, l1]
  exact ⟨Err.past (Err.past E2 (by omega) _ rfl) (by omega) _ rfl, (((GW.past.trans U1).trans U2).setNew (by omega) _ _ _).setNew (by omega) _ _ _⟩

set_option maxHeartbeats 1000000 in
theorem rplus_u (b : Nat) (k x y u v : Int) (w : World) (hx : inF x) (hy : inF y) (hu : inF u) (hv : inF v) (h : Err w b 0 k) :
    Calls Try.prog 41 #[.pointer (some ⟨b, 0, none⟩), vec x y, vec u v] w fun e w' => e = .returned (.agg #[.int .i64 (pairK k (addR x u) (addR y v)).1, .int .i64 (pairK k (addR x u) (addR y v)).2.1]) ∧ Err w' b 0 (pairK k (addR x u) (addR y v)).2.2 ∧ Past b w w' := by
  have hb : b < w.heap.size := cell_block h.1
  have C1 : Hid (∀ W, Err W b 0 k → _) := fun W hE => radd_k b 0 k x u W hx hu hE
  have C2 : Hid (∀ W, Err W b 0 (ifK k (addR x u)).2 → _) := fun W hE => radd_k b 0 (ifK k (addR x u)).2 y v W hy hv hE
  unfold pairK
  generalize ifK k (addR x u) = r at *
  generalize ifK r.2 (addR y v) = s at *
  obtain ⟨W, hW⟩ : ∃ W, W = ((w.alloc (.cells #[.int .i64 x, .int .i64 y] 24)).alloc (.cells #[.int .i64 u, .int .i64 v] 24)).alloc (.cells #[.int .i64 0, .int .i64 0] 24) := ⟨_, rfl⟩
  have GW : Grew w W := by rw [hW]; exact (((Grew.refl w).alloc _ _).alloc _ _).alloc _ _
  have sz : W.heap.size = w.heap.size + 1 + 1 + 1 := by rw [hW]; simp [go_sem]
  have zW : ∀ o, W.frozen? ⟨w.heap.size + 1 + 1, o, none⟩ = false := fun o => GW.free (by simp; try omega)
  unfold vec
  go_enter Try.func41, Try.ntmps41
  go_wp2_with (first
    | (go_at_call 43; rw [← hW]; go_fit (C1.out _ (h.grew GW)); rintro e V ⟨rfl, E1, U1⟩; have m1 := U1.cell (p := ⟨w.heap.size, 1, none⟩) (v := .int .i64 y) (by simp; omega) (by rw [hW]; simp [go_sem]); have m3 := U1.cell (p := ⟨w.heap.size + 1, 1, none⟩) (v := .int .i64 v) (by simp; omega) (by rw [hW]; simp [go_sem]); have n0 := U1.cell (p := ⟨w.heap.size + 1 + 1, 0, none⟩) (v := .int .i64 0) (by simp; omega) (by rw [hW]; simp [go_sem]); have n1 := U1.cell (p := ⟨w.heap.size + 1 + 1, 1, none⟩) (v := .int .i64 0) (by simp; omega) (by rw [hW]; simp [go_sem]); have y0 := U1.frozen (by simp; omega) (by simp; omega) (zW 0); have y1 := U1.frozen (by simp; omega) (by simp; omega) (zW 1))
    | (go_at_call 43; go_fit (C2.out _ E1); rintro e V2 ⟨rfl, E2, U2⟩; have l0 := U2.cell (by simp; omega) n0; have l1 := U2.cell (by simp; omega) n1; have i0 := U2.frozen (cell_block n0) (by simp; omega) y0; have i1 := U2.frozen (cell_block n1) (by simp; omega) y1))
  simp [bodyPost, results, Try.results41, go_sem, l0, l1]
  exact ⟨Err.past (Err.past E2 (by omega) _ rfl) (by omega) _ rfl, (((GW.past.trans U1).trans U2).setNew (by omega) _ _ _).setNew (by omega) _ _ _⟩

set_option maxHeartbeats 1000000 in
theorem rtimes_u (b : Nat) (k x y c : Int) (w : World) (hx : inF x) (hy : inF y) (hc : inF c) (h : Err w b 0 k) :
    Calls Try.prog 49 #[.pointer (some ⟨b, 0, none⟩), vec x y, .int .i64 c] w fun e w' => e = .returned (.agg #[.int .i64 (pairK k (mulR x c) (mulR y c)).1, .int .i64 (pairK k (mulR x c) (mulR y c)).2.1]) ∧ Err w' b 0 (pairK k (mulR x c) (mulR y c)).2.2 ∧ Past b w w' := by
  have hb : b < w.heap.size := cell_block h.1
  have C1 : Hid (∀ W, Err W b 0 k → _) := fun W hE => rmul_k b 0 k x c W hx hc hE
  have C2 : Hid (∀ W, Err W b 0 (ifK k (mulR x c)).2 → _) := fun W hE => rmul_k b 0 (ifK k (mulR x c)).2 y c W hy hc hE
  unfold pairK
  generalize ifK k (mulR x c) = r at *
  generalize ifK r.2 (mulR y c) = s at *
  obtain ⟨W, hW⟩ : ∃ W, W = (w.alloc (.cells #[.int .i64 x, .int .i64 y] 24)).alloc (.cells #[.int .i64 0, .int .i64 0] 24) := ⟨_, rfl⟩
  have GW : Grew w W := by rw [hW]; exact ((Grew.refl w).alloc _ _).alloc _ _
  have sz : W.heap.size = w.heap.size + 1 + 1 := by rw [hW]; simp [go_sem]
  have zW : ∀ o, W.frozen? ⟨w.heap.size + 1, o, none⟩ = false := fun o => GW.free (by simp; try omega)
  unfold vec
  go_enter Try.func49, Try.ntmps49
  go_wp2_with (first
    | (go_at_call 50; rw [← hW]; go_fit (C1.out _ (h.grew GW)); rintro e V ⟨rfl, E1, U1⟩; have m1 := U1.cell (p := ⟨w.heap.size, 1, none⟩) (v := .int .i64 y) (by simp; omega) (by rw [hW]; simp [go_sem]); have n0 := U1.cell (p := ⟨w.heap.size + 1, 0, none⟩) (v := .int .i64 0) (by simp; omega) (by rw [hW]; simp [go_sem]); have n1 := U1.cell (p := ⟨w.heap.size + 1, 1, none⟩) (v := .int .i64 0) (by simp; omega) (by rw [hW]; simp [go_sem]); have y0 := U1.frozen (by simp; omega) (by simp; omega) (zW 0); have y1 := U1.frozen (by simp; omega) (by simp; omega) (zW 1))
    | (go_at_call 50; go_fit (C2.out _ E1); rintro e V2 ⟨rfl, E2, U2⟩; have l0 := U2.cell (by simp; omega) n0; have l1 := U2.cell (by simp; omega) n1; have i0 := U2.frozen (cell_block n0) (by simp; omega) y0; have i1 := U2.frozen (cell_block n1) (by simp; omega) y1))
  simp [bodyPost, results, Try.results49, go_sem, l0, l1]
  exact ⟨Err.past (Err.past E2 (by omega) _ rfl) (by omega) _ rfl, (((GW.past.trans U1).trans U2).setNew (by omega) _ _ _).setNew (by omega) _ _ _⟩

set_option maxHeartbeats 1000000 in
theorem rover_u (b : Nat) (k x y c : Int) (w : World) (hx : inF x) (hy : inF y) (hc : inF c) (h : Err w b 0 k) :
    Calls Try.prog 64 #[.pointer (some ⟨b, 0, none⟩), vec x y, .int .i64 c] w fun e w' => e = .returned (.agg #[.int .i64 (pairK k (divR x c) (divR y c)).1, .int .i64 (pairK k (divR x c) (divR y c)).2.1]) ∧ Err w' b 0 (pairK k (divR x c) (divR y c)).2.2 ∧ Past b w w' := by
  have hb : b < w.heap.size := cell_block h.1
  have C1 : Hid (∀ W, Err W b 0 k → _) := fun W hE => rdiv_k b 0 k x c W hx hc hE
  have C2 : Hid (∀ W, Err W b 0 (ifK k (divR x c)).2 → _) := fun W hE => rdiv_k b 0 (ifK k (divR x c)).2 y c W hy hc hE
  unfold pairK
  generalize ifK k (divR x c) = r at *
  generalize ifK r.2 (divR y c) = s at *
  obtain ⟨W, hW⟩ : ∃ W, W = (w.alloc (.cells #[.int .i64 x, .int .i64 y] 24)).alloc (.cells #[.int .i64 0, .int .i64 0] 24) := ⟨_, rfl⟩
  have GW : Grew w W := by rw [hW]; exact ((Grew.refl w).alloc _ _).alloc _ _
  have sz : W.heap.size = w.heap.size + 1 + 1 := by rw [hW]; simp [go_sem]
  have zW : ∀ o, W.frozen? ⟨w.heap.size + 1, o, none⟩ = false := fun o => GW.free (by simp; try omega)
  unfold vec
  go_enter Try.func64, Try.ntmps64
  go_wp2_with (first
    | (go_at_call 47; rw [← hW]; go_fit (C1.out _ (h.grew GW)); rintro e V ⟨rfl, E1, U1⟩; have m1 := U1.cell (p := ⟨w.heap.size, 1, none⟩) (v := .int .i64 y) (by simp; omega) (by rw [hW]; simp [go_sem]); have n0 := U1.cell (p := ⟨w.heap.size + 1, 0, none⟩) (v := .int .i64 0) (by simp; omega) (by rw [hW]; simp [go_sem]); have n1 := U1.cell (p := ⟨w.heap.size + 1, 1, none⟩) (v := .int .i64 0) (by simp; omega) (by rw [hW]; simp [go_sem]); have y0 := U1.frozen (by simp; omega) (by simp; omega) (zW 0); have y1 := U1.frozen (by simp; omega) (by simp; omega) (zW 1))
    | (go_at_call 47; go_fit (C2.out _ E1); rintro e V2 ⟨rfl, E2, U2⟩; have l0 := U2.cell (by simp; omega) n0; have l1 := U2.cell (by simp; omega) n1; have i0 := U2.frozen (cell_block n0) (by simp; omega) y0; have i1 := U2.frozen (cell_block n1) (by simp; omega) y1))
  simp [bodyPost, results, Try.results64, go_sem, l0, l1]
  exact ⟨Err.past (Err.past E2 (by omega) _ rfl) (by omega) _ rfl, (((GW.past.trans U1).trans U2).setNew (by omega) _ _ _).setNew (by omega) _ _ _⟩

def dotK (k x y u v : Int) : Int × Int := ifK (ifK (ifK k (mulR x u)).2 (mulR y v)).2 (addR (ifK k (mulR x u)).1 (ifK (ifK k (mulR x u)).2 (mulR y v)).1)
set_option maxHeartbeats 1000000 in
theorem rdot_u (b : Nat) (k x y u v : Int) (w : World) (hx : inF x) (hy : inF y) (hu : inF u) (hv : inF v) (h : Err w b 0 k) :
    Calls Try.prog 45 #[.pointer (some ⟨b, 0, none⟩), vec x y, vec u v] w fun e w' => e = .returned (.int .i64 (dotK k x y u v).1) ∧ Err w' b 0 (dotK k x y u v).2 ∧ Past b w w' := by
  have hb : b < w.heap.size := cell_block h.1
  have i1 : inF (ifK k (mulR x u)).1 := ifK_in (mulR_in x u).1
  have i2 : inF (ifK (ifK k (mulR x u)).2 (mulR y v)).1 := ifK_in (mulR_in y v).1
  have C1 : Hid (∀ W, Err W b 0 k → _) := fun W hE => rmul_k b 0 k x u W hx hu hE
  have C2 : Hid (∀ W, Err W b 0 (ifK k (mulR x u)).2 → _) := fun W hE => rmul_k b 0 (ifK k (mulR x u)).2 y v W hy hv hE
  unfold dotK
  generalize ifK k (mulR x u) = r at *
  generalize ifK r.2 (mulR y v) = s at *
  have C3 : Hid (∀ W, Err W b 0 s.2 → _) := fun W hE => radd_k b 0 s.2 r.1 s.1 W i1 i2 hE
  generalize ifK s.2 (addR r.1 s.1) = t at *
  clear i1 i2
  obtain ⟨W, hW⟩ : ∃ W, W = (w.alloc (.cells #[.int .i64 x, .int .i64 y] 24)).alloc (.cells #[.int .i64 u, .int .i64 v] 24) := ⟨_, rfl⟩
  have GW : Grew w W := by rw [hW]; exact ((Grew.refl w).alloc _ _).alloc _ _
  unfold vec
  go_enter Try.func45, Try.ntmps45
  go_wp2_with (first
    | (go_at_call 50; rw [← hW]; go_fit (C1.out _ (h.grew GW)); rintro e V ⟨rfl, E1, U1⟩; have m0 := U1.cell (p := ⟨w.heap.size, 1, none⟩) (v := .int .i64 y) (by simp; omega) (by rw [hW]; simp [go_sem]); have m1 := U1.cell (p := ⟨w.heap.size + 1, 1, none⟩) (v := .int .i64 v) (by simp; omega) (by rw [hW]; simp [go_sem]))
    | (go_at_call 50; go_fit (C2.out _ E1); rintro e V2 ⟨rfl, E2, U2⟩)
    | (go_at_call 43; go_fit (C3.out _ E2); rintro e V3 ⟨rfl, E3, U3⟩))
  go_ret
  exact ⟨rfl, E3, ((GW.past.trans U1).trans U2).trans U3⟩

def speedK (k : Int) (B : Bd) : Int × Int × Int := if B.m = 0 then (0, 0, k) else pairK k (divR B.u B.m) (divR B.v B.m)
def lightK (k : Int) (B : Bd) : Int × Int := if B.m = 0 then (0, k) else ifK k (divR 4294967296 B.m)
set_option maxHeartbeats 1000000 in
theorem rspeed_u (b : Nat) (k : Int) (B : Bd) (hB : B.ok) (w : World) (h : Err w b 0 k) :
    Calls Try.prog 44 #[.pointer (some ⟨b, 0, none⟩), B.val] w fun e w' => e = .returned (.agg #[.int .i64 (speedK k B).1, .int .i64 (speedK k B).2.1]) ∧ Err w' b 0 (speedK k B).2.2 ∧ Past b w w' := by
  have hb : b < w.heap.size := cell_block h.1
  obtain ⟨W, hW⟩ : ∃ W, W = (w.alloc (.cells #[.int .i64 B.s, .int .i64 B.a, .int .i64 B.b, .int .i64 B.m, .int .i64 B.p, .int .i64 B.q, .int .i64 B.u, .int .i64 B.v] 26)).alloc (.cells #[.int .i64 0, .int .i64 0] 24) := ⟨_, rfl⟩
  have GW : Grew w W := by rw [hW]; exact ((Grew.refl w).alloc _ _).alloc _ _
  have E0 : Err W b 0 k := h.grew GW
  have sz : W.heap.size = w.heap.size + 1 + 1 := by rw [hW]; simp [go_sem]
  have n0 : W.cell? ⟨w.heap.size + 1, 0, none⟩ = some (.int .i64 0) := by rw [hW]; simp [go_sem]
  have n1 : W.cell? ⟨w.heap.size + 1, 1, none⟩ = some (.int .i64 0) := by rw [hW]; simp [go_sem]
  have zW : ∀ o, W.frozen? ⟨w.heap.size + 1, o, none⟩ = false := fun o => GW.free (by simp; try omega)
  unfold speedK
  by_cases hm : B.m = 0
  · rw [if_pos hm]
    have HG : Hid (Grew w W) := GW
    have HE : Hid (Err W b 0 k) := E0
    rw [hW] at HG HE
    clear GW E0 sz n0 n1 zW hW
    unfold Bd.val
    obtain ⟨s, a, b', m, p, q, u, v⟩ := B
    change m = 0 at hm
    subst hm
    clear h
    go_enter Try.func44, Try.ntmps44
    go_wp2
    simp [bodyPost, results, Try.results44, go_sem]
    exact ⟨HE.out, HG.out.past⟩
  · rw [if_neg hm]
    have hz : (B.m == 0) = false := by simpa using hm
    have C1 : Hid (∀ W, Err W b 0 k → _) := fun W => rover_u b k B.u B.v B.m W hB.u hB.v hB.m
    unfold vec at C1
    have HW : Hid (_ = _) := hW
    clear hW
    generalize pairK k (divR B.u B.m) (divR B.v B.m) = t at *
    unfold Bd.val
    go_enter Try.func44, Try.ntmps44
    go_wp2_with (first
      | (go_at_call 64; rw [← HW.out]; go_fit (C1.out _ E0); rintro e V ⟨rfl, E1, U1⟩; have l0 := U1.cell (by simp; omega) n0; have l1 := U1.cell (by simp; omega) n1; have i0 := U1.frozen (cell_block n0) (by simp; omega) (zW 0); have i1 := U1.frozen (cell_block n1) (by simp; omega) (zW 1)))
    simp [bodyPost, results, Try.results44, go_sem, l0, l1]
    exact ⟨Err.past (Err.past E1 (by omega) _ rfl) (by omega) _ rfl, ((GW.past.trans U1).setNew (by omega) _ _ _).setNew (by omega) _ _ _⟩

set_option maxHeartbeats 1000000 in
theorem rlight_u (b : Nat) (k : Int) (B : Bd) (hB : B.ok) (w : World) (h : Err w b 0 k) :
    Calls Try.prog 42 #[.pointer (some ⟨b, 0, none⟩), B.val] w fun e w' => e = .returned (.int .i64 (lightK k B).1) ∧ Err w' b 0 (lightK k B).2 ∧ Past b w w' := by
  have hb : b < w.heap.size := cell_block h.1
  have GW : Hid (∀ c, Grew w (w.alloc (.cells c 26))) := fun c => (Grew.refl w).alloc _ _
  have HE : Hid (Err w b 0 k) := h
  clear h
  unfold lightK
  by_cases hm : B.m = 0
  · rw [if_pos hm]
    unfold Bd.val
    rw [hm]
    clear hm
    go_enter Try.func42, Try.ntmps42
    go_wp2
    go_ret
    exact ⟨rfl, HE.out.grew (GW.out _), (GW.out _).past⟩
  · rw [if_neg hm]
    have hz : (B.m == 0) = false := by simpa using hm
    have C1 : Hid (∀ W, Err W b 0 k → _) := fun W => rdiv_k b 0 k 4294967296 B.m W ⟨by decide, by decide⟩ hB.m
    generalize ifK k (divR 4294967296 B.m) = t at *
    unfold Bd.val
    go_enter Try.func42, Try.ntmps42
    go_wp2_with (first
      | (go_at_call 47; go_fit (C1.out _ (HE.out.grew (GW.out _))); rintro e V ⟨rfl, E1, U1⟩))
    go_ret
    exact ⟨rfl, E1, (GW.out _).past.trans U1⟩
end Go.Proofs.Ytcancbgaejekiaa
