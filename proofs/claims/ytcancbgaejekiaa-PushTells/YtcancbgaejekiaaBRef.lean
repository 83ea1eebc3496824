/-
  The document's own word on bodies (maquetteref1's Right, Speed, Light): what the plain functions say.
-/
import Derived.Test.YtcancbgaejekiaaBCalls
import Derived.Test.YtcancbgaejekiaaVRef
namespace Go.Proofs.Ytcancbgaejekiaa
open Go.RowKit

theorem two_val {r s : Int × Int} (h : (two r s).2.2 = 0) : (two r s).1 = r.1 ∧ (two r s).2.1 = s.1 := by
  obtain ⟨h1, h2⟩ := two_fst h
  rw [two_ok h1 h2]
  exact ⟨rfl, rfl⟩
def w1B (x k : Int) : Bool := decide (-(k * 4294967296) ≤ x ∧ x ≤ k * 4294967296)
theorem rside_any (a : Int) (w : World) :
    Calls Try.prog 52 #[.int .i64 a] w fun e w' => e = .returned (.bool (sideB a)) ∧ w' = w := by
  go_enter Try.func52, Try.ntmps52
  go_wp2
  all_goals
    go_ret
    exact ⟨ret_bool (by unfold sideB; rw [Bool.eq_iff_iff]; simp at *; omega), rfl⟩
theorem rwithin_any (x k : Int) (w : World) (k0 : 0 ≤ k) (k1 : k ≤ 1000000) :
    Calls Try.prog 53 #[.int .i64 x, .int .i64 k] w fun e w' => e = .returned (.bool (w1B x k)) ∧ w' = w := by
  go_enter Try.func53, Try.ntmps53
  go_wp2
  all_goals
    go_ret
    exact ⟨ret_bool (by unfold w1B; rw [Bool.eq_iff_iff]; simp at *; omega), rfl⟩

set_option maxHeartbeats 2000000 in
theorem ref_right (B : Bd) (w : World) :
    Calls Try.prog 18 #[B.val] w fun e w' => e = .returned (.bool (rightB B)) ∧ Grew w w' := by
  have hR := rightB_iff B
  obtain ⟨r, hr⟩ : ∃ r, rightB B = r := ⟨_, rfl⟩
  rw [hr] at hR ⊢
  have HR : Hid _ := hR
  clear hr hR
  unfold Bd.val
  have hq := eq_vec B.u B.v 0 0
  go_enter Try.func18, Try.ntmps18
  go_wp2_with (first
    | (go_at_call 52; refine (rside_any _ _).mono ?_; rintro e w' ⟨rfl, rfl⟩)
    | (go_at_call 53; refine (rwithin_any _ _ _ (by omega) (by omega)).mono ?_; rintro e w' ⟨rfl, rfl⟩))
  all_goals
    go_ret
    refine ⟨ret_bool ?_, (Grew.refl w).alloc _ _⟩
    have h0 := HR.out
    clear HR hq
    rw [Bool.eq_iff_iff, h0]
    clear h0
    simp [sideB, w1B] at *
    omega

set_option maxHeartbeats 1000000 in
theorem rspeed_any (b : Nat) (B : Bd) (hB : B.ok) (w : World) (h : Err w b 0 0) :
    Calls Try.prog 44 #[.pointer (some ⟨b, 0, none⟩), B.val] w fun e w' => (∃ p q, e = .returned (.agg #[.int .i64 p, .int .i64 q]) ∧ ((speedR B).2.2 = 0 → p = (speedR B).1 ∧ q = (speedR B).2.1)) ∧ Err w' b 0 (speedR B).2.2 ∧ Past b w w' := by
  have hb : b < w.heap.size := cell_block h.1
  obtain ⟨W, hW⟩ : ∃ W, W = (w.alloc (.cells #[.int .i64 B.s, .int .i64 B.a, .int .i64 B.b, .int .i64 B.m, .int .i64 B.p, .int .i64 B.q, .int .i64 B.u, .int .i64 B.v] 26)).alloc (.cells #[.int .i64 0, .int .i64 0] 24) := ⟨_, rfl⟩
  have GW : Grew w W := by rw [hW]; exact ((Grew.refl w).alloc _ _).alloc _ _
  have E0 : Err W b 0 0 := h.grew GW
  have sz : W.heap.size = w.heap.size + 1 + 1 := by rw [hW]; simp [go_sem]
  have n0 : W.cell? ⟨w.heap.size + 1, 0, none⟩ = some (.int .i64 0) := by rw [hW]; simp [go_sem]
  have n1 : W.cell? ⟨w.heap.size + 1, 1, none⟩ = some (.int .i64 0) := by rw [hW]; simp [go_sem]
  have zW : ∀ o, W.frozen? ⟨w.heap.size + 1, o, none⟩ = false := fun o => GW.free (by simp; try omega)
  by_cases hm : B.m = 0
  · rw [speedR_0 hm]
    have HG : Hid (Grew w W) := GW
    have HE : Hid (Err W b 0 0) := E0
    rw [hW] at HG HE
    clear GW E0 sz n0 n1 zW hW
    unfold Bd.val
    obtain ⟨s, a, b', m, p, q, u, v⟩ := B
    change m = 0 at hm
    subst hm
    clear h
    go_enter Try.func44, Try.ntmps44
    go_wp2
    simp [bodyPost, results, Try.results44, go_sem]
    exact ⟨HE.out, HG.out.past⟩
  · rw [speedR_m hm]
    have hz : (B.m == 0) = false := by simpa using hm
    have C1 : Hid (∀ W, Err W b 0 0 → _) := fun W => rover_any b B.u B.v B.m W hB.u hB.v hB.m
    unfold vec at C1
    have HW : Hid (_ = _) := hW
    clear hW
    have tv : Hid (_ → _) := @two_val (divR B.u B.m) (divR B.v B.m)
    generalize two (divR B.u B.m) (divR B.v B.m) = t at *
    unfold Bd.val
    go_enter Try.func44, Try.ntmps44
    go_wp2_with (first
      | (go_at_call 64; rw [← HW.out]; go_fit (C1.out _ E0); rintro e V ⟨⟨p, q, rfl, hpq⟩, E1, U1⟩; have l0 := U1.cell (by simp; omega) n0; have l1 := U1.cell (by simp; omega) n1; have i0 := U1.frozen (cell_block n0) (by simp; omega) (zW 0); have i1 := U1.frozen (cell_block n1) (by simp; omega) (zW 1)))
    simp [bodyPost, results, Try.results44, go_sem, l0, l1]
    refine ⟨⟨_, _, ⟨rfl, rfl⟩, fun g => ⟨(hpq g).1.trans (tv.out g).1.symm, (hpq g).2.trans (tv.out g).2.symm⟩⟩, ?_, ?_⟩
    · exact Err.past (Err.past E1 (by omega) _ rfl) (by omega) _ rfl
    · exact ((GW.past.trans U1).setNew (by omega) _ _ _).setNew (by omega) _ _ _

set_option maxHeartbeats 1000000 in
theorem rlight_any (b : Nat) (B : Bd) (hB : B.ok) (w : World) (h : Err w b 0 0) :
    Calls Try.prog 42 #[.pointer (some ⟨b, 0, none⟩), B.val] w fun e w' => e = .returned (.int .i64 (lightR B).1) ∧ Err w' b 0 (lightR B).2 ∧ Past b w w' := by
  have hb : b < w.heap.size := cell_block h.1
  have GW : Hid (∀ c, Grew w (w.alloc (.cells c 26))) := fun c => (Grew.refl w).alloc _ _
  have HE : Hid (Err w b 0 0) := h
  clear h
  by_cases hm : B.m = 0
  · rw [lightR_0 hm]
    unfold Bd.val
    rw [hm]
    clear hm
    go_enter Try.func42, Try.ntmps42
    go_wp2
    go_ret
    exact ⟨rfl, HE.out.grew (GW.out _), (GW.out _).past⟩
  · rw [lightR_m hm]
    have hz : (B.m == 0) = false := by simpa using hm
    have C1 : Hid (∀ W, Err W b 0 0 → _) := fun W => rdiv_k b 0 0 4294967296 B.m W ⟨by decide, by decide⟩ hB.m
    rw [ifK_ok] at C1
    generalize divR 4294967296 B.m = t at *
    unfold Bd.val
    go_enter Try.func42, Try.ntmps42
    go_wp2_with (first
      | (go_at_call 47; go_fit (C1.out _ (HE.out.grew (GW.out _))); rintro e V ⟨rfl, E1, U1⟩))
    go_ret
    exact ⟨rfl, E1, (GW.out _).past.trans U1⟩
end Go.Proofs.Ytcancbgaejekiaa
