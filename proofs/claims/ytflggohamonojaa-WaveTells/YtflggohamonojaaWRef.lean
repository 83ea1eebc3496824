/-
  The document's own sines (maquetteref1's Norm, Sin, Cos): what the plain functions say, for whatever angles.
-/
import Derived.Test.YtflggohamonojaaWCalls
import Derived.Test.YtflggohamonojaaDiv
import Derived.Test.YtflggohamonojaaCWorld
namespace Go.Proofs.Ytflggohamonojaa
open Go.RowKit

set_option maxHeartbeats 400000 in
theorem rnorm_any (a : Int) (w : World) (_ha : inF a) :
    Calls Try.prog 13 #[.int .i64 a] w fun e w' => e = .returned (.int .i64 (a % 65536)) ∧ w' = w := by
  have t := tmod_turn a
  obtain ⟨m, hm⟩ : ∃ m, a.tmod 65536 = m := ⟨_, rfl⟩
  rw [hm] at t
  have m0 : -65536 ≤ m ∧ m < 65536 := by omega
  have e : (m + 65536) % 65536 = a % 65536 := by omega
  obtain ⟨m1, m2⟩ := m0
  have E : Hid (_ = _) := e; clear e t
  go_enter Try.func13, Try.ntmps13
  go_wp2
  go_ret
  exact ⟨ret_int E.out, rfl⟩

/-- The document's fraction is the code's. -/
theorem doc_arc (q : Int) : (16 * q * 4294967296 / 18446744073709551616 * 18446744073709551616 + 16 * q * 4294967296 % 18446744073709551616) / (5368709120 - 4 * q) = qarc q := by
  rw [show 16 * q * 4294967296 / 18446744073709551616 * 18446744073709551616 + 16 * q * 4294967296 % 18446744073709551616 = 4 * (4 * q * 4294967296) by omega, show 5368709120 - 4 * q = 4 * (1342177280 - q) by omega]
  unfold qarc
  exact Int.mul_ediv_mul_of_pos _ _ (by decide)

set_option maxHeartbeats 1000000 in
theorem rsin_low (a n : Int) (w : World) (ha : inF a) (hn : a % 65536 = n) (h1 : n ≤ 32768) :
    Calls Try.prog 15 #[.int .i64 a] w fun e w' => e = .returned (.int .i64 (arc n)) ∧ Grew w w' := by
  have h0 : 0 ≤ n := by omega
  have r := arc_in h0 h1
  have b := q_in h0 h1
  obtain ⟨q, hq⟩ : ∃ q, n * (32768 - n) = q := ⟨_, rfl⟩
  unfold arc at r ⊢
  rw [hq] at b r ⊢
  obtain ⟨b0, b1⟩ := b
  have D : Hid (_ = _) := doc_arc q
  have N : Hid (_ = _) := hn; clear hn
  obtain ⟨z, hz⟩ : ∃ z, qarc q = z := ⟨_, rfl⟩
  rw [hz] at r ⊢
  have Z : Hid (_ = _) := hz; clear hz
  obtain ⟨r0, r1⟩ := r
  have G := Grew.refl w
  go_enter Try.func15, Try.ntmps15
  go_wp2_with (first
    | (go_at_call 13; refine (rnorm_any _ _ ha).mono ?_; rintro e w' ⟨rfl, rfl⟩; rw [N.out])
    | (go_at_call 25; refine (mul64_any _ _ _ (by omega) (by omega) (by omega) (by omega)).mono ?_; rintro e w' ⟨rfl, rfl⟩)
    | (go_at_call 26; refine (div64_any _ _ _ _ (by omega) (by omega) (by omega) (by omega) (by omega) (by omega)).mono ?_; rintro e w' ⟨r, rfl, n, rfl⟩; rw [D.out, Z.out]))
  go_ret
  exact ⟨rfl, G.drewN _⟩
set_option maxHeartbeats 1000000 in
theorem rsin_any (a : Int) (w : World) (ha : inF a) :
    Calls Try.prog 15 #[.int .i64 a] w fun e w' => e = .returned (.int .i64 (sinI a)) ∧ Grew w w' := by
  rcases sin_cases a with ⟨h0, h1, e⟩ | ⟨h0, h1, e⟩
  · rw [e]; exact rsin_low a _ w ha rfl h1
  · rw [e]
    have r := arc_in (n := a % 65536 - 32768) (by omega) (by omega)
    obtain ⟨n, hn⟩ : ∃ n, a % 65536 = n := ⟨_, rfl⟩
    rw [hn] at h0 h1 r ⊢
    clear e
    obtain ⟨z, hz⟩ : ∃ z, arc (n - 32768) = z := ⟨_, rfl⟩
    rw [hz] at r ⊢
    have Z : Hid (_ = _) := hz; have N : Hid (_ = _) := hn; clear hz hn
    obtain ⟨r0, r1⟩ := r
    have G := Grew.refl w
    go_enter Try.func15, Try.ntmps15
    go_wp2_with (first
      | (go_at_call 13; refine (rnorm_any _ _ ha).mono ?_; rintro e w' ⟨rfl, rfl⟩; rw [N.out])
      | (go_at_call 15; refine (rsin_low (n - 32768) (n - 32768) _ ⟨by omega, by omega⟩ (by omega) (by omega)).mono ?_; rintro e V ⟨rfl, U⟩; rw [Z.out]; replace G := G.trans U; clear U))
    go_ret
    exact ⟨rfl, G⟩
set_option maxHeartbeats 1000000 in
theorem rcos_any (a : Int) (w : World) (ha : inF a) :
    Calls Try.prog 17 #[.int .i64 a] w fun e w' => e = .returned (.int .i64 (cosI a)) ∧ Grew w w' := by
  have m0 : 0 ≤ a % 65536 := by omega
  have m1 : a % 65536 < 65536 := by omega
  have e : cosI a = sinI (a % 65536 + 16384) := sin_mod (by omega)
  rw [e]; clear e
  obtain ⟨n, hn⟩ : ∃ n, a % 65536 = n := ⟨_, rfl⟩
  rw [hn] at m0 m1 ⊢
  have N : Hid (_ = _) := hn; clear hn
  have G := Grew.refl w
  go_enter Try.func17, Try.ntmps17
  go_wp2_with (first
    | (go_at_call 13; refine (rnorm_any _ _ ha).mono ?_; rintro e w' ⟨rfl, rfl⟩; rw [N.out])
    | (go_at_call 15; refine (rsin_any _ _ ⟨by omega, by omega⟩).mono ?_; rintro e V ⟨rfl, U⟩; replace G := G.trans U; clear U))
  go_ret
  exact ⟨rfl, G⟩
end Go.Proofs.Ytflggohamonojaa
