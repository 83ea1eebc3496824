/-
  The document's own turn of a place (maquetteref1's Calc.Rotate), with no error so far: what the plain function says, and its error.
-/
import Derived.Test.YtflggohamonojaaKCalc
import Derived.Test.YtflggohamonojaaWRef
namespace Go.Proofs.Ytflggohamonojaa
open Go.RowKit

/-- The six calls, one behind the other, each under a name. -/
theorem rot_six (x y s c : Int) : ∃ p q u r t v k1 k2 k3 k4 k5 k6 : Int,
    ifK 0 (mulR x c) = (p, k1) ∧ ifK k1 (mulR y s) = (q, k2) ∧ ifK k2 (subR p q) = (u, k3) ∧ ifK k3 (mulR x s) = (r, k4) ∧ ifK k4 (mulR y c) = (t, k5) ∧ ifK k5 (addR r t) = (v, k6) ∧
    inF p ∧ inF q ∧ inF r ∧ inF t ∧ ((k6 = 0 ∧ rotR x y s c = (u, v, 0)) ∨ (k6 = 3 ∧ rotR x y s c = (0, 0, 3))) := by
  have z : inF 0 := ⟨by decide, by decide⟩
  have n : ∀ r : Int × Int, ifK 3 r = (0, 3) := fun r => rfl
  have R := rot_cases x y s c
  generalize rotR x y s c = A at R ⊢
  cases R with
  | e1 h1 =>
    exact ⟨0, 0, 0, 0, 0, 0, 3, 3, 3, 3, 3, 3, h1, n _, n _, n _, n _, n _, z, z, z, z, .inr ⟨rfl, rfl⟩⟩
  | e2 p h1 h2 =>
    exact ⟨p, 0, 0, 0, 0, 0, 0, 3, 3, 3, 3, 3, h1, h2, n _, n _, n _, n _, by have := (mulR_in x c).1; rw [h1] at this; exact this, z, z, z, .inr ⟨rfl, rfl⟩⟩
  | e3 p q h1 h2 i1 i2 h3 =>
    exact ⟨p, q, 0, 0, 0, 0, 0, 0, 3, 3, 3, 3, h1, h2, h3, n _, n _, n _, i1, i2, z, z, .inr ⟨rfl, rfl⟩⟩
  | e4 p q u h1 h2 i1 i2 h3 h4 =>
    exact ⟨p, q, u, 0, 0, 0, 0, 0, 0, 3, 3, 3, h1, h2, h3, h4, n _, n _, i1, i2, z, z, .inr ⟨rfl, rfl⟩⟩
  | e5 p q u r h1 h2 i1 i2 h3 h4 h5 =>
    exact ⟨p, q, u, r, 0, 0, 0, 0, 0, 0, 3, 3, h1, h2, h3, h4, h5, n _, i1, i2, by have := (mulR_in x s).1; rw [h4] at this; exact this, z, .inr ⟨rfl, rfl⟩⟩
  | e6 p q u r t h1 h2 i1 i2 h3 h4 h5 i4 i5 h6 =>
    exact ⟨p, q, u, r, t, 0, 0, 0, 0, 0, 0, 3, h1, h2, h3, h4, h5, h6, i1, i2, i4, i5, .inr ⟨rfl, rfl⟩⟩
  | ok p q u r t v h1 h2 i1 i2 h3 h4 h5 i4 i5 h6 i3 i6 =>
    exact ⟨p, q, u, r, t, v, 0, 0, 0, 0, 0, 0, h1, h2, h3, h4, h5, h6, i1, i2, i4, i5, .inl ⟨rfl, rfl⟩⟩

set_option maxHeartbeats 2000000 in
theorem rrot_any (b off : Nat) (x y a : Int) (w : World) (hx : inF x) (hy : inF y) (ha : inF a) (h : Err w b off 0) :
    Calls Try.prog 10 #[.pointer (some ⟨b, off, none⟩), .int .i64 x, .int .i64 y, .int .i64 a] w fun e w' => e = .returned (.tuple #[.int .i64 (rotR x y (sinI a) (cosI a)).1, .int .i64 (rotR x y (sinI a) (cosI a)).2.1]) ∧ Err w' b off (rotR x y (sinI a) (cosI a)).2.2 ∧ Past b w w' := by
  have hs := sin_F a
  have hc := cos_F a
  obtain ⟨p, q, u, r, t, v, k1, k2, k3, k4, k5, k6, h1, h2, h3, h4, h5, h6, i1, i2, i4, i5, fin⟩ := rot_six x y (sinI a) (cosI a)
  obtain ⟨s, es⟩ : ∃ s, sinI a = s := ⟨_, rfl⟩
  obtain ⟨c, ec⟩ : ∃ c, cosI a = c := ⟨_, rfl⟩
  rw [es] at hs h2 h4; rw [ec] at hc h1 h5; rw [es, ec] at fin ⊢
  have ES : Hid (_ = _) := es; have EC : Hid (_ = _) := ec; clear es ec
  have H1 : Hid (_ = _) := h1; have H2 : Hid (_ = _) := h2; have H3 : Hid (_ = _) := h3; have H4 : Hid (_ = _) := h4; have H5 : Hid (_ = _) := h5; have H6 : Hid (_ = _) := h6
  clear h1 h2 h3 h4 h5 h6
  have E : Hid (Err w b off 0) := h; clear h
  have P : Hid (Past b w w) := Past.refl b w
  rcases fin with ⟨hk, hr⟩ | ⟨hk, hr⟩
  · rw [hr]; clear hr
    subst hk
    go_enter Try.func10, Try.ntmps10
    go_wp2_with (first
      | (go_at_call 15; refine (rsin_any _ _ ha).mono ?_; rintro e V ⟨rfl, U⟩; rw [ES.out]; replace E : Hid (Err V b off _) := E.out.grew U; replace P : Hid (Past b _ V) := P.out.trans U.past; clear U)
      | (go_at_call 17; refine (rcos_any _ _ ha).mono ?_; rintro e V ⟨rfl, U⟩; rw [EC.out]; replace E : Hid (Err V b off _) := E.out.grew U; replace P : Hid (Past b _ V) := P.out.trans U.past; clear U)
      | (go_at_call 18; refine (rmul_k b off _ _ _ _ (by assumption) (by assumption) E.out).mono ?_; clear E; (first | rw [H1.out] | rw [H2.out] | rw [H4.out] | rw [H5.out]); rintro e V ⟨rfl, E', U⟩; have E : Hid (Err V b off _) := E'; replace P : Hid (Past b _ V) := P.out.trans U; clear U E')
      | (go_at_call 19; refine (rsub_k b off _ _ _ _ (by assumption) (by assumption) E.out).mono ?_; clear E; rw [H3.out]; rintro e V ⟨rfl, E', U⟩; have E : Hid (Err V b off _) := E'; replace P : Hid (Past b _ V) := P.out.trans U; clear U E')
      | (go_at_call 20; refine (radd_k b off _ _ _ _ (by assumption) (by assumption) E.out).mono ?_; clear E; rw [H6.out]; rintro e V ⟨rfl, E', U⟩; have E : Hid (Err V b off _) := E'; replace P : Hid (Past b _ V) := P.out.trans U; clear U; have hv := E'.1; clear E'))
    go_ret2
    exact ⟨rfl, E.out, P.out⟩
  · rw [hr]; clear hr
    subst hk
    go_enter Try.func10, Try.ntmps10
    go_wp2_with (first
      | (go_at_call 15; refine (rsin_any _ _ ha).mono ?_; rintro e V ⟨rfl, U⟩; rw [ES.out]; replace E : Hid (Err V b off _) := E.out.grew U; replace P : Hid (Past b _ V) := P.out.trans U.past; clear U)
      | (go_at_call 17; refine (rcos_any _ _ ha).mono ?_; rintro e V ⟨rfl, U⟩; rw [EC.out]; replace E : Hid (Err V b off _) := E.out.grew U; replace P : Hid (Past b _ V) := P.out.trans U.past; clear U)
      | (go_at_call 18; refine (rmul_k b off _ _ _ _ (by assumption) (by assumption) E.out).mono ?_; clear E; (first | rw [H1.out] | rw [H2.out] | rw [H4.out] | rw [H5.out]); rintro e V ⟨rfl, E', U⟩; have E : Hid (Err V b off _) := E'; replace P : Hid (Past b _ V) := P.out.trans U; clear U E')
      | (go_at_call 19; refine (rsub_k b off _ _ _ _ (by assumption) (by assumption) E.out).mono ?_; clear E; rw [H3.out]; rintro e V ⟨rfl, E', U⟩; have E : Hid (Err V b off _) := E'; replace P : Hid (Past b _ V) := P.out.trans U; clear U E')
      | (go_at_call 20; refine (radd_k b off _ _ _ _ (by assumption) (by assumption) E.out).mono ?_; clear E; rw [H6.out]; rintro e V ⟨rfl, E', U⟩; have E : Hid (Err V b off _) := E'; replace P : Hid (Past b _ V) := P.out.trans U; clear U; have hv := E'.1; clear E'))
    go_ret2
    exact ⟨rfl, E.out, P.out⟩
end Go.Proofs.Ytflggohamonojaa
