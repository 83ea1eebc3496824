/-
  Plain numbers: the school division of 128 bits by 64 in two digits of 32 bits, as math/bits.Div64 does it: no program in sight. Nothing is claimed here.
-/
import Derived.Test.YtnkhknmpffcfbaaGreatNum
namespace Go.Proofs.YtnkhknmpffcfbaaGreat
open Go Go.RowKit

theorem mask_u64 (a : Int) (h0 : 0 ≤ a) (h1 : a ≤ 18446744073709551615) : bits .and .u64 a 4294967295 = a % 4294967296 :=
  bits_mask .u64 64 (by decide) (fun n h0 h1 => by rw [IntKind.wrap_u64]; omega) 32 (by decide) a h0 (by omega)
theorem or_u64 (i : Nat) (hi : i ≤ 63) (x y : Int) (hx0 : 0 ≤ x) (hx : x % 2 ^ i = 0) (hx1 : x < 18446744073709551616) (hy0 : 0 ≤ y) (hy : y < 2 ^ i) : bits .or .u64 x y = x + y := by
  have hp : (2 : Int) ^ i ≤ 18446744073709551616 := by
    have h := Nat.pow_le_pow_right (show 0 < 2 by decide) (show i ≤ 64 by omega)
    have e : ((2 ^ i : Nat) : Int) = (2 : Int) ^ i := by simp
    have e2 : (2 ^ 64 : Nat) = 18446744073709551616 := by decide
    rw [e2] at h
    generalize (2 : Nat) ^ i = z at *
    omega
  exact bits_join .u64 64 (by decide) (fun n h0 h1 => by rw [IntKind.wrap_u64]; omega) i x y hx0 hx (by omega) hy0 hy (by omega)
theorem div_of (n d q : Int) (hd : 0 < d) (h1 : q * d ≤ n) (h2 : n < q * d + d) : n / d = q := by
  have e : n = (n - q * d) + q * d := by omega
  rw [e, Int.add_mul_ediv_right _ _ (by omega), Int.ediv_eq_zero_of_lt (by omega) (by omega)]
  omega
theorem two_parts (x a b : Int) : x * (a * 4294967296 + b) = x * a * 4294967296 + x * b := by rw [Int.mul_add, ← Int.mul_assoc]

/-- What Div64 makes of its numbers ahead of its loops. -/
theorem div_setup (hi lo y : Int) (s : Nat) (hs : s ≤ 63) (l0 : 0 ≤ lo) (l1 : lo ≤ 18446744073709551615) (_y0 : 1 ≤ y) (h0 : 0 ≤ hi) (h1 : hi < y) (n1 : 9223372036854775808 ≤ y * 2 ^ s) (n2 : y * 2 ^ s < 18446744073709551616) :
    ∃ Y yn1 yn0 H L1 U V un1 un0 : Int, y * 2 ^ s = Y ∧ Y / 4294967296 = yn1 ∧ bits .and .u64 Y 4294967295 = yn0 ∧ hi * 2 ^ s = H ∧ lo / 2 ^ (64 - s) = L1 ∧ bits .or .u64 H L1 = U ∧ IntKind.u64.wrap (lo * 2 ^ s) = V ∧ V / 4294967296 = un1 ∧ bits .and .u64 V 4294967295 = un0 ∧
      Y = yn1 * 4294967296 + yn0 ∧ 2147483648 ≤ yn1 ∧ yn1 < 4294967296 ∧ 0 ≤ yn0 ∧ yn0 < 4294967296 ∧ 0 ≤ H ∧ H < 18446744073709551616 ∧ 0 ≤ L1 ∧ 0 ≤ U ∧ U < Y ∧ Y < 18446744073709551616 ∧ 0 ≤ V ∧ V < 18446744073709551616 ∧ 0 ≤ un1 ∧ un1 < 4294967296 ∧ 0 ≤ un0 ∧ un0 < 4294967296 ∧
      (∀ q1 q0 : Int, q1 * Y ≤ U * 4294967296 + un1 → U * 4294967296 + un1 < q1 * Y + Y → q0 * Y ≤ (U * 4294967296 + un1 - q1 * Y) * 4294967296 + un0 → (U * 4294967296 + un1 - q1 * Y) * 4294967296 + un0 < q0 * Y + Y → (hi * 18446744073709551616 + lo) / y = q1 * 4294967296 + q0) := by
  have P0 : (0 : Int) < 2 ^ s := Int.pow_pos (by decide)
  have R0 : (0 : Int) < 2 ^ (64 - s) := Int.pow_pos (by decide)
  have PR : (2 : Int) ^ (64 - s) * 2 ^ s = 18446744073709551616 := by
    rw [← Int.pow_add, show 64 - s + s = 64 by omega]; decide
  have hHP : (hi * 2 ^ s) % 2 ^ s = 0 := Int.mul_emod_left _ _
  have orr := or_u64 s hs (hi * 2 ^ s) (lo / 2 ^ (64 - s))
  generalize (2 : Int) ^ s = P at *
  generalize (2 : Int) ^ (64 - s) = R at *
  have d1 := Int.mul_ediv_add_emod lo R
  have d2 := Int.emod_nonneg lo (show R ≠ 0 by omega)
  have d3 := Int.emod_lt_of_pos lo R0
  have dL : 0 ≤ lo / R := Int.ediv_nonneg l0 (by omega)
  have dLP : lo / R < P := Int.ediv_lt_of_lt_mul R0 (by rw [Int.mul_comm, PR]; omega)
  have H0 : 0 ≤ hi * P := Int.mul_nonneg h0 (by omega)
  have HY : hi * P + P ≤ y * P := by
    have := Int.mul_le_mul_of_nonneg_right (show hi + 1 ≤ y by omega) (show 0 ≤ P by omega)
    rw [Int.add_mul, Int.one_mul] at this; exact this
  have eV : lo * P = lo / R * 18446744073709551616 + lo % R * P := by
    have : lo * P = (R * (lo / R) + lo % R) * P := by rw [d1]
    rw [this, Int.add_mul, Int.mul_comm R, Int.mul_assoc, PR]
  have v0 : 0 ≤ lo % R * P := Int.mul_nonneg d2 (by omega)
  have v1 : lo % R * P < 18446744073709551616 := by rw [← PR]; exact Int.mul_lt_mul_of_pos_right d3 P0
  have eW : IntKind.u64.wrap (lo * P) = lo % R * P := by rw [IntKind.wrap_u64, eV]; omega
  have eO : bits .or .u64 (hi * P) (lo / R) = hi * P + lo / R := orr H0 hHP (by omega) dL dLP
  have eM := mask_u64 (y * P) (by omega) (by omega)
  have eM2 := mask_u64 (lo % R * P) v0 (by omega)
  refine ⟨y * P, _, _, hi * P, lo / R, hi * P + lo / R, lo % R * P, _, _, rfl, rfl, eM, rfl, rfl, eO, eW, rfl, eM2, by omega, by omega, by omega, by omega, by omega, by omega, by omega, dL, by omega, by omega, by omega, v0, v1, by omega, by omega, by omega, by omega, ?_⟩
  intro q1 q0 a1 a2 b1 b2
  have e1 : (hi * 18446744073709551616 + lo) / y = ((hi * 18446744073709551616 + lo) * P) / (y * P) := (Int.mul_ediv_mul_of_pos_left _ _ P0).symm
  have e2 : (hi * 18446744073709551616 + lo) * P = hi * P * 18446744073709551616 + lo * P := by rw [Int.add_mul, Int.mul_right_comm]
  rw [e1, e2, eV]
  have e3 : (q1 * 4294967296 + q0) * (y * P) = q1 * (y * P) * 4294967296 + q0 * (y * P) := by rw [Int.add_mul, Int.mul_right_comm]
  refine div_of _ _ _ (by omega) ?_ ?_
  · rw [e3]; omega
  · rw [e3]; omega

/-- A digit as it is guessed first. -/
theorem digit_start (Y yn1 yn0 U u : Int) (eY : Y = yn1 * 4294967296 + yn0) (a1 : 2147483648 ≤ yn1) (a2 : yn1 < 4294967296) (b1 : 0 ≤ yn0) (b2 : yn0 < 4294967296) (c1 : 0 ≤ U) (c2 : U < Y) (d2 : u < 4294967296) :
    ∃ q a : Int, U / yn1 = q ∧ q * yn1 = a ∧ 0 ≤ q ∧ q ≤ 4294967297 ∧ 0 ≤ a ∧ a ≤ U ∧ U - a < 4294967296 ∧ U * 4294967296 + u < a * 4294967296 + q * yn0 + Y := by
  have e := Int.mul_ediv_add_emod U yn1
  have m0 := Int.emod_nonneg U (show yn1 ≠ 0 by omega)
  have m1 := Int.emod_lt_of_pos U (show 0 < yn1 by omega)
  have q0 : 0 ≤ U / yn1 := Int.ediv_nonneg c1 (by omega)
  have q1 : U / yn1 < 4294967298 := Int.ediv_lt_of_lt_mul (by omega) (by omega)
  have p := Int.mul_nonneg q0 b1
  rw [Int.mul_comm] at e
  refine ⟨_, _, rfl, rfl, q0, by omega, Int.mul_nonneg q0 (by omega), by omega, by omega, by omega⟩

/-- A round of a digit's correction: it goes on, or it is over with the digit X. -/
theorem digit_round (Y yn1 yn0 U u x r : Int) (eY : Y = yn1 * 4294967296 + yn0) (a1 : 2147483648 ≤ yn1) (a2 : yn1 < 4294967296) (b1 : 0 ≤ yn0) (b2 : yn0 < 4294967296) (c2 : U < Y) (d1 : 0 ≤ u) (d2 : u < 4294967296)
    (x0 : 0 ≤ x) (x1 : x ≤ 4294967297) (r0 : 0 ≤ r) (_r1 : r < 4294967296) (er : x * yn1 + r = U) (inv : U * 4294967296 + u < x * yn1 * 4294967296 + x * yn0 + Y) :
    (x < 4294967296 → 0 ≤ x * yn0 ∧ x * yn0 < 18446744073709551616) ∧
    ((4294967296 ≤ x ∨ (x < 4294967296 ∧ 4294967296 * r + u < x * yn0)) → 1 ≤ x ∧ (x - 1) * yn1 + (r + yn1) = U ∧ U * 4294967296 + u < (x - 1) * yn1 * 4294967296 + (x - 1) * yn0 + Y) ∧
    ((4294967296 ≤ x ∨ (x < 4294967296 ∧ 4294967296 * r + u < x * yn0)) → 4294967296 ≤ r + yn1 → x - 1 < 4294967296 ∧ (x - 1) * Y ≤ U * 4294967296 + u ∧ U * 4294967296 + u < (x - 1) * Y + Y) ∧
    (x < 4294967296 → x * yn0 ≤ 4294967296 * r + u → x * Y ≤ U * 4294967296 + u ∧ U * 4294967296 + u < x * Y + Y) := by
  have p0 : 0 ≤ x * yn0 := Int.mul_nonneg x0 b1
  have pa : 0 ≤ x * yn1 := Int.mul_nonneg x0 (by omega)
  have eS1 : (x - 1) * yn1 = x * yn1 - yn1 := by rw [Int.sub_mul, Int.one_mul]
  have eS0 : (x - 1) * yn0 = x * yn0 - yn0 := by rw [Int.sub_mul, Int.one_mul]
  have eX : x * Y = x * yn1 * 4294967296 + x * yn0 := by rw [eY, two_parts]
  have eX1 : (x - 1) * Y = (x * yn1 - yn1) * 4294967296 + (x * yn0 - yn0) := by rw [eY, two_parts, eS1, eS0]
  have over : 4294967296 ≤ x ∨ (x < 4294967296 ∧ 4294967296 * r + u < x * yn0) → U * 4294967296 + u < x * yn1 * 4294967296 + x * yn0 := by
    rintro (h | ⟨_, h⟩)
    · have f1 := Int.mul_le_mul_of_nonneg_right h (show 0 ≤ yn1 by omega)
      have f0 := Int.mul_le_mul_of_nonneg_right h b1
      omega
    · omega
  have le0 := Int.mul_le_mul_of_nonneg_right x1 b1
  have pos : U * 4294967296 + u < x * yn1 * 4294967296 + x * yn0 → 1 ≤ x := by
    intro h
    by_cases g : x = 0
    · subst g; simp only [Int.zero_mul] at h; omega
    · omega
  refine ⟨fun h => ⟨p0, ?_⟩, fun h => ?_, fun h g => ?_, fun h g => ?_⟩
  · have := Int.mul_le_mul_of_nonneg_right (show x ≤ 4294967295 by omega) b1; omega
  · have o := over h
    rw [eS1, eS0]
    exact ⟨pos o, by omega, by omega⟩
  · have o := over h
    rw [eX1]
    have le1 : x * yn0 ≤ 4294967297 * yn0 := le0
    have : 0 ≤ (x - 1) * yn1 ∨ x = 0 := by
      by_cases g : x = 0
      · exact Or.inr g
      · exact Or.inl (Int.mul_nonneg (by omega) (by omega))
    have px := pos o
    have lt : x - 1 < 4294967296 := by
      by_cases g2 : 4294967297 ≤ x
      · have f1 := Int.mul_le_mul_of_nonneg_right g2 (show 0 ≤ yn1 by omega)
        omega
      · omega
    exact ⟨lt, by omega, by omega⟩
  · rw [eX]; exact ⟨by omega, by omega⟩

/-- What the first digit leaves: the rest T, and how the second digit then gives the quotient. -/
def Out (hi lo y Y U u v X T : Int) : Prop :=
  IntKind.u64.wrap (IntKind.u64.wrap (IntKind.u64.wrap (U * 4294967296) + u) - IntKind.u64.wrap (X * Y)) = T ∧ 0 ≤ T ∧ T < Y ∧ 0 ≤ X ∧ X < 4294967296 ∧
    ∀ q0 : Int, q0 * Y ≤ T * 4294967296 + v → T * 4294967296 + v < q0 * Y + Y → (hi * 18446744073709551616 + lo) / y = X * 4294967296 + q0
theorem digit_out (hi lo y Y U u v X : Int) (_c4 : 0 ≤ U) (_d1 : 0 ≤ u) (hY : Y < 18446744073709551616) (x0 : 0 ≤ X) (k1 : X * Y ≤ U * 4294967296 + u) (k2 : U * 4294967296 + u < X * Y + Y) (x1 : X < 4294967296)
    (fin : ∀ q1 q0 : Int, q1 * Y ≤ U * 4294967296 + u → U * 4294967296 + u < q1 * Y + Y → q0 * Y ≤ (U * 4294967296 + u - q1 * Y) * 4294967296 + v → (U * 4294967296 + u - q1 * Y) * 4294967296 + v < q0 * Y + Y → (hi * 18446744073709551616 + lo) / y = q1 * 4294967296 + q0) :
    ∃ T, Out hi lo y Y U u v X T := by
  refine ⟨U * 4294967296 + u - X * Y, ?_, by omega, by omega, x0, x1, fun q0 h1 h2 => fin X q0 k1 k2 h1 h2⟩
  simp only [IntKind.wrap_u64]
  omega
theorem digit_cases (hi lo y Y yn1 yn0 U u v x r : Int) (eY : Y = yn1 * 4294967296 + yn0) (a1 : 2147483648 ≤ yn1) (a2 : yn1 < 4294967296) (b1 : 0 ≤ yn0) (b2 : yn0 < 4294967296) (c1 : 0 ≤ U) (c2 : U < Y) (hY : Y < 18446744073709551616) (d1 : 0 ≤ u) (d2 : u < 4294967296)
    (x0 : 0 ≤ x) (x1 : x ≤ 4294967297) (r0 : 0 ≤ r) (r1 : r < 4294967296) (er : x * yn1 + r = U) (inv : U * 4294967296 + u < x * yn1 * 4294967296 + x * yn0 + Y)
    (fin : ∀ q1 q0 : Int, q1 * Y ≤ U * 4294967296 + u → U * 4294967296 + u < q1 * Y + Y → q0 * Y ≤ (U * 4294967296 + u - q1 * Y) * 4294967296 + v → (U * 4294967296 + u - q1 * Y) * 4294967296 + v < q0 * Y + Y → (hi * 18446744073709551616 + lo) / y = q1 * 4294967296 + q0) :
    (x < 4294967296 ∧ 0 ≤ x * yn0 ∧ x * yn0 < 18446744073709551616 ∧ 4294967296 * r + u < x * yn0 ∧ r + yn1 < 4294967296 ∧ 1 ≤ x ∧ (x - 1) * yn1 + (r + yn1) = U ∧ U * 4294967296 + u < (x - 1) * yn1 * 4294967296 + (x - 1) * yn0 + Y) ∨
    (4294967296 ≤ x ∧ r + yn1 < 4294967296 ∧ 1 ≤ x ∧ (x - 1) * yn1 + (r + yn1) = U ∧ U * 4294967296 + u < (x - 1) * yn1 * 4294967296 + (x - 1) * yn0 + Y) ∨
    (x < 4294967296 ∧ 0 ≤ x * yn0 ∧ x * yn0 < 18446744073709551616 ∧ 4294967296 * r + u < x * yn0 ∧ 4294967296 ≤ r + yn1 ∧ 1 ≤ x ∧ ∃ T, Out hi lo y Y U u v (x - 1) T) ∨
    (4294967296 ≤ x ∧ 4294967296 ≤ r + yn1 ∧ 1 ≤ x ∧ ∃ T, Out hi lo y Y U u v (x - 1) T) ∨
    (x < 4294967296 ∧ 0 ≤ x * yn0 ∧ x * yn0 < 18446744073709551616 ∧ x * yn0 ≤ 4294967296 * r + u ∧ ∃ T, Out hi lo y Y U u v x T) := by
  obtain ⟨k1, k2, k3, k4⟩ := digit_round Y yn1 yn0 U u x r eY a1 a2 b1 b2 c2 d1 d2 x0 x1 r0 r1 er inv
  by_cases t1 : x < 4294967296
  · obtain ⟨p0, p1⟩ := k1 t1
    by_cases t2 : 4294967296 * r + u < x * yn0
    · obtain ⟨m1, m2, m3⟩ := k2 (Or.inr ⟨t1, t2⟩)
      by_cases t3 : r + yn1 < 4294967296
      · exact Or.inl ⟨t1, p0, p1, t2, t3, m1, m2, m3⟩
      · obtain ⟨n1, n2, n3⟩ := k3 (Or.inr ⟨t1, t2⟩) (by omega)
        exact Or.inr (Or.inr (Or.inl ⟨t1, p0, p1, t2, by omega, m1, digit_out hi lo y Y U u v (x - 1) c1 d1 hY (by omega) n2 n3 n1 fin⟩))
    · obtain ⟨n2, n3⟩ := k4 t1 (by omega)
      exact Or.inr (Or.inr (Or.inr (Or.inr ⟨t1, p0, p1, by omega, digit_out hi lo y Y U u v x c1 d1 hY x0 n2 n3 t1 fin⟩)))
  · obtain ⟨m1, m2, m3⟩ := k2 (Or.inl (by omega))
    by_cases t3 : r + yn1 < 4294967296
    · exact Or.inr (Or.inl ⟨by omega, t3, m1, m2, m3⟩)
    · obtain ⟨n1, n2, n3⟩ := k3 (Or.inl (by omega)) (by omega)
      exact Or.inr (Or.inr (Or.inr (Or.inl ⟨by omega, by omega, m1, digit_out hi lo y Y U u v (x - 1) c1 d1 hY (by omega) n2 n3 n1 fin⟩)))
end Go.Proofs.YtnkhknmpffcfbaaGreat
