/-
  Plain numbers: what chapter 5's calls answer, as functions of whole numbers: the arch of half a turn, the sine, its steps, its squares. No program in sight. Nothing is claimed here.
-/
import Derived.Test.YtflggohamonojaaNum
import Derived.Test.YtflggohamonojaaLawNum
namespace Go.Proofs.Ytflggohamonojaa
open Go Go.RowKit

/-- The sine by n times (half a turn less n). -/
def qarc (q : Int) : Int := 4 * q * 4294967296 / (1342177280 - q)
/-- The sine of an angle from 0 to half a turn. -/
def arc (n : Int) : Int := qarc (n * (32768 - n))
/-- The sine of an angle. -/
def sinI (a : Int) : Int := if 32768 < a % 65536 then -(arc (a % 65536 - 32768)) else arc (a % 65536)
def cosI (a : Int) : Int := sinI (a + 16384)

theorem q_in {n : Int} (h0 : 0 ≤ n) (h1 : n ≤ 32768) : 0 ≤ n * (32768 - n) ∧ n * (32768 - n) ≤ 268435456 := by
  refine ⟨Int.mul_nonneg h0 (by omega), ?_⟩
  have e : n * (32768 - n) = 268435456 - (n - 16384) * (n - 16384) := by grind
  have : 0 ≤ (n - 16384) * (n - 16384) := by
    rcases Int.le_total 0 (n - 16384) with h | h
    · exact Int.mul_nonneg h h
    · have := Int.mul_nonneg_of_nonpos_of_nonpos h h; exact this
  omega
theorem qarc_div {q : Int} (h1 : q ≤ 268435456) : qarc q * (1342177280 - q) ≤ 4 * q * 4294967296 ∧ 4 * q * 4294967296 < (qarc q + 1) * (1342177280 - q) := by
  unfold qarc
  exact ⟨Int.ediv_mul_le _ (by omega), Int.lt_ediv_add_one_mul_self _ (by omega)⟩
theorem qarc_in {q : Int} (h0 : 0 ≤ q) (h1 : q ≤ 268435456) : 0 ≤ qarc q ∧ qarc q ≤ 4294967296 := by
  unfold qarc
  refine ⟨Int.ediv_nonneg (by omega) (by omega), ?_⟩
  have : 4 * q * 4294967296 / (1342177280 - q) < 4294967297 := Int.ediv_lt_of_lt_mul (by omega) (by omega)
  omega
/-- It rises. -/
theorem qarc_rises {p q : Int} (h0 : 0 ≤ p) (h : p < q) (h1 : q ≤ 268435456) : qarc p < qarc q := by
  have a := (qarc_div (q := p) (by omega)).1
  have b := (qarc_div h1).2
  have c := (qarc_in h0 (by omega)).1
  rcases Int.lt_or_le (qarc p) (qarc q) with h2 | h2
  · exact h2
  · exfalso
    have e1 : (qarc q + 1) * (1342177280 - q) ≤ (qarc p + 1) * (1342177280 - q) := Int.mul_le_mul_of_nonneg_right (by omega) (by omega)
    have e2 : (qarc p + 1) * (1342177280 - q) = qarc p * (1342177280 - p) + (1342177280 - q) - qarc p * (q - p) := by grind
    have e3 : 0 ≤ qarc p * (q - p) := Int.mul_nonneg c (by omega)
    omega
/-- It rises by no great steps. -/
theorem qarc_step {p q : Int} (h0 : 0 ≤ p) (h : p ≤ q) (h2 : q ≤ p + 32768) (h1 : q ≤ 268435456) : qarc p ≤ qarc q ∧ qarc q < qarc p + 4294966 := by
  have r : qarc p ≤ qarc q := by
    rcases Int.lt_or_le p q with g | g
    · exact Int.le_of_lt (qarc_rises h0 g h1)
    · rw [show p = q by omega]; exact Int.le_refl _
  refine ⟨r, ?_⟩
  have a := (qarc_div (q := p) (by omega)).2
  have b := (qarc_div h1).1
  have c := qarc_in h0 (by omega)
  rcases Int.lt_or_le (qarc q) (qarc p + 4294966) with h3 | h3
  · exact h3
  · exfalso
    have e1 : (qarc p + 4294966) * (1342177280 - q) ≤ qarc q * (1342177280 - q) := Int.mul_le_mul_of_nonneg_right (by omega) (by omega)
    have e2 : (qarc p + 4294966) * (1342177280 - q) = (qarc p + 1) * (1342177280 - p) + 4294965 * (1342177280 - q) - (qarc p + 1) * (q - p) := by grind
    have e3 : (qarc p + 1) * (q - p) ≤ 4294967297 * (q - p) := Int.mul_le_mul_of_nonneg_right (by omega) (by omega)
    omega

theorem arc_in {n : Int} (h0 : 0 ≤ n) (h1 : n ≤ 32768) : 0 ≤ arc n ∧ arc n ≤ 4294967296 := qarc_in (q_in h0 h1).1 (q_in h0 h1).2
theorem arc_turn (n : Int) : arc (32768 - n) = arc n := by
  unfold arc
  congr 1
  grind
theorem arc_zero : arc 0 = 0 := by decide +kernel
theorem arc_quarter : arc 16384 = 4294967296 := by decide +kernel
theorem arc_rises {a b : Int} (h0 : 0 ≤ a) (h : a < b) (h1 : b ≤ 16384) : arc a < arc b := by
  refine qarc_rises (q_in h0 (by omega)).1 ?_ (q_in (by omega) (by omega)).2
  have e : b * (32768 - b) = a * (32768 - a) + (b - a) * (32768 - a - b) := by grind
  have : 0 < (b - a) * (32768 - a - b) := Int.mul_pos (by omega) (by omega)
  omega
theorem arc_le {a b : Int} (h0 : 0 ≤ a) (h : a ≤ b) (h1 : b ≤ 16384) : arc a ≤ arc b := by
  rcases Int.lt_or_le a b with g | g
  · exact Int.le_of_lt (arc_rises h0 g h1)
  · rw [show a = b by omega]; exact Int.le_refl _
theorem arc_step {n : Int} (h0 : 0 ≤ n) (h1 : n < 32768) : -4294966 < arc (n + 1) - arc n ∧ arc (n + 1) - arc n < 4294966 := by
  have a := q_in h0 (Int.le_of_lt h1)
  have b := q_in (n := n + 1) (by omega) (by omega)
  have e : (n + 1) * (32768 - (n + 1)) = n * (32768 - n) + (32767 - 2 * n) := by grind
  unfold arc
  rw [e] at b ⊢
  generalize n * (32768 - n) = q at *
  rcases Int.le_total 0 (32767 - 2 * n) with g | g
  · have := qarc_step a.1 (q := q + (32767 - 2 * n)) (by omega) (by omega) (by omega); omega
  · have := qarc_step b.1 (q := q) (by omega) (by omega) (by omega); omega

/-! ### The sine -/
/-- In which half of a turn an angle lies, and where there. -/
theorem sin_cases (a : Int) : (0 ≤ a % 65536 ∧ a % 65536 ≤ 32768 ∧ sinI a = arc (a % 65536)) ∨ (32768 < a % 65536 ∧ a % 65536 < 65536 ∧ sinI a = -(arc (a % 65536 - 32768))) := by
  unfold sinI
  by_cases h : 32768 < a % 65536
  · rw [if_pos h]; exact Or.inr ⟨h, by omega, rfl⟩
  · rw [if_neg h]; exact Or.inl ⟨by omega, by omega, rfl⟩
theorem sin_at {a n : Int} (h : a % 65536 = n) (h1 : n ≤ 32768) : sinI a = arc n := by unfold sinI; rw [h, if_neg (by omega)]
theorem sin_behind {a n : Int} (h : a % 65536 = n + 32768) (h0 : 0 ≤ n) : sinI a = -arc n := by
  rcases Int.lt_or_le 0 n with g | g
  · unfold sinI; rw [h, if_pos (by omega), show n + 32768 - 32768 = n by omega]
  · have e : n = 0 := by omega
    subst e
    rw [sin_at h (by decide), arc_zero]; decide +kernel
theorem sin_in (a : Int) : -4294967296 ≤ sinI a ∧ sinI a ≤ 4294967296 := by
  rcases sin_cases a with ⟨h0, h1, e⟩ | ⟨h0, h1, e⟩ <;> rw [e]
  · have := arc_in h0 h1; omega
  · have := arc_in (n := a % 65536 - 32768) (by omega) (by omega); omega
theorem sin_F (a : Int) : inF (sinI a) := by have := sin_in a; exact ⟨by omega, by omega⟩
theorem cos_F (a : Int) : inF (cosI a) := sin_F _
theorem sin_mod {a b : Int} (h : a % 65536 = b % 65536) : sinI a = sinI b := by unfold sinI; rw [h]
theorem cos_mod {a b : Int} (h : a % 65536 = b % 65536) : cosI a = cosI b := sin_mod (by omega)
/-- Half a turn turns the sign. -/
theorem sin_half {a b : Int} (h : b % 65536 = (a + 32768) % 65536) : sinI b = -sinI a := by
  rcases Int.lt_or_le (a % 65536) 32768 with g | g
  · rw [sin_at (a := a) rfl (by omega), sin_behind (a := b) (n := a % 65536) (by omega) (by omega)]
  · rw [sin_behind (a := a) (n := a % 65536 - 32768) (by omega) (by omega), sin_at (a := b) (n := a % 65536 - 32768) (by omega) (by omega), Int.neg_neg]
/-- As far behind a quarter as ahead of it. -/
theorem sin_mirror {a b : Int} (h : (a + b) % 65536 = 32768) : sinI b = sinI a := by
  rcases Int.lt_or_le 32768 (a % 65536) with g | g
  · rw [sin_behind (a := a) (n := a % 65536 - 32768) (by omega) (by omega), sin_behind (a := b) (n := 32768 - (a % 65536 - 32768)) (by omega) (by omega), arc_turn]
  · rw [sin_at (a := a) rfl g, sin_at (a := b) (n := 32768 - a % 65536) (by omega) (by omega), arc_turn]
theorem sin_odd {a b : Int} (h : (a + b) % 65536 = 0) : sinI b = -sinI a := by
  rw [sin_mirror (a := a + 32768) (b := b) (by omega), sin_half (a := a) rfl]
theorem cos_odd {a b : Int} (h : (a + b) % 65536 = 0) : cosI b = cosI a := sin_mirror (by omega)
/-- From one angle to the next. -/
theorem sin_step (a : Int) : -4294966 < sinI (a + 1) - sinI a ∧ sinI (a + 1) - sinI a < 4294966 := by
  rcases Int.lt_or_le (a % 65536) 32768 with g | g
  · rw [sin_at (a := a) rfl (by omega), sin_at (a := a + 1) (n := a % 65536 + 1) (by omega) (by omega)]
    exact arc_step (by omega) g
  · have s := arc_step (n := a % 65536 - 32768) (by omega) (by omega)
    rw [sin_behind (a := a) (n := a % 65536 - 32768) (by omega) (by omega)]
    rcases Int.lt_or_le (a % 65536) 65535 with k | k
    · rw [sin_behind (a := a + 1) (n := a % 65536 - 32768 + 1) (by omega) (by omega)]
      omega
    · rw [sin_at (a := a + 1) (n := 0) (by omega) (by decide), arc_zero]
      rw [show a % 65536 - 32768 = 32767 by omega] at s ⊢
      have e : arc (32767 + 1) = 0 := by decide +kernel
      omega

/-! ### Squares -/
theorem grid : ∀ k : Fin 256, 18170000000000000000 ≤ arc (64 * (k.val : Int)) * arc (64 * (k.val : Int)) + arc (16320 - 64 * (k.val : Int)) * arc (16320 - 64 * (k.val : Int)) ∧ arc (64 * (k.val : Int) + 64) * arc (64 * (k.val : Int) + 64) + arc (16384 - 64 * (k.val : Int)) * arc (16384 - 64 * (k.val : Int)) ≤ 18723000000000000000 := by decide +kernel
theorem sq_mono {a b : Int} (h0 : 0 ≤ a) (h : a ≤ b) : a * a ≤ b * b := Int.mul_le_mul h h h0 (Int.le_trans h0 h)
theorem quarter_squares {m : Int} (h0 : 0 ≤ m) (h1 : m < 16384) : 18170000000000000000 ≤ arc m * arc m + arc (16384 - m) * arc (16384 - m) ∧ arc m * arc m + arc (16384 - m) * arc (16384 - m) ≤ 18723000000000000000 := by
  have g := grid ⟨(m / 64).toNat, by omega⟩
  simp only at g
  rw [show (((m / 64).toNat : Nat) : Int) = m / 64 by omega] at g
  have a := sq_mono (arc_in (n := 64 * (m / 64)) (by omega) (by omega)).1 (arc_le (a := 64 * (m / 64)) (b := m) (by omega) (by omega) (by omega))
  have b := sq_mono (arc_in (n := 16320 - 64 * (m / 64)) (by omega) (by omega)).1 (arc_le (a := 16320 - 64 * (m / 64)) (b := 16384 - m) (by omega) (by omega) (by omega))
  have c := sq_mono (arc_in (n := m) (by omega) (by omega)).1 (arc_le (a := m) (b := 64 * (m / 64) + 64) (by omega) (by omega) (by omega))
  have d := sq_mono (arc_in (n := 16384 - m) (by omega) (by omega)).1 (arc_le (a := 16384 - m) (b := 16384 - 64 * (m / 64)) (by omega) (by omega) (by omega))
  omega
theorem squares (a : Int) : 18170000000000000000 ≤ sinI a * sinI a + cosI a * cosI a ∧ sinI a * sinI a + cosI a * cosI a ≤ 18723000000000000000 := by
  unfold cosI
  have hm : ∀ m : Int, arc (m + 16384) = arc (16384 - m) := fun m => by rw [← arc_turn]; congr 1; omega
  have q := quarter_squares (m := a % 16384) (by omega) (by omega)
  have c : a % 65536 = a % 16384 ∨ a % 65536 = a % 16384 + 16384 ∨ a % 65536 = a % 16384 + 32768 ∨ a % 65536 = a % 16384 + 16384 + 32768 := by omega
  rcases c with c | c | c | c
  · rw [sin_at c (by omega), sin_at (a := a + 16384) (n := a % 16384 + 16384) (by omega) (by omega), hm]; exact q
  · rw [sin_at c (by omega), sin_behind (a := a + 16384) (n := a % 16384) (by omega) (by omega), hm, Int.neg_mul_neg]; omega
  · rw [sin_behind c (by omega), sin_behind (a := a + 16384) (n := a % 16384 + 16384) (by omega) (by omega), hm, Int.neg_mul_neg, Int.neg_mul_neg]; exact q
  · rw [sin_behind c (by omega), sin_at (a := a + 16384) (n := a % 16384) (by omega) (by omega), hm, Int.neg_mul_neg]; omega
/-- The square of a number's 24 upper bits. -/
theorem sq_cut {x : Int} (h0 : -4294967296 ≤ x) (h1 : x ≤ 4294967296) : x * x - 4398046511104 ≤ 65536 * (x / 256 * (x / 256)) ∧ 65536 * (x / 256 * (x / 256)) ≤ x * x + 4398046511104 ∧ 0 ≤ x / 256 * (x / 256) ∧ x / 256 * (x / 256) ≤ 281474976710656 := by
  have e : x = 256 * (x / 256) + x % 256 := by omega
  have r0 : 0 ≤ x % 256 := by omega
  have r1 : x % 256 < 256 := by omega
  generalize x / 256 = s at *
  generalize x % 256 = r at *
  have s0 : -16777216 ≤ s := by omega
  have s1 : s ≤ 16777216 := by omega
  subst e
  have e2 : (256 * s + r) * (256 * s + r) = 65536 * (s * s) + (512 * (s * r) + r * r) := by grind
  have a1 : s * r ≤ 16777216 * r := Int.mul_le_mul_of_nonneg_right s1 r0
  have a2 : -16777216 * r ≤ s * r := Int.mul_le_mul_of_nonneg_right s0 r0
  have a3 : r * r ≤ 256 * r := Int.mul_le_mul_of_nonneg_right (by omega) r0
  have a4 : 0 ≤ r * r := Int.mul_nonneg r0 r0
  have a5 : 0 ≤ s * s := by
    rcases Int.le_total 0 s with h | h
    · exact Int.mul_nonneg h h
    · exact Int.mul_nonneg_of_nonpos_of_nonpos h h
  have a6 : s * s ≤ 281474976710656 := by
    have e3 : (16777216 - s) * (16777216 + s) = 281474976710656 - s * s := by grind
    have := Int.mul_nonneg (show 0 ≤ 16777216 - s by omega) (show 0 ≤ 16777216 + s by omega)
    omega
  omega
theorem squares_cut (a : Int) : ∃ p q : Int, sinI a / 256 * (sinI a / 256) = p ∧ cosI a / 256 * (cosI a / 256) = q ∧ 0 ≤ p ∧ p ≤ 281474976710656 ∧ 0 ≤ q ∧ q ≤ 281474976710656 ∧ 16441672 < (p + q) / 16777216 ∧ (p + q) / 16777216 < 17112760 := by
  have h := squares a
  have s := sq_cut (sin_in a).1 (sin_in a).2
  have c := sq_cut (x := cosI a) (sin_in _).1 (sin_in _).2
  exact ⟨_, _, rfl, rfl, s.2.2.1, s.2.2.2, c.2.2.1, c.2.2.2, by omega, by omega⟩

/-! ### A place turned -/
def rotR (x y s c : Int) : Int × Int × Int := if (mulR x c).2 = 0 ∧ (mulR y s).2 = 0 ∧ (subR (mulR x c).1 (mulR y s).1).2 = 0 ∧ (mulR x s).2 = 0 ∧ (mulR y c).2 = 0 ∧ (addR (mulR x s).1 (mulR y c).1).2 = 0 then ((subR (mulR x c).1 (mulR y s).1).1, (addR (mulR x s).1 (mulR y c).1).1, 0) else (0, 0, 3)
theorem mul_told (a b : Int) : mulR a b = (0, 3) ∨ ∃ p, mulR a b = (p, 0) ∧ inF p := by
  have h := mulR_in a b
  rcases sgR_cases (sgn a b) (mulM a b) with ⟨_, _, e⟩ | ⟨_, _, e⟩ | ⟨_, _, e⟩
  · exact Or.inr ⟨_, e, by rw [show mulR a b = _ from e] at h; exact h.1⟩
  · exact Or.inr ⟨_, e, by rw [show mulR a b = _ from e] at h; exact h.1⟩
  · exact Or.inl e
theorem in_told (x : Int) : inR x = (0, 3) ∨ (inR x = (x, 0) ∧ inF x) := by
  rcases inR_cases x with ⟨h, g⟩ | ⟨h, g⟩
  · exact Or.inr ⟨h, g⟩
  · exact Or.inl h
/-- The seven ways of a turn: which of the six has the first error; or none. -/
inductive Rot (x y s c : Int) : Int × Int × Int → Prop
  | e1 (h1 : mulR x c = (0, 3)) : Rot x y s c (0, 0, 3)
  | e2 (p : Int) (h1 : mulR x c = (p, 0)) (h2 : mulR y s = (0, 3)) : Rot x y s c (0, 0, 3)
  | e3 (p q : Int) (h1 : mulR x c = (p, 0)) (h2 : mulR y s = (q, 0)) (i1 : inF p) (i2 : inF q) (h3 : subR p q = (0, 3)) : Rot x y s c (0, 0, 3)
  | e4 (p q u : Int) (h1 : mulR x c = (p, 0)) (h2 : mulR y s = (q, 0)) (i1 : inF p) (i2 : inF q) (h3 : subR p q = (u, 0)) (h4 : mulR x s = (0, 3)) : Rot x y s c (0, 0, 3)
  | e5 (p q u r : Int) (h1 : mulR x c = (p, 0)) (h2 : mulR y s = (q, 0)) (i1 : inF p) (i2 : inF q) (h3 : subR p q = (u, 0)) (h4 : mulR x s = (r, 0)) (h5 : mulR y c = (0, 3)) : Rot x y s c (0, 0, 3)
  | e6 (p q u r t : Int) (h1 : mulR x c = (p, 0)) (h2 : mulR y s = (q, 0)) (i1 : inF p) (i2 : inF q) (h3 : subR p q = (u, 0)) (h4 : mulR x s = (r, 0)) (h5 : mulR y c = (t, 0)) (i4 : inF r) (i5 : inF t) (h6 : addR r t = (0, 3)) : Rot x y s c (0, 0, 3)
  | ok (p q u r t v : Int) (h1 : mulR x c = (p, 0)) (h2 : mulR y s = (q, 0)) (i1 : inF p) (i2 : inF q) (h3 : subR p q = (u, 0)) (h4 : mulR x s = (r, 0)) (h5 : mulR y c = (t, 0)) (i4 : inF r) (i5 : inF t) (h6 : addR r t = (v, 0)) (i3 : inF u) (i6 : inF v) : Rot x y s c (u, v, 0)
theorem rot_cases (x y s c : Int) : Rot x y s c (rotR x y s c) := by
  unfold rotR
  rcases mul_told x c with h1 | ⟨p, h1, i1⟩
  · rw [h1]; simp; exact .e1 h1
  rcases mul_told y s with h2 | ⟨q, h2, i2⟩
  · rw [h1, h2]; simp; exact .e2 p h1 h2
  rw [h1, h2]
  rcases in_told (p - q) with h3 | ⟨h3, i3⟩
  · rw [show subR p q = _ from h3]; simp; exact .e3 p q h1 h2 i1 i2 h3
  rw [show subR p q = _ from h3]
  rcases mul_told x s with h4 | ⟨r, h4, i4⟩
  · rw [h4]; simp; exact .e4 p q _ h1 h2 i1 i2 h3 h4
  rcases mul_told y c with h5 | ⟨t, h5, i5⟩
  · rw [h4, h5]; simp; exact .e5 p q _ r h1 h2 i1 i2 h3 h4 h5
  rw [h4, h5]
  rcases in_told (r + t) with h6 | ⟨h6, i6⟩
  · rw [show addR r t = _ from h6]; simp; exact .e6 p q _ r t h1 h2 i1 i2 h3 h4 h5 i4 i5 h6
  rw [show addR r t = _ from h6]; simp; exact .ok p q _ r t _ h1 h2 i1 i2 h3 h4 h5 i4 i5 h6 i3 i6
end Go.Proofs.Ytflggohamonojaa
