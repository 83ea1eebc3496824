/-
  Plain numbers, no program in sight: what chapter 10's calls answer. Nothing is claimed here.
-/
import Derived.Test.YtnkhknmpffcfbaaGreatXNum
import Derived.Test.YtnkhknmpffcfbaaGreatVUnit
namespace Go.Proofs.YtnkhknmpffcfbaaGreat
open Go Go.RowKit

/-- A contact: its direction (x, y), its depth. -/
structure Ht where
  x : Int
  y : Int
  d : Int
/-- .. as the code has it. -/
def Ht.val (h : Ht) : Value := .agg #[.int .i64 h.x, .int .i64 h.y, .int .i64 h.d]
structure Ht.ok (h : Ht) : Prop where
  x : inF h.x
  y : inF h.y
  d : inF h.d

def contactH (x y d : Int) : Ht × Bool := if d ≤ 0 then (⟨0, 0, 0⟩, false) else (⟨x, y, d⟩, true)
def towI (d : Int) : Int := if d < 0 then -4294967296 else 4294967296
def amtR (d : Int) : Int × Int := if d < 0 then subR 0 d else (d, 0)
/-- One number behind another. -/
def behind (r : Int × Int) (f : Int → Int × Int) : Int × Int := if r.2 = 0 then f r.1 else (0, r.2)
def overR (a b d : Int) : Int × Int := behind (addR a b) fun s => behind (amtR d) fun m => subR s m
/-- A contact that is asked where there is no error so far. -/
def ifH (k : Int) (r : (Ht × Bool) × Int) : (Ht × Bool) × Int := if k = 0 then r else ((⟨0, 0, 0⟩, false), k)
theorem ifH_ok {k : Int} (h : k = 0) (r : (Ht × Bool) × Int) : ifH k r = r := if_pos h
theorem ifH_no {k : Int} (h : ¬ k = 0) (r : (Ht × Bool) × Int) : ifH k r = ((⟨0, 0, 0⟩, false), k) := if_neg h
def noneH : (Ht × Bool) × Int := ((⟨0, 0, 0⟩, false), 0)
/-- Two crates: of both overlaps. -/
def lessH (X Y x y : Int) : Ht × Bool := if Y < X then contactH 0 (towI y) Y else contactH (towI x) 0 X
def cratesR (a b c d x y : Int) : (Ht × Bool) × Int := ifH (overR a c x).2 (if (overR a c x).1 ≤ 0 then noneH else ifH (overR b d y).2 (lessH (overR a c x).1 (overR b d y).1 x y, 0))
def gapV (A B : Bd) : Int × Int × Int := two (subR B.p A.p) (subR B.q A.q)
def crateR (A B : Bd) : (Ht × Bool) × Int := ifH (gapV A B).2.2 (cratesR A.a A.b B.a B.b (gapV A B).1 (gapV A B).2.1)
/-- Two balls: of the direction and the length. -/
def sumR (a b l : Int) : Int × Int := behind (addR a b) fun s => subR s l
def awayH (n : Int × Int) (l d : Int) : Ht × Bool := if l = 0 then contactH 4294967296 0 d else contactH n.1 n.2 d
def ballsU (a b : Int) (u : (Int × Int) × Int × Int) : (Ht × Bool) × Int := ifH u.2.2 (ifH (sumR a b u.2.1).2 (awayH u.1 u.2.1 (sumR a b u.2.1).1, 0))
def ballsR (A B : Bd) : (Ht × Bool) × Int := ifH (gapV A B).2.2 (ballsU A.a B.a (unitR (gapV A B).1 (gapV A B).2.1))
/-- A ball and a crate. -/
def roundB (A : Bd) : Bd := ⟨A.s, A.a, A.a, A.m, A.p, A.q, A.u, A.v⟩
def edgeV (A : Bd) (b : Bx) : Int × Int × Int := two (subR (nearI A.p b.l b.h) A.p) (subR (nearI A.q b.m b.k) A.q)
def ballU (A B : Bd) (u : (Int × Int) × Int × Int) : (Ht × Bool) × Int := ifH u.2.2 (if u.2.1 = 0 then crateR (roundB A) B else ifH (subR A.a u.2.1).2 (contactH u.1.1 u.1.2 (subR A.a u.2.1).1, 0))
def ballR (A B : Bd) : (Ht × Bool) × Int := ifH (boxR B).2 (ifH (edgeV A (boxR B).1).2.2 (ballU A B (unitR (edgeV A (boxR B).1).1 (edgeV A (boxR B).1).2.1)))
/-- A contact turned around. -/
def flipR (h : Ht) : Ht × Int := if (two (subR 0 h.x) (subR 0 h.y)).2.2 = 0 then (⟨(subR 0 h.x).1, (subR 0 h.y).1, h.d⟩, 0) else (⟨0, 0, 0⟩, (two (subR 0 h.x) (subR 0 h.y)).2.2)
def flipB (r : (Ht × Bool) × Int) : (Ht × Bool) × Int := ifH r.2 (ifH (flipR r.1.1).2 (((flipR r.1.1).1, r.1.2), 0))
/-- What Hit answers. -/
def hitR (A B : Bd) : (Ht × Bool) × Int :=
  if A.s = 1 ∧ B.s = 1 then ballsR A B else if A.s = 2 ∧ B.s = 2 then crateR A B else if A.s = 1 ∧ B.s = 2 then ballR A B else if A.s = 2 ∧ B.s = 1 then flipB (ballR B A) else noneH
/-- How Hit ends, and Flip. -/
def outH (t : (Ht × Bool) × Int) : Ending := if t.2 = 0 then .returned (.tuple #[t.1.1.val, .bool t.1.2]) else .panicked [fault t.2]
def outF (t : Ht × Int) : Ending := if t.2 = 0 then .returned t.1.val else .panicked [fault t.2]

/-! ### Numbers that are not too great -/
theorem aOk {a b : Int} (h : -9223372036854775808 ≤ a + b ∧ a + b ≤ 9223372036854775807) : addR a b = (a + b, 0) := inR_ok h
theorem sOk {a b : Int} (h : -9223372036854775808 ≤ a - b ∧ a - b ≤ 9223372036854775807) : subR a b = (a - b, 0) := inR_ok h
theorem twoOk (a b : Int) : two (a, 0) (b, 0) = (a, b, 0) := rfl
def rt2 (x y : Int) : Int := rt (x * x + y * y)
theorem rt2_is {x y : Int} (h : inF x) (g : inF y) : isR (x * x + y * y) (rt2 x y) := rt_is (inF_sum h g).1 (inF_sum h g).2
theorem rt2_nonneg {x y : Int} (h : inF x) (g : inF y) : 0 ≤ rt2 x y := (rt2_is h g).1
theorem rt2_swap (x y : Int) : rt2 x y = rt2 y x := by unfold rt2; rw [Int.add_comm]
theorem rt2_gex {x y : Int} (h : inF x) (g : inF y) : ab x ≤ rt2 x y := by
  have k := rt2_is h g
  have := lt_sq (a := ab x) (b := rt2 x y + 1) (by have := k.1; omega) (by rw [ab_sq]; have := k.2.2; have := (inF_sq g).1; omega)
  omega
theorem rt2_gey {x y : Int} (h : inF x) (g : inF y) : ab y ≤ rt2 x y := by rw [rt2_swap]; exact rt2_gex g h
theorem rt2_neg (x y : Int) : rt2 (-x) (-y) = rt2 x y := by unfold rt2; rw [Int.neg_mul_neg, Int.neg_mul_neg]
theorem rt_0 : rt 0 = 0 := rt_eq ⟨by decide, by decide, by decide⟩ (by decide)
theorem rt2_zero {x y : Int} (h : inF x) (g : inF y) : rt2 x y = 0 ↔ x = 0 ∧ y = 0 := by
  constructor
  · intro e
    have h1 := rt2_gex h g
    have h2 := rt2_gey h g
    have := ab_of x; have := ab_of y
    omega
  · rintro ⟨rfl, rfl⟩
    exact rt_0
theorem rt2_lt {x y k : Int} (hk : 0 ≤ k) (hx : -k ≤ x ∧ x ≤ k) (hy : -k ≤ y ∧ y ≤ k) (h : inF x) (g : inF y) : rt2 x y ≤ 2 * k := by
  have i := rt2_is h g
  have e1 := sq_le (ab_nonneg x) (show ab x ≤ k by have := ab_of x; omega)
  have e2 := sq_le (ab_nonneg y) (show ab y ≤ k by have := ab_of y; omega)
  rw [ab_sq] at e1 e2
  refine le_sq (by omega) ?_
  have e3 : (2 * k) * (2 * k) = 4 * (k * k) := by grind
  have := Int.mul_nonneg hk hk
  have := i.2.1
  omega
/-- x over l, towards 0, in bits. -/
def qd (x l : Int) : Int := if x < 0 then -(ab x * 4294967296 / l) else ab x * 4294967296 / l
theorem qd_amt {x l : Int} (hl : 0 < l) (h : ab x ≤ l) : 0 ≤ ab x * 4294967296 / l ∧ ab x * 4294967296 / l ≤ 4294967296 := by
  refine ⟨Int.ediv_nonneg (Int.mul_nonneg (ab_nonneg x) (by decide)) (by omega), ?_⟩
  refine Int.ediv_le_of_le_mul hl ?_
  rw [Int.mul_comm 4294967296]
  exact Int.mul_le_mul_of_nonneg_right h (by decide)
theorem qd_in {x l : Int} (hl : 0 < l) (h : ab x ≤ l) : -4294967296 ≤ qd x l ∧ qd x l ≤ 4294967296 := by
  have := qd_amt hl h
  unfold qd
  split <;> omega
theorem div_qd {x l : Int} (hl : 0 < l) (h : ab x ≤ l) : divR x l = (qd x l, 0) := by
  have := qd_amt hl h
  have e : divM x l = ab x * 4294967296 / l := by
    unfold divM
    rw [show ab l = l by have := ab_of l; omega]
  unfold divR
  rw [if_neg (by omega), e]
  unfold qd sgn sgR
  by_cases g : x < 0
  · rw [if_pos g, if_pos (by simp [g]; omega), if_pos (by omega)]
  · rw [if_neg g, if_neg (by simp [g]; omega), if_pos (by omega)]
theorem qd_neg {x l : Int} : qd (-x) l = -qd x l := by
  unfold qd
  rw [ab_neg]
  by_cases h : x = 0
  · subst h; simp [ab]
  · by_cases g : x < 0
    · rw [if_pos g, if_neg (by omega)]; omega
    · rw [if_neg g, if_pos (by omega)]
theorem qd_zero (l : Int) : qd 0 l = 0 := by unfold qd ab; simp
theorem qd_self {l : Int} (h : 0 < l) : qd l l = 4294967296 := by
  unfold qd
  rw [if_neg (by omega), show ab l = l by have := ab_of l; omega]
  exact Int.mul_ediv_cancel_left _ (by omega)
/-- Unit where nothing is too great. -/
def unitI (x y : Int) : (Int × Int) × Int × Int := if rt2 x y = 0 then ((0, 0), 0, 0) else ((qd x (rt2 x y), qd y (rt2 x y)), rt2 x y, 0)
theorem unit_mild {x y : Int} (hx : -36028797018963968 ≤ x ∧ x ≤ 36028797018963968) (hy : -36028797018963968 ≤ y ∧ y ≤ 36028797018963968) : unitR x y = unitI x y := by
  have h : inF x := ⟨by omega, by omega⟩
  have g : inF y := ⟨by omega, by omega⟩
  have e : lenR x y = (rt2 x y, 0) := by
    have := rt2_lt (by decide) hx hy h g
    unfold lenR
    exact if_pos (show rt2 x y < 9223372036854775808 by omega)
  have k0 := rt2_nonneg h g
  have k1 := rt2_gex h g
  have k2 := rt2_gey h g
  unfold unitI
  by_cases hz : rt2 x y = 0
  · rw [if_pos hz]
    exact unitR_zero (by rw [e]) (by rw [e]; exact hz)
  · rw [if_neg hz]
    have d1 := div_qd (x := x) (l := rt2 x y) (by omega) k1
    have d2 := div_qd (x := y) (l := rt2 x y) (by omega) k2
    have := @unitR_ok x y
    rw [e] at this
    simp only [d1, d2] at this
    exact this trivial hz rfl
def ballsI (r x y : Int) : Ht × Bool := awayH (unitI x y).1 (rt2 x y) (r - rt2 x y)
def cratesI (a b x y : Int) : Ht × Bool := if a - ab x ≤ 0 then (⟨0, 0, 0⟩, false) else lessH (a - ab x) (b - ab y) x y
def bcI (r c d x y u v : Int) : Ht × Bool := if rt2 u v = 0 then cratesI (r + c) (r + d) x y else contactH (qd u (rt2 u v)) (qd v (rt2 u v)) (r - rt2 u v)
def ballI (r c d x y : Int) : Ht × Bool := bcI r c d x y (nearI 0 (x - c) (x + c)) (nearI 0 (y - d) (y + d))
def flipI (h : Ht × Bool) : Ht × Bool := (⟨-h.1.x, -h.1.y, h.1.d⟩, h.2)
def hitI (A B : Bd) : Ht × Bool :=
  if A.s = 1 ∧ B.s = 1 then ballsI (A.a + B.a) (B.p - A.p) (B.q - A.q) else if A.s = 2 ∧ B.s = 2 then cratesI (A.a + B.a) (A.b + B.b) (B.p - A.p) (B.q - A.q) else if A.s = 1 ∧ B.s = 2 then ballI A.a B.a B.b (B.p - A.p) (B.q - A.q) else if A.s = 2 ∧ B.s = 1 then flipI (ballI B.a A.a A.b (A.p - B.p) (A.q - B.q)) else (⟨0, 0, 0⟩, false)
/-- A body that is neither great nor far away. -/
structure Mild (B : Bd) : Prop where
  a : 0 ≤ B.a ∧ B.a ≤ 8796093022208
  b : 0 ≤ B.b ∧ B.b ≤ 8796093022208
  p : -4503599627370496 ≤ B.p ∧ B.p ≤ 4503599627370496
  q : -4503599627370496 ≤ B.q ∧ B.q ≤ 4503599627370496
theorem gap_mild {A B : Bd} (hA : Mild A) (hB : Mild B) : gapV A B = (B.p - A.p, B.q - A.q, 0) := by
  have := hA.p; have := hA.q; have := hB.p; have := hB.q
  unfold gapV
  rw [sOk (by omega), sOk (by omega)]
  rfl
theorem over_mild {a b d : Int} (ha : 0 ≤ a ∧ a ≤ 8796093022208) (hb : 0 ≤ b ∧ b ≤ 8796093022208) (hd : -36028797018963968 ≤ d ∧ d ≤ 36028797018963968) : overR a b d = (a + b - ab d, 0) := by
  have e1 : amtR d = (ab d, 0) := by
    unfold amtR ab
    split
    · rw [sOk (by omega)]; simp
    · rfl
  have := ab_of d
  unfold overR behind
  rw [aOk (by omega), if_pos rfl, e1]
  show subR (a + b) (ab d) = _
  exact sOk (by omega)
theorem crates_mild {a b c d x y : Int} (ha : 0 ≤ a ∧ a ≤ 8796093022208) (hb : 0 ≤ b ∧ b ≤ 8796093022208) (hc : 0 ≤ c ∧ c ≤ 8796093022208) (hd : 0 ≤ d ∧ d ≤ 8796093022208) (hx : -36028797018963968 ≤ x ∧ x ≤ 36028797018963968) (hy : -36028797018963968 ≤ y ∧ y ≤ 36028797018963968) : cratesR a b c d x y = (cratesI (a + c) (b + d) x y, 0) := by
  unfold cratesR cratesI
  rw [over_mild ha hc hx, over_mild hb hd hy]
  simp only [ifH, noneH]
  rw [if_pos trivial, if_pos trivial]
  split <;> rfl
theorem crate_mild {A B : Bd} (hA : Mild A) (hB : Mild B) : crateR A B = (cratesI (A.a + B.a) (A.b + B.b) (B.p - A.p) (B.q - A.q), 0) := by
  have := hA.p; have := hA.q; have := hB.p; have := hB.q
  unfold crateR
  rw [gap_mild hA hB]
  simp only [ifH]
  rw [if_pos trivial]
  exact crates_mild hA.a hA.b hB.a hB.b (by omega) (by omega)
theorem unitI_err (x y : Int) : (unitI x y).2.2 = 0 := by unfold unitI; split <;> rfl
theorem unitI_len (x y : Int) : (unitI x y).2.1 = rt2 x y := by
  unfold unitI
  by_cases h : rt2 x y = 0
  · rw [if_pos h, h]
  · rw [if_neg h]
theorem balls_mild {A B : Bd} (hA : Mild A) (hB : Mild B) : ballsR A B = (ballsI (A.a + B.a) (B.p - A.p) (B.q - A.q), 0) := by
  have := hA.p; have := hA.q; have := hB.p; have := hB.q; have := hA.a; have := hB.a
  unfold ballsR
  rw [gap_mild hA hB]
  simp only
  have hx : -36028797018963968 ≤ B.p - A.p ∧ B.p - A.p ≤ 36028797018963968 := by omega
  have hy : -36028797018963968 ≤ B.q - A.q ∧ B.q - A.q ≤ 36028797018963968 := by omega
  rw [ifH_ok rfl, unit_mild hx hy]
  generalize B.p - A.p = x at *
  generalize B.q - A.q = y at *
  have h : inF x := ⟨by omega, by omega⟩
  have g : inF y := ⟨by omega, by omega⟩
  have k0 := rt2_nonneg h g
  have k1 := rt2_lt (by decide) hx hy h g
  unfold ballsU ballsI sumR behind
  rw [ifH_ok (unitI_err x y), unitI_len, aOk (by omega)]
  simp only
  rw [if_pos trivial, sOk (by omega)]
  exact ifH_ok rfl _
theorem near_shift (a l h : Int) : nearI a l h - a = nearI 0 (l - a) (h - a) := by
  rcases near_cases a l h with ⟨h1, e⟩ | ⟨h1, h2, e⟩ | ⟨h1, h2, e⟩ <;> rcases near_cases 0 (l - a) (h - a) with ⟨g1, f⟩ | ⟨g1, g2, f⟩ | ⟨g1, g2, f⟩ <;> rw [e, f] <;> omega
theorem box_mild {B : Bd} (h : Mild B) (hs : B.s = 2) : boxR B = (⟨B.p - B.a, B.q - B.b, B.p + B.a, B.q + B.b⟩, 0) := by
  have := h.a; have := h.b; have := h.p; have := h.q
  unfold boxR pairX
  rw [reach_else (by omega), sOk (by omega), sOk (by omega), aOk (by omega), aOk (by omega), twoOk, twoOk]
  rfl
theorem near_mid {c x : Int} (hc : 0 ≤ c ∧ c ≤ 8796093022208) (hx : -9007199254740992 ≤ x ∧ x ≤ 9007199254740992) : -36028797018963968 ≤ nearI 0 (x - c) (x + c) ∧ nearI 0 (x - c) (x + c) ≤ 36028797018963968 := by
  rcases near_cases 0 (x - c) (x + c) with ⟨g1, f⟩ | ⟨g1, g2, f⟩ | ⟨g1, g2, f⟩ <;> rw [f] <;> omega
theorem ball_mild {A B : Bd} (hA : Mild A) (hB : Mild B) (hs : B.s = 2) : ballR A B = (ballI A.a B.a B.b (B.p - A.p) (B.q - A.q), 0) := by
  have hp := hA.p; have hq := hA.q; have hr := hB.p; have ht := hB.q; have ha := hA.a
  unfold ballR
  rw [box_mild hB hs]
  simp only
  have e1 := near_shift A.p (B.p - B.a) (B.p + B.a)
  have e2 := near_shift A.q (B.q - B.b) (B.q + B.b)
  rw [show B.p - B.a - A.p = B.p - A.p - B.a by omega, show B.p + B.a - A.p = B.p - A.p + B.a by omega] at e1
  rw [show B.q - B.b - A.q = B.q - A.q - B.b by omega, show B.q + B.b - A.q = B.q - A.q + B.b by omega] at e2
  have u := near_mid (x := B.p - A.p) hB.a (by omega)
  have v := near_mid (x := B.q - A.q) hB.b (by omega)
  have ee : edgeV A ⟨B.p - B.a, B.q - B.b, B.p + B.a, B.q + B.b⟩ = (nearI 0 (B.p - A.p - B.a) (B.p - A.p + B.a), nearI 0 (B.q - A.q - B.b) (B.q - A.q + B.b), 0) := by
    unfold edgeV
    simp only
    rw [sOk (by omega), sOk (by omega), twoOk, e1, e2]
  rw [ifH_ok rfl, ee]
  simp only
  rw [ifH_ok rfl, unit_mild u v]
  unfold ballI bcI ballU
  have cm : crateR (roundB A) B = (cratesI (A.a + B.a) (A.a + B.b) (B.p - A.p) (B.q - A.q), 0) := crate_mild (A := roundB A) ⟨hA.a, hA.a, hA.p, hA.q⟩ hB
  rw [cm]
  generalize nearI 0 (B.p - A.p - B.a) (B.p - A.p + B.a) = x at *
  generalize nearI 0 (B.q - A.q - B.b) (B.q - A.q + B.b) = y at *
  have h : inF x := ⟨by omega, by omega⟩
  have g : inF y := ⟨by omega, by omega⟩
  have k0 := rt2_nonneg h g
  have k1 := rt2_lt (by decide) u v h g
  rw [ifH_ok (unitI_err x y), unitI_len]
  by_cases z : rt2 x y = 0
  · rw [if_pos z, if_pos z]
  · rw [if_neg z, if_neg z, sOk (by omega), ifH_ok rfl]
    unfold unitI
    rw [if_neg z]
/-- A contact's direction is not too great. -/
def Slim (h : Ht × Bool) : Prop := (-4294967296 ≤ h.1.x ∧ h.1.x ≤ 4294967296) ∧ -4294967296 ≤ h.1.y ∧ h.1.y ≤ 4294967296
theorem contact_slim {x y d : Int} (hx : -4294967296 ≤ x ∧ x ≤ 4294967296) (hy : -4294967296 ≤ y ∧ y ≤ 4294967296) : Slim (contactH x y d) := by
  unfold contactH Slim
  split
  · simp
  · exact ⟨hx, hy⟩
theorem tow_in (d : Int) : -4294967296 ≤ towI d ∧ towI d ≤ 4294967296 := by unfold towI; split <;> omega
theorem crates_slim (a b x y : Int) : Slim (cratesI a b x y) := by
  unfold cratesI lessH
  split
  · simp [Slim]
  · split
    · exact contact_slim (by omega) (tow_in y)
    · exact contact_slim (tow_in x) (by omega)
theorem balls_slim {r x y : Int} (h : inF x) (g : inF y) : Slim (ballsI r x y) := by
  have k0 := rt2_nonneg h g
  have k1 := rt2_gex h g
  have k2 := rt2_gey h g
  unfold ballsI awayH
  split
  · exact contact_slim (by omega) (by omega)
  · rename_i z
    unfold unitI
    rw [if_neg z]
    exact contact_slim (qd_in (by omega) k1) (qd_in (by omega) k2)
theorem bc_slim {r c d x y u v : Int} (h : inF u) (g : inF v) : Slim (bcI r c d x y u v) := by
  have k0 := rt2_nonneg h g
  have k1 := rt2_gex h g
  have k2 := rt2_gey h g
  unfold bcI
  split
  · exact crates_slim _ _ _ _
  · rename_i z
    exact contact_slim (qd_in (by omega) k1) (qd_in (by omega) k2)
theorem flip_slim {h : Ht × Bool} (s : Slim h) : Slim (flipI h) := by
  unfold Slim flipI at *
  simp only
  omega
theorem flip_ok {h : Ht} (hx : -4294967296 ≤ h.x ∧ h.x ≤ 4294967296) (hy : -4294967296 ≤ h.y ∧ h.y ≤ 4294967296) : flipR h = (⟨-h.x, -h.y, h.d⟩, 0) := by
  unfold flipR
  rw [sOk (by omega), sOk (by omega), twoOk]
  simp
theorem ball_slim {A B : Bd} (hA : Mild A) (hB : Mild B) : Slim (ballI A.a B.a B.b (B.p - A.p) (B.q - A.q)) := by
  have hp := hA.p; have hq := hA.q; have hr := hB.p; have ht := hB.q
  have u := near_mid (x := B.p - A.p) hB.a (by omega)
  have v := near_mid (x := B.q - A.q) hB.b (by omega)
  exact bc_slim ⟨by omega, by omega⟩ ⟨by omega, by omega⟩
theorem hit_mild {A B : Bd} (hA : Mild A) (hB : Mild B) : hitR A B = (hitI A B, 0) := by
  unfold hitR hitI
  by_cases h1 : A.s = 1 ∧ B.s = 1
  · rw [if_pos h1, if_pos h1]; exact balls_mild hA hB
  rw [if_neg h1, if_neg h1]
  by_cases h2 : A.s = 2 ∧ B.s = 2
  · rw [if_pos h2, if_pos h2]; exact crate_mild hA hB
  rw [if_neg h2, if_neg h2]
  by_cases h3 : A.s = 1 ∧ B.s = 2
  · rw [if_pos h3, if_pos h3]; exact ball_mild hA hB h3.2
  rw [if_neg h3, if_neg h3]
  by_cases h4 : A.s = 2 ∧ B.s = 1
  · rw [if_pos h4, if_pos h4, ball_mild hB hA h4.1]
    have s := ball_slim hB hA
    generalize ballI B.a A.a A.b (A.p - B.p) (A.q - B.q) = r at *
    unfold flipB
    simp only
    rw [ifH_ok rfl, flip_ok s.1 s.2, ifH_ok rfl]
    rfl
  · rw [if_neg h4, if_neg h4]; rfl
theorem hit_slim {A B : Bd} (hA : Mild A) (hB : Mild B) : Slim (hitI A B) := by
  have hp := hA.p; have hq := hA.q; have hr := hB.p; have ht := hB.q
  unfold hitI
  split
  · exact balls_slim ⟨by omega, by omega⟩ ⟨by omega, by omega⟩
  split
  · exact crates_slim _ _ _ _
  split
  · exact ball_slim hA hB
  split
  · exact flip_slim (ball_slim hB hA)
  · simp [Slim]
theorem right_mild {B : Bd} (h : rightB B = true) : Mild B := by
  obtain ⟨h1, h2, h3, h4, h5, h6, h7, h8, _⟩ := (rightB_iff B).1 h
  exact ⟨by omega, by omega, by omega, by omega⟩
end Go.Proofs.YtnkhknmpffcfbaaGreat
