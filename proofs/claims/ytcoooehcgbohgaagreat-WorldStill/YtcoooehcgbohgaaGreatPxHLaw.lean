/-
  Plain numbers, no program in sight: how contacts turn, move and end. Nothing is claimed here.
-/
import Derived.Test.YtcoooehcgbohgaaGreatPk03
namespace Go.Proofs.YtcoooehcgbohgaaGreat
open Go Go.RowKit

theorem contact_yes {x y d : Int} (h : 0 < d) : contactH x y d = (⟨x, y, d⟩, true) := if_neg (by omega)
theorem contact_no {x y d : Int} (h : d ≤ 0) : contactH x y d = (⟨0, 0, 0⟩, false) := if_pos h
theorem contact_told {x y d : Int} (h : (contactH x y d).2 = true) : 0 < d ∧ (contactH x y d).1.d = d := by
  by_cases g : d ≤ 0
  · rw [contact_no g] at h; cases h
  · rw [contact_yes (by omega)]; exact ⟨by omega, rfl⟩
theorem hit_11 {A B : Bd} (h : A.s = 1) (g : B.s = 1) : hitI A B = ballsI (A.a + B.a) (B.p - A.p) (B.q - A.q) := if_pos ⟨h, g⟩
theorem hit_22 {A B : Bd} (h : A.s = 2) (g : B.s = 2) : hitI A B = cratesI (A.a + B.a) (A.b + B.b) (B.p - A.p) (B.q - A.q) := by unfold hitI; rw [if_neg (by omega), if_pos ⟨h, g⟩]
theorem hit_12 {A B : Bd} (h : A.s = 1) (g : B.s = 2) : hitI A B = ballI A.a B.a B.b (B.p - A.p) (B.q - A.q) := by unfold hitI; rw [if_neg (by omega), if_neg (by omega), if_pos ⟨h, g⟩]
theorem hit_21 {A B : Bd} (h : A.s = 2) (g : B.s = 1) : hitI A B = flipI (ballI B.a A.a A.b (A.p - B.p) (A.q - B.q)) := by unfold hitI; rw [if_neg (by omega), if_neg (by omega), if_neg (by omega), if_pos ⟨h, g⟩]
def isShape (B : Bd) : Prop := B.s = 1 ∨ B.s = 2
theorem right_shape {B : Bd} (h : rightB B = true) : isShape B := by
  obtain ⟨h1, _⟩ := (rightB_iff B).1 h
  unfold isShape
  omega

/-! ### Seen from the other side -/
def Turned (h g : Ht × Bool) (x y : Int) : Prop := g.2 = h.2 ∧ g.1.d = h.1.d ∧ (x ≠ 0 → y ≠ 0 → g.1.x = -h.1.x ∧ g.1.y = -h.1.y)
theorem contact_turned {a b c e d x y : Int} (h : x ≠ 0 → y ≠ 0 → c = -a ∧ e = -b) : Turned (contactH a b d) (contactH c e d) x y := by
  by_cases g : d ≤ 0
  · rw [contact_no g, contact_no g]; exact ⟨rfl, rfl, fun _ _ => ⟨rfl, rfl⟩⟩
  · rw [contact_yes (by omega), contact_yes (by omega)]; exact ⟨rfl, rfl, h⟩
theorem tow_neg {x : Int} (h : x ≠ 0) : towI (-x) = -towI x := by
  unfold towI
  by_cases g : x < 0
  · rw [if_pos g, if_neg (by omega)]; rfl
  · rw [if_neg g, if_pos (by omega)]
theorem balls_turned {r x y : Int} (h : inF x) (g : inF y) : Turned (ballsI r x y) (ballsI r (-x) (-y)) x y := by
  unfold ballsI unitI awayH
  rw [rt2_neg]
  by_cases z : rt2 x y = 0
  · rw [if_pos z, if_pos z]
    have := (rt2_zero h g).1 z
    exact ⟨rfl, rfl, fun hx => absurd this.1 hx⟩
  · rw [if_neg z, if_neg z, if_neg z, if_neg z]
    exact contact_turned fun _ _ => ⟨qd_neg, qd_neg⟩
theorem crates_turned (a b x y : Int) : Turned (cratesI a b x y) (cratesI a b (-x) (-y)) x y := by
  unfold cratesI lessH
  rw [ab_neg, ab_neg]
  by_cases h : a - ab x ≤ 0
  · rw [if_pos h, if_pos h]; exact ⟨rfl, rfl, fun _ _ => ⟨rfl, rfl⟩⟩
  · rw [if_neg h, if_neg h]
    by_cases g : b - ab y < a - ab x
    · rw [if_pos g, if_pos g]; exact contact_turned fun _ hy => ⟨rfl, tow_neg hy⟩
    · rw [if_neg g, if_neg g]; exact contact_turned fun hx _ => ⟨tow_neg hx, rfl⟩
theorem flip_turned (h : Ht × Bool) (x y : Int) : Turned h (flipI h) x y := ⟨rfl, rfl, fun _ _ => ⟨rfl, rfl⟩⟩
theorem turned_flip (h : Ht × Bool) (x y : Int) : Turned (flipI h) h x y := ⟨rfl, rfl, fun _ _ => ⟨by simp [flipI], by simp [flipI]⟩⟩
theorem hit_turned {A B : Bd} (hA : Mild A) (hB : Mild B) (sA : isShape A) (sB : isShape B) : Turned (hitI A B) (hitI B A) (B.p - A.p) (B.q - A.q) := by
  have hp := hA.p; have hq := hA.q; have hr := hB.p; have ht := hB.q
  have e1 : A.p - B.p = -(B.p - A.p) := by omega
  have e2 : A.q - B.q = -(B.q - A.q) := by omega
  rcases sA with sA | sA <;> rcases sB with sB | sB
  · rw [hit_11 sA sB, hit_11 sB sA, e1, e2, Int.add_comm B.a A.a]; exact balls_turned ⟨by omega, by omega⟩ ⟨by omega, by omega⟩
  · rw [hit_12 sA sB, hit_21 sB sA]; exact flip_turned _ _ _
  · rw [hit_21 sA sB, hit_12 sB sA]; exact turned_flip _ _ _
  · rw [hit_22 sA sB, hit_22 sB sA, e1, e2, Int.add_comm B.a A.a, Int.add_comm B.b A.b]; exact crates_turned _ _ _ _

/-! ### Moved, and of one place -/
def movB (A : Bd) (x y : Int) : Bd := ⟨A.s, A.a, A.b, A.m, A.p + x, A.q + y, A.u, A.v⟩
theorem hit_moved (A B : Bd) (x y : Int) : hitI (movB A x y) (movB B x y) = hitI A B := by
  unfold hitI movB
  simp only
  rw [show B.p + x - (A.p + x) = B.p - A.p by omega, show B.q + y - (A.q + y) = B.q - A.q by omega, show A.p + x - (B.p + x) = A.p - B.p by omega, show A.q + y - (B.q + y) = A.q - B.q by omega]
theorem right_moved {B : Bd} (h : rightB B = true) {x y : Int} (hx : -1125899906842624 ≤ x ∧ x ≤ 1125899906842624) (hy : -1125899906842624 ≤ y ∧ y ≤ 1125899906842624) : Mild (movB B x y) := by
  obtain ⟨h1, h2, h3, h4, h5, h6, h7, h8, _⟩ := (rightB_iff B).1 h
  unfold movB
  exact ⟨by simp only; omega, by simp only; omega, by simp only; omega, by simp only; omega⟩
def selfI (B : Bd) : Ht := if B.s = 2 ∧ B.b < B.a then ⟨0, 4294967296, 2 * B.b⟩ else ⟨4294967296, 0, 2 * B.a⟩
theorem hit_self {B : Bd} (h : rightB B = true) : hitI B B = (selfI B, true) := by
  obtain ⟨h1, h2, h3, _⟩ := (rightB_iff B).1 h
  have a0 : ab (B.p - B.p) = 0 := by rw [Int.sub_self]; rfl
  have b0 : ab (B.q - B.q) = 0 := by rw [Int.sub_self]; rfl
  unfold selfI
  rcases h1 with ⟨hs, _⟩ | ⟨hs, h4, _⟩
  · rw [hit_11 hs hs, if_neg (by omega)]
    unfold ballsI awayH
    have e : rt2 (B.p - B.p) (B.q - B.q) = 0 := by rw [Int.sub_self, Int.sub_self]; exact rt_0
    rw [e, if_pos rfl, contact_yes (by omega)]
    rw [show B.a + B.a - 0 = 2 * B.a by omega]
  · rw [hit_22 hs hs]
    unfold cratesI lessH
    rw [a0, b0, if_neg (by omega)]
    by_cases g : B.b < B.a
    · rw [if_pos (by omega), if_pos ⟨hs, g⟩, contact_yes (by omega), Int.sub_self]
      rw [show B.b + B.b - 0 = 2 * B.b by omega]
      rfl
    · rw [if_neg (by omega), if_neg (by omega), contact_yes (by omega), Int.sub_self]
      rw [show B.a + B.a - 0 = 2 * B.a by omega]
      rfl

/-! ### Near -/
theorem crates_near {a b x y : Int} : (cratesI a b x y).2 = true ↔ ab x < a ∧ ab y < b := by
  unfold cratesI lessH
  by_cases h : a - ab x ≤ 0
  · rw [if_pos h]; simp; omega
  · rw [if_neg h]
    by_cases g : b - ab y < a - ab x
    · rw [if_pos g]
      by_cases k : b - ab y ≤ 0
      · rw [contact_no k]; simp; omega
      · rw [contact_yes (by omega)]; simp; omega
    · rw [if_neg g, contact_yes (by omega)]; simp; omega
theorem crates_deep {a b x y : Int} (h : (cratesI a b x y).2 = true) : 0 < (cratesI a b x y).1.d := by
  revert h
  unfold cratesI lessH
  split
  · intro h; cases h
  · split
    · intro h; have := contact_told h; omega
    · intro h; have := contact_told h; omega
theorem balls_near {r x y : Int} (hx : inF x) (hy : inF y) (h : (ballsI r x y).2 = true) : ab x < r ∧ ab y < r ∧ 0 < (ballsI r x y).1.d := by
  have k1 := rt2_gex hx hy
  have k2 := rt2_gey hx hy
  revert h
  unfold ballsI awayH
  split
  · intro h; have := contact_told h; omega
  · intro h; have := contact_told h; omega
theorem near_gap {c x : Int} (hc : 0 ≤ c) : ab x ≤ ab (nearI 0 (x - c) (x + c)) + c := by
  have := ab_of x
  rcases near_cases 0 (x - c) (x + c) with ⟨g1, f⟩ | ⟨g1, g2, f⟩ | ⟨g1, g2, f⟩ <;> rw [f]
  · have := ab_of (x - c); omega
  · have := ab_of (x + c); omega
  · have := ab_of 0; omega
theorem ball_near {r c d x y : Int} (hc : 0 ≤ c ∧ c ≤ 8796093022208) (hd : 0 ≤ d ∧ d ≤ 8796093022208) (hx : -9007199254740992 ≤ x ∧ x ≤ 9007199254740992) (hy : -9007199254740992 ≤ y ∧ y ≤ 9007199254740992) (h : (ballI r c d x y).2 = true) : ab x < r + c ∧ ab y < r + d ∧ 0 < (ballI r c d x y).1.d := by
  have u := near_mid hc hx
  have v := near_mid hd hy
  have e1 := near_gap (x := x) hc.1
  have e2 := near_gap (x := y) hd.1
  revert h
  unfold ballI bcI
  generalize nearI 0 (x - c) (x + c) = p at *
  generalize nearI 0 (y - d) (y + d) = q at *
  have k1 := rt2_gex (x := p) (y := q) ⟨by omega, by omega⟩ ⟨by omega, by omega⟩
  have k2 := rt2_gey (x := p) (y := q) ⟨by omega, by omega⟩ ⟨by omega, by omega⟩
  split
  · intro h
    have g := crates_near.1 h
    exact ⟨g.1, g.2, crates_deep h⟩
  · intro h; have := contact_told h; omega
theorem ab_sub (a b : Int) : ab (a - b) = ab (b - a) := by rw [← ab_neg]; congr 1; omega
theorem hit_near {A B : Bd} (hA : Mild A) (hB : Mild B) (sA : isShape A) (sB : isShape B) (h : (hitI A B).2 = true) :
    ab (B.p - A.p) < A.a + B.a ∧ ab (B.q - A.q) < reachY A + reachY B ∧ 0 < (hitI A B).1.d := by
  have hp := hA.p; have hq := hA.q; have hr := hB.p; have ht := hB.q
  revert h
  rcases sA with sA | sA <;> rcases sB with sB | sB
  · rw [hit_11 sA sB, reach_ball sA, reach_ball sB]; intro h; exact balls_near ⟨by omega, by omega⟩ ⟨by omega, by omega⟩ h
  · rw [hit_12 sA sB, reach_ball sA, reach_else (B := B) (by omega)]; intro h; exact ball_near hB.a hB.b (by omega) (by omega) h
  · rw [hit_21 sA sB, reach_ball sB, reach_else (B := A) (by omega)]
    intro h
    have := ball_near (r := B.a) (x := A.p - B.p) (y := A.q - B.q) hA.a hA.b (by omega) (by omega) h
    rw [ab_sub A.p, ab_sub A.q] at this
    refine ⟨by omega, by omega, this.2.2⟩
  · rw [hit_22 sA sB, reach_else (B := A) (by omega), reach_else (B := B) (by omega)]; intro h; exact ⟨(crates_near.1 h).1, (crates_near.1 h).2, crates_deep h⟩

/-! ### Two balls of one row -/
theorem rt2_row {y : Int} (h0 : 0 ≤ y) (h : inF y) : rt2 0 y = y := by
  have e : (0 : Int) * 0 + y * y = y * y := by omega
  unfold rt2
  rw [e]
  refine rt_eq ⟨h0, Int.le_refl _, ?_⟩ (by have := (inF_sq h).2; omega)
  exact sq_lt h0 (by omega)
def rowI (x y d : Int) : Ht × Bool := if d < x + y then (if d = 0 then ⟨4294967296, 0, (x + y - d) * 4294967296⟩ else ⟨0, 4294967296, (x + y - d) * 4294967296⟩, true) else (⟨0, 0, 0⟩, false)
theorem hit_row {x y d : Int} (hx : 1 ≤ x ∧ x ≤ 100) (hy : 1 ≤ y ∧ y ≤ 100) (hd : 0 ≤ d ∧ d ≤ 1000) : hitI ⟨1, x * 4294967296, 0, 0, 0, 0, 0, 0⟩ ⟨1, y * 4294967296, 0, 0, 0, d * 4294967296, 0, 0⟩ = rowI x y d := by
  rw [hit_11 rfl rfl]
  simp only [Int.sub_zero]
  unfold ballsI awayH unitI rowI
  rw [rt2_row (by omega) ⟨by omega, by omega⟩]
  by_cases g : d < x + y
  · rw [if_pos g]
    by_cases z : d = 0
    · subst z
      rw [if_pos (by omega), contact_yes (by omega), if_pos rfl, show x * 4294967296 + y * 4294967296 - 0 * 4294967296 = (x + y - 0) * 4294967296 by omega]
    · rw [if_neg (by omega), if_neg (by omega), contact_yes (by omega), if_neg z, qd_zero, qd_self (by omega), show x * 4294967296 + y * 4294967296 - d * 4294967296 = (x + y - d) * 4294967296 by omega]
  · rw [if_neg g]
    by_cases z : d * 4294967296 = 0
    · omega
    · rw [if_neg z, contact_no (by omega)]
end Go.Proofs.YtcoooehcgbohgaaGreat
