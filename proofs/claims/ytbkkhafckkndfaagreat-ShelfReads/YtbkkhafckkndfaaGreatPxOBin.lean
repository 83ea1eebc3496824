/-
  slices.BinarySearchFunc over a list of Writes that rise, asked for a page: where it stands, or where it would.
-/
import Derived.Test.YtbkkhafckkndfaaGreatPk05
import Derived.Test.YtbkkhafckkndfaaGreatPxONum
import Derived.LoopTactic
namespace Go.Proofs.YtbkkhafckkndfaaGreat
open Go Go.RowKit

def cmpK (a b : Int) : Int := if a < b then -1 else if b < a then 1 else 0
theorem cmpK_lt {a b : Int} (h : a < b) : cmpK a b = -1 := if_pos h
theorem cmpK_gt {a b : Int} (h : b < a) : cmpK a b = 1 := by unfold cmpK; rw [if_neg (by omega), if_pos h]
theorem cmpK_eq (a : Int) : cmpK a a = 0 := by unfold cmpK; rw [if_neg (by omega), if_neg (by omega)]
theorem cmpi_any (a b : Int) (w : World) : Calls Tryz.prog 53 #[.int .i64 a, .int .i64 b] w fun e w' => e = .returned (.int .i64 (cmpK a b)) ∧ w' = w := by
  rcases Int.lt_trichotomy a b with h | h | h
  · rw [cmpK_lt h]
    go_enter Tryz.func53, Tryz.ntmps53
    go_wp2
    go_ret
    exact ⟨rfl, rfl⟩
  · subst h
    rw [cmpK_eq]
    go_enter Tryz.func53, Tryz.ntmps53
    go_wp2
    go_ret
    exact ⟨rfl, rfl⟩
  · rw [cmpK_gt h]
    go_enter Tryz.func53, Tryz.ntmps53
    go_wp2
    go_ret
    exact ⟨rfl, rfl⟩
theorem askw_any (a b : Int) (t : ByteArray) (w : World) : Calls Tryz.prog 52 #[.agg #[.int .i64 a, .string t], .int .i64 b] w fun e w' => e = .returned (.int .i64 (cmpK a b)) ∧ Grew w w' := by
  have hc : Hid (∀ W, Calls Tryz.prog 53 #[.int .i64 a, .int .i64 b] W fun e w' => e = .returned (.int .i64 (cmpK a b)) ∧ w' = W) := fun W => cmpi_any a b W
  go_enter Tryz.func52, Tryz.ntmps52
  go_wp2_with (first
    | (go_at_call 53; go_fit (hc.out _); rintro e w1 ⟨rfl, rfl⟩)
    | fail)
  go_ret
  exact ⟨rfl, (Grew.refl w).alloc _ _⟩
set_option maxHeartbeats 2000000 in
set_option maxRecDepth 100000 in
theorem bin_any (L : List Pr) (a : Option Addr) (cap : Nat) (n : Int) (w : World) (hP : PrsAt w a L) (hr : RiseP L) (hm : L.length < 1000000) :
    Calls Tryz.prog 51 #[.slice a L.length cap, .int .i64 n, .func (.func 52) #[] #[]] w fun e w' => (∃ i, Spot L n i ∧ e = .returned (.tuple #[.int .i64 (i : Nat), .bool (isAt L n i)])) ∧ Grew w w' := by
  have hA : Hid (∀ (x : Int) (t : ByteArray) W, Calls Tryz.prog 52 #[.agg #[.int .i64 x, .string t], .int .i64 n] W fun e w' => e = .returned (.int .i64 (cmpK x n)) ∧ Grew W w') := fun x t W => askw_any x n t W
  obtain ⟨len, hL⟩ : ∃ len, L.length = len := ⟨_, rfl⟩
  rw [hL] at hm ⊢
  replace hP : Hid (PrsAt w a L) := hP
  replace hr : Hid (RiseP L) := hr
  replace hL : Hid (L.length = len) := hL
  go_enter Tryz.func51, Tryz.ntmps51
  go_wp2
  go_loopw [9, 10] (fun i j wr => ∃ x y : Nat, x ≤ y ∧ y ≤ len ∧ i = .int .i64 (x : Int) ∧ j = .int .i64 (y : Int) ∧ Grew w wr ∧ Hid ((∀ k, k < x → (L.getD k noPr).n < n) ∧ ∀ k, y ≤ k → k < len → n ≤ (L.getD k noPr).n)) (fun i j _ => (intOf j).toNat - (intOf i).toNat)
  case atStart => exact ⟨0, len, by omega, by omega, rfl, rfl, Grew.refl w, fun k hk => absurd hk (by omega), fun k h1 h2 => absurd h1 (by omega)⟩
  case round =>
    obtain ⟨x, y, hxy, hy, rfl, rfl, hG, hI⟩ := hrel
    replace hG : Hid (Grew w wr) := hG
    by_cases hlt : x < y
    · have hi : (x : Int) < y := by omega
      obtain ⟨m, hmn⟩ : ∃ m, (x + y) / 2 = m := ⟨_, rfl⟩
      have hmid : ((x : Int) + y) / 2 = (m : Int) := by omega
      have h1 : x ≤ m := by omega
      have h2 : m < y := by omega
      have hmi : (m : Int) < len := by omega
      obtain ⟨b, off, rfl, hcs⟩ := (prs_grew hP.out hG.out).resolve_left (fun e => by have := hL.out; rw [e] at this; simp at this; omega)
      obtain ⟨c0, c1⟩ := hcs m (by rw [hL.out]; omega)
      have hlo : Hid ((L.getD m noPr).n < n → ∀ k, k < m + 1 → (L.getD k noPr).n < n) := fun h k hk => by
        by_cases e : k = m
        · rw [e]; exact h
        · have := hr.out k m (by omega) (by rw [hL.out]; omega)
          omega
      have hhi : Hid (¬ (L.getD m noPr).n < n → ∀ k, m ≤ k → k < len → n ≤ (L.getD k noPr).n) := fun h k hk hk2 => by
        by_cases e : k = m
        · rw [e]; omega
        · have := hr.out m k (by omega) (by rw [hL.out]; omega)
          omega
      generalize hX : L.getD m noPr = X at c0 c1 hlo hhi
      obtain ⟨X, T⟩ := X
      dsimp only at c0 c1 hlo hhi
      clear hcs hmn hX
      by_cases hc : X < n
      · have hck : cmpK X n = -1 := cmpK_lt hc
        go_wp2_with (first
          | (go_at_call 52; go_fit (hA.out _ _ _); rintro e w1 ⟨rfl, g1⟩)
          | fail)
        exact ⟨⟨m + 1, y, by omega, hy, by simp, rfl, hG.out.trans g1, hlo.out hc, hI.out.2⟩, by simp [intOf]; omega⟩
      · have hck : ¬ cmpK X n < 0 := by unfold cmpK; rw [if_neg hc]; split <;> omega
        go_wp2_with (first
          | (go_at_call 52; go_fit (hA.out _ _ _); rintro e w1 ⟨rfl, g1⟩)
          | fail)
        exact ⟨⟨x, m, by omega, by omega, rfl, rfl, hG.out.trans g1, hI.out.1, hhi.out hc⟩, by simp [intOf]; omega⟩
    · have hi : ¬ (x : Int) < y := by omega
      obtain rfl : x = y := by omega
      have hSp : Hid (Spot L n x) := ⟨by rw [hL.out]; exact hy, hI.out.1, fun k h1 h2 => by have := hI.out.2 k h1 (by rw [← hL.out]; exact h2); omega⟩
      by_cases hxl : x < len
      · have hxi : (x : Int) < len := by omega
        obtain ⟨b, off, rfl, hcs⟩ := (prs_grew hP.out hG.out).resolve_left (fun e => by have := hL.out; rw [e] at this; simp at this; omega)
        obtain ⟨c0, c1⟩ := hcs x (by rw [hL.out]; omega)
        have hge := hI.out.2 x (Nat.le_refl _) hxl
        have hEnd : Hid (isAt L n x = decide ((L.getD x noPr).n = n)) := by
          unfold isAt
          rw [hL.out, decide_eq_true hxl]
          rfl
        generalize hX : L.getD x noPr = X at c0 c1 hge hEnd
        obtain ⟨X, T⟩ := X
        dsimp only at c0 c1 hge hEnd
        have hck : (cmpK X n == 0) = decide (X = n) := by
          by_cases e : X = n
          · rw [e, cmpK_eq]; simp
          · rw [cmpK_gt (by omega), decide_eq_false e]; rfl
        clear hcs hX hge hI
        go_wp2_with (first
          | (go_at_call 52; go_fit (hA.out _ _ _); rintro e w1 ⟨rfl, g1⟩)
          | fail)
        go_ret2
        exact ⟨⟨x, hSp, by rw [hEnd.out]; rfl⟩, hG.out.trans g1⟩
      · have hxi : ¬ (x : Int) < len := by omega
        have hEnd : Hid (isAt L n x = false) := by
          unfold isAt
          rw [hL.out, decide_eq_false hxl]
          rfl
        clear hI
        go_wp2_with (fail)
        go_ret2
        exact ⟨⟨x, hSp, by rw [hEnd.out]; rfl⟩, hG.out⟩
end Go.Proofs.YtbkkhafckkndfaaGreat
