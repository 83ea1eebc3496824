/-
  What the document's own reckoner (maquetteref1's Calc) does: with no error so far it returns what the plain function says and keeps its error; the rest of the world is as it was but for answers drawn.
-/
import Derived.Test.YtgemflldnplkbaaFixDiv
namespace Go.Proofs.Ytgemflldnplkbaa
open Go.RowKit

/-- A cell that is laid as it lies. -/
theorem setCell_id (w : World) (b off : Nat) (v : Value) (h : w.cell? ⟨b, off, none⟩ = some v) : w.setCell ⟨b, off, none⟩ v = w := by
  unfold World.cell? at h
  unfold World.setCell
  have e : (w.heap.modify b fun
      | .cells c elem frozen => .cells (if (none : Option Nat).isSome then c else c.setIfInBounds off v) elem frozen
      | o => o) = w.heap := by
    apply Array.ext
    · simp
    · intro i h1 h2
      rw [Array.getElem_modify]
      split
      · rename_i hi
        subst hi
        rw [Array.getElem?_eq_getElem h2] at h
        cases ho : w.heap[b] with
        | cells c elem frozen =>
          rw [ho] at h
          simp at h
          have h3 : off < c.size := by
            rcases Nat.lt_or_ge off c.size with h4 | h4
            · exact h4
            · rw [Array.getElem?_eq_none h4] at h; cases h
          rw [Array.getElem?_eq_getElem h3] at h
          cases h
          simp [Array.setIfInBounds, h3]
        | _ => rw [ho] at h; try simp at h
      · rfl
  exact congrArg (fun x => { w with heap := x }) e

set_option maxHeartbeats 400000 in
theorem fail_any (b off : Nat) (e : Int) (w : World) (hc : w.cell? ⟨b, off, none⟩ = some (.int .i64 0)) (hf : w.frozen? ⟨b, off, none⟩ = false) :
    Calls Try.prog 22 #[.pointer (some ⟨b, off, none⟩), .int .i64 e] w fun x w' => x = .returned (.int .i64 0) ∧ w' = w.setCell ⟨b, off, none⟩ (.int .i64 e) := by
  go_enter Try.func22, Try.ntmps22
  go_wp2
  go_ret
  exact ⟨rfl, rfl⟩
set_option maxHeartbeats 400000 in
theorem rabs_any (a : Int) (w : World) (ha : inF a) :
    Calls Try.prog 24 #[.int .i64 a] w fun e w' => e = .returned (.int .u64 (ab a)) ∧ w' = w := by
  unfold inF at ha
  go_enter Try.func24, Try.ntmps24
  go_wp2
  all_goals (go_ret; refine ⟨ret_int ?_, rfl⟩; have := ab_of a)
  · rw [IntKind.wrap_u64, IntKind.wrap_u64]; omega
  · omega

set_option maxHeartbeats 400000 in
theorem rsigned_any (b off : Nat) (n : Int) (neg : Bool) (w : World) (hn : 0 ≤ n ∧ n ≤ 18446744073709551615) (hc : w.cell? ⟨b, off, none⟩ = some (.int .i64 0)) (hf : w.frozen? ⟨b, off, none⟩ = false) :
    Calls Try.prog 25 #[.pointer (some ⟨b, off, none⟩), .bool neg, .int .u64 n] w fun x w' => x = .returned (.int .i64 (sgR neg n).1) ∧ w' = w.setCell ⟨b, off, none⟩ (.int .i64 (sgR neg n).2) := by
  have hid := setCell_id w b off _ hc
  rcases sgR_cases neg n with ⟨h1, h2, h3⟩ | ⟨h1, h2, h3⟩ | ⟨h1, h2, h3⟩
  · subst h1
    rw [h3]; clear h3
    rw [hid]; clear hid
    go_enter Try.func25, Try.ntmps25
    go_wp2
    go_ret
    exact ⟨ret_int (by rw [IntKind.wrap_u64, wrap64_of]; omega), rfl⟩
  · subst h1
    rw [h3]; clear h3
    rw [hid]; clear hid
    go_enter Try.func25, Try.ntmps25
    go_wp2
    go_ret
    exact ⟨rfl, rfl⟩
  · rw [h3]; clear h3 hid
    cases neg
    · go_enter Try.func25, Try.ntmps25
      go_wp2_with (go_at_call 22; refine (fail_any b off 3 _ hc hf).mono ?_; rintro e w' ⟨rfl, rfl⟩)
      go_ret
      exact ⟨rfl, rfl⟩
    · have h4 : 9223372036854775808 < n := by simp at h2; omega
      clear h2
      go_enter Try.func25, Try.ntmps25
      go_wp2_with (go_at_call 22; refine (fail_any b off 3 _ hc hf).mono ?_; rintro e w' ⟨rfl, rfl⟩)
      go_ret
      exact ⟨rfl, rfl⟩

set_option maxHeartbeats 400000 in
theorem radd_any (b off : Nat) (x y : Int) (w : World) (hx : inF x) (hy : inF y) (hc : w.cell? ⟨b, off, none⟩ = some (.int .i64 0)) (hf : w.frozen? ⟨b, off, none⟩ = false) :
    Calls Try.prog 10 #[.pointer (some ⟨b, off, none⟩), .int .i64 x, .int .i64 y] w fun e w' => e = .returned (.int .i64 (addR x y).1) ∧ w' = w.setCell ⟨b, off, none⟩ (.int .i64 (addR x y).2) := by
  have hid := setCell_id w b off _ hc
  unfold inF at hx hy
  rcases inR_cases (x + y) with ⟨h, h2⟩ | ⟨h, h2⟩
  · rw [show addR x y = (x + y, 0) from h]; clear h
    rw [hid]; clear hid
    by_cases g1 : 0 < y
    · go_enter Try.func10, Try.ntmps10
      go_wp2
      go_ret
      exact ⟨rfl, rfl⟩
    · by_cases g2 : y < 0
      · go_enter Try.func10, Try.ntmps10
        go_wp2
        go_ret
        exact ⟨rfl, rfl⟩
      · go_enter Try.func10, Try.ntmps10
        go_wp2
        go_ret
        exact ⟨rfl, rfl⟩
  · rw [show addR x y = (0, 3) from h]; clear h hid
    by_cases g1 : 0 < y
    · have g2 : 9223372036854775807 - y < x := by omega
      clear h2
      go_enter Try.func10, Try.ntmps10
      go_wp2_with (go_at_call 22; refine (fail_any b off 3 _ hc hf).mono ?_; rintro e w' ⟨rfl, rfl⟩)
      go_ret
      exact ⟨rfl, rfl⟩
    · have g2 : y < 0 := by omega
      have g3 : x < -9223372036854775808 - y := by omega
      clear h2
      go_enter Try.func10, Try.ntmps10
      go_wp2_with (go_at_call 22; refine (fail_any b off 3 _ hc hf).mono ?_; rintro e w' ⟨rfl, rfl⟩)
      go_ret
      exact ⟨rfl, rfl⟩
set_option maxHeartbeats 400000 in
theorem rsub_any (b off : Nat) (x y : Int) (w : World) (hx : inF x) (hy : inF y) (hc : w.cell? ⟨b, off, none⟩ = some (.int .i64 0)) (hf : w.frozen? ⟨b, off, none⟩ = false) :
    Calls Try.prog 11 #[.pointer (some ⟨b, off, none⟩), .int .i64 x, .int .i64 y] w fun e w' => e = .returned (.int .i64 (subR x y).1) ∧ w' = w.setCell ⟨b, off, none⟩ (.int .i64 (subR x y).2) := by
  have hid := setCell_id w b off _ hc
  unfold inF at hx hy
  rcases inR_cases (x - y) with ⟨h, h2⟩ | ⟨h, h2⟩
  · rw [show subR x y = (x - y, 0) from h]; clear h
    rw [hid]; clear hid
    by_cases g1 : y < 0
    · go_enter Try.func11, Try.ntmps11
      go_wp2
      go_ret
      exact ⟨rfl, rfl⟩
    · by_cases g2 : 0 < y
      · go_enter Try.func11, Try.ntmps11
        go_wp2
        go_ret
        exact ⟨rfl, rfl⟩
      · go_enter Try.func11, Try.ntmps11
        go_wp2
        go_ret
        exact ⟨rfl, rfl⟩
  · rw [show subR x y = (0, 3) from h]; clear h hid
    by_cases g1 : y < 0
    · have g2 : 9223372036854775807 + y < x := by omega
      clear h2
      go_enter Try.func11, Try.ntmps11
      go_wp2_with (go_at_call 22; refine (fail_any b off 3 _ hc hf).mono ?_; rintro e w' ⟨rfl, rfl⟩)
      go_ret
      exact ⟨rfl, rfl⟩
    · have g2 : 0 < y := by omega
      have g3 : x < -9223372036854775808 + y := by omega
      clear h2
      go_enter Try.func11, Try.ntmps11
      go_wp2_with (go_at_call 22; refine (fail_any b off 3 _ hc hf).mono ?_; rintro e w' ⟨rfl, rfl⟩)
      go_ret
      exact ⟨rfl, rfl⟩
set_option maxHeartbeats 400000 in
theorem rmul_any (b off : Nat) (x y : Int) (w : World) (hx : inF x) (hy : inF y) (hc : w.cell? ⟨b, off, none⟩ = some (.int .i64 0)) (hf : w.frozen? ⟨b, off, none⟩ = false) :
    Calls Try.prog 12 #[.pointer (some ⟨b, off, none⟩), .int .i64 x, .int .i64 y] w fun e w' => e = .returned (.int .i64 (mulR x y).1) ∧ w' = w.setCell ⟨b, off, none⟩ (.int .i64 (mulR x y).2) := by
  have a0 := ab_nonneg x; have a1 := ab_le hx; have b0 := ab_nonneg y; have b1 := ab_le hy
  have p0 : 0 ≤ ab x * ab y := Int.mul_nonneg a0 b0
  unfold mulR sgn mulM
  by_cases h : ab x * ab y / 18446744073709551616 < 4294967296
  · have hq : 0 ≤ ab x * ab y / 18446744073709551616 := by omega
    have hor : bits .or .u64 (ab x * ab y / 18446744073709551616 * 4294967296) (ab x * ab y % 18446744073709551616 / 4294967296) = ab x * ab y / 4294967296 := by
      rw [or_halves _ _ hq h (by omega) (by omega)]; omega
    go_enter Try.func12, Try.ntmps12
    go_wp2_with (first | (go_at_call 24; refine (rabs_any _ _ (by assumption)).mono ?_; rintro e w' ⟨rfl, hw⟩; rw [hw]; clear hw) | (go_at_call 23; refine (mul64_any _ _ _ a0 (by omega) b0 (by omega)).mono ?_; rintro e w' ⟨rfl, hw⟩; rw [hw]; clear hw) | (go_at_call 25; refine (rsigned_any b off _ _ _ (by omega) hc hf).mono ?_; rintro e w' ⟨rfl, rfl⟩))
    go_ret
    exact ⟨rfl, rfl⟩
  · have hs : sgR (decide (x < 0) != decide (y < 0)) (ab x * ab y / 4294967296) = (0, 3) := by
      rcases sgR_cases (decide (x < 0) != decide (y < 0)) (ab x * ab y / 4294967296) with ⟨_, h2, _⟩ | ⟨_, h2, _⟩ | ⟨_, _, h3⟩
      · omega
      · omega
      · exact h3
    rw [hs]; clear hs
    go_enter Try.func12, Try.ntmps12
    go_wp2_with (first | (go_at_call 24; refine (rabs_any _ _ (by assumption)).mono ?_; rintro e w' ⟨rfl, hw⟩; rw [hw]; clear hw) | (go_at_call 23; refine (mul64_any _ _ _ a0 (by omega) b0 (by omega)).mono ?_; rintro e w' ⟨rfl, hw⟩; rw [hw]; clear hw) | (go_at_call 22; refine (fail_any b off 3 _ hc hf).mono ?_; rintro e w' ⟨rfl, rfl⟩))
    go_ret
    exact ⟨rfl, rfl⟩
set_option maxHeartbeats 400000 in
theorem rdiv_any (b off : Nat) (x y : Int) (w : World) (hx : inF x) (hy : inF y) (hc : w.cell? ⟨b, off, none⟩ = some (.int .i64 0)) (hf : w.frozen? ⟨b, off, none⟩ = false) :
    Calls Try.prog 13 #[.pointer (some ⟨b, off, none⟩), .int .i64 x, .int .i64 y] w fun e w' => e = .returned (.int .i64 (divR x y).1) ∧ ∃ n, w' = (w.setCell ⟨b, off, none⟩ (.int .i64 (divR x y).2)).drewN n := by
  have a0 := ab_nonneg x; have a1 := ab_le hx; have b0 := ab_nonneg y; have b1 := ab_le hy
  unfold divR
  by_cases h : y = 0
  · subst h
    rw [if_pos rfl]
    clear hy b0 b1
    go_enter Try.func13, Try.ntmps13
    go_wp2_with (go_at_call 22; refine (fail_any b off 4 _ hc hf).mono ?_; rintro e w' ⟨rfl, rfl⟩)
    go_ret
    exact ⟨rfl, 0, rfl⟩
  · rw [if_neg h]
    have p := ab_pos h
    have hz : (y == 0) = false := by simp [h]
    have e : (ab x / 4294967296 * 18446744073709551616 + IntKind.u64.wrap (ab x * 4294967296)) / ab y = divM x y := by
      unfold divM; rw [IntKind.wrap_u64]; congr 1; omega
    by_cases g : ab x / 4294967296 < ab y
    · have w0 : 0 ≤ IntKind.u64.wrap (ab x * 4294967296) ∧ IntKind.u64.wrap (ab x * 4294967296) ≤ 18446744073709551615 := by rw [IntKind.wrap_u64]; omega
      have q0 := divM_nonneg x y
      have q1 : divM x y ≤ 18446744073709551615 := by
        have : divM x y < 18446744073709551616 := Int.ediv_lt_of_lt_mul (by omega) (by omega)
        omega
      unfold sgn
      have E : Hid (_ = _) := e; clear e
      go_enter Try.func13, Try.ntmps13
      go_wp2_with (first | (go_at_call 24; refine (rabs_any _ _ (by assumption)).mono ?_; rintro e w' ⟨rfl, hw⟩; rw [hw]; clear hw) | (go_at_call 26; refine (div64_any _ _ _ _ w0.1 w0.2 p (by omega) (by omega) g).mono ?_; rintro e w' ⟨r, rfl, n, rfl⟩; rw [E.out]) | (go_at_call 25; refine (rsigned_any b off _ _ _ ⟨q0, q1⟩ (by simpa using hc) (by simpa using hf)).mono ?_; rintro e w' ⟨rfl, rfl⟩))
      go_ret
      exact ⟨rfl, _, rfl⟩
    · have hs : sgR (sgn x y) (divM x y) = (0, 3) := by
        have l : 18446744073709551616 ≤ divM x y := Int.le_ediv_of_mul_le (by omega) (by omega)
        rcases sgR_cases (sgn x y) (divM x y) with ⟨_, h2, _⟩ | ⟨_, h2, _⟩ | ⟨_, _, h3⟩
        · omega
        · omega
        · exact h3
      rw [hs]; clear hs e
      go_enter Try.func13, Try.ntmps13
      go_wp2_with (first | (go_at_call 24; refine (rabs_any _ _ (by assumption)).mono ?_; rintro e w' ⟨rfl, hw⟩; rw [hw]; clear hw) | (go_at_call 22; refine (fail_any b off 3 _ hc hf).mono ?_; rintro e w' ⟨rfl, rfl⟩))
      go_ret
      exact ⟨rfl, 0, rfl⟩
end Go.Proofs.Ytgemflldnplkbaa
