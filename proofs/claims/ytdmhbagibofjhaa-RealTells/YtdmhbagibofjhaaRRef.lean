/-
  What the document's own Class, Get and Order (maquetteref1) do at every float64: the same plain functions. Nothing is claimed here.
-/
import Derived.Test.YtdmhbagibofjhaaRBytes
namespace Go.Proofs.Ytdmhbagibofjhaa
open Go.RowKit
variable {K : Ks}

theorem ret_int {k : IntKind} {a b : Int} (h : a = b) : Ending.returned (.int k a) = .returned (.int k b) := by rw [h]
/-- A cell that is laid as it lies. -/
theorem setCell_id (w : World) (b off : Nat) (v : Value) (h : w.cell? ⟨b, off, none⟩ = some v) : w.setCell ⟨b, off, none⟩ v = w := by
  unfold World.cell? at h
  unfold World.setCell
  have e : (w.heap.modify b fun
      | .cells c elem frozen => .cells (if (none : Option Nat).isSome then c else c.setIfInBounds off v) elem frozen
      | o => o) = w.heap := by
    apply Array.ext
    · simp
    · intro i h1 h2
      rw [Array.getElem_modify]
      split
      · rename_i hi
        subst hi
        rw [Array.getElem?_eq_getElem h2] at h
        cases ho : w.heap[b] with
        | cells c elem frozen =>
          rw [ho] at h
          simp at h
          have h3 : off < c.size := by
            rcases Nat.lt_or_ge off c.size with h4 | h4
            · exact h4
            · rw [Array.getElem?_eq_none h4] at h; cases h
          rw [Array.getElem?_eq_getElem h3] at h
          cases h
          simp [Array.setIfInBounds, h3]
        | _ => rw [ho] at h; try simp at h
      · rfl
  exact congrArg (fun x => { w with heap := x }) e

set_option maxHeartbeats 400000 in
theorem fail_any (b off : Nat) (e : Int) (w : World) (hc : w.cell? ⟨b, off, none⟩ = some (.int .i64 0)) (hf : w.frozen? ⟨b, off, none⟩ = false) :
    Calls Try.prog 35 #[.pointer (some ⟨b, off, none⟩), .int .i64 e] w fun x w' => x = .returned (.int .i64 0) ∧ w' = w.setCell ⟨b, off, none⟩ (.int .i64 e) := by
  go_enter Try.func35, Try.ntmps35
  go_wp2
  go_ret
  exact ⟨rfl, rfl⟩
set_option maxHeartbeats 400000 in
theorem rsigned_any (b off : Nat) (n : Int) (neg : Bool) (w : World) (hn : 0 ≤ n ∧ n ≤ 18446744073709551615) (hc : w.cell? ⟨b, off, none⟩ = some (.int .i64 0)) (hf : w.frozen? ⟨b, off, none⟩ = false) :
    Calls Try.prog 29 #[.pointer (some ⟨b, off, none⟩), .bool neg, .int .u64 n] w fun x w' => x = .returned (.int .i64 (sgR neg n).1) ∧ w' = w.setCell ⟨b, off, none⟩ (.int .i64 (sgR neg n).2) := by
  have hid := setCell_id w b off _ hc
  rcases sgR_cases neg n with ⟨h1, h2, h3⟩ | ⟨h1, h2, h3⟩ | ⟨h1, h2, h3⟩
  · subst h1
    rw [h3]; clear h3
    rw [hid]; clear hid
    go_enter Try.func29, Try.ntmps29
    go_wp2
    go_ret
    exact ⟨ret_int (by rw [IntKind.wrap_u64, wrap64_of]; omega), rfl⟩
  · subst h1
    rw [h3]; clear h3
    rw [hid]; clear hid
    go_enter Try.func29, Try.ntmps29
    go_wp2
    go_ret
    exact ⟨rfl, rfl⟩
  · rw [h3]; clear h3 hid
    cases neg
    · go_enter Try.func29, Try.ntmps29
      go_wp2_with (go_at_call 35; refine (fail_any b off 3 _ hc hf).mono ?_; rintro e w' ⟨rfl, rfl⟩)
      go_ret
      exact ⟨rfl, rfl⟩
    · have h4 : 9223372036854775808 < n := by simp at h2; omega
      clear h2
      go_enter Try.func29, Try.ntmps29
      go_wp2_with (go_at_call 35; refine (fail_any b off 3 _ hc hf).mono ?_; rintro e w' ⟨rfl, rfl⟩)
      go_ret
      exact ⟨rfl, rfl⟩


/-- Exponent and digits of a word. -/
theorem fields (x : Nat) (hx : x < 18446744073709551616) : ∃ E M : Nat, bits .and .u64 ((x : Int) / 4503599627370496) 2047 = (E : Int) ∧ bits .and .u64 (x : Int) 4503599627370495 = (M : Int) ∧ E < 2048 ∧ M < 4503599627370496 ∧ rg x = E * 4503599627370496 + M ∧ (((x : Int) / 9223372036854775808 = 0 ∧ sg x = false) ∨ ((x : Int) / 9223372036854775808 = 1 ∧ sg x = true)) := by
  refine ⟨x / 4503599627370496 % 2048, x % 4503599627370496, ?_, ?_, by omega, by omega, by unfold rg; omega, ?_⟩
  · have := u64_and_nat (x / 4503599627370496) 2047 (by omega) (by decide)
    rw [show ((x / 4503599627370496 : Nat) : Int) = (x : Int) / 4503599627370496 by omega] at this
    refine this.trans ?_
    congr 1
    exact Nat.and_two_pow_sub_one_eq_mod _ 11
  · have := u64_and_nat x 4503599627370495 hx (by decide)
    refine this.trans ?_
    congr 1
    exact Nat.and_two_pow_sub_one_eq_mod _ 52
  · unfold sg
    by_cases h : x < 9223372036854775808
    · have : x / 9223372036854775808 = 0 := by omega
      left; rw [this]; exact ⟨by omega, rfl⟩
    · have : x / 9223372036854775808 = 1 := by omega
      right; rw [this]; exact ⟨by omega, rfl⟩
set_option maxHeartbeats 1000000 in
theorem rclass_any (x : Nat) (hx : x < 18446744073709551616) (w : World) : Calls Try.prog 18 #[.float .f64 x] w fun e w' => e = .returned (.int .i64 (cls x)) ∧ w' = w := by
  have h1 := fun b w => call_bits b w
  obtain ⟨E, M, hE, hM, lE, lM, hr, hs⟩ := fields x hx
  unfold cls
  rw [hr]
  have hi : infR = 9218868437227405312 := rfl
  by_cases a1 : E = 2047
  · subst a1
    by_cases a2 : M = 0
    · subst a2
      rw [if_neg (by omega), if_pos (by omega)]
      rcases hs with ⟨s1, s2⟩ | ⟨s1, s2⟩
      all_goals
        rw [s2]
        clear hr hi s2 lE lM
        go_enter Try.func18, Try.ntmps18
        go_wp2
        go_ret
        exact ⟨rfl, rfl⟩
    · rw [if_pos (by omega)]
      have a3 : ¬ (M : Int) = 0 := by omega
      clear hr hi hs lE lM
      go_enter Try.func18, Try.ntmps18
      go_wp2
      go_ret
      exact ⟨rfl, rfl⟩
  · have a3 : ¬ (E : Int) = 2047 := by omega
    rw [if_neg (by omega), if_neg (by omega)]
    by_cases a4 : E = 0
    · subst a4
      by_cases a2 : M = 0
      · subst a2
        rw [Nat.zero_mul, Nat.add_zero, if_pos rfl]
        rcases hs with ⟨s1, s2⟩ | ⟨s1, s2⟩
        all_goals
          rw [s2]
          clear hr hi s2 lE lM
          go_enter Try.func18, Try.ntmps18
          go_wp2
          go_ret
          exact ⟨rfl, rfl⟩
      · rw [if_neg (by omega), if_pos (by omega)]
        have a5 : ¬ (M : Int) = 0 := by omega
        clear hr hi hs lE lM
        go_enter Try.func18, Try.ntmps18
        go_wp2
        go_ret
        exact ⟨rfl, rfl⟩
    · rw [if_neg (by omega), if_neg (by omega)]
      have a5 : ¬ (E : Int) = 0 := by omega
      clear hr hi hs lE lM
      go_enter Try.func18, Try.ntmps18
      go_wp2
      go_ret
      exact ⟨rfl, rfl⟩
theorem rrank_any (x : Nat) (hx : x < 18446744073709551616) (w : World) : Calls Try.prog 34 #[.float .f64 x] w fun e w' => e = .returned (.int .i64 (key2 x)) ∧ w' = w := by
  have h1 := fun b w => call_bits b w
  have hl := rg_lt x
  unfold key2
  by_cases a1 : infR < rg x
  · have c : cls x = 1 := by unfold cls; rw [if_pos a1]
    rw [if_pos a1]
    clear a1
    go_enter Try.func34, Try.ntmps34
    go_wp2_with (go_at_call 18; refine (rclass_any _ hx _).mono ?_; rintro e w' ⟨rfl, rfl⟩)
    go_ret
    exact ⟨rfl, rfl⟩
  · have c : ¬ cls x = 1 := by
      unfold cls; rw [if_neg a1]
      repeat' split
      all_goals decide
    rw [if_neg a1]
    cases hs : sg x
    · have e : rg x = x := by
        have := wd_of hx
        rw [hs] at this
        exact this.symm
      have e2 : wrap64 (x : Int) = (x : Int) := IntWalk.wrap64_in _ (by omega)
      have e3 : 0 ≤ (x : Int) := by omega
      rw [e]
      go_enter Try.func34, Try.ntmps34
      go_wp2_with (go_at_call 18; refine (rclass_any _ hx _).mono ?_; rintro e w' ⟨rfl, rfl⟩)
      all_goals (go_ret; exact ⟨rfl, rfl⟩)
    · have e : x = 9223372036854775808 + rg x := by
        have := wd_of hx
        rw [hs] at this
        exact this
      generalize hr : rg x = r at *
      have e2 : wrap64 (x : Int) = (r : Int) - 9223372036854775808 := by rw [wrap64_of]; omega
      have e3 : bits .and .i64 ((r : Int) - 9223372036854775808) 9223372036854775807 = (r : Int) := by
        show IntKind.i64.wrap (((BitVec.ofInt 64 ((r : Int) - 9223372036854775808) &&& BitVec.ofInt 64 9223372036854775807).toNat : Nat) : Int) = r
        rw [BitVec.toNat_and, BitVec.toNat_ofInt, show (BitVec.ofInt 64 9223372036854775807).toNat = 2 ^ 63 - 1 by decide, Nat.and_two_pow_sub_one_eq_mod, IntKind.wrap_i64]
        omega
      have e4 : (r : Int) - 9223372036854775808 < 0 := by clear e2 e3 e; omega
      obtain ⟨y, hy⟩ : ∃ y, y = (r : Int) - 9223372036854775808 := ⟨_, rfl⟩
      rw [← hy] at e2 e3 e4
      clear hy e
      go_enter Try.func34, Try.ntmps34
      go_wp2_with (go_at_call 18; refine (rclass_any _ hx _).mono ?_; rintro e w' ⟨rfl, rfl⟩)
      all_goals (go_ret; exact ⟨rfl, rfl⟩)
theorem rorder_any (x y : Nat) (hx : x < 18446744073709551616) (hy : y < 18446744073709551616) (w : World) : Calls Try.prog 20 #[.float .f64 x, .float .f64 y] w fun e w' => e = .returned (.int .i64 (ordV x y)) ∧ ∃ n, w' = w.drewN n := by
  unfold ordV
  by_cases h1 : key2 x < key2 y
  · rw [if_pos h1]
    go_enter Try.func20, Try.ntmps20
    go_wp2_with (first | (go_at_call 34; refine (rrank_any _ (by assumption) _).mono ?_; rintro e w' ⟨rfl, rfl⟩))
    all_goals (go_ret; first | exact ⟨rfl, 0, rfl⟩ | exact ⟨rfl, _, rfl⟩)
  · rw [if_neg h1]
    by_cases h2 : key2 y < key2 x
    · rw [if_pos h2]
      go_enter Try.func20, Try.ntmps20
      go_wp2_with (first | (go_at_call 34; refine (rrank_any _ (by assumption) _).mono ?_; rintro e w' ⟨rfl, rfl⟩))
      all_goals (go_ret; first | exact ⟨rfl, 0, rfl⟩ | exact ⟨rfl, _, rfl⟩)
    · rw [if_neg h2]
      go_enter Try.func20, Try.ntmps20
      go_wp2_with (first | (go_at_call 34; refine (rrank_any _ (by assumption) _).mono ?_; rintro e w' ⟨rfl, rfl⟩))
      all_goals (go_ret; first | exact ⟨rfl, 0, rfl⟩ | exact ⟨rfl, _, rfl⟩)
theorem V_fields {x E M : Nat} (h : rg x = E * 4503599627370496 + M) (hE : 1 ≤ E) (hM : M < 4503599627370496) : V (rg x) = (4503599627370496 + M) * 2 ^ (E - 1) := by
  have e : E * 4503599627370496 + M = (E - 1) * 4503599627370496 + (4503599627370496 + M) := by omega
  rw [h, e]
  exact V_of (E - 1) (4503599627370496 + M) (by omega) (by omega)
theorem gN_low {x : Nat} (h : rg x < 4503599627370496) : gN K (rg x) = 0 := by
  unfold gN
  refine rne_small ?_ (p_pos _)
  have e : V (rg x) = rg x * 2 ^ 0 := by
    have := V_of 0 (rg x) (by omega) (Or.inl rfl)
    rwa [Nat.zero_mul, Nat.zero_add] at this
  rw [e, Nat.pow_zero, Nat.mul_one]
  have : 2 ^ 60 ≤ 2 ^ K.g := pow_le_pow (by have := K.hg; omega)
  rw [show (2 : Nat) ^ 60 = 1152921504606846976 by decide] at this
  omega
theorem gN_down {x E M k : Nat} (h : rg x = E * 4503599627370496 + M) (hE : 1 ≤ E) (hM : M < 4503599627370496) (hk : E + k = 1043) : gN K (rg x) = rne (4503599627370496 + M) (2 ^ k) := by
  unfold gN
  rw [V_fields h hE hM]
  have : (2 : Nat) ^ K.g = 2 ^ k * 2 ^ (E - 1) := by rw [← Nat.pow_add]; congr 1; have := K.hg; omega
  rw [this, rne_mul _ _ _ (p_pos _)]
theorem gN_upw {x E M j : Nat} (h : rg x = E * 4503599627370496 + M) (hM : M < 4503599627370496) (hk : E = 1043 + j) : gN K (rg x) = (4503599627370496 + M) * 2 ^ j := by
  apply gN_exact
  rw [V_fields h (by omega) hM, Nat.mul_assoc, ← Nat.pow_add]
  congr 2
  have := K.hg
  omega
theorem sgR_over (s : Bool) (n : Int) (h : 9223372036854775808 < n) : sgR s n = (0, 3) := by
  rcases sgR_cases s n with ⟨a, b, c⟩ | ⟨a, b, c⟩ | ⟨a, b, c⟩
  · omega
  · omega
  · exact c
theorem sgR_zero (s : Bool) : sgR s ((0 : Nat) : Int) = (0, 0) := by cases s <;> decide
theorem or52 (M : Nat) (h : M < 4503599627370496) : bits .or .u64 (M : Int) 4503599627370496 = ((4503599627370496 + M : Nat) : Int) := by
  have := u64_or_nat M 4503599627370496 (by omega) (by decide)
  refine this.trans ?_
  congr 1
  have e := Nat.two_pow_add_eq_or_of_lt (i := 52) (b := M) h 1
  rw [Nat.mul_one] at e
  rw [Nat.or_comm]
  exact e.symm
/-- The digits that go, the half, and whether it is rounded up. -/
theorem rget_down (m k : Nat) (hm : m < 9007199254740992) (h1 : 1 ≤ k) (h2 : k ≤ 60) : ∃ P Q R q H : Nat, IntKind.u64.wrap ((2 : Int) ^ k) = (P : Int) ∧ IntKind.u64.wrap ((P : Int) - 1) = (Q : Int) ∧ bits .and .u64 (m : Int) (Q : Int) = (R : Int) ∧ (m : Int) / (2 : Int) ^ k = (q : Int) ∧ IntKind.u64.wrap ((2 : Int) ^ (k - 1)) = (H : Int) ∧ bits .and .u64 (q : Int) 1 = ((q % 2 : Nat) : Int) ∧ q < 9007199254740992 ∧ ((H < R ∧ rne m (2 ^ k) = q + 1) ∨ (R = H ∧ q % 2 = 1 ∧ rne m (2 ^ k) = q + 1) ∨ (R = H ∧ q % 2 = 0 ∧ rne m (2 ^ k) = q) ∨ (R < H ∧ rne m (2 ^ k) = q)) := by
  have hp : 2 ^ k ≤ 2 ^ 60 := pow_le_pow h2
  rw [show (2 : Nat) ^ 60 = 1152921504606846976 by decide] at hp
  have h0 := p_pos k
  obtain ⟨j, rfl⟩ : ∃ j, k = j + 1 := ⟨k - 1, by omega⟩
  have hs : 2 ^ (j + 1) = 2 * 2 ^ j := by rw [Nat.pow_succ, Nat.mul_comm]
  have c1 : ∀ i : Nat, (2 : Int) ^ i = ((2 ^ i : Nat) : Int) := fun i => by simp
  have hq : m / 2 ^ (j + 1) ≤ m := Nat.div_le_self _ _
  refine ⟨2 ^ (j + 1), 2 ^ (j + 1) - 1, m % 2 ^ (j + 1), m / 2 ^ (j + 1), 2 ^ j, ?_, ?_, ?_, ?_, ?_, ?_, by omega, ?_⟩
  · rw [c1, IntKind.wrap_u64]; omega
  · rw [IntKind.wrap_u64]; omega
  · rw [u64_and_nat m _ (by omega) (by omega), Nat.and_two_pow_sub_one_eq_mod]
  · rw [c1]; rfl
  · rw [Nat.add_sub_cancel, c1, IntKind.wrap_u64]; omega
  · have := u64_and_nat (m / 2 ^ (j + 1)) 1 (by omega) (by decide)
    refine this.trans ?_
    rw [Nat.and_one_is_mod]
  · unfold rne
    rw [hs]
    generalize m % (2 * 2 ^ j) = R
    generalize m / (2 * 2 ^ j) = q
    generalize 2 ^ j = H
    rcases Nat.lt_trichotomy R H with g | g | g
    · right; right; right
      exact ⟨g, by rw [if_neg (by omega)]⟩
    · by_cases e : q % 2 = 1
      · right; left
        exact ⟨g, e, by rw [if_pos (by omega)]⟩
      · right; right; left
        exact ⟨g, by omega, by rw [if_neg (by omega)]⟩
    · left
      exact ⟨g, by rw [if_pos (by omega)]⟩
theorem grown_alloc_drew (w : World) (c : Array Value) (t : TypeId) (n : Nat) : Grown w ((w.alloc (.cells c t)).drewN n) := (Grown.refl w).alloc c t
theorem ret_t {a b c d : Int} (h : a = c) (g : b = d) : Ending.returned (.tuple #[.int .i64 a, .int .i64 b]) = .returned (.tuple #[.int .i64 c, .int .i64 d]) := by rw [h, g]
set_option maxHeartbeats 2000000 in
theorem rget_any (x : Nat) (hx : x < 18446744073709551616) (w : World) : Calls Try.prog 12 #[.float .f64 x] w fun e w' => e = .returned (.tuple #[.int .i64 (gR K x).1, .int .i64 (gR K x).2]) ∧ Grown w w' := by
  have h1 := fun b w => call_bits b w
  have hi : infR = 9218868437227405312 := rfl
  by_cases a1 : infR < rg x
  · have c : cls x = 1 := by unfold cls; rw [if_pos a1]
    have d : gR K x = (0, 1) := by unfold gR; rw [if_pos a1]
    rw [d]
    go_enter Try.func12, Try.ntmps12
    go_wp2_with (go_at_call 18; refine (rclass_any _ hx _).mono ?_; rintro e w' ⟨rfl, rfl⟩)
    all_goals (go_ret2; exact ⟨rfl, Grown.refl _⟩)
  by_cases a2 : rg x = infR
  · have d : gR K x = (0, 2) := by unfold gR; rw [if_neg a1, if_pos a2]
    rw [d]
    have c : cls x = 2 ∨ cls x = 3 := by
      unfold cls; rw [if_neg a1, if_pos a2]
      cases sg x
      · exact Or.inl rfl
      · exact Or.inr rfl
    rcases c with c | c
    all_goals
      go_enter Try.func12, Try.ntmps12
      go_wp2_with (go_at_call 18; refine (rclass_any _ hx _).mono ?_; rintro e w' ⟨rfl, rfl⟩)
      all_goals (go_ret2; exact ⟨rfl, Grown.refl _⟩)
  have hg : gR K x = sgR (sg x) (gN K (rg x)) := by unfold gR; rw [if_neg a1, if_neg a2]
  by_cases a3 : rg x < 4503599627370496
  · have d : gR K x = (0, 0) := by rw [hg, gN_low a3]; exact sgR_zero _
    rw [d]
    have c : cls x = 4 ∨ cls x = 5 ∨ cls x = 6 := by
      unfold cls; rw [if_neg a1, if_neg a2]
      split
      · cases sg x
        · exact Or.inl rfl
        · exact Or.inr (Or.inl rfl)
      · first | exact Or.inr (Or.inr rfl) | (rw [if_pos a3]; exact Or.inr (Or.inr rfl))
    rcases c with c | c | c
    all_goals
      go_enter Try.func12, Try.ntmps12
      go_wp2_with (go_at_call 18; refine (rclass_any _ hx _).mono ?_; rintro e w' ⟨rfl, rfl⟩)
      all_goals (go_ret2; exact ⟨rfl, Grown.refl _⟩)
  obtain ⟨E, M, hE, hM, lE, lM, hr, hs⟩ := fields x hx
  have c : cls x = 7 := by unfold cls; rw [if_neg a1, if_neg a2, if_neg (by omega), if_neg a3]
  have oM := or52 M lM
  have lE1 : 1 ≤ E := by omega
  have lE2 : E ≤ 2046 := by omega
  have hd : ∀ k, E + k = 1043 → gN K (rg x) = rne (4503599627370496 + M) (2 ^ k) := fun k h => gN_down hr lE1 lM h
  have hu : ∀ j, E = 1043 + j → gN K (rg x) = (4503599627370496 + M) * 2 ^ j := fun j h => gN_upw hr lM h
  obtain ⟨sb, hsb, hsg⟩ : ∃ sb : Bool, ((x : Int) / 9223372036854775808 == 1) = sb ∧ sg x = sb := by
    rcases hs with ⟨s1, s2⟩ | ⟨s1, s2⟩
    · exact ⟨false, by rw [s1]; rfl, s2⟩
    · exact ⟨true, by rw [s1]; rfl, s2⟩
  rw [hsg] at hg
  clear hs hr hi a1 a2 a3 hsg
  obtain ⟨m, hm⟩ : ∃ m, m = 4503599627370496 + M := ⟨_, rfl⟩
  rw [← hm] at hd hu oM
  have lm : m < 9007199254740992 := by omega
  have lm2 : 4503599627370496 ≤ m := by omega
  clear hm lM
  obtain ⟨t, ht⟩ : ∃ t : Int, (E : Int) - 1075 + 32 = t := ⟨_, rfl⟩
  by_cases b1 : 11 < t
  · obtain ⟨j, hj⟩ : ∃ j, E = 1043 + j := ⟨E - 1043, by omega⟩
    have d : gR K x = (0, 3) := by
      rw [hg, hu j hj]
      apply sgR_over
      have : 2 ^ 12 ≤ 2 ^ j := pow_le_pow (by omega)
      rw [show (2 : Nat) ^ 12 = 4096 by decide] at this
      have e := Nat.mul_le_mul lm2 this
      omega
    rw [d]
    clear hd hu hg hj d
    go_enter Try.func12, Try.ntmps12
    go_wp2_with (go_at_call 18; refine (rclass_any _ hx _).mono ?_; rintro e w' ⟨rfl, rfl⟩)
    all_goals (go_ret2; exact ⟨rfl, (Grown.refl _).alloc _ _⟩)
  by_cases b2 : 0 ≤ t
  · obtain ⟨j, hj⟩ : ∃ j, E = 1043 + j := ⟨E - 1043, by omega⟩
    have tj : t = (j : Int) := by omega
    have lj : j ≤ 11 := by omega
    have pj := pow_le_pow lj
    rw [show (2 : Nat) ^ 11 = 2048 by decide] at pj
    have e1 := Nat.mul_le_mul (show m ≤ 9007199254740991 by omega) pj
    obtain ⟨N, hN⟩ : ∃ N, N = m * 2 ^ j := ⟨_, rfl⟩
    have f1 : IntKind.u64.wrap ((m : Int) * (2 : Int) ^ j) = (N : Int) := by
      have : (m : Int) * (2 : Int) ^ j = ((m * 2 ^ j : Nat) : Int) := by simp
      rw [this, IntKind.wrap_u64, hN]; omega
    have lN : (N : Int) ≤ 18446744073709551615 := by omega
    have d : gR K x = sgR sb (N : Int) := by rw [hg, hu j hj, hN]
    rw [d]
    subst tj
    clear hd hu hg hj d hN e1 pj b1 b2
    go_enter Try.func12, Try.ntmps12
    go_wp2_with (first | (go_at_call 18; refine (rclass_any _ hx _).mono ?_; rintro e w' ⟨rfl, rfl⟩) | (go_at_call 29; refine (rsigned_any _ _ _ _ _ ⟨by omega, by omega⟩ (by simp [go_sem]) (by simp [go_sem])).mono ?_; rintro e w' ⟨rfl, rfl⟩))
    go_region
    go_wp2
    all_goals (go_ret2; exact ⟨rfl, grown_alloc_drew _ _ _ _⟩)
  by_cases b3 : t < -60
  · have d : gR K x = (0, 0) := by
      rw [hg, hd (1043 - E) (by omega), rne_small ?_ (p_pos _)]
      · exact sgR_zero _
      · have : 2 ^ 60 ≤ 2 ^ (1043 - E) := pow_le_pow (by omega)
        rw [show (2 : Nat) ^ 60 = 1152921504606846976 by decide] at this
        omega
    rw [d]
    clear hd hu hg d
    go_enter Try.func12, Try.ntmps12
    go_wp2_with (go_at_call 18; refine (rclass_any _ hx _).mono ?_; rintro e w' ⟨rfl, rfl⟩)
    all_goals (go_ret2; exact ⟨rfl, (Grown.refl _).alloc _ _⟩)
  · obtain ⟨k, hk⟩ : ∃ k, E + k = 1043 := ⟨1043 - E, by omega⟩
    have tk : -t = (k : Int) := by omega
    have k1 : 1 ≤ k := by omega
    have k2 : k ≤ 60 := by omega
    obtain ⟨P, Q, R, q, H, r1, r2, r3, r4, r5, r6, r7, r8⟩ := rget_down m k lm k1 k2
    have d : gR K x = sgR sb (rne m (2 ^ k) : Int) := by rw [hg, hd k hk]
    have k3 : (1 : Int) ≤ k := by omega
    have k4 : (k : Int) ≤ 60 := by omega
    clear hd hu hg hk
    rcases r8 with ⟨u1, u2⟩ | ⟨u1, u2, u3⟩ | ⟨u1, u2, u3⟩ | ⟨u1, u2⟩
    · rw [u2] at d
      rw [d]
      have v1 : (H : Int) < R := by omega
      clear u1 u2 d
      go_enter Try.func12, Try.ntmps12
      go_wp2_with (first | (go_at_call 18; refine (rclass_any _ hx _).mono ?_; rintro e w' ⟨rfl, rfl⟩) | (go_at_call 29; refine (rsigned_any _ _ _ _ _ ⟨by omega, by omega⟩ (by simp [go_sem]) (by simp [go_sem])).mono ?_; rintro e w' ⟨rfl, rfl⟩))
      go_region
      go_wp2
      all_goals (go_ret2; exact ⟨rfl, grown_alloc_drew _ _ _ _⟩)
    · rw [u3] at d
      rw [d]
      subst u1
      rw [u2] at r6
      clear u2 u3 d
      go_enter Try.func12, Try.ntmps12
      go_wp2_with (first | (go_at_call 18; refine (rclass_any _ hx _).mono ?_; rintro e w' ⟨rfl, rfl⟩) | (go_at_call 29; refine (rsigned_any _ _ _ _ _ ⟨by omega, by omega⟩ (by simp [go_sem]) (by simp [go_sem])).mono ?_; rintro e w' ⟨rfl, rfl⟩))
      go_region
      go_wp2
      all_goals (go_ret2; exact ⟨rfl, grown_alloc_drew _ _ _ _⟩)
    · rw [u3] at d
      rw [d]
      subst u1
      rw [u2] at r6
      clear u2 u3 d
      go_enter Try.func12, Try.ntmps12
      go_wp2_with (first | (go_at_call 18; refine (rclass_any _ hx _).mono ?_; rintro e w' ⟨rfl, rfl⟩) | (go_at_call 29; refine (rsigned_any _ _ _ _ _ ⟨by omega, by omega⟩ (by simp [go_sem]) (by simp [go_sem])).mono ?_; rintro e w' ⟨rfl, rfl⟩))
      go_region
      go_wp2
      all_goals (go_ret2; exact ⟨rfl, grown_alloc_drew _ _ _ _⟩)
    · rw [u2] at d
      rw [d]
      have v1 : (R : Int) < H := by omega
      have v2 : ¬ (R : Int) = H := by omega
      clear u1 u2 d
      go_enter Try.func12, Try.ntmps12
      go_wp2_with (first | (go_at_call 18; refine (rclass_any _ hx _).mono ?_; rintro e w' ⟨rfl, rfl⟩) | (go_at_call 29; refine (rsigned_any _ _ _ _ _ ⟨by omega, by omega⟩ (by simp [go_sem]) (by simp [go_sem])).mono ?_; rintro e w' ⟨rfl, rfl⟩))
      go_region
      go_wp2
      all_goals (go_ret2; exact ⟨rfl, grown_alloc_drew _ _ _ _⟩)
end Go.Proofs.Ytdmhbagibofjhaa
