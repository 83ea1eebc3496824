/-
  Proved: maquettelaw4.RootSquares returns true for every uint64 and every int64, and leaves what it was given as it was; no condition.
-/
import Derived.Test.YtklgidjogicfbaaRows
import Derived.Test.YtklgidjogicfbaaQAlive
import Derived.WalkKit
import Derived.WalkSpells
import Derived.WalkLawsBesides
import Derived.ProofKit
import Derived.OpenShut
import Derived.ShutString
namespace Go.Proofs.Ytklgidjogicfbaa.rootSquares
open Go.ChangeShapes Go.WideShapes Go.ChangeAt Go.RowKit
open Go.ChangeMaps (open_string shut_string)
set_option linter.unusedVariables false

theorem own : ownKnob Try.prog.godebug = none := by kernel_rfl

theorem words_of {x y h l : Int} (x0 : 0 ≤ x) (x1 : x ≤ 4294967296) (y0 : 0 ≤ y) (y1 : y ≤ 4294967296) (e : x * y = h * 18446744073709551616 + l) (l0 : 0 ≤ l) (l1 : l < 18446744073709551616) : words x y h l :=
  ⟨⟨x0, by omega⟩, ⟨y0, by omega⟩, by rw [e]; omega, by rw [e]; omega⟩
/-- The first half: the root r of a uint64. -/
theorem first_half (n : Int) (h0 : 0 ≤ n) (h1 : n ≤ 18446744073709551615) :
    ∃ r P H L : Int, Hid (rt n = r) ∧ 0 ≤ r ∧ r < 4294967296 ∧ words r r 0 P ∧ P ≤ n ∧ words (r + 1) (r + 1) H L ∧ ((H = 0 ∧ n < L) ∨ (H = 1 ∧ L = 0)) := by
  have h := rt_is h0 (by omega)
  obtain ⟨r, hr⟩ : ∃ r, rt n = r := ⟨_, rfl⟩
  rw [hr] at h
  obtain ⟨a, b, c⟩ := h
  have l : r < 4294967296 := lt_sq (by decide) (by omega)
  have p0 := Int.mul_nonneg a a
  have q := sq_le (a := r + 1) (b := 4294967296) (by omega) (by omega)
  by_cases g : (r + 1) * (r + 1) = 18446744073709551616
  · exact ⟨r, r * r, 1, 0, hr, a, l, words_of a (by omega) a (by omega) (by omega) p0 (by omega), b, words_of (by omega) (by omega) (by omega) (by omega) (by omega) (by omega) (by omega), .inr ⟨rfl, rfl⟩⟩
  · exact ⟨r, r * r, 0, (r + 1) * (r + 1), hr, a, l, words_of a (by omega) a (by omega) (by omega) p0 (by omega), b, words_of (by omega) (by omega) (by omega) (by omega) (by omega) (by omega) (by omega), .inl ⟨rfl, c⟩⟩
/-- The second half: the root s of a Fix. -/
theorem second_half (a : Int) (h0 : 0 ≤ a) (h1 : a ≤ 9223372036854775807) :
    ∃ s h l H L A : Int, Hid (sqR a = (s, 0)) ∧ 0 ≤ s ∧ s ≤ 281474976710656 ∧ words s s h l ∧ words (s + 1) (s + 1) H L ∧ IntKind.u64.wrap (a * 4294967296) = A ∧ (h < a / 4294967296 ∨ (h = a / 4294967296 ∧ l ≤ A)) ∧ (a / 4294967296 < H ∨ (H = a / 4294967296 ∧ A < L)) := by
  have h := rt_is (n := a * 4294967296) (by omega) (by omega)
  have e : sqR a = (rt (a * 4294967296), 0) := if_neg (by omega)
  generalize rt (a * 4294967296) = s at *
  obtain ⟨x, y, z⟩ := h
  have l : s < 281474976710656 := lt_sq (by decide) (by omega)
  refine ⟨s, _, _, _, _, _, e, x, by omega, ⟨⟨x, by omega⟩, ⟨x, by omega⟩, rfl, rfl⟩, ⟨⟨by omega, by omega⟩, ⟨by omega, by omega⟩, rfl, rfl⟩, rfl, ?_, ?_⟩
  · rw [IntKind.wrap_u64]; omega
  · rw [IntKind.wrap_u64]; omega
set_option maxHeartbeats 1000000 in
theorem walk (a0 : Int) (a1 : Int) (w0 : (Lit.int .u64 a0).wf = true) (w1 : (Lit.int .i64 a1).wf = true) (w : World) :
    Calls Try.prog 4 #[.int .u64 a0, .int .i64 a1] w fun e w' => e = .returned (.bool true) ∧ Grown w w' := by
  have hn : 0 ≤ a0 ∧ a0 ≤ 18446744073709551615 := by simp [Lit.wf, IntKind.min, IntKind.max, IntKind.signed, IntKind.bits] at w0; omega
  have ha : inF a1 := inF_wf w1
  clear w0 w1
  have G := Grew.refl w
  obtain ⟨n0, n1⟩ := hn
  obtain ⟨r, P, H, L, s0, r0, r1, k1, k2, k3, k4⟩ := first_half a0 n0 n1
  rcases k4 with ⟨rfl, k4⟩ | ⟨rfl, rfl⟩
  all_goals
    by_cases g : a1 < 0
    · go_enter Try.func4, Try.ntmps4
      go_wp2_with (first
    | (go_at_call 9; refine (alive_any _).mono ?_; rintro e V ⟨rfl, U⟩; replace G := G.trans U; clear U)
    | (go_at_call 12; refine (sqrt_any _ _ (by first | assumption | exact ⟨by decide, by decide⟩)).mono ?_; rintro e V ⟨rfl, U⟩; (first | rw [(f1).out] | rw [(f2).out] | rw [(f3).out] | rw [(f4).out]); replace G := G.trans U; clear U)
    | (go_at_call 13; refine (len_any _ _ _ (by first | assumption | exact ⟨by decide, by decide⟩) (by first | assumption | exact ⟨by decide, by decide⟩)).mono ?_; rintro e V ⟨rfl, U⟩; (first | rw [(f1).out] | rw [(f2).out] | rw [(f3).out] | rw [(f4).out]); replace G := G.trans U; clear U)
    | (go_at_call 14; refine (int_any _ _ (by first | assumption | decide) (by first | assumption | decide)).mono ?_; rintro e V ⟨rfl, U⟩; (first | rw [(s0).out] | rw [(s1).out]); replace G := G.trans U; clear U)
    | (go_at_call 16; refine (mul64_w (by assumption) _).mono ?_; rintro e w' ⟨rfl, rfl⟩)
    | fail)
      go_ret
      exact ⟨rfl, G.grown⟩
    · have g' : 0 ≤ a1 := Int.not_lt.1 g
      have g1 : a1 ≤ 9223372036854775807 := ha.2
      clear g
      obtain ⟨s, x, y, X, Y, A, f1, e0, e1, e2, e3, e4, e5, e6⟩ := second_half a1 g' ha.2
      rcases e5 with e5 | ⟨rfl, e5⟩ <;> rcases e6 with e6 | ⟨rfl, e6⟩
      all_goals
        go_enter Try.func4, Try.ntmps4
        go_wp2_with (first
    | (go_at_call 9; refine (alive_any _).mono ?_; rintro e V ⟨rfl, U⟩; replace G := G.trans U; clear U)
    | (go_at_call 12; refine (sqrt_any _ _ (by first | assumption | exact ⟨by decide, by decide⟩)).mono ?_; rintro e V ⟨rfl, U⟩; (first | rw [(f1).out] | rw [(f2).out] | rw [(f3).out] | rw [(f4).out]); replace G := G.trans U; clear U)
    | (go_at_call 13; refine (len_any _ _ _ (by first | assumption | exact ⟨by decide, by decide⟩) (by first | assumption | exact ⟨by decide, by decide⟩)).mono ?_; rintro e V ⟨rfl, U⟩; (first | rw [(f1).out] | rw [(f2).out] | rw [(f3).out] | rw [(f4).out]); replace G := G.trans U; clear U)
    | (go_at_call 14; refine (int_any _ _ (by first | assumption | decide) (by first | assumption | decide)).mono ?_; rintro e V ⟨rfl, U⟩; (first | rw [(s0).out] | rw [(s1).out]); replace G := G.trans U; clear U)
    | (go_at_call 16; refine (mul64_w (by assumption) _).mono ?_; rintro e w' ⟨rfl, rfl⟩)
    | fail)
        go_ret
        exact ⟨rfl, G.grown⟩

set_option maxRecDepth 100000 in
theorem lifted (os : Os) (started : os.Started) (H : Type) (enc : TypeId × Value → H) :
    ReturnsInHanded {} Try.checked os 4 .any (Rows.rootSquaresSpec.pre6 enc Try.prog Try.f4 Rows.rootSquaresRow.domain false) (Rows.rootSquaresSpec.post enc Try.prog Try.f4 false true false false) := by
  refine returnsInHanded_of_change (C := Try.checked) own started (by kernel_rfl) Try.func4
    (ChangeSpec.witness6 (enc := enc) (C := Try.checked) false ⟨#[], #[.int .u64 0, .int .i64 0], []⟩ 8 (by kernel_rfl) (by kernel_rfl) (by kernel_rfl) (by kernel_rfl)) ?_
  intro W base args ds gs before hval0 hW hcnd _
  have hval : ∀ (j : Nat) t v, Try.f4.params[j]? = some t → args[j]? = some v → Value.okWide Try.prog W .any base t v := hval0
  have hW' := hW
  obtain ⟨p, q, hA0, hV, rfl, hfz, hnd⟩ := hW
  have hA : DataW.TrodAll enc Try.prog W 0 (fun _ => true) true Try.f4.params.toList args.toList ds p := hA0
  rw [Try.params4] at hA hval
  obtain ⟨v0, vs0, d0, ds0, p0, q0, hargs, rfl, rfl, h0, r0⟩ := trodAll_cons hA
  obtain ⟨v1, vs1, d1, ds1, p1, q1, rfl, rfl, rfl, h1, r1⟩ := trodAll_cons r0
  obtain ⟨rfl, rfl, rfl⟩ := trodAll_nil r1
  obtain rfl : args = #[v0, v1] := by cases args; simp_all
  obtain ⟨rfl, rfl⟩ := trodVars_none hV
  obtain ⟨a0, rfl, rfl, rfl, w0⟩ := open_int Try.underlying22 (hval 0 22 v0 rfl rfl) h0
  obtain ⟨a1, rfl, rfl, rfl, w1⟩ := open_int Try.underlying23 (hval 1 23 v1 rfl rfl) h1
  clear hA0 hval0
  simp only [List.append_nil] at hW'
  refine (walk a0 a1 w0 w1 W).mono fun e W' ⟨he, hg⟩ => ?_
  subst he
  exact ⟨_, rfl, post_of_same (pa := []) (pv := []) hW' (fun _ _ _ => (trodAll_cons_mk (shut_bool Try.underlying4 _) trodAll_mk0)) (fun sp _ => (trodAll_cons_mk (shut_int Try.underlying22 w0) (trodAll_cons_mk (shut_int Try.underlying23 w1) trodAll_mk0))) (fun _ _ => rfl) rfl
    (hg.frame _) hg.2.1 (ok_one (by kernel_rfl) rfl (okWide_bool_mk Try.underlying4 _))⟩

theorem over : Rows.rootSquaresRow.holds Try.pinned (OpenSpec.ofChange Rows.rootSquaresSpec) :=
  OpenClaim.holds_of_wide 4 Try.f4 rfl rfl rfl rfl rfl rfl rfl ⟨rfl, rfl, rfl, rfl, rfl⟩ rfl rfl rfl rfl rfl (by kernel_rfl) Try.func4 (by kernel_rfl)
    (of_decide_eq_true (by kernel_rfl)) (by unfold Func.isWrapper; first | (rw [if_pos (by decide +kernel)]; kernel_rfl) | (rw [if_neg (by decide +kernel)]; exact ⟨rfl, rfl⟩))
    (fun os started H enc _ => lifted os started H enc)

theorem proved : Rows.RootSquaresSaid :=
  over
end Go.Proofs.Ytklgidjogicfbaa.rootSquares

namespace Go.Proofs.Ytklgidjogicfbaa
theorem rootSquares_holds : Rows.RootSquaresSaid := rootSquares.proved
end Go.Proofs.Ytklgidjogicfbaa
