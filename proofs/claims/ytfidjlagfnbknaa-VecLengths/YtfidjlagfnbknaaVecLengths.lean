/-
  Proved: maquettelaw6.VecLengths returns true for every place a (its length does not hang on signs, nor on which side is first), and leaves what it was given as it was; no condition.
-/
import Derived.Test.YtfidjlagfnbknaaRows
import Derived.Test.YtfidjlagfnbknaaVAlive
import Derived.Test.YtfidjlagfnbknaaVData
import Derived.WalkKit
import Derived.Deep.QuietTactic
import Derived.BigQuiet
import Derived.WalkSpells
import Derived.WalkLawsBesides
import Derived.ProofKit
import Derived.OpenShut
namespace Go.Proofs.Ytfidjlagfnbknaa.vecLengths
open Go.ChangeShapes Go.WideShapes Go.ChangeAt Go.RowKit
set_option linter.unusedVariables false

theorem own : ownKnob Try.prog.godebug = none := by kernel_rfl

theorem len_turn (x y : Int) : lenR (-y) x = lenR x y := by
  unfold lenR
  rw [show -y * -y + x * x = x * x + y * y by rw [Int.neg_mul_neg]; omega]
theorem len_nonneg {x y : Int} (hx : inF x) (hy : inF y) : 0 ≤ (lenR x y).1 := by
  unfold lenR
  have h := rt_u64 (inF_sum hx hy).1 (inF_sum hx hy).2
  split
  · exact h.1
  · exact Int.le_refl 0

theorem lens1_any (A X : Nat) (x y z : Int) (W : World) (hA : At W A x y) (cX : W.cell? ⟨X, 0, none⟩ = some (.int .i64 z)) (zX : Free W X) (fx : inF x) (fy : inF y) :
    Calls Try.prog 36 #[.pointer (some ⟨A, 0, none⟩), .pointer (some ⟨X, 0, none⟩)] W fun e w1 =>
      Wrote (fun n => n = X) W w1 ∧ ∃ k, (e = .returned (.tuple #[]) ∧ k = 0 ∨ e = .panicked [fault k]) ∧ Left X (lenR x y) k w1 := by
  have HD : Hid (∀ W, Calls Try.prog 17 #[.agg #[.int .i64 x, .int .i64 y]] W fun e w' => e = outR (lenR x y) ∧ Grew W w') := fun W => vlen_any x y W fx fy
  generalize lenR x y = d at *
  obtain ⟨a0, a1⟩ := hA
  have zX' := zX 0 none
  obtain ⟨q, k⟩ := d
  by_cases hk : k = 0
  · subst hk
    go_enter Try.func36, Try.ntmps36
    go_wp2_with (first
      | (go_at_call 17; go_fit (HD.out _); rintro e V ⟨rfl, U⟩; have c0 := U.cell cX; have z0 := U.frozen zX'; rw [outR_ok]))
    go_end0
    exact ⟨U.wrote.set (S := fun n => n = X) rfl _ _ _, 0, .inl ⟨rfl, rfl⟩, rfl, fun _ => World.cell?_setCell_same _ _ _ c0⟩
  · go_enter Try.func36, Try.ntmps36
    go_wp2_with (first
      | (go_at_call 17; go_fit (HD.out _); rintro e V ⟨rfl, U⟩; rw [outR_bad hk]))
    exact ⟨rfl, U.wrote, k, .inr rfl, rfl, fun h => absurd h hk⟩
theorem lens2_any (A X : Nat) (x y z : Int) (W : World) (hA : At W A x y) (cX : W.cell? ⟨X, 0, none⟩ = some (.int .i64 z)) (zX : Free W X) (fx : inF x) (fy : inF y) (hy : ¬ y = -9223372036854775808) :
    Calls Try.prog 37 #[.pointer (some ⟨A, 0, none⟩), .pointer (some ⟨X, 0, none⟩)] W fun e w1 =>
      Wrote (fun n => n = X) W w1 ∧ ∃ k, (e = .returned (.tuple #[]) ∧ k = 0 ∨ e = .panicked [fault k]) ∧ Left X (lenR x y) k w1 := by
  have HD : Hid (∀ W, Calls Try.prog 17 #[.agg #[.int .i64 (-y), .int .i64 x]] W fun e w' => e = outR (lenR x y) ∧ Grew W w') := fun W => by
    have := vlen_any (-y) x W ⟨by unfold inF at fy; omega, by unfold inF at fy; omega⟩ fx
    rw [len_turn] at this
    exact this
  generalize lenR x y = d at *
  obtain ⟨a0, a1⟩ := hA
  have zX' := zX 0 none
  obtain ⟨q, k⟩ := d
  unfold inF at fy
  by_cases hk : k = 0
  · subst hk
    go_enter Try.func37, Try.ntmps37
    go_wp2_with (first
      | (go_at_call 17; go_fit (HD.out _); rintro e V ⟨rfl, U⟩; have c0 := U.cell cX; have z0 := U.frozen zX'; rw [outR_ok]))
    go_end0
    exact ⟨U.wrote.set (S := fun n => n = X) rfl _ _ _, 0, .inl ⟨rfl, rfl⟩, rfl, fun _ => World.cell?_setCell_same _ _ _ c0⟩
  · go_enter Try.func37, Try.ntmps37
    go_wp2_with (first
      | (go_at_call 17; go_fit (HD.out _); rintro e V ⟨rfl, U⟩; rw [outR_bad hk]))
    exact ⟨rfl, U.wrote, k, .inr rfl, rfl, fun h => absurd h hk⟩

set_option maxHeartbeats 1000000 in
theorem walk (x0 y0 : Int) (f0 : inF x0) (g0 : inF y0) (w : World) :
    Calls Try.prog 8 #[vec x0 y0] w fun e w' => e = .returned (.bool true) ∧ Grown w w' := by
  have hmf := mk_func
  by_cases hx : x0 = -9223372036854775808
  · unfold vec
    go_enter Try.func8, Try.ntmps8
    go_wp2_with (first
      | (go_at_call 9; refine (alive_any _).mono ?_; rintro e V ⟨rfl, G⟩))
    go_ret
    exact ⟨rfl, (((Grew.refl w).alloc _ _).trans G).grown⟩
  by_cases hy : y0 = -9223372036854775808
  · have hx' : (x0 == -9223372036854775808) = false := by simp [hx]
    unfold vec
    go_enter Try.func8, Try.ntmps8
    go_wp2_with (first
      | (go_at_call 9; refine (alive_any _).mono ?_; rintro e V ⟨rfl, G⟩))
    go_ret
    exact ⟨rfl, (((Grew.refl w).alloc _ _).trans G).grown⟩
  have hx' : (x0 == -9223372036854775808) = false := by simp [hx]
  have hy' : (y0 == -9223372036854775808) = false := by simp [hy]
  have e3 := len_nonneg f0 g0
  unfold vec
  go_enter Try.func8, Try.ntmps8
  go_wp2_with (first
    | (go_at_call 9; refine (alive_any _).mono ?_; rintro e V ⟨rfl, G⟩))
  have G1 : Grew w V := ((Grew.refl w).alloc _ _).trans G
  have ha : At V w.heap.size x0 y0 := ⟨G.cell (by simp [go_sem]), G.cell (by simp [go_sem])⟩
  have hsz : w.heap.size < V.heap.size := cell_block ha.1
  clear G
  obtain ⟨V3, hV3⟩ : ∃ V3, V3 = (V.alloc (.cells #[.int .i64 0] 22)).alloc (.cells #[.int .i64 0] 22) := ⟨_, rfl⟩
  rw [← hV3]
  have g3 : Grew V V3 := by rw [hV3]; exact ((Grew.refl V).alloc _ _).alloc _ _
  have s3 : V3.heap.size = V.heap.size + 2 := by rw [hV3]; simp [go_sem]
  have cx : V3.cell? ⟨V.heap.size, 0, none⟩ = some (.int .i64 0) := by rw [hV3]; simp [go_sem]
  have cy : V3.cell? ⟨V.heap.size + 1, 0, none⟩ = some (.int .i64 0) := by rw [hV3]; simp [go_sem]
  have zx : Free V3 V.heap.size := g3.freeB (by omega)
  have G3 := G1.trans g3
  replace ha := ha.grew g3
  obtain ⟨X, hX⟩ : ∃ X, X = V.heap.size := ⟨_, rfl⟩
  rw [← hX] at cx cy zx s3 hsz ⊢
  clear hV3 g3 hX
  obtain ⟨d, hd⟩ : ∃ d, lenR x0 y0 = d := ⟨_, rfl⟩
  refine (try_set (S := fun n => n = X) (P := Left X d) _ _ _ (fun _ => by simp [go_sem]) (fun n hn => by omega) (Left.keep (by omega)) (fun W0 g => ?_)).mono ?_
  · have := lens1_any w.heap.size X x0 y0 0 W0 (ha.grew g) (g.cell cx) (zx.grew g) f0 g0
    rw [hd] at this
    exact this
  rintro e V4 ⟨hW, k, rfl, hk, hc⟩
  have G4 : Grew w V4 := hW.to G3 (fun n hn => by omega)
  replace ha := ha.wrote hW (by omega)
  replace cy := hW.cell cy (by simp)
  have zy : Free V4 (X + 1) := G4.freeB (by omega)
  have s4 : X + 2 ≤ V4.heap.size := by have := hW.size; omega
  clear hW G3 cx zx s3
  go_wp2_with (fail)
  refine (try_set (S := fun n => n = X + 1) (P := Left (X + 1) d) _ _ _ (fun _ => by simp [go_sem]) (fun n hn => by omega) (Left.keep (by omega)) (fun W0 g => ?_)).mono ?_
  · have := lens2_any w.heap.size (X + 1) x0 y0 0 W0 (ha.grew g) (g.cell cy) (zy.grew g) f0 g0 hy
    rw [hd] at this
    exact this
  rintro e V5 ⟨hW, k2, rfl, hk2, hc2⟩
  have G5 : Grew w V5 := hW.to G4 (fun n hn => by omega)
  replace hc := fun h => hW.cell (hc h) (by simp)
  rw [hd] at e3
  clear hW G4 cy zy s4 ha f0 g0 hmf hd
  obtain ⟨q, k0⟩ := d
  simp only at hk hk2 hc hc2 e3
  subst hk; subst hk2
  by_cases h1 : k2 = 0
  · subst h1
    have c1 := hc rfl
    have c2 := hc2 rfl
    clear hc hc2
    go_wp2
    go_ret
    exact ⟨rfl, G5.grown⟩
  · have h1' : (k2 != 0) = true := by simp [h1]
    clear hc hc2
    go_wp2
    go_ret
    exact ⟨rfl, G5.grown⟩

set_option maxRecDepth 100000 in
theorem lifted (os : Os) (started : os.Started) (H : Type) (enc : TypeId × Value → H) :
    ReturnsInHanded {} Try.checked os 8 .any (Rows.vecLengthsSpec.pre6 enc Try.prog Try.f8 Rows.vecLengthsRow.domain false) (Rows.vecLengthsSpec.post enc Try.prog Try.f8 false true false false) := by
  refine returnsInHanded_of_change (C := Try.checked) own started (by kernel_rfl) Try.func8
    (ChangeSpec.witness6 (enc := enc) (C := Try.checked) false ⟨#[], #[.agg #[.int .i64 0, .int .i64 0]], []⟩ 8 (by kernel_rfl) (by kernel_rfl) (by kernel_rfl) (by kernel_rfl)) ?_
  intro W base args ds gs before hval0 hW hcnd _
  have hval : ∀ (j : Nat) t v, Try.f8.params[j]? = some t → args[j]? = some v → Value.okWide Try.prog W .any base t v := hval0
  have hW' := hW
  obtain ⟨p, q, hA0, hV, rfl, hfz, hnd⟩ := hW
  have hA : DataW.TrodAll enc Try.prog W 0 (fun _ => true) true Try.f8.params.toList args.toList ds p := hA0
  rw [Try.params8] at hA hval
  obtain ⟨v0, vs0, d0, ds0, p0, q0, hargs, rfl, rfl, h0, r0⟩ := trodAll_cons hA
  obtain ⟨rfl, rfl, rfl⟩ := trodAll_nil r0
  obtain rfl : args = #[v0] := by cases args; simp_all
  obtain ⟨rfl, rfl⟩ := trodVars_none hV
  obtain ⟨x0, y0, rfl, rfl, rfl, f0, g0⟩ := open_vec (hval 0 24 v0 rfl rfl) h0
  clear hA0 hval0
  simp only [List.append_nil] at hW'
  refine (walk x0 y0 f0 g0 W).mono fun e W' ⟨he, hg⟩ => ?_
  subst he
  exact ⟨_, rfl, post_of_same (pa := []) (pv := []) hW' (fun _ _ _ => (trodAll_cons_mk (shut_bool Try.underlying4 _) trodAll_mk0)) (fun sp _ => (trodAll_cons_mk (shut_vec f0 g0) trodAll_mk0)) (fun _ _ => rfl) rfl
    (hg.frame _) hg.2.1 (ok_one (by kernel_rfl) rfl (okWide_bool_mk Try.underlying4 _))⟩

theorem over : Rows.vecLengthsRow.holds Try.pinned (OpenSpec.ofChange Rows.vecLengthsSpec) :=
  OpenClaim.holds_of_wide 8 Try.f8 rfl rfl rfl rfl rfl rfl rfl ⟨rfl, rfl, rfl, rfl, rfl⟩ rfl rfl rfl rfl rfl (by kernel_rfl) Try.func8 (by kernel_rfl)
    (of_decide_eq_true (by kernel_rfl)) (by unfold Func.isWrapper; first | (rw [if_pos (by decide +kernel)]; kernel_rfl) | (rw [if_neg (by decide +kernel)]; exact ⟨rfl, rfl⟩))
    (fun os started H enc _ => lifted os started H enc)

theorem proved : Rows.VecLengthsSaid :=
  over
end Go.Proofs.Ytfidjlagfnbknaa.vecLengths

namespace Go.Proofs.Ytfidjlagfnbknaa
theorem vecLengths_holds : Rows.VecLengthsSaid := vecLengths.proved
end Go.Proofs.Ytfidjlagfnbknaa
