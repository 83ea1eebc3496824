/-
  Proved: maquettelaw6.VecDots returns true for every two places a and b (their product does not hang on which is first, its error neither, and that of a with itself is not below 0), and leaves what it was given as it was; no condition.
-/
import Derived.Test.YtfidjlagfnbknaaRows
import Derived.Test.YtfidjlagfnbknaaVAlive
import Derived.Test.YtfidjlagfnbknaaVData
import Derived.WalkKit
import Derived.Deep.QuietTactic
import Derived.BigQuiet
import Derived.WalkSpells
import Derived.WalkLawsBesides
import Derived.ProofKit
import Derived.OpenShut
namespace Go.Proofs.Ytfidjlagfnbknaa.vecDots
open Go.ChangeShapes Go.WideShapes Go.ChangeAt Go.RowKit
set_option linter.unusedVariables false

theorem own : ownKnob Try.prog.godebug = none := by kernel_rfl

theorem dot_comm (x y u v : Int) : dotV u v x y = dotV x y u v := by
  unfold dotV
  rw [mulR_comm u x, mulR_comm v y]
theorem sgn_self (x : Int) : sgn x x = false := by unfold sgn; cases decide (x < 0) <;> rfl
theorem mul_self_in (x : Int) : 0 ≤ (mulR x x).1 := by
  unfold mulR
  rw [sgn_self]
  rcases sgR_cases false (mulM x x) with ⟨h, _⟩ | ⟨_, _, h⟩ | ⟨_, _, h⟩
  · cases h
  · rw [h]; exact mulM_nonneg x x
  · rw [h]; exact Int.le_refl 0
theorem dot_self (x y : Int) : 0 ≤ (dotV x y x y).1 := by
  have h1 := mul_self_in x
  have h2 := mul_self_in y
  unfold dotV
  split
  · split
    · unfold addR
      rcases inR_cases ((mulR x x).1 + (mulR y y).1) with ⟨h, _⟩ | ⟨h, _⟩ <;> rw [h]
      · show 0 ≤ (mulR x x).1 + (mulR y y).1
        omega
      · exact Int.le_refl 0
    · exact Int.le_refl 0
  · exact Int.le_refl 0

theorem dots1_any (A B X : Nat) (x y u v z : Int) (W : World) (hA : At W A x y) (hB : At W B u v) (cX : W.cell? ⟨X, 0, none⟩ = some (.int .i64 z)) (zX : Free W X) (fx : inF x) (fy : inF y) (fu : inF u) (fv : inF v) :
    Calls Try.prog 32 #[.pointer (some ⟨A, 0, none⟩), .pointer (some ⟨B, 0, none⟩), .pointer (some ⟨X, 0, none⟩)] W fun e w1 =>
      Wrote (fun n => n = X) W w1 ∧ ∃ k, (e = .returned (.tuple #[]) ∧ k = 0 ∨ e = .panicked [fault k]) ∧ Left X (dotV x y u v) k w1 := by
  have HD : Hid (∀ W, Calls Try.prog 16 #[.agg #[.int .i64 x, .int .i64 y], .agg #[.int .i64 u, .int .i64 v]] W fun e w' => e = outR (dotV x y u v) ∧ Grew W w') := fun W => vdot_any x y u v W fx fy fu fv
  generalize dotV x y u v = d at *
  obtain ⟨a0, a1⟩ := hA
  obtain ⟨b0, b1⟩ := hB
  have zX' := zX 0 none
  obtain ⟨q, k⟩ := d
  by_cases hk : k = 0
  · subst hk
    go_enter Try.func32, Try.ntmps32
    go_wp2_with (first
      | (go_at_call 16; go_fit (HD.out _); rintro e V ⟨rfl, U⟩; have c0 := U.cell cX; have z0 := U.frozen zX'; rw [outR_ok]))
    go_end0
    exact ⟨U.wrote.set (S := fun n => n = X) rfl _ _ _, 0, .inl ⟨rfl, rfl⟩, rfl, fun _ => World.cell?_setCell_same _ _ _ c0⟩
  · go_enter Try.func32, Try.ntmps32
    go_wp2_with (first
      | (go_at_call 16; go_fit (HD.out _); rintro e V ⟨rfl, U⟩; rw [outR_bad hk]))
    exact ⟨rfl, U.wrote, k, .inr rfl, rfl, fun h => absurd h hk⟩
theorem dots2_any (A B X : Nat) (x y u v z : Int) (W : World) (hA : At W A x y) (hB : At W B u v) (cX : W.cell? ⟨X, 0, none⟩ = some (.int .i64 z)) (zX : Free W X) (fx : inF x) (fy : inF y) (fu : inF u) (fv : inF v) :
    Calls Try.prog 33 #[.pointer (some ⟨A, 0, none⟩), .pointer (some ⟨B, 0, none⟩), .pointer (some ⟨X, 0, none⟩)] W fun e w1 =>
      Wrote (fun n => n = X) W w1 ∧ ∃ k, (e = .returned (.tuple #[]) ∧ k = 0 ∨ e = .panicked [fault k]) ∧ Left X (dotV x y u v) k w1 := by
  have HD : Hid (∀ W, Calls Try.prog 16 #[.agg #[.int .i64 x, .int .i64 y], .agg #[.int .i64 u, .int .i64 v]] W fun e w' => e = outR (dotV x y u v) ∧ Grew W w') := fun W => vdot_any x y u v W fx fy fu fv
  generalize dotV x y u v = d at *
  obtain ⟨a0, a1⟩ := hA
  obtain ⟨b0, b1⟩ := hB
  have zX' := zX 0 none
  obtain ⟨q, k⟩ := d
  by_cases hk : k = 0
  · subst hk
    go_enter Try.func33, Try.ntmps33
    go_wp2_with (first
      | (go_at_call 16; go_fit (HD.out _); rintro e V ⟨rfl, U⟩; have c0 := U.cell cX; have z0 := U.frozen zX'; rw [outR_ok]))
    go_end0
    exact ⟨U.wrote.set (S := fun n => n = X) rfl _ _ _, 0, .inl ⟨rfl, rfl⟩, rfl, fun _ => World.cell?_setCell_same _ _ _ c0⟩
  · go_enter Try.func33, Try.ntmps33
    go_wp2_with (first
      | (go_at_call 16; go_fit (HD.out _); rintro e V ⟨rfl, U⟩; rw [outR_bad hk]))
    exact ⟨rfl, U.wrote, k, .inr rfl, rfl, fun h => absurd h hk⟩
theorem dots3_any (A X : Nat) (x y z : Int) (W : World) (hA : At W A x y) (cX : W.cell? ⟨X, 0, none⟩ = some (.int .i64 z)) (zX : Free W X) (fx : inF x) (fy : inF y) :
    Calls Try.prog 34 #[.pointer (some ⟨A, 0, none⟩), .pointer (some ⟨X, 0, none⟩)] W fun e w1 =>
      Wrote (fun n => n = X) W w1 ∧ ∃ k, (e = .returned (.tuple #[]) ∧ k = 0 ∨ e = .panicked [fault k]) ∧ Left X (dotV x y x y) k w1 := by
  have HD : Hid (∀ W, Calls Try.prog 16 #[.agg #[.int .i64 x, .int .i64 y], .agg #[.int .i64 x, .int .i64 y]] W fun e w' => e = outR (dotV x y x y) ∧ Grew W w') := fun W => vdot_any x y x y W fx fy fx fy
  generalize dotV x y x y = d at *
  obtain ⟨a0, a1⟩ := hA
  have zX' := zX 0 none
  obtain ⟨q, k⟩ := d
  by_cases hk : k = 0
  · subst hk
    go_enter Try.func34, Try.ntmps34
    go_wp2_with (first
      | (go_at_call 16; go_fit (HD.out _); rintro e V ⟨rfl, U⟩; have c0 := U.cell cX; have z0 := U.frozen zX'; rw [outR_ok]))
    go_end0
    exact ⟨U.wrote.set (S := fun n => n = X) rfl _ _ _, 0, .inl ⟨rfl, rfl⟩, rfl, fun _ => World.cell?_setCell_same _ _ _ c0⟩
  · go_enter Try.func34, Try.ntmps34
    go_wp2_with (first
      | (go_at_call 16; go_fit (HD.out _); rintro e V ⟨rfl, U⟩; rw [outR_bad hk]))
    exact ⟨rfl, U.wrote, k, .inr rfl, rfl, fun h => absurd h hk⟩

set_option maxHeartbeats 1000000 in
theorem walk (x0 y0 : Int) (f0 : inF x0) (g0 : inF y0) (x1 y1 : Int) (f1 : inF x1) (g1 : inF y1) (w : World) :
    Calls Try.prog 6 #[vec x0 y0, vec x1 y1] w fun e w' => e = .returned (.bool true) ∧ Grown w w' := by
  have hmf := mk_func
  have e2 := dot_comm x0 y0 x1 y1
  have e3 := dot_self x0 y0
  obtain ⟨d, hd⟩ : ∃ d, dotV x0 y0 x1 y1 = d := ⟨_, rfl⟩
  obtain ⟨s, hs⟩ : ∃ s, dotV x0 y0 x0 y0 = s := ⟨_, rfl⟩
  rw [hd] at e2
  rw [hs] at e3
  have D1 : Hid (_ = _) := hd; have D2 : Hid (_ = _) := e2; have D3 : Hid (_ = _) := hs
  clear hd e2 hs
  unfold vec
  go_enter Try.func6, Try.ntmps6
  go_wp2_with (first
    | (go_at_call 9; refine (alive_any _).mono ?_; rintro e V ⟨rfl, G⟩))
  have G1 : Grew w V := (((Grew.refl w).alloc _ _).alloc _ _).trans G
  have ha : At V w.heap.size x0 y0 := ⟨G.cell (by simp [go_sem]), G.cell (by simp [go_sem])⟩
  have hb : At V (w.heap.size + 1) x1 y1 := ⟨G.cell (by simp [go_sem]), G.cell (by simp [go_sem])⟩
  have hsz : w.heap.size + 1 < V.heap.size := cell_block hb.1
  clear G
  obtain ⟨V3, hV3⟩ : ∃ V3, V3 = ((V.alloc (.cells #[.int .i64 0] 22)).alloc (.cells #[.int .i64 0] 22)).alloc (.cells #[.int .i64 0] 22) := ⟨_, rfl⟩
  rw [← hV3]
  have g3 : Grew V V3 := by rw [hV3]; exact (((Grew.refl V).alloc _ _).alloc _ _).alloc _ _
  have s3 : V3.heap.size = V.heap.size + 3 := by rw [hV3]; simp [go_sem]
  have cx : V3.cell? ⟨V.heap.size, 0, none⟩ = some (.int .i64 0) := by rw [hV3]; simp [go_sem]
  have cy : V3.cell? ⟨V.heap.size + 1, 0, none⟩ = some (.int .i64 0) := by rw [hV3]; simp [go_sem]
  have cz : V3.cell? ⟨V.heap.size + 1 + 1, 0, none⟩ = some (.int .i64 0) := by rw [hV3]; simp [go_sem]
  have zx : Free V3 V.heap.size := g3.freeB (by omega)
  have zy : Free V3 (V.heap.size + 1) := g3.freeB (by omega)
  have zz : Free V3 (V.heap.size + 1 + 1) := g3.freeB (by omega)
  have G3 := G1.trans g3
  replace ha := ha.grew g3
  replace hb := hb.grew g3
  have lw := G1.size
  obtain ⟨X, hX⟩ : ∃ X, X = V.heap.size := ⟨_, rfl⟩
  rw [← hX] at cx cy cz zx zy zz s3 lw hsz ⊢
  clear hV3 g3 hX
  refine (try_set (S := fun n => n = X) (P := Left X d) _ _ _ (fun _ => by simp [go_sem]) (fun n hn => by omega) (Left.keep (by omega)) (fun W0 g => ?_)).mono ?_
  · have := dots1_any w.heap.size (w.heap.size + 1) X x0 y0 x1 y1 0 W0 (ha.grew g) (hb.grew g) (g.cell cx) (zx.grew g) f0 g0 f1 g1
    rw [D1.out] at this
    exact this
  rintro e V4 ⟨hW, k, rfl, hk, hc⟩
  have G4 : Grew w V4 := hW.to G3 (fun n hn => by omega)
  replace ha := ha.wrote hW (by omega)
  replace hb := hb.wrote hW (by omega)
  replace cy := hW.cell cy (by simp)
  replace cz := hW.cell cz (by simp; omega)
  replace zy : Free V4 (X + 1) := G4.freeB (by omega)
  replace zz : Free V4 (X + 1 + 1) := G4.freeB (by omega)
  have s4 : X + 3 ≤ V4.heap.size := by have := hW.size; omega
  clear hW G3 cx zx s3
  go_wp2_with (fail)
  refine (try_set (S := fun n => n = X + 1) (P := Left (X + 1) d) _ _ _ (fun _ => by simp [go_sem]) (fun n hn => by omega) (Left.keep (by omega)) (fun W0 g => ?_)).mono ?_
  · have := dots2_any (w.heap.size + 1) w.heap.size (X + 1) x1 y1 x0 y0 0 W0 (hb.grew g) (ha.grew g) (g.cell cy) (zy.grew g) f1 g1 f0 g0
    rw [D2.out] at this
    exact this
  rintro e V5 ⟨hW, k2, rfl, hk2, hc2⟩
  have G5 : Grew w V5 := hW.to G4 (fun n hn => by omega)
  replace ha := ha.wrote hW (by omega)
  replace cz := hW.cell cz (by simp)
  replace zz : Free V5 (X + 1 + 1) := G5.freeB (by omega)
  have s5 : X + 3 ≤ V5.heap.size := by have := hW.size; omega
  replace hc := fun h => hW.cell (hc h) (by simp)
  clear hW G4 cy zy s4 hb
  go_wp2_with (fail)
  refine (try_set (S := fun n => n = X + 1 + 1) (P := Left (X + 1 + 1) s) _ _ _ (fun _ => by simp [go_sem]) (fun n hn => by omega) (Left.keep (by omega)) (fun W0 g => ?_)).mono ?_
  · have := dots3_any w.heap.size (X + 1 + 1) x0 y0 0 W0 (ha.grew g) (g.cell cz) (zz.grew g) f0 g0
    rw [D3.out] at this
    exact this
  rintro e V6 ⟨hW, k3, rfl, hk3, hc3⟩
  have G6 : Grew w V6 := hW.to G5 (fun n hn => by omega)
  replace hc := fun h => hW.cell (hc h) (by simp; omega)
  replace hc2 := fun h => hW.cell (hc2 h) (by simp)
  clear hW G5 cz zz s5 ha f0 g0 f1 g1 D1 D2 D3 hmf
  obtain ⟨q, k0⟩ := d
  obtain ⟨r, l0⟩ := s
  simp only at hk hk2 hk3 hc hc2 hc3 e3
  subst hk; subst hk2; subst hk3
  by_cases h1 : k2 = 0
  · subst h1
    have c1 := hc rfl
    have c2 := hc2 rfl
    by_cases h3 : k3 = 0
    · subst h3
      have c3 := hc3 rfl
      clear hc hc2 hc3
      go_wp2
      go_ret
      exact ⟨rfl, G6.grown⟩
    · have h3' : (k3 != 0) = true := by simp [h3]
      clear hc hc2 hc3
      go_wp2
      go_ret
      exact ⟨rfl, G6.grown⟩
  · have h1' : (k2 != 0) = true := by simp [h1]
    by_cases h3 : k3 = 0
    · subst h3
      have c3 := hc3 rfl
      clear hc hc2 hc3
      go_wp2
      go_ret
      exact ⟨rfl, G6.grown⟩
    · have h3' : (k3 != 0) = true := by simp [h3]
      clear hc hc2 hc3
      go_wp2
      go_ret
      exact ⟨rfl, G6.grown⟩

set_option maxRecDepth 100000 in
theorem lifted (os : Os) (started : os.Started) (H : Type) (enc : TypeId × Value → H) :
    ReturnsInHanded {} Try.checked os 6 .any (Rows.vecDotsSpec.pre6 enc Try.prog Try.f6 Rows.vecDotsRow.domain false) (Rows.vecDotsSpec.post enc Try.prog Try.f6 false true false false) := by
  refine returnsInHanded_of_change (C := Try.checked) own started (by kernel_rfl) Try.func6
    (ChangeSpec.witness6 (enc := enc) (C := Try.checked) false ⟨#[], #[.agg #[.int .i64 0, .int .i64 0], .agg #[.int .i64 0, .int .i64 0]], []⟩ 8 (by kernel_rfl) (by kernel_rfl) (by kernel_rfl) (by kernel_rfl)) ?_
  intro W base args ds gs before hval0 hW hcnd _
  have hval : ∀ (j : Nat) t v, Try.f6.params[j]? = some t → args[j]? = some v → Value.okWide Try.prog W .any base t v := hval0
  have hW' := hW
  obtain ⟨p, q, hA0, hV, rfl, hfz, hnd⟩ := hW
  have hA : DataW.TrodAll enc Try.prog W 0 (fun _ => true) true Try.f6.params.toList args.toList ds p := hA0
  rw [Try.params6] at hA hval
  obtain ⟨v0, vs0, d0, ds0, p0, q0, hargs, rfl, rfl, h0, r0⟩ := trodAll_cons hA
  obtain ⟨v1, vs1, d1, ds1, p1, q1, rfl, rfl, rfl, h1, r1⟩ := trodAll_cons r0
  obtain ⟨rfl, rfl, rfl⟩ := trodAll_nil r1
  obtain rfl : args = #[v0, v1] := by cases args; simp_all
  obtain ⟨rfl, rfl⟩ := trodVars_none hV
  obtain ⟨x0, y0, rfl, rfl, rfl, f0, g0⟩ := open_vec (hval 0 24 v0 rfl rfl) h0
  obtain ⟨x1, y1, rfl, rfl, rfl, f1, g1⟩ := open_vec (hval 1 24 v1 rfl rfl) h1
  clear hA0 hval0
  simp only [List.append_nil] at hW'
  refine (walk x0 y0 f0 g0 x1 y1 f1 g1 W).mono fun e W' ⟨he, hg⟩ => ?_
  subst he
  exact ⟨_, rfl, post_of_same (pa := []) (pv := []) hW' (fun _ _ _ => (trodAll_cons_mk (shut_bool Try.underlying4 _) trodAll_mk0)) (fun sp _ => (trodAll_cons_mk (shut_vec f0 g0) (trodAll_cons_mk (shut_vec f1 g1) trodAll_mk0))) (fun _ _ => rfl) rfl
    (hg.frame _) hg.2.1 (ok_one (by kernel_rfl) rfl (okWide_bool_mk Try.underlying4 _))⟩

theorem over : Rows.vecDotsRow.holds Try.pinned (OpenSpec.ofChange Rows.vecDotsSpec) :=
  OpenClaim.holds_of_wide 6 Try.f6 rfl rfl rfl rfl rfl rfl rfl ⟨rfl, rfl, rfl, rfl, rfl⟩ rfl rfl rfl rfl rfl (by kernel_rfl) Try.func6 (by kernel_rfl)
    (of_decide_eq_true (by kernel_rfl)) (by unfold Func.isWrapper; first | (rw [if_pos (by decide +kernel)]; kernel_rfl) | (rw [if_neg (by decide +kernel)]; exact ⟨rfl, rfl⟩))
    (fun os started H enc _ => lifted os started H enc)

theorem proved : Rows.VecDotsSaid :=
  over
end Go.Proofs.Ytfidjlagfnbknaa.vecDots

namespace Go.Proofs.Ytfidjlagfnbknaa
theorem vecDots_holds : Rows.VecDotsSaid := vecDots.proved
end Go.Proofs.Ytfidjlagfnbknaa
