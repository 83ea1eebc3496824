/-
  For every a, b and op CalcTells returns true: Try of a call of calc tells what fix tells of the same call, its value where there is no error, and nothing behind an error is done.
-/
import Derived.Test.YtjkidepgjbnflaaRows
import Derived.Test.YtjkidepgjbnflaaCAlive
import Derived.WalkKit
import Derived.WalkSpells
import Derived.WalkLawsBesides
import Derived.ProofKit
import Derived.OpenShut
import Derived.ShutString
namespace Go.Proofs.Ytjkidepgjbnflaa.calcTells
open Go.ChangeShapes Go.WideShapes Go.ChangeAt Go.RowKit
open Go.ChangeMaps (open_string shut_string)
set_option linter.unusedVariables false

theorem own : ownKnob Try.prog.godebug = none := by kernel_rfl

theorem four_ways {a k : Int} (h : k = (wrap64 (a.tmod 4 + 4)).tmod 4) : k = 0 ∨ k = 1 ∨ k = 2 ∨ k = 3 := by
  have h1 := Int.tmod_lt_of_pos a (show (0 : Int) < 4 by decide)
  have h2 : -4 < a.tmod 4 := by
    have := Int.tmod_lt_of_pos (-a) (show (0 : Int) < 4 by decide)
    rw [Int.neg_tmod] at this
    omega
  rw [IntWalk.wrap64_in _ ⟨by omega, by omega⟩, Int.tmod_eq_emod_of_nonneg (by omega)] at h
  omega

def opR (k a b : Int) : Int × Int := if k = 0 then addR a b else if k = 1 then subR a b else if k = 2 then mulR a b else divR a b

theorem one_ok (k a b : Int) (hk : k = 0 ∨ k = 1 ∨ k = 2 ∨ k = 3) (fa : inF a) (fb : inF b) (h : (opR k a b).2 = 0) (p pa pb x y : Addr) (u : Int) (w : World)
    (ck : w.cell? p = some (.int .i64 k)) (ca : w.cell? pa = some (.int .i64 a)) (cb : w.cell? pb = some (.int .i64 b)) (cx : w.cell? x = some (.int .i64 u)) (cy : w.cell? y = some (.bool false))
    (zx : w.frozen? x = false) (zy : w.frozen? y = false) (hxy : x.block ≠ y.block) :
    Calls Try.prog 11 #[.pointer (some p), .pointer (some pa), .pointer (some pb), .pointer (some x), .pointer (some y)] w fun e w' =>
      e = .returned (.tuple #[]) ∧ ∃ W, Grew w W ∧ w' = (W.setCell x (.int .i64 (opR k a b).1)).setCell y (.bool true) := by
  have cy' : ∀ v, (w.setCell x v).cell? y = some (.bool false) := fun v => (past_setCell x.block w x.off x.spot v).cell (fun e => hxy e.symm) cy
  have zy' : ∀ v, (w.setCell x v).frozen? y = false := fun v => (World.frozen?_setCell _ _ _ _).trans zy
  obtain ⟨r, hr⟩ : ∃ r, r = opR k a b := ⟨_, rfl⟩
  rw [← hr] at h ⊢
  have HR : Hid (opR k a b = r) := hr.symm
  have ho : outR r = .returned (.int .i64 r.1) := if_pos h
  clear hr h
  rcases hk with rfl | rfl | rfl | rfl
  all_goals
    go_enter Try.func11, Try.ntmps11
    go_wp2_with (first
      | (go_at_call 12; refine (cadd_any _ _ _ fa fb).mono ?_; rintro e w' ⟨rfl, rfl⟩; rw [show addR a b = r from HR.out, ho])
      | (go_at_call 13; refine (csub_any _ _ _ fa fb).mono ?_; rintro e w' ⟨rfl, rfl⟩; rw [show subR a b = r from HR.out, ho])
      | (go_at_call 14; refine (cmul_any _ _ _ fa fb).mono ?_; rintro e w' ⟨rfl, rfl⟩; rw [show mulR a b = r from HR.out, ho])
      | (go_at_call 15; refine (cdiv_any _ _ _ fa fb).mono ?_; rintro e w' ⟨rfl, n, hn⟩; have G : Grew w w' := (by rw [hn]; exact (Grew.refl w).drewN n); have cx1 := G.cell cx; have zx1 := G.frozen zx; have cy1 := (fun v => (past_setCell x.block w' x.off x.spot v).cell (fun e => hxy e.symm) (G.cell cy) : ∀ v, (w'.setCell x v).cell? y = some (.bool false)); have zy1 := (fun v => (World.frozen?_setCell _ _ _ _).trans (G.frozen zy) : ∀ v, (w'.setCell x v).frozen? y = false); clear hn; rw [show divR a b = r from HR.out, ho]))
  all_goals
    go_end0
    first | exact ⟨rfl, _, Grew.refl _, rfl⟩ | exact ⟨rfl, _, G, rfl⟩

theorem one_bad (k a b : Int) (hk : k = 0 ∨ k = 1 ∨ k = 2 ∨ k = 3) (fa : inF a) (fb : inF b) (h : ¬ (opR k a b).2 = 0) (p pa pb x y : Addr) (w : World)
    (ck : w.cell? p = some (.int .i64 k)) (ca : w.cell? pa = some (.int .i64 a)) (cb : w.cell? pb = some (.int .i64 b)) :
    Calls Try.prog 11 #[.pointer (some p), .pointer (some pa), .pointer (some pb), .pointer (some x), .pointer (some y)] w fun e w' =>
      e = .panicked [fault (opR k a b).2] ∧ Grew w w' := by
  obtain ⟨r, hr⟩ : ∃ r, r = opR k a b := ⟨_, rfl⟩
  rw [← hr] at h ⊢
  have HR : Hid (opR k a b = r) := hr.symm
  have ho : outR r = .panicked [fault r.2] := if_neg h
  clear hr h
  rcases hk with rfl | rfl | rfl | rfl
  all_goals
    go_enter Try.func11, Try.ntmps11
    go_wp2_with (first
      | (go_at_call 12; refine (cadd_any _ _ _ fa fb).mono ?_; rintro e w' ⟨rfl, rfl⟩; rw [show addR a b = r from HR.out, ho])
      | (go_at_call 13; refine (csub_any _ _ _ fa fb).mono ?_; rintro e w' ⟨rfl, rfl⟩; rw [show subR a b = r from HR.out, ho])
      | (go_at_call 14; refine (cmul_any _ _ _ fa fb).mono ?_; rintro e w' ⟨rfl, rfl⟩; rw [show mulR a b = r from HR.out, ho])
      | (go_at_call 15; refine (cdiv_any _ _ _ fa fb).mono ?_; rintro e w' ⟨rfl, n, rfl⟩; rw [show divR a b = r from HR.out, ho]))
  all_goals first | exact ⟨rfl, rfl, Grew.refl _⟩ | exact ⟨rfl, rfl, (Grew.refl _).drewN n⟩
theorem walk (a0 : Int) (a1 : Int) (a2 : Int) (w0 : (Lit.int .i64 a0).wf = true) (w1 : (Lit.int .i64 a1).wf = true) (w2 : (Lit.int .i64 a2).wf = true) (w : World) :
    Calls Try.prog 3 #[.int .i64 a0, .int .i64 a1, .int .i64 a2] w fun e w' => e = .returned (.bool true) ∧ Grown w w' := by
  have fa := inF_wf w0
  have fb := inF_wf w1
  have hmf := mk_func
  go_enter Try.func3, Try.ntmps3
  go_wp2_with (first
    | (go_at_call 9; refine (alive_any _).mono ?_; rintro e w' ⟨rfl, G⟩))
  have Ga : Grew w w' := (((Grew.refl w).alloc _ _).alloc _ _).trans G
  have ca : w'.cell? ⟨w.heap.size, 0, none⟩ = some (.int .i64 a0) := G.cell (by simp [go_sem])
  have cb : w'.cell? ⟨w.heap.size + 1, 0, none⟩ = some (.int .i64 a1) := G.cell (by simp [go_sem])
  have sz : w.heap.size + 1 < w'.heap.size := cell_block cb
  obtain ⟨κ, hκ⟩ : ∃ κ, κ = (wrap64 (a2.tmod 4 + 4)).tmod 4 := ⟨_, rfl⟩
  have hk : κ = 0 ∨ κ = 1 ∨ κ = 2 ∨ κ = 3 := four_ways hκ
  rw [← hκ]
  clear G hκ
  refine try_wp 11 _ _ _ (fun _ => by simp [go_sem]) ?_
  obtain ⟨W, hW⟩ : ∃ W, W = (((w'.alloc (.cells #[.int .i64 0] 22)).alloc (.cells #[.bool false] 4)).alloc (.cells #[.int .i64 κ] 3)).alloc (.cells #[.int .i64 0] 24) := ⟨_, rfl⟩
  have GW : Grew w' W := by rw [hW]; exact ((((Grew.refl w').alloc _ _).alloc _ _).alloc _ _).alloc _ _
  have cx : W.cell? ⟨w'.heap.size, 0, none⟩ = some (.int .i64 0) := by rw [hW]; simp [go_sem]
  have cy : W.cell? ⟨w'.heap.size + 1, 0, none⟩ = some (.bool false) := by rw [hW]; simp [go_sem]
  have ck : W.cell? ⟨w'.heap.size + 1 + 1, 0, none⟩ = some (.int .i64 κ) := by rw [hW]; simp [go_sem]
  have ce : W.cell? ⟨w'.heap.size + 3, 0, none⟩ = some (.int .i64 0) := by rw [hW]; simp [go_sem]
  have hs : (((w'.alloc (.cells #[.int .i64 0] 22)).alloc (.cells #[.bool false] 4)).alloc (.cells #[.int .i64 κ] 3)).heap.size = w'.heap.size + 3 := by simp [go_sem]
  rw [← hW, hs]
  clear hW hs
  have G0 := Ga.trans GW
  have ca1 := GW.cell ca
  have cb1 := GW.cell cb
  by_cases hx : (opR κ a0 a1).2 = 0
  · refine (one_ok κ a0 a1 hk fa fb hx _ _ _ ⟨w'.heap.size, 0, none⟩ ⟨w'.heap.size + 1, 0, none⟩ 0 W ck ca1 cb1 cx cy (GW.free (by simp)) (GW.free (by simp)) (by simp)).mono ?_
    rintro e w1 ⟨rfl, W1, G1, rfl⟩
    have G2 := ((G0.trans G1).setCell (a := ⟨w'.heap.size, 0, none⟩) (by simp; omega) (.int .i64 (opR κ a0 a1).1)).setCell (a := ⟨w'.heap.size + 1, 0, none⟩) (by simp; omega) (.bool true)
    have pa := (past_setCell w'.heap.size W1 0 none (.int .i64 (opR κ a0 a1).1))
    have pb := (past_setCell (w'.heap.size + 1) (W1.setCell ⟨w'.heap.size, 0, none⟩ (.int .i64 (opR κ a0 a1).1)) 0 none (.bool true))
    refine ⟨pb.cell (by simp) (pa.cell (by simp) (G1.cell ce)), G2.free (by simp; omega), 0, .inl ⟨rfl, rfl⟩, fun W2 hP => ?_⟩
    have G3 := hP.grew w (by omega) G2
    have ca2 := hP.cell (by simp; omega) (pb.cell (by simp; omega) (pa.cell (by simp; omega) (G1.cell ca1)))
    have cb2 := hP.cell (by simp; omega) (pb.cell (by simp; omega) (pa.cell (by simp; omega) (G1.cell cb1)))
    have ck2 := hP.cell (by simp) (pb.cell (by simp) (pa.cell (by simp; omega) (G1.cell ck)))
    have cx2 := hP.cell (p := ⟨w'.heap.size, 0, none⟩) (by simp) (pb.cell (by simp) (World.cell?_setCell_same _ _ _ (G1.cell cx)))
    have cy2 := hP.cell (p := ⟨w'.heap.size + 1, 0, none⟩) (by simp) (World.cell?_setCell_same _ _ (.bool true) (pa.cell (p := ⟨w'.heap.size + 1, 0, none⟩) (by simp) (G1.cell cy)))
    obtain ⟨r, hr⟩ : ∃ r, r = opR κ a0 a1 := ⟨_, rfl⟩
    rw [← hr] at cx2 hx
    have HR : Hid (opR κ a0 a1 = r) := hr.symm
    clear hP pa pb hr G2 G1 ca1 cb1 ck cx cy ce G0 GW ca cb Ga
    obtain ⟨v, y⟩ := r
    simp only at hx cx2
    subst hx
    rcases hk with rfl | rfl | rfl | rfl
    all_goals
      go_wp2_with (first
      | (go_at_call 16; refine (add_any _ _ _ fa fb).mono ?_; rintro e w' ⟨rfl, rfl⟩; rw [show addR a0 a1 = (v, 0) from HR.out])
      | (go_at_call 17; refine (sub_any _ _ _ fa fb).mono ?_; rintro e w' ⟨rfl, rfl⟩; rw [show subR a0 a1 = (v, 0) from HR.out])
      | (go_at_call 18; refine (mul_any _ _ _ fa fb).mono ?_; rintro e w' ⟨rfl, rfl⟩; rw [show mulR a0 a1 = (v, 0) from HR.out])
      | (go_at_call 19; refine (div_any _ _ _ fa fb).mono ?_; rintro e w' ⟨rfl, n, rfl⟩; rw [show divR a0 a1 = (v, 0) from HR.out]))
    all_goals
      go_ret
      first | exact ⟨rfl, G3.grown⟩ | exact ⟨rfl, (G3.drewN n).grown⟩
  · refine (one_bad κ a0 a1 hk fa fb hx _ _ _ ⟨w'.heap.size, 0, none⟩ ⟨w'.heap.size + 1, 0, none⟩ W ck ca1 cb1).mono ?_
    rintro e W1 ⟨rfl, G1⟩
    have G2 := G0.trans G1
    refine ⟨G1.cell ce, G2.free (by simp; omega), (opR κ a0 a1).2, .inr rfl, fun W2 hP => ?_⟩
    have G3 := hP.grew w (by omega) G2
    have ca2 := hP.cell (by simp; omega) (G1.cell ca1)
    have cb2 := hP.cell (by simp; omega) (G1.cell cb1)
    have ck2 := hP.cell (by simp) (G1.cell ck)
    have cx2 := hP.cell (p := ⟨w'.heap.size, 0, none⟩) (by simp) (G1.cell cx)
    have cy2 := hP.cell (p := ⟨w'.heap.size + 1, 0, none⟩) (by simp) (G1.cell cy)
    obtain ⟨r, hr⟩ : ∃ r, r = opR κ a0 a1 := ⟨_, rfl⟩
    rw [← hr] at hx ⊢
    have HR : Hid (opR κ a0 a1 = r) := hr.symm
    clear hP hr G2 G1 ca1 cb1 ck cx cy ce G0 GW ca cb Ga
    obtain ⟨v, y⟩ := r
    simp only at hx ⊢
    have e1 : (y == 0) = false := by simp [hx]
    have e2 : (y != 0) = true := by simp [hx]
    rcases hk with rfl | rfl | rfl | rfl
    all_goals
      go_wp2_with (first
      | (go_at_call 16; refine (add_any _ _ _ fa fb).mono ?_; rintro e w' ⟨rfl, rfl⟩; rw [show addR a0 a1 = (v, y) from HR.out])
      | (go_at_call 17; refine (sub_any _ _ _ fa fb).mono ?_; rintro e w' ⟨rfl, rfl⟩; rw [show subR a0 a1 = (v, y) from HR.out])
      | (go_at_call 18; refine (mul_any _ _ _ fa fb).mono ?_; rintro e w' ⟨rfl, rfl⟩; rw [show mulR a0 a1 = (v, y) from HR.out])
      | (go_at_call 19; refine (div_any _ _ _ fa fb).mono ?_; rintro e w' ⟨rfl, n, rfl⟩; rw [show divR a0 a1 = (v, y) from HR.out]))
    all_goals
      go_ret
      first | exact ⟨rfl, G3.grown⟩ | exact ⟨rfl, (G3.drewN n).grown⟩

set_option maxRecDepth 100000 in
theorem lifted (os : Os) (started : os.Started) (H : Type) (enc : TypeId × Value → H) :
    ReturnsInHanded {} Try.checked os 3 .any (Rows.calcTellsSpec.pre6 enc Try.prog Try.f3 Rows.calcTellsRow.domain false) (Rows.calcTellsSpec.post enc Try.prog Try.f3 false true false false) := by
  refine returnsInHanded_of_change (C := Try.checked) own started (by kernel_rfl) Try.func3
    (ChangeSpec.witness6 (enc := enc) (C := Try.checked) false ⟨#[], #[.int .i64 0, .int .i64 0, .int .i64 0], []⟩ 8 (by kernel_rfl) (by kernel_rfl) (by kernel_rfl) (by kernel_rfl)) ?_
  intro W base args ds gs before hval0 hW hcnd _
  have hval : ∀ (j : Nat) t v, Try.f3.params[j]? = some t → args[j]? = some v → Value.okWide Try.prog W .any base t v := hval0
  have hW' := hW
  obtain ⟨p, q, hA0, hV, rfl, hfz, hnd⟩ := hW
  have hA : DataW.TrodAll enc Try.prog W 0 (fun _ => true) true Try.f3.params.toList args.toList ds p := hA0
  rw [Try.params3] at hA hval
  obtain ⟨v0, vs0, d0, ds0, p0, q0, hargs, rfl, rfl, h0, r0⟩ := trodAll_cons hA
  obtain ⟨v1, vs1, d1, ds1, p1, q1, rfl, rfl, rfl, h1, r1⟩ := trodAll_cons r0
  obtain ⟨v2, vs2, d2, ds2, p2, q2, rfl, rfl, rfl, h2, r2⟩ := trodAll_cons r1
  obtain ⟨rfl, rfl, rfl⟩ := trodAll_nil r2
  obtain rfl : args = #[v0, v1, v2] := by cases args; simp_all
  obtain ⟨rfl, rfl⟩ := trodVars_none hV
  obtain ⟨a0, rfl, rfl, rfl, w0⟩ := open_int Try.underlying22 (hval 0 22 v0 rfl rfl) h0
  obtain ⟨a1, rfl, rfl, rfl, w1⟩ := open_int Try.underlying22 (hval 1 22 v1 rfl rfl) h1
  obtain ⟨a2, rfl, rfl, rfl, w2⟩ := open_int Try.underlying3 (hval 2 3 v2 rfl rfl) h2
  clear hA0 hval0
  simp only [List.append_nil] at hW'
  refine (walk a0 a1 a2 w0 w1 w2 W).mono fun e W' ⟨he, hg⟩ => ?_
  subst he
  exact ⟨_, rfl, post_of_same (pa := []) (pv := []) hW' (fun _ _ _ => (trodAll_cons_mk (shut_bool Try.underlying4 _) trodAll_mk0)) (fun sp _ => (trodAll_cons_mk (shut_int Try.underlying22 w0) (trodAll_cons_mk (shut_int Try.underlying22 w1) (trodAll_cons_mk (shut_int Try.underlying3 w2) trodAll_mk0)))) (fun _ _ => rfl) rfl
    (hg.frame _) hg.2.1 (ok_one (by kernel_rfl) rfl (okWide_bool_mk Try.underlying4 _))⟩

theorem over : Rows.calcTellsRow.holds Try.pinned (OpenSpec.ofChange Rows.calcTellsSpec) :=
  OpenClaim.holds_of_wide 3 Try.f3 rfl rfl rfl rfl rfl rfl rfl ⟨rfl, rfl, rfl, rfl, rfl⟩ rfl rfl rfl rfl rfl (by kernel_rfl) Try.func3 (by kernel_rfl)
    (of_decide_eq_true (by kernel_rfl)) (by unfold Func.isWrapper; first | (rw [if_pos (by decide +kernel)]; kernel_rfl) | (rw [if_neg (by decide +kernel)]; exact ⟨rfl, rfl⟩))
    (fun os started H enc _ => lifted os started H enc)

theorem proved : Rows.CalcTellsSaid :=
  over
end Go.Proofs.Ytjkidepgjbnflaa.calcTells

namespace Go.Proofs.Ytjkidepgjbnflaa
theorem calcTells_holds : Rows.CalcTellsSaid := calcTells.proved
end Go.Proofs.Ytjkidepgjbnflaa
