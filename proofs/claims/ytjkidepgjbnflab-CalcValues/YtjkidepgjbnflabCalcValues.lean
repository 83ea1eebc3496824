/-
  For every a and b CalcValues returns true: Try of a difference a - a and of b divided by it tells the first value and the error of the second.
-/
import Derived.Test.YtjkidepgjbnflabRows
import Derived.Test.YtjkidepgjbnflabCAlive
import Derived.WalkKit
import Derived.WalkSpells
import Derived.WalkLawsBesides
import Derived.ProofKit
import Derived.OpenShut
import Derived.ShutString
namespace Go.Proofs.Ytjkidepgjbnflab.calcValues
open Go.ChangeShapes Go.WideShapes Go.ChangeAt Go.RowKit
open Go.ChangeMaps (open_string shut_string)
set_option linter.unusedVariables false

theorem own : ownKnob Try.prog.godebug = none := by kernel_rfl

theorem vals (a b u : Int) (fa : inF a) (fb : inF b) (pa pf pb ps : Addr) (w : World)
    (ca : w.cell? pa = some (.int .i64 a)) (cb : w.cell? pb = some (.int .i64 b)) (cf : w.cell? pf = some (.int .i64 u)) (zf : w.frozen? pf = false) (hne : pb.block ≠ pf.block) :
    Calls Try.prog 9 #[.pointer (some pa), .pointer (some pf), .pointer (some pb), .pointer (some ps)] w fun e w' =>
      e = .panicked [fault 4] ∧ Grew (w.setCell pf (.int .i64 0)) w' := by
  have cb' : ∀ v, (w.setCell pf v).cell? pb = some (.int .i64 b) := fun v => (past_setCell pf.block w pf.off pf.spot v).cell hne cb
  have h1 : outR (subR a a) = .returned (.int .i64 0) := by rw [show subR a a = (0, 0) from by rw [subR, Int.sub_self]; rfl]; rfl
  have h2 : outR (divR b 0) = .panicked [fault 4] := rfl
  go_enter Try.func9, Try.ntmps9
  go_wp2_with (first
    | (go_at_call 10; refine (csub_any _ _ _ fa fa).mono ?_; rintro e w' ⟨rfl, rfl⟩; rw [h1])
    | (go_at_call 11; refine (cdiv_any _ _ _ fb ⟨by decide, by decide⟩).mono ?_; rintro e w' ⟨rfl, n, rfl⟩; rw [h2]))
  exact ⟨rfl, rfl, (Grew.refl _).drewN n⟩
theorem walk (a0 : Int) (a1 : Int) (w0 : (Lit.int .i64 a0).wf = true) (w1 : (Lit.int .i64 a1).wf = true) (w : World) :
    Calls Try.prog 4 #[.int .i64 a0, .int .i64 a1] w fun e w' => e = .returned (.bool true) ∧ Grown w w' := by
  have fa := inF_wf w0
  have fb := inF_wf w1
  have hmf := mk_func
  go_enter Try.func4, Try.ntmps4
  go_wp2_with (first
    | (go_at_call 5; refine (alive_any _).mono ?_; rintro e w' ⟨rfl, G⟩))
  have Ga : Grew w w' := (((Grew.refl w).alloc _ _).alloc _ _).trans G
  have ca : w'.cell? ⟨w.heap.size, 0, none⟩ = some (.int .i64 a0) := G.cell (by simp [go_sem])
  have cb : w'.cell? ⟨w.heap.size + 1, 0, none⟩ = some (.int .i64 a1) := G.cell (by simp [go_sem])
  have sz : w.heap.size + 1 < w'.heap.size := cell_block cb
  clear G
  refine try_wp 9 _ _ _ (fun _ => by simp [go_sem]) ?_
  obtain ⟨W, hW⟩ : ∃ W, W = ((w'.alloc (.cells #[.int .i64 7] 24)).alloc (.cells #[.int .i64 7] 24)).alloc (.cells #[.int .i64 0] 25) := ⟨_, rfl⟩
  have GW : Grew w' W := by rw [hW]; exact (((Grew.refl w').alloc _ _).alloc _ _).alloc _ _
  have cf : W.cell? ⟨w'.heap.size, 0, none⟩ = some (.int .i64 7) := by rw [hW]; simp [go_sem]
  have cs : W.cell? ⟨w'.heap.size + 1, 0, none⟩ = some (.int .i64 7) := by rw [hW]; simp [go_sem]
  have ce : W.cell? ⟨w'.heap.size + 2, 0, none⟩ = some (.int .i64 0) := by rw [hW]; simp [go_sem]
  have hs : ((w'.alloc (.cells #[.int .i64 7] 24)).alloc (.cells #[.int .i64 7] 24)).heap.size = w'.heap.size + 2 := by simp [go_sem]
  rw [← hW, hs]
  clear hW hs
  have G0 := Ga.trans GW
  refine (vals a0 a1 7 fa fb _ ⟨w'.heap.size, 0, none⟩ _ _ W (GW.cell ca) (GW.cell cb) cf (GW.free (by simp)) (by simp; omega)).mono ?_
  rintro e w1 ⟨rfl, G1⟩
  have G2 := (G0.setCell (a := ⟨w'.heap.size, 0, none⟩) (by simp; omega) (.int .i64 0)).trans G1
  have pa := past_setCell w'.heap.size W 0 none (.int .i64 0)
  refine ⟨G1.cell (pa.cell (by simp) ce), G2.free (by simp; omega), 4, .inr rfl, fun W2 hP => ?_⟩
  have G3 := hP.grew w (by omega) G2
  have cf2 := hP.cell (p := ⟨w'.heap.size, 0, none⟩) (by simp) (G1.cell (World.cell?_setCell_same _ _ _ cf))
  have cs2 := hP.cell (p := ⟨w'.heap.size + 1, 0, none⟩) (by simp) (G1.cell (pa.cell (by simp) cs))
  clear hP pa G2 G1 ce cs cf G0 GW ca cb Ga
  go_wp2
  go_ret
  exact ⟨rfl, G3.grown⟩

set_option maxRecDepth 100000 in
theorem lifted (os : Os) (started : os.Started) (H : Type) (enc : TypeId × Value → H) :
    ReturnsInHanded {} Try.checked os 4 .any (Rows.calcValuesSpec.pre6 enc Try.prog Try.f4 Rows.calcValuesRow.domain false) (Rows.calcValuesSpec.post enc Try.prog Try.f4 false true false false) := by
  refine returnsInHanded_of_change (C := Try.checked) own started (by kernel_rfl) Try.func4
    (ChangeSpec.witness6 (enc := enc) (C := Try.checked) false ⟨#[], #[.int .i64 0, .int .i64 0], []⟩ 8 (by kernel_rfl) (by kernel_rfl) (by kernel_rfl) (by kernel_rfl)) ?_
  intro W base args ds gs before hval0 hW hcnd _
  have hval : ∀ (j : Nat) t v, Try.f4.params[j]? = some t → args[j]? = some v → Value.okWide Try.prog W .any base t v := hval0
  have hW' := hW
  obtain ⟨p, q, hA0, hV, rfl, hfz, hnd⟩ := hW
  have hA : DataW.TrodAll enc Try.prog W 0 (fun _ => true) true Try.f4.params.toList args.toList ds p := hA0
  rw [Try.params4] at hA hval
  obtain ⟨v0, vs0, d0, ds0, p0, q0, hargs, rfl, rfl, h0, r0⟩ := trodAll_cons hA
  obtain ⟨v1, vs1, d1, ds1, p1, q1, rfl, rfl, rfl, h1, r1⟩ := trodAll_cons r0
  obtain ⟨rfl, rfl, rfl⟩ := trodAll_nil r1
  obtain rfl : args = #[v0, v1] := by cases args; simp_all
  obtain ⟨rfl, rfl⟩ := trodVars_none hV
  obtain ⟨a0, rfl, rfl, rfl, w0⟩ := open_int Try.underlying24 (hval 0 24 v0 rfl rfl) h0
  obtain ⟨a1, rfl, rfl, rfl, w1⟩ := open_int Try.underlying24 (hval 1 24 v1 rfl rfl) h1
  clear hA0 hval0
  simp only [List.append_nil] at hW'
  refine (walk a0 a1 w0 w1 W).mono fun e W' ⟨he, hg⟩ => ?_
  subst he
  exact ⟨_, rfl, post_of_same (pa := []) (pv := []) hW' (fun _ _ _ => (trodAll_cons_mk (shut_bool Try.underlying4 _) trodAll_mk0)) (fun sp _ => (trodAll_cons_mk (shut_int Try.underlying24 w0) (trodAll_cons_mk (shut_int Try.underlying24 w1) trodAll_mk0))) (fun _ _ => rfl) rfl
    (hg.frame _) hg.2.1 (ok_one (by kernel_rfl) rfl (okWide_bool_mk Try.underlying4 _))⟩

theorem over : Rows.calcValuesRow.holds Try.pinned (OpenSpec.ofChange Rows.calcValuesSpec) :=
  OpenClaim.holds_of_wide 4 Try.f4 rfl rfl rfl rfl rfl rfl rfl ⟨rfl, rfl, rfl, rfl, rfl⟩ rfl rfl rfl rfl rfl (by kernel_rfl) Try.func4 (by kernel_rfl)
    (of_decide_eq_true (by kernel_rfl)) (by unfold Func.isWrapper; first | (rw [if_pos (by decide +kernel)]; kernel_rfl) | (rw [if_neg (by decide +kernel)]; exact ⟨rfl, rfl⟩))
    (fun os started H enc _ => lifted os started H enc)

theorem proved : Rows.CalcValuesSaid :=
  over
end Go.Proofs.Ytjkidepgjbnflab.calcValues

namespace Go.Proofs.Ytjkidepgjbnflab
theorem calcValues_holds : Rows.CalcValuesSaid := calcValues.proved
end Go.Proofs.Ytjkidepgjbnflab
