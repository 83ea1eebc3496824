/-
  Proved: maquettelaw2.RealBytes returns true for every uint64 and every string, and leaves what it was given as it was; no condition.
-/
import Derived.Test.YtdmhbagibofjhabRows
import Derived.Test.YtdmhbagibofjhabRBytes
import Derived.WalkKit
import Derived.WalkSpells
import Derived.WalkLawsBesides
import Derived.ProofKit
import Derived.OpenShut
import Derived.ShutString
namespace Go.Proofs.Ytdmhbagibofjhab.realBytes
open Go.ChangeShapes Go.WideShapes Go.ChangeAt Go.RowKit
open Go.ChangeMaps (open_string shut_string)
set_option linter.unusedVariables false

theorem own : ownKnob Try.prog.godebug = none := by kernel_rfl

theorem rdB_no {s : ByteArray} (h : ¬ s.size = 8) : rdB s = false := by unfold rdB; simp [h]
theorem empty_size (a : ByteArray) : a.toList.isEmpty = decide (a.size = 0) := by
  rw [ByteArray.toList_eq]
  obtain ⟨⟨l⟩⟩ := a
  cases l <;> simp [ByteArray.size]
set_option maxHeartbeats 1000000 in
theorem walk (a0 : Int) (a1 : ByteArray) (w0 : (Lit.int .u64 a0).wf = true) (w1 : a1.size ≤ maxLen) (w : World) :
    Calls Try.prog 5 #[.int .u64 a0, .string a1] w fun e w' => e = .returned (.bool true) ∧ Grown w w' := by
  obtain ⟨X, rfl, hX⟩ := u64_nat w0
  have c1 := fun n w => call_fromN n w
  have c2 := fun n w => call_bits n w
  have e1 := rdV_dig X hX
  have e2 := rdB_dig X
  have d0 := dig_at0 X hX
  have d7 := dig_at7 X
  have ds := dig_size X
  obtain ⟨D, hD⟩ : ∃ D, dig8 X = D := ⟨_, rfl⟩
  rw [hD] at e1 e2 ds
  simp only [hD] at d0 d7
  have x1 : rdB (D.extract 0 7) = false := rdB_no (by rw [ByteArray.size_extract]; omega)
  have x2 : (rdB (D ++ a1) == a1.toList.isEmpty) = true := by
    rw [empty_size]
    unfold rdB
    rw [ByteArray.size_append, ds]
    by_cases h : a1.size = 0 <;> simp [h]
  by_cases h30 : 30 < a1.size
  · go_enter Try.func5, Try.ntmps5
    go_wp2_with (first
    | (go_at_call 9; refine (alive_any _).mono ?_; rintro e w' ⟨rfl, rfl⟩)
    | (go_at_call 11; refine (bytes_any _ (by first | assumption | decide) _).mono ?_; rintro e w' ⟨rfl, cs, rfl⟩; rw [hD])
    | (go_at_call 13; refine (read_any _ _).mono ?_; rintro e w' ⟨rfl, rfl⟩)
    | fail)
    all_goals (go_ret; exact ⟨rfl, Grown.refl _⟩)
  · go_enter Try.func5, Try.ntmps5
    go_wp2_with (first
    | (go_at_call 9; refine (alive_any _).mono ?_; rintro e w' ⟨rfl, rfl⟩)
    | (go_at_call 11; refine (bytes_any _ (by first | assumption | decide) _).mono ?_; rintro e w' ⟨rfl, cs, rfl⟩; rw [hD])
    | (go_at_call 13; refine (read_any _ _).mono ?_; rintro e w' ⟨rfl, rfl⟩)
    | fail)
    all_goals (go_ret; exact ⟨rfl, (Grown.refl _).alloc _ _⟩)

set_option maxRecDepth 100000 in
theorem lifted (os : Os) (started : os.Started) (H : Type) (enc : TypeId × Value → H) :
    ReturnsInHanded {} Try.checked os 5 .any (Rows.realBytesSpec.pre6 enc Try.prog Try.f5 Rows.realBytesRow.domain false) (Rows.realBytesSpec.post enc Try.prog Try.f5 false true false false) := by
  refine returnsInHanded_of_change (C := Try.checked) own started (by kernel_rfl) Try.func5
    (ChangeSpec.witness6 (enc := enc) (C := Try.checked) false ⟨#[], #[.int .u64 0, .string ByteArray.empty], []⟩ 8 (by kernel_rfl) (by kernel_rfl) (by kernel_rfl) (by kernel_rfl)) ?_
  intro W base args ds gs before hval0 hW hcnd _
  have hval : ∀ (j : Nat) t v, Try.f5.params[j]? = some t → args[j]? = some v → Value.okWide Try.prog W .any base t v := hval0
  have hW' := hW
  obtain ⟨p, q, hA0, hV, rfl, hfz, hnd⟩ := hW
  have hA : DataW.TrodAll enc Try.prog W 0 (fun _ => true) true Try.f5.params.toList args.toList ds p := hA0
  rw [Try.params5] at hA hval
  obtain ⟨v0, vs0, d0, ds0, p0, q0, hargs, rfl, rfl, h0, r0⟩ := trodAll_cons hA
  obtain ⟨v1, vs1, d1, ds1, p1, q1, rfl, rfl, rfl, h1, r1⟩ := trodAll_cons r0
  obtain ⟨rfl, rfl, rfl⟩ := trodAll_nil r1
  obtain rfl : args = #[v0, v1] := by cases args; simp_all
  obtain ⟨rfl, rfl⟩ := trodVars_none hV
  obtain ⟨a0, rfl, rfl, rfl, w0⟩ := open_int Try.underlying29 (hval 0 29 v0 rfl rfl) h0
  obtain ⟨a1, rfl, rfl, rfl, w1⟩ := open_string Try.underlying9 (hval 1 9 v1 rfl rfl) h1
  clear hA0 hval0
  simp only [List.append_nil] at hW'
  refine (walk a0 a1 w0 w1 W).mono fun e W' ⟨he, hg⟩ => ?_
  subst he
  exact ⟨_, rfl, post_of_same (pa := []) (pv := []) hW' (fun _ _ _ => (trodAll_cons_mk (shut_bool Try.underlying4 _) trodAll_mk0)) (fun sp _ => (trodAll_cons_mk (shut_int Try.underlying29 w0) (trodAll_cons_mk (shut_string Try.underlying9 w1) trodAll_mk0))) (fun _ _ => rfl) rfl
    (hg.frame _) hg.2.1 (ok_one (by kernel_rfl) rfl (okWide_bool_mk Try.underlying4 _))⟩

theorem over : Rows.realBytesRow.holds Try.pinned (OpenSpec.ofChange Rows.realBytesSpec) :=
  OpenClaim.holds_of_wide 5 Try.f5 rfl rfl rfl rfl rfl rfl rfl ⟨rfl, rfl, rfl, rfl, rfl⟩ rfl rfl rfl rfl rfl (by kernel_rfl) Try.func5 (by kernel_rfl)
    (of_decide_eq_true (by kernel_rfl)) (by unfold Func.isWrapper; first | (rw [if_pos (by decide +kernel)]; kernel_rfl) | (rw [if_neg (by decide +kernel)]; exact ⟨rfl, rfl⟩))
    (fun os started H enc _ => lifted os started H enc)

theorem proved : Rows.RealBytesSaid :=
  over
end Go.Proofs.Ytdmhbagibofjhab.realBytes

namespace Go.Proofs.Ytdmhbagibofjhab
theorem realBytes_holds : Rows.RealBytesSaid := realBytes.proved
end Go.Proofs.Ytdmhbagibofjhab
