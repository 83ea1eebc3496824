/-
  Proved: maquettelaw2.RealClasses returns true for every uint64, and leaves what it was given as it was; no condition.
-/
import Derived.Test.YtdmhbagibofjhaaRows
import Derived.Test.YtdmhbagibofjhaaRArith
import Derived.WalkKit
import Derived.WalkSpells
import Derived.WalkLawsBesides
import Derived.ProofKit
import Derived.OpenShut
import Derived.ShutString
namespace Go.Proofs.Ytdmhbagibofjhaa.realClasses
open Go.ChangeShapes Go.WideShapes Go.ChangeAt Go.RowKit
open Go.ChangeMaps (open_string shut_string)
set_option linter.unusedVariables false

theorem own : ownKnob Try.prog.godebug = none := by kernel_rfl

def row (X : Nat) (n g : Int) (a b c : Bool) : Prop := cls X = n ∧ cls (wd (!sg X) (rg X)) = g ∧ (FloatKind.f64.format.order X X != some .eq) = a ∧ (FloatKind.f64.format.order X 0 == some .eq) = b ∧ infV 0 X = c
theorem cls_rows (X : Nat) : row X 1 1 true false false ∨ row X 2 3 false false true ∨ row X 3 2 false false true ∨ row X 4 5 false true false ∨ row X 5 4 false true false ∨ row X 6 6 false false false ∨ row X 7 7 false false false := by
  have e1 := rg_wd (!sg X) (rg_lt X)
  have e2 := sg_wd (!sg X) (rg_lt X)
  have t1 : (FloatKind.f64.format.order X X != some .eq) = decide (infR < rg X) := nan_test X
  have t2 : (FloatKind.f64.format.order X 0 == some .eq) = decide (rg X = 0) := zero_test X
  have t3 : infV 0 X = decide (rg X = infR) := rfl
  unfold row
  rw [t1, t2, t3]
  unfold cls
  rw [e1, e2]
  have hi : infR = 9218868437227405312 := rfl
  by_cases h1 : infR < rg X
  · have k1 : ¬ rg X = 0 := by omega
    have k2 : ¬ rg X = infR := by omega
    clear hi
    left; simp [h1, k1, k2]
  clear hi
  by_cases h2 : rg X = infR
  · have : ¬ infR = 0 := by decide
    cases sg X
    · right; left; simp [h2, this]
    · right; right; left; simp [h2, this]
  by_cases h3 : rg X = 0
  · have k1 : ¬ 0 = infR := by decide
    have k2 : ¬ infR < 0 := by decide
    cases sg X
    · right; right; right; left; simp [h3, k1, k2]
    · right; right; right; right; left; simp [h3, k1, k2]
  by_cases h4 : rg X < 4503599627370496
  · right; right; right; right; right; left; simp [h1, h2, h3, h4]
  · right; right; right; right; right; right; simp [h1, h2, h3, h4]
/-! the statement's own map -/
def ent (k v : Int) (b : Nat) : MapEntry := { key := .int .i64 k, val := .int .i64 v, born := b }
theorem map_put (w : World) (es : Array MapEntry) (c : Nat) (k v : Int) (hf : Instr.findNow (.int .i64) (.int .i64 k) es.toList 0 = some none) :
    (Instr.mapUpdate 44 (.map (some w.heap.size)) (.int .i64 k) (.int .i64 v)).run Try.prog (w.alloc (.map es c)) = .ok () (w.alloc (.map (es.push (ent k v c)) (c + 1))) := by
  have hb := (MapKept.heap_alloc w (.map es c)).1
  have h1 := fun u => run_underlying (P := Try.prog) Try.underlying44 u
  have h2 := MapKept.run_getObj_map (P := Try.prog) hb
  have h3 := MapKept.run_setObj_map (P := Try.prog) (.map (es.push (ent k v c)) (c + 1)) hb
  have h4 := MapKept.run_checkKey (P := Try.prog) (w := w.alloc (.map es c)) (k := .int .i64 k) Try.underlying3 rfl false 9999
  have h5 := MapKept.run_findKey (P := Try.prog) (w := w.alloc (.map es c)) Try.underlying3 hf
  have h6 : { w.alloc (.map es c) with heap := (w.alloc (.map es c)).heap.setIfInBounds w.heap.size (.map (es.push (ent k v c)) (c + 1)) } = w.alloc (.map (es.push (ent k v c)) (c + 1)) := by
    have e : (w.heap.push (.map es c)).setIfInBounds w.heap.size (.map (es.push (ent k v c)) (c + 1)) = w.heap.push (.map (es.push (ent k v c)) (c + 1)) := by
      apply Array.ext_getElem?
      intro i
      rw [Array.getElem?_setIfInBounds, Array.getElem?_push, Array.getElem?_push, Array.size_push]
      by_cases g : i = w.heap.size
      · subst g; simp
      · have g' : ¬ w.heap.size = i := fun q => g q.symm
        rw [if_neg g', if_neg g, if_neg g]
    show ({ w with heap := (w.heap.push (.map es c)).setIfInBounds w.heap.size (.map (es.push (ent k v c)) (c + 1)) } : World) = { w with heap := w.heap.push (.map (es.push (ent k v c)) (c + 1)) }
    rw [e]
  rw [h6] at h3
  unfold ent at *
  simp [Instr.mapUpdate, h1, h2, h3, h4, h5, Result.andThen]
theorem map_get (w : World) (es : Array MapEntry) (c : Nat) (k v : Int) (j : Nat) (hf : Instr.findNow (.int .i64) (.int .i64 k) es.toList 0 = some (some (j, .int .i64 v))) :
    (Instr.lookup 44 (.map (some w.heap.size)) (.int .i64 k) false).run Try.prog (w.alloc (.map es c)) = .ok (.int .i64 v) (w.alloc (.map es c)) := by
  have hb := (MapKept.heap_alloc w (.map es c)).1
  have h1 := fun u => run_underlying (P := Try.prog) Try.underlying44 u
  have h2 := MapKept.run_getObj_map (P := Try.prog) hb
  have h4 := MapKept.run_checkKey (P := Try.prog) (w := w.alloc (.map es c)) (k := .int .i64 k) Try.underlying3 rfl es.isEmpty 9999
  have h5 := MapKept.run_findKey (P := Try.prog) (w := w.alloc (.map es c)) Try.underlying3 hf
  simp [Instr.lookup, h1, h2, h4, h5, Result.andThen]
set_option maxHeartbeats 2000000 in
theorem walk (a0 : Int) (w0 : (Lit.int .u64 a0).wf = true) (w : World) :
    Calls Try.prog 7 #[.int .u64 a0] w fun e w' => e = .returned (.bool true) ∧ Grown w w' := by
  have p3 := True.intro
  have q3 := True.intro
  obtain ⟨K⟩ : Nonempty Ks := ⟨⟨1042, 1074, rfl, rfl⟩⟩
  obtain ⟨X, rfl, hX⟩ := u64_nat w0
  have c1 := fun n w => call_fromN n w
  have hu := fun b => unary_neg b
  have hn := neg_word X hX
  have hl := wd_lt (!sg X) (rg_lt X)
  have mm := fun t w => run_makeMap (P := Try.prog) t w
  obtain ⟨m0, e0⟩ : ∃ m : Array MapEntry, m = #[] := ⟨_, rfl⟩
  obtain ⟨m1, e1⟩ : ∃ m : Array MapEntry, m = m0.push (ent 1 1 0) := ⟨_, rfl⟩
  obtain ⟨m2, e2⟩ : ∃ m : Array MapEntry, m = m1.push (ent 2 3 1) := ⟨_, rfl⟩
  obtain ⟨m3, e3⟩ : ∃ m : Array MapEntry, m = m2.push (ent 3 2 2) := ⟨_, rfl⟩
  obtain ⟨m4, e4⟩ : ∃ m : Array MapEntry, m = m3.push (ent 4 5 3) := ⟨_, rfl⟩
  obtain ⟨m5, e5⟩ : ∃ m : Array MapEntry, m = m4.push (ent 5 4 4) := ⟨_, rfl⟩
  obtain ⟨m6, e6⟩ : ∃ m : Array MapEntry, m = m5.push (ent 6 6 5) := ⟨_, rfl⟩
  obtain ⟨m7, e7⟩ : ∃ m : Array MapEntry, m = m6.push (ent 7 7 6) := ⟨_, rfl⟩
  have u0 := fun w => map_put w m0 0 1 1 (by subst e0; rfl)
  rw [← e1] at u0
  have u1 := fun w => map_put w m1 1 2 3 (by subst e1 e0; rfl)
  rw [← e2] at u1
  have u2 := fun w => map_put w m2 2 3 2 (by subst e2 e1 e0; rfl)
  rw [← e3] at u2
  have u3 := fun w => map_put w m3 3 4 5 (by subst e3 e2 e1 e0; rfl)
  rw [← e4] at u3
  have u4 := fun w => map_put w m4 4 5 4 (by subst e4 e3 e2 e1 e0; rfl)
  rw [← e5] at u4
  have u5 := fun w => map_put w m5 5 6 6 (by subst e5 e4 e3 e2 e1 e0; rfl)
  rw [← e6] at u5
  have u6 := fun w => map_put w m6 6 7 7 (by subst e6 e5 e4 e3 e2 e1 e0; rfl)
  rw [← e7] at u6
  have g1 := fun w => map_get w m7 7 1 1 0 (by subst e7 e6 e5 e4 e3 e2 e1 e0; rfl)
  have g2 := fun w => map_get w m7 7 2 3 1 (by subst e7 e6 e5 e4 e3 e2 e1 e0; rfl)
  have g3 := fun w => map_get w m7 7 3 2 2 (by subst e7 e6 e5 e4 e3 e2 e1 e0; rfl)
  have g4 := fun w => map_get w m7 7 4 5 3 (by subst e7 e6 e5 e4 e3 e2 e1 e0; rfl)
  have g5 := fun w => map_get w m7 7 5 4 4 (by subst e7 e6 e5 e4 e3 e2 e1 e0; rfl)
  have g6 := fun w => map_get w m7 7 6 6 5 (by subst e7 e6 e5 e4 e3 e2 e1 e0; rfl)
  have g7 := fun w => map_get w m7 7 7 7 6 (by subst e7 e6 e5 e4 e3 e2 e1 e0; rfl)
  clear e7 e6 e5 e4 e3 e2 e1
  rw [e0] at u0
  generalize hZ : wd (!sg X) (rg X) = Z at *
  have rows := cls_rows X
  unfold row at rows
  rw [hZ] at rows
  clear hZ
  rcases rows with ⟨h1, h2, h3, h4, h5⟩ | ⟨h1, h2, h3, h4, h5⟩ | ⟨h1, h2, h3, h4, h5⟩ | ⟨h1, h2, h3, h4, h5⟩ | ⟨h1, h2, h3, h4, h5⟩ | ⟨h1, h2, h3, h4, h5⟩ | ⟨h1, h2, h3, h4, h5⟩
  all_goals
    go_enter Try.func7, Try.ntmps7
    go_wp2_with (first
    | (go_at_call 9; refine (alive_any _).mono ?_; rintro e w' ⟨rfl, rfl⟩)
    | (go_at_call 16; refine (put_at _ _ (by first | exact p3 | exact q3) _).mono ?_; rintro e w' ⟨rfl, rfl⟩)
    | (go_at_call 11; refine (get_any (K := K) _ (by first | assumption | decide) _).mono ?_; rintro e w' ⟨rfl, rfl⟩)
    | (go_at_call 17; refine (class_any _ (by first | assumption | decide) _).mono ?_; rintro e w' ⟨rfl, rfl⟩)
    | (go_at_call 27; refine (isNaN_any _ _).mono ?_; rintro e w' ⟨rfl, rfl⟩)
    | (go_at_call 23; refine (isAny_any _ _ (by decide) (by first | assumption | decide) _).mono ?_; rintro e w' ⟨rfl, rfl⟩)
    | (go_at_call 22; refine (abs_any _ (by first | assumption | decide) _).mono ?_; rintro e w' ⟨rfl, rfl⟩)
    | fail)
    all_goals (go_ret; exact ⟨rfl, (Grown.refl _).allocMap _ _⟩)

set_option maxRecDepth 100000 in
theorem lifted (os : Os) (started : os.Started) (H : Type) (enc : TypeId × Value → H) :
    ReturnsInHanded {} Try.checked os 7 .any (Rows.realClassesSpec.pre6 enc Try.prog Try.f7 Rows.realClassesRow.domain false) (Rows.realClassesSpec.post enc Try.prog Try.f7 false true false false) := by
  refine returnsInHanded_of_change (C := Try.checked) own started (by kernel_rfl) Try.func7
    (ChangeSpec.witness6 (enc := enc) (C := Try.checked) false ⟨#[], #[.int .u64 0], []⟩ 8 (by kernel_rfl) (by kernel_rfl) (by kernel_rfl) (by kernel_rfl)) ?_
  intro W base args ds gs before hval0 hW hcnd _
  have hval : ∀ (j : Nat) t v, Try.f7.params[j]? = some t → args[j]? = some v → Value.okWide Try.prog W .any base t v := hval0
  have hW' := hW
  obtain ⟨p, q, hA0, hV, rfl, hfz, hnd⟩ := hW
  have hA : DataW.TrodAll enc Try.prog W 0 (fun _ => true) true Try.f7.params.toList args.toList ds p := hA0
  rw [Try.params7] at hA hval
  obtain ⟨v0, vs0, d0, ds0, p0, q0, hargs, rfl, rfl, h0, r0⟩ := trodAll_cons hA
  obtain ⟨rfl, rfl, rfl⟩ := trodAll_nil r0
  obtain rfl : args = #[v0] := by cases args; simp_all
  obtain ⟨rfl, rfl⟩ := trodVars_none hV
  obtain ⟨a0, rfl, rfl, rfl, w0⟩ := open_int Try.underlying22 (hval 0 22 v0 rfl rfl) h0
  clear hA0 hval0
  simp only [List.append_nil] at hW'
  refine (walk a0 w0 W).mono fun e W' ⟨he, hg⟩ => ?_
  subst he
  exact ⟨_, rfl, post_of_same (pa := []) (pv := []) hW' (fun _ _ _ => (trodAll_cons_mk (shut_bool Try.underlying4 _) trodAll_mk0)) (fun sp _ => (trodAll_cons_mk (shut_int Try.underlying22 w0) trodAll_mk0)) (fun _ _ => rfl) rfl
    (hg.frame _) hg.2.1 (ok_one (by kernel_rfl) rfl (okWide_bool_mk Try.underlying4 _))⟩

theorem over : Rows.realClassesRow.holds Try.pinned (OpenSpec.ofChange Rows.realClassesSpec) :=
  OpenClaim.holds_of_wide 7 Try.f7 rfl rfl rfl rfl rfl rfl rfl ⟨rfl, rfl, rfl, rfl, rfl⟩ rfl rfl rfl rfl rfl (by kernel_rfl) Try.func7 (by kernel_rfl)
    (of_decide_eq_true (by kernel_rfl)) (by unfold Func.isWrapper; first | (rw [if_pos (by decide +kernel)]; kernel_rfl) | (rw [if_neg (by decide +kernel)]; exact ⟨rfl, rfl⟩))
    (fun os started H enc _ => lifted os started H enc)

theorem proved : Rows.RealClassesSaid :=
  over
end Go.Proofs.Ytdmhbagibofjhaa.realClasses

namespace Go.Proofs.Ytdmhbagibofjhaa
theorem realClasses_holds : Rows.RealClassesSaid := realClasses.proved
end Go.Proofs.Ytdmhbagibofjhaa
