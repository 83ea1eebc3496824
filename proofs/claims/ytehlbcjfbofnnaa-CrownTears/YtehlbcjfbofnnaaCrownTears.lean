/-
  Proved: maquettelaw14.CrownTears returns true for every two crowns and every int, and leaves what it was given as it was; no condition.
-/
import Derived.Test.YtehlbcjfbofnnaaRows
import Derived.Test.YtehlbcjfbofnnaaYAlive
import Derived.Test.YtehlbcjfbofnnaaYData
import Derived.WalkKit
import Derived.Deep.QuietTactic
import Derived.BigQuiet
import Derived.WalkSpells
import Derived.Deep.CutRange
import Derived.Deep.CutBlock
import Derived.WalkLawsBesides
import Derived.ProofKit
import Derived.OpenShut
import Derived.ChangeOld
import Derived.Below
namespace Go.Proofs.Ytehlbcjfbofnnaa.crownTears
open Go.ChangeShapes Go.WideShapes Go.ChangeAt Go.RowKit
set_option linter.unusedVariables false

theorem own : ownKnob Try.prog.godebug = none := by kernel_rfl
theorem laidOut : laidOutB Try.prog = true := by kernel_rfl

theorem tears_put {C : Cr} {k : Bool} {x : ByteArray} (hk : okC C = k) (hx : putV C = x) : Hid (∀ W, Calls Try.prog 10 #[.agg #[.int .i64 C.g, .int .i64 C.r, .int .i64 C.p]] W fun e w' => e = .returned (.tuple #[.string x, .bool k]) ∧ Below W.heap.size W w') := fun W => by
  have := put_any C W
  rw [hk, hx] at this
  exact this
theorem tears_list (A B : Cr) (n : Nat) : ((putB B).extract 0 n ++ (putB A).extract n 128).data.toList = (putL B).take n ++ (putL A).drop n := by
  simp only [ByteArray.data_append, Array.toList_append, ByteArray.data_extract, Array.toList_extract, List.extract_eq_take_drop, List.drop_zero, Nat.sub_zero]
  show (putL B).take n ++ ((putL A).drop n).take (128 - n) = _
  rw [List.take_of_length_le (l := (putL A).drop n) (i := 128 - n) (by rw [List.length_drop, putL_len]; exact Nat.le_refl _)]
theorem tears_get {A B : Cr} (ha : okC A = true) (hb : okC B = true) (hg : A.g ≠ B.g) (n : Nat) : ∃ (C : Cr) (k : Bool), Hid (∀ W, Calls Try.prog 12 #[.string ((putB B).extract 0 n ++ (putB A).extract n 128)] W fun e w' => e = .returned (.tuple #[.agg #[.int .i64 C.g, .int .i64 C.r, .int .i64 C.p], .bool k]) ∧ Below W.heap.size W w') ∧ (k = false ∨ (k = true ∧ (A = C ∨ B = C))) := by
  refine ⟨_, _, fun W => get_any _ W, ?_⟩
  rw [tears_list]
  cases h : isC ((putL B).take n ++ (putL A).drop n) with
  | false => exact .inl rfl
  | true => exact .inr ⟨rfl, (tears ha hb hg n h).imp Eq.symm Eq.symm⟩

set_option maxRecDepth 100000 in
set_option maxHeartbeats 16000000 in
theorem walk (C0 : Cr) (o0 : C0.ok) (C1 : Cr) (o1 : C1.ok) (a2 : Int) (f2 : inF a2) (w : World)   :
    Calls Try.prog 4 #[C0.val, C1.val, .int .i64 a2] w fun e w' => e = .returned (.bool true) ∧ Below w.heap.size w w' := by
  have hal : Hid (∀ W, Calls Try.prog 9 #[] W fun e w' => e = .returned (.bool true) ∧ Below W.heap.size W w') := alive_any
  cases hk0 : okC C0 with
  | false =>
    have h0 := tears_put hk0 rfl
    have h1 := tears_put (C := C1) rfl rfl
    generalize putV C0 = x at *
    generalize putV C1 = y at *
    generalize okC C1 = k at *
    clear hk0
    unfold Cr.val
    go_enter Try.func4, Try.ntmps4
    go_wp2_with (first
      | (go_at_call 10; go_fit (h0.out _); rintro e W1 ⟨rfl, K1⟩; obtain ⟨B1, D0, D1, l1⟩ := boxes2 C0 C1 K1; have x0 := D1.g; have x1 := D1.r; have x2 := D1.p; clear K1)
      | (go_at_call 10; go_fit (h1.out _); rintro e W2 ⟨rfl, K2⟩; have B2 := chain B1 K2; have E0 := D0.below K2; have E1 := D1.below K2; have t0 := E0.g; have t1 := E1.g; clear K2 D0 D1 x0 x1 x2)
      | (go_at_call 9; go_fit (hal.out _); rintro e W3 ⟨rfl, K3⟩; have B3 := chain B2 K3; replace E0 := E0.below K3; replace E1 := E1.below K3; have l3 := B3.size; have s0 : w.heap.size < W3.heap.size := cell_block E0.g; have s1 : w.heap.size + 1 < W3.heap.size := cell_block E1.g; clear K3 t0 t1)
      | fail)
    go_ret
    exact ⟨rfl, B3⟩
  | true =>
   cases hk1 : okC C1 with
   | false =>
    have h0 := tears_put hk0 rfl
    have h1 := tears_put hk1 rfl
    generalize putV C0 = x at *
    generalize putV C1 = y at *
    clear hk0 hk1
    unfold Cr.val
    go_enter Try.func4, Try.ntmps4
    go_wp2_with (first
      | (go_at_call 10; go_fit (h0.out _); rintro e W1 ⟨rfl, K1⟩; obtain ⟨B1, D0, D1, l1⟩ := boxes2 C0 C1 K1; have x0 := D1.g; have x1 := D1.r; have x2 := D1.p; clear K1)
      | (go_at_call 10; go_fit (h1.out _); rintro e W2 ⟨rfl, K2⟩; have B2 := chain B1 K2; have E0 := D0.below K2; have E1 := D1.below K2; have t0 := E0.g; have t1 := E1.g; clear K2 D0 D1 x0 x1 x2)
      | (go_at_call 9; go_fit (hal.out _); rintro e W3 ⟨rfl, K3⟩; have B3 := chain B2 K3; replace E0 := E0.below K3; replace E1 := E1.below K3; have l3 := B3.size; have s0 : w.heap.size < W3.heap.size := cell_block E0.g; have s1 : w.heap.size + 1 < W3.heap.size := cell_block E1.g; clear K3 t0 t1)
      | fail)
    go_ret
    exact ⟨rfl, B3⟩
   | true =>
    have h0 := tears_put hk0 (x := putB C0) (by unfold putV; rw [if_pos hk0])
    have h1 := tears_put hk1 (x := putB C1) (by unfold putV; rw [if_pos hk1])
    by_cases heq : C0.g = C1.g
    · generalize putB C0 = x at *
      generalize putB C1 = y at *
      clear hk0 hk1
      obtain ⟨g0, r0, p0⟩ := C0
      obtain ⟨g1, r1, p1⟩ := C1
      dsimp only at heq h0 h1
      subst heq
      unfold Cr.val
      go_enter Try.func4, Try.ntmps4
      go_wp2_with (first
        | (go_at_call 10; go_fit (h0.out _); rintro e W1 ⟨rfl, K1⟩; obtain ⟨B1, D0, D1, l1⟩ := boxes2 ⟨g0, r0, p0⟩ ⟨g0, r1, p1⟩ K1; have x0 := D1.g; have x1 := D1.r; have x2 := D1.p; dsimp only at x0 x1 x2; clear K1)
        | (go_at_call 10; go_fit (h1.out _); rintro e W2 ⟨rfl, K2⟩; have B2 := chain B1 K2; have E0 := D0.below K2; have E1 := D1.below K2; have t0 := E0.g; have t1 := E1.g; dsimp only at t0 t1; clear K2 D0 D1 x0 x1 x2)
        | (go_at_call 9; go_fit (hal.out _); rintro e W3 ⟨rfl, K3⟩; have B3 := chain B2 K3; replace E0 := E0.below K3; replace E1 := E1.below K3; have l3 := B3.size; have s0 : w.heap.size < W3.heap.size := cell_block E0.g; have s1 : w.heap.size + 1 < W3.heap.size := cell_block E1.g; clear K3 t0 t1)
        | fail)
      go_ret
      exact ⟨rfl, B3⟩
    · obtain ⟨m, hm⟩ : ∃ m, Int.tmod a2 129 = m := ⟨_, rfl⟩
      have hm3 : -129 < m ∧ m < 129 := by rw [← hm]; have := Int.tmod_lt_of_pos a2 (show (0 : Int) < 129 by decide); have := Int.lt_tmod_of_pos a2 (show (0 : Int) < 129 by decide); omega
      have hw : wrap64 (m + 128) = m + 128 := IntWalk.wrap64_in _ ⟨by omega, by omega⟩
      have hw2 : wrap64 (m + 128 + 1) = m + 128 + 1 := IntWalk.wrap64_in _ ⟨by omega, by omega⟩
      have hn0 : (0 : Int) ≤ m + 128 + 1 := by omega
      obtain ⟨n, hn⟩ : ∃ n : Nat, (m + 128 + 1) % 129 = (n : Int) := ⟨((m + 128 + 1) % 129).toNat, by omega⟩
      have hn1 : n ≤ 128 := by omega
      have hn2 : (n : Int) ≤ 128 := by omega
      obtain ⟨C, k, hg, hc⟩ := tears_get hk0 hk1 heq n
      have hs := putB_size C0
      have ht := putB_size C1
      have hz : ¬ 9223372036854775807 < ((putB C1).extract 0 n).size + ((putB C0).extract n 128).size := by rw [ByteArray.size_extract, ByteArray.size_extract]; omega
      generalize putB C0 = x at *
      generalize putB C1 = y at *
      have q0 := fun W => same_crown C0.g C0.r C0.p W
      have q1 := fun W => same_crown C1.g C1.r C1.p W
      have q2 := fun W => eq_crown C1.g C1.r C1.p C0.g C0.r C0.p W
      have e2 : (C1.g == C0.g) = false := by simpa using fun e => heq e.symm
      simp only [e2, Bool.false_and] at q2
      clear e2 hk0 hk1
      rcases hc with rfl | ⟨rfl, rfl | rfl⟩
      · skip
        unfold Cr.val
        go_enter Try.func4, Try.ntmps4
        go_upto_region 8 with (first
          | (go_at_call 10; go_fit (h0.out _); rintro e W1 ⟨rfl, K1⟩; obtain ⟨B1, D0, D1, l1⟩ := boxes2 C0 C1 K1; have x0 := D1.g; have x1 := D1.r; have x2 := D1.p; clear K1)
          | (go_at_call 10; go_fit (h1.out _); rintro e W2 ⟨rfl, K2⟩; have B2 := chain B1 K2; have E0 := D0.below K2; have E1 := D1.below K2; have t0 := E0.g; have t1 := E1.g; clear K2 D0 D1 x0 x1 x2)
          | (go_at_call 9; go_fit (hal.out _); rintro e W3 ⟨rfl, K3⟩; have B3 := chain B2 K3; replace E0 := E0.below K3; replace E1 := E1.below K3; have l3 := B3.size; have s0 : w.heap.size < W3.heap.size := cell_block E0.g; have s1 : w.heap.size + 1 < W3.heap.size := cell_block E1.g; clear K3 t0 t1)
          | fail)
        go_region_with (first
          | (go_at_call 12; go_fit (hg.out _); rintro e W4 ⟨rfl, K4⟩; have K5 := ((Grew.refl W3).drew.below).trans K4; have B4 := chain B3 K5; have y0 := (E0.below K5).g; have y1 := (E0.below K5).r; have y2 := (E0.below K5).p; have z0 := (E1.below K5).g; have z1 := (E1.below K5).r; have z2 := (E1.below K5).p; have l4 : w.heap.size + 1 < W4.heap.size := cell_block z0; have l5 : w.heap.size < W4.heap.size := cell_block y0; clear K4 K5)
          | (go_at_call 12; go_fit (hg.out _); rintro e W4 ⟨rfl, K4⟩; have K5 := (((Grew.refl W3).alloc _ _).drew.below).trans (K4.mono (by simp)); have u4 := ((cat_new W3 noC _).grew (Grew.refl _).drew).below K4; have u0 := u4.g; have u1 := u4.r; have u2 := u4.p; have v0 := below_frozen K4 (by simp) ((Grew.refl _).drew.frozen (frozen_new W3 _ _ 0)); have v1 := below_frozen K4 (by simp) ((Grew.refl _).drew.frozen (frozen_new W3 _ _ 1)); have v2 := below_frozen K4 (by simp) ((Grew.refl _).drew.frozen (frozen_new W3 _ _ 2)); have B4 := chain B3 K5; have y0 := (E0.below K5).g; have y1 := (E0.below K5).r; have y2 := (E0.below K5).p; have z0 := (E1.below K5).g; have z1 := (E1.below K5).r; have z2 := (E1.below K5).p; have l4 : w.heap.size + 1 < W4.heap.size := cell_block z0; have l5 : w.heap.size < W4.heap.size := cell_block y0; dsimp only [noC] at u0 u1 u2; clear u4 K4 K5)
          | fail)
        all_goals
          go_wp2_with (fail)
          go_ret
          first
            | exact ⟨rfl, B4.alloc B4.size _⟩
            | exact ⟨rfl, ((B4.setCell (p := ⟨W3.heap.size, 0, none⟩) l3 _).setCell (p := ⟨W3.heap.size, 1, none⟩) l3 _).setCell (p := ⟨W3.heap.size, 2, none⟩) l3 _⟩
      · skip
        unfold Cr.val
        go_enter Try.func4, Try.ntmps4
        go_upto_region 8 with (first
          | (go_at_call 10; go_fit (h0.out _); rintro e W1 ⟨rfl, K1⟩; obtain ⟨B1, D0, D1, l1⟩ := boxes2 C0 C1 K1; have x0 := D1.g; have x1 := D1.r; have x2 := D1.p; clear K1)
          | (go_at_call 10; go_fit (h1.out _); rintro e W2 ⟨rfl, K2⟩; have B2 := chain B1 K2; have E0 := D0.below K2; have E1 := D1.below K2; have t0 := E0.g; have t1 := E1.g; clear K2 D0 D1 x0 x1 x2)
          | (go_at_call 9; go_fit (hal.out _); rintro e W3 ⟨rfl, K3⟩; have B3 := chain B2 K3; replace E0 := E0.below K3; replace E1 := E1.below K3; have l3 := B3.size; have s0 : w.heap.size < W3.heap.size := cell_block E0.g; have s1 : w.heap.size + 1 < W3.heap.size := cell_block E1.g; clear K3 t0 t1)
          | fail)
        go_region_with (first
          | (go_at_call 12; go_fit (hg.out _); rintro e W4 ⟨rfl, K4⟩; have K5 := ((Grew.refl W3).drew.below).trans K4; have B4 := chain B3 K5; have y0 := (E0.below K5).g; have y1 := (E0.below K5).r; have y2 := (E0.below K5).p; have z0 := (E1.below K5).g; have z1 := (E1.below K5).r; have z2 := (E1.below K5).p; have l4 : w.heap.size + 1 < W4.heap.size := cell_block z0; have l5 : w.heap.size < W4.heap.size := cell_block y0; clear K4 K5)
          | (go_at_call 12; go_fit (hg.out _); rintro e W4 ⟨rfl, K4⟩; have K5 := (((Grew.refl W3).alloc _ _).drew.below).trans (K4.mono (by simp)); have u4 := ((cat_new W3 noC _).grew (Grew.refl _).drew).below K4; have u0 := u4.g; have u1 := u4.r; have u2 := u4.p; have v0 := below_frozen K4 (by simp) ((Grew.refl _).drew.frozen (frozen_new W3 _ _ 0)); have v1 := below_frozen K4 (by simp) ((Grew.refl _).drew.frozen (frozen_new W3 _ _ 1)); have v2 := below_frozen K4 (by simp) ((Grew.refl _).drew.frozen (frozen_new W3 _ _ 2)); have B4 := chain B3 K5; have y0 := (E0.below K5).g; have y1 := (E0.below K5).r; have y2 := (E0.below K5).p; have z0 := (E1.below K5).g; have z1 := (E1.below K5).r; have z2 := (E1.below K5).p; have l4 : w.heap.size + 1 < W4.heap.size := cell_block z0; have l5 : w.heap.size < W4.heap.size := cell_block y0; dsimp only [noC] at u0 u1 u2; clear u4 K4 K5)
          | fail)
        all_goals
          go_wp2_with (fail)
          go_ret
          first
            | exact ⟨rfl, B4.alloc B4.size _⟩
            | exact ⟨rfl, ((B4.setCell (p := ⟨W3.heap.size, 0, none⟩) l3 _).setCell (p := ⟨W3.heap.size, 1, none⟩) l3 _).setCell (p := ⟨W3.heap.size, 2, none⟩) l3 _⟩
      · skip
        unfold Cr.val
        go_enter Try.func4, Try.ntmps4
        go_upto_region 8 with (first
          | (go_at_call 10; go_fit (h0.out _); rintro e W1 ⟨rfl, K1⟩; obtain ⟨B1, D0, D1, l1⟩ := boxes2 C0 C1 K1; have x0 := D1.g; have x1 := D1.r; have x2 := D1.p; clear K1)
          | (go_at_call 10; go_fit (h1.out _); rintro e W2 ⟨rfl, K2⟩; have B2 := chain B1 K2; have E0 := D0.below K2; have E1 := D1.below K2; have t0 := E0.g; have t1 := E1.g; clear K2 D0 D1 x0 x1 x2)
          | (go_at_call 9; go_fit (hal.out _); rintro e W3 ⟨rfl, K3⟩; have B3 := chain B2 K3; replace E0 := E0.below K3; replace E1 := E1.below K3; have l3 := B3.size; have s0 : w.heap.size < W3.heap.size := cell_block E0.g; have s1 : w.heap.size + 1 < W3.heap.size := cell_block E1.g; clear K3 t0 t1)
          | fail)
        go_region_with (first
          | (go_at_call 12; go_fit (hg.out _); rintro e W4 ⟨rfl, K4⟩; have K5 := ((Grew.refl W3).drew.below).trans K4; have B4 := chain B3 K5; have y0 := (E0.below K5).g; have y1 := (E0.below K5).r; have y2 := (E0.below K5).p; have z0 := (E1.below K5).g; have z1 := (E1.below K5).r; have z2 := (E1.below K5).p; have l4 : w.heap.size + 1 < W4.heap.size := cell_block z0; have l5 : w.heap.size < W4.heap.size := cell_block y0; clear K4 K5)
          | (go_at_call 12; go_fit (hg.out _); rintro e W4 ⟨rfl, K4⟩; have K5 := (((Grew.refl W3).alloc _ _).drew.below).trans (K4.mono (by simp)); have u4 := ((cat_new W3 noC _).grew (Grew.refl _).drew).below K4; have u0 := u4.g; have u1 := u4.r; have u2 := u4.p; have v0 := below_frozen K4 (by simp) ((Grew.refl _).drew.frozen (frozen_new W3 _ _ 0)); have v1 := below_frozen K4 (by simp) ((Grew.refl _).drew.frozen (frozen_new W3 _ _ 1)); have v2 := below_frozen K4 (by simp) ((Grew.refl _).drew.frozen (frozen_new W3 _ _ 2)); have B4 := chain B3 K5; have y0 := (E0.below K5).g; have y1 := (E0.below K5).r; have y2 := (E0.below K5).p; have z0 := (E1.below K5).g; have z1 := (E1.below K5).r; have z2 := (E1.below K5).p; have l4 : w.heap.size + 1 < W4.heap.size := cell_block z0; have l5 : w.heap.size < W4.heap.size := cell_block y0; dsimp only [noC] at u0 u1 u2; clear u4 K4 K5)
          | fail)
        all_goals
          go_wp2_with (fail)
          go_ret
          first
            | exact ⟨rfl, B4.alloc B4.size _⟩
            | exact ⟨rfl, ((B4.setCell (p := ⟨W3.heap.size, 0, none⟩) l3 _).setCell (p := ⟨W3.heap.size, 1, none⟩) l3 _).setCell (p := ⟨W3.heap.size, 2, none⟩) l3 _⟩

set_option maxRecDepth 100000 in
theorem lifted (os : Os) (started : os.Started) (H : Type) (enc : TypeId × Value → H) :
    ReturnsInHanded {} Try.checked os 4 .any (Rows.crownTearsSpec.pre6 enc Try.prog Try.f4 Rows.crownTearsRow.domain false) (Rows.crownTearsSpec.post enc Try.prog Try.f4 false true false false) := by
  refine returnsInHanded_of_change (C := Try.checked) own started (by kernel_rfl) Try.func4
    (ChangeSpec.witness6 (enc := enc) (C := Try.checked) false ⟨#[], #[.agg #[.int .i64 0, .int .i64 0, .int .i64 0], .agg #[.int .i64 0, .int .i64 0, .int .i64 0], .int .i64 0], []⟩ 8 (by kernel_rfl) (by kernel_rfl) (by kernel_rfl) (by kernel_rfl)) ?_
  intro W base args ds gs before hval0 hW hcnd _
  have hval : ∀ (j : Nat) t v, Try.f4.params[j]? = some t → args[j]? = some v → Value.okWide Try.prog W .any base t v := hval0
  have hW' := hW
  obtain ⟨p, q, hA0, hV, rfl, hfz, hnd⟩ := hW
  have hA : DataW.TrodAll enc Try.prog W 0 (fun _ => true) true Try.f4.params.toList args.toList ds p := hA0
  rw [Try.params4] at hA hval
  obtain ⟨v0, vs0, d0, ds0, p0, q0, hargs, rfl, rfl, h0, r0⟩ := trodAll_cons hA
  obtain ⟨v1, vs1, d1, ds1, p1, q1, rfl, rfl, rfl, h1, r1⟩ := trodAll_cons r0
  obtain ⟨v2, vs2, d2, ds2, p2, q2, rfl, rfl, rfl, h2, r2⟩ := trodAll_cons r1
  obtain ⟨rfl, rfl, rfl⟩ := trodAll_nil r2
  obtain rfl : args = #[v0, v1, v2] := by cases args; simp_all
  obtain ⟨rfl, rfl⟩ := trodVars_none hV
  obtain ⟨C0, rfl, rfl, rfl, o0⟩ := open_crown (hval 0 23 v0 rfl rfl) h0
  obtain ⟨C1, rfl, rfl, rfl, o1⟩ := open_crown (hval 1 23 v1 rfl rfl) h1
  obtain ⟨a2, rfl, rfl, rfl, w2⟩ := open_int Try.underlying3 (hval 2 3 v2 rfl rfl) h2
  have f2 := inF_wf w2
  clear hA0 hval0
  refine (walk C0 o0 C1 o1 a2 f2 W   ).mono fun e W' ⟨he, bel⟩ => ?_
  subst he
  exact ⟨_, rfl, _, _, _, [], _, [], hW', trodAll_mk1 (shut_bool Try.underlying4 _), (trodAll_cons_mk (shut_crown o0) (trodAll_cons_mk (shut_crown o1) (trodAll_cons_mk (shut_int Try.underlying3 w2) trodAll_mk0))), rfl, bel.frame _, fun h => by cases h⟩

theorem over : Rows.crownTearsRow.holds Try.pinned (OpenSpec.ofChange Rows.crownTearsSpec) :=
  OpenClaim.holds_of_wide 4 Try.f4 rfl rfl rfl rfl rfl rfl rfl ⟨rfl, rfl, rfl, rfl, rfl⟩ rfl rfl rfl rfl rfl (by kernel_rfl) Try.func4 (by kernel_rfl)
    (of_decide_eq_true (by kernel_rfl)) (by unfold Func.isWrapper; first | (rw [if_pos (by decide +kernel)]; kernel_rfl) | (rw [if_neg (by decide +kernel)]; exact ⟨rfl, rfl⟩))
    (fun os started H enc _ => lifted os started H enc)

theorem proved : Rows.CrownTearsSaid :=
  over
end Go.Proofs.Ytehlbcjfbofnnaa.crownTears

namespace Go.Proofs.Ytehlbcjfbofnnaa
theorem crownTears_holds : Rows.CrownTearsSaid := crownTears.proved
end Go.Proofs.Ytehlbcjfbofnnaa
