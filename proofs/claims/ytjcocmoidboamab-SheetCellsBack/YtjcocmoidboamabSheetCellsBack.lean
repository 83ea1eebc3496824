/-
  Proved: maquettelaw15.SheetCellsBack returns true for every list of cells, and leaves what it was given as it was; no condition.
-/
import Derived.Test.YtjcocmoidboamabRows
import Derived.Test.YtjcocmoidboamabZLaws
import Derived.WalkKit
import Derived.Deep.QuietTactic
import Derived.BigQuiet
import Derived.WalkSpells
import Derived.Deep.CutRange
import Derived.Deep.CutBlock
import Derived.WalkLawsBesides
import Derived.ProofKit
import Derived.OpenShut
import Derived.ChangeOld
import Derived.Below
namespace Go.Proofs.Ytjcocmoidboamab.sheetCellsBack
open Go.ChangeShapes Go.WideShapes Go.ChangeAt Go.RowKit
set_option linter.unusedVariables false

theorem own : ownKnob Try.prog.godebug = none := by kernel_rfl
theorem laidOut : laidOutB Try.prog = true := by kernel_rfl

set_option maxRecDepth 100000 in
set_option maxHeartbeats 16000000 in
theorem walk (a0 : Option Addr) (cap0 : Nat) (L0 : List Ce) (w : World) (b0 : Cess w a0 L0):
    Calls Try.prog 3 #[.slice a0 L0.length cap0] w fun e w' => e = .returned (.bool true) ∧ Below w.heap.size w w' := by
---
  have hal : Hid (∀ W, Calls Try.prog 4 #[] W fun e w' => e = .returned (.bool true) ∧ Below W.heap.size W w') := alive15
  have HB0 : Hid (Cess w a0 L0) := b0
  clear b0
  by_cases hbig : 40 < L0.length
  · have hi : (40 : Int) < L0.length := by omega
    go_enter Try.func3, Try.ntmps3
    go_wp2_with (first | (go_at_call 4; go_fit (hal.out _); rintro e w1 ⟨rfl, hB⟩) | fail)
    go_ret
    exact ⟨rfl, hB⟩
  have hn : L0.length ≤ 40 := by omega
  have hi : ¬ (40 : Int) < L0.length := by omega
  obtain ⟨n, hN⟩ : ∃ n, L0.length = n := ⟨_, rfl⟩
  rw [hN] at hi hn ⊢
  replace hN : Hid (L0.length = n) := hN
  clear hbig
  go_enter Try.func3, Try.ntmps3
  go_wp2_with (first | (go_at_call 4; go_fit (hal.out _); rintro e w1 ⟨rfl, hB1⟩) | fail)
  go_loopw [24] (fun i wr => ∃ k : Nat, k ≤ n ∧ i = .int .i64 k ∧ Below w.heap.size w wr) (fun i _ => n - (intOf i).toNat)
  case atStart => exact ⟨0, by omega, rfl, hB1⟩
  case round =>
    clear hB1
    obtain ⟨k, hk, rfl, hB⟩ := hrel
    have hC := HB0.out.below hB
    replace hB : Hid (Below w.heap.size w wr) := hB
    by_cases hlt : k < n
    · have hki : (k : Int) < n := by omega
      have hkC : k < L0.length := by rw [hN.out]; exact hlt
      obtain ⟨b, off, rfl, hcs⟩ := hC.2.resolve_left (fun e => by rw [e] at hkC; simp at hkC)
      obtain ⟨c0, c1, c2, c3⟩ := hcs k hkC
      generalize L0.getD k noCe = x at *
      obtain ⟨K, Z, Q, T⟩ := x
      dsimp only at c0 c1 c2 c3
      clear hcs hC hkC
      by_cases hT : (300 : Int) < T.size
      · go_wp2
        go_ret
        exact ⟨rfl, hB.out.alloc hB.out.size _⟩
      · go_wp2
        exact ⟨⟨k + 1, hlt, by simp, hB.out.alloc hB.out.size _⟩, meas_up hlt⟩
    · have hki : ¬ (k : Int) < n := by omega
      have hL : Hid (Calls Try.prog 5 #[.slice a0 n cap0] wr fun e w' => e = .returned (.tuple #[.string (leafV L0), .bool (leafOk L0)]) ∧ Below wr.heap.size wr w') := by
        show Calls _ _ _ _ _
        have := leaf_any L0 a0 cap0 wr hC.2 (by rw [hN.out]; omega)
        rw [hN.out] at this
        exact this
      cases hk2 : leafOk L0 with
      | false =>
        have hv : leafV L0 = ByteArray.empty := by unfold leafV; rw [hk2, if_neg (by decide)]
        rw [hk2, hv] at hL
        have hCe : Hid (∀ W, _) := fun W => cells_no (s := ByteArray.empty) W (by decide) leaf_empty
        clear hk2 hv hC
        go_wp2_with (first
          | (go_at_call 5; go_fit hL.out; rintro e w2 ⟨rfl, B2⟩)
          | (go_at_call 6; go_fit (hCe.out _); rintro e w3 ⟨b3, c3, rfl, B3⟩)
          | fail)
        go_ret
        exact ⟨rfl, hB.out.trans ((on_two B2 B3).mono hB.out.size)⟩
      | true =>
        have hv : leafV L0 = txt (leafL L0) := if_pos hk2
        rw [hk2, hv] at hL
        obtain ⟨q1, q2⟩ := leaf_back hk2
        have hz : (txt (leafL L0)).size = 128 := by rw [txt_size, leafL_len hk2]
        have q3 : isIdx (txt (leafL L0)) = false := by
          cases e : isIdx (txt (leafL L0)) with
          | false => rfl
          | true => rw [((one_kind _).1 e).1] at q1; cases q1
        have q4 : isLink (txt (leafL L0)).data.toList = false := (one_kind _).2 q1
        have hCe : Hid (∀ W, Calls Try.prog 6 #[.string (txt (leafL L0))] W fun e w' => ∃ b c, e = .returned (.tuple #[.slice b n c, .bool true]) ∧ CellsAt w' b L0 ∧ Below W.heap.size W w') := fun W => by
          have := cells_got W (by rw [hz]; omega) q1 q2
          rw [hN.out] at this
          exact this
        have hSl : Hid (∀ W, _) := fun W => slots_is (txt (leafL L0)) W (by rw [hz]; omega) q3
        have hLk : Hid (∀ W, _) := fun W => link_is' (txt (leafL L0)) W (by rw [hz]; omega) q4
        have hCv : Hid (∀ W, Below wr.heap.size wr W → Calls Try.prog 10 #[.slice a0 n cap0] W fun e w' => ∃ b c, e = .returned (.slice b n c) ∧ CellsAt w' b L0 ∧ Below W.heap.size W w') := fun W h => by
          have := conv_got L0 a0 cap0 W (hC.2.below h) (by rw [hN.out]; omega)
          rw [hN.out] at this
          exact this
        have hSm : Hid (∀ W b c b2 c2, CellsAt W b L0 → CellsAt W b2 L0 → Calls Try.prog 9 #[.slice b n c, .slice b2 n c2] W fun e w' => e = .returned (.bool true) ∧ Below W.heap.size W w') := fun W b c b2 c2 g1 g2 => by
          have := same_cell L0 L0 b b2 c c2 W g1 g2 (by rw [hN.out]; omega) (by rw [hN.out]; omega)
          rw [hN.out] at this
          exact this.mono fun e w' ⟨q1, q2⟩ => ⟨q1.yes rfl, q2⟩
        have hzi : ((txt (leafL L0)).size : Int) = 128 := by omega
        clear hk2 hv hC q1 q2 q3 q4 hz
        generalize txt (leafL L0) = P at *
        go_wp2_with (first
          | (go_at_call 5; go_fit hL.out; rintro e w2 ⟨rfl, B2⟩)
          | (go_at_call 6; go_fit (hCe.out _); rintro e w3 ⟨b3, c3, rfl, g3, B3⟩)
          | (go_at_call 7; go_fit (hSl.out _); rintro e w4 ⟨v4, rfl, B4⟩)
          | (go_at_call 8; go_fit (hLk.out _); rintro e w5 ⟨x5, y5, rfl, B5⟩; have B25 := on_two (on_three B2 B3 B4) B5; have B35 := on_two B4 B5)
          | (go_at_call 10; go_fit (hCv.out _ B25); rintro e w6 ⟨b6, c6, rfl, g6, B6⟩)
          | (go_at_call 9; go_fit (hSm.out _ _ _ _ _ (g3.below (on_two B35 B6)) g6); rintro e w7 ⟨rfl, B7⟩)
          | fail)
        go_ret
        exact ⟨rfl, hB.out.trans ((on_three B25 B6 B7).mono hB.out.size)⟩

set_option maxRecDepth 100000 in
theorem lifted (os : Os) (started : os.Started) (H : Type) (enc : TypeId × Value → H) :
    ReturnsInHanded {} Try.checked os 3 .any (Rows.sheetCellsBackSpec.pre6 enc Try.prog Try.f3 Rows.sheetCellsBackRow.domain false) (Rows.sheetCellsBackSpec.post enc Try.prog Try.f3 false true false false) := by
  refine returnsInHanded_of_change (C := Try.checked) own started (by kernel_rfl) Try.func3
    (ChangeSpec.witness6 (enc := enc) (C := Try.checked) false ⟨#[], #[.slice none 0 0], []⟩ 8 (by kernel_rfl) (by kernel_rfl) (by kernel_rfl) (by kernel_rfl)) ?_
  intro W base args ds gs before hval0 hW hcnd _
  have hval : ∀ (j : Nat) t v, Try.f3.params[j]? = some t → args[j]? = some v → Value.okWide Try.prog W .any base t v := hval0
  have hW' := hW
  obtain ⟨p, q, hA0, hV, rfl, hfz, hnd⟩ := hW
  have hA : DataW.TrodAll enc Try.prog W 0 (fun _ => true) true Try.f3.params.toList args.toList ds p := hA0
  rw [Try.params3] at hA hval
  obtain ⟨v0, vs0, d0, ds0, p0, q0, hargs, rfl, rfl, h0, r0⟩ := trodAll_cons hA
  obtain ⟨rfl, rfl, rfl⟩ := trodAll_nil r0
  obtain rfl : args = #[v0] := by cases args; simp_all
  obtain ⟨rfl, rfl⟩ := trodVars_none hV
  obtain ⟨a0, len0, cap0, rfl⟩ := okWide_slice Try.underlying22 (hval 0 22 v0 rfl rfl)
  have k0 := h0
  have lt0 : ∀ x ∈ p0, x.block < W.heap.size := by obtain ⟨m, hm⟩ := k0; exact DataW.trod_lt m _ _ _ hm
  obtain ⟨L0, rfl, b0⟩ := open_cells h0
  clear hA0 hval0
  refine (walk a0 cap0 L0 W b0).mono fun e W' ⟨he, bel⟩ => ?_
  subst he
  exact ⟨_, rfl, _, _, _, [], _, [], hW', trodAll_mk1 (shut_bool Try.underlying4 _), (trodAll_cons_mk (Below.trod laidOut (by kernel_rfl) (of_decide_eq_true (by kernel_rfl)) k0 bel lt0) trodAll_mk0), rfl, bel.frame _, fun h => by cases h⟩

theorem over : Rows.sheetCellsBackRow.holds Try.pinned (OpenSpec.ofChange Rows.sheetCellsBackSpec) :=
  OpenClaim.holds_of_wide 3 Try.f3 rfl rfl rfl rfl rfl rfl rfl ⟨rfl, rfl, rfl, rfl, rfl⟩ rfl rfl rfl rfl rfl (by kernel_rfl) Try.func3 (by kernel_rfl)
    (of_decide_eq_true (by kernel_rfl)) (by unfold Func.isWrapper; first | (rw [if_pos (by decide +kernel)]; kernel_rfl) | (rw [if_neg (by decide +kernel)]; exact ⟨rfl, rfl⟩))
    (fun os started H enc _ => lifted os started H enc)

theorem proved : Rows.SheetCellsBackSaid :=
  over
end Go.Proofs.Ytjcocmoidboamab.sheetCellsBack

namespace Go.Proofs.Ytjcocmoidboamab
theorem sheetCellsBack_holds : Rows.SheetCellsBackSaid := sheetCellsBack.proved
end Go.Proofs.Ytjcocmoidboamab
