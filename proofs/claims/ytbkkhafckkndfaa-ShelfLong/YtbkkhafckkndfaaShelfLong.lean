/-
  Proved: maquettelaw16.ShelfLong returns true for every int; no condition.
-/
import Derived.Test.YtbkkhafckkndfaaRows
import Derived.Test.YtbkkhafckkndfaaPk09
import Derived.Test.YtbkkhafckkndfaaPxMLong
import Derived.WalkKit
import Derived.Deep.QuietTactic
import Derived.BigQuiet
import Derived.WalkSpells
import Derived.Deep.CutRange
import Derived.Deep.CutBlock
import Derived.WalkLawsBesides
import Derived.ProofKit
import Derived.OpenShut
import Derived.ChangeOld
import Derived.Below
namespace Go.Proofs.Ytbkkhafckkndfaa.shelfLong
open Go.ChangeShapes Go.WideShapes Go.ChangeAt Go.RowKit
set_option linter.unusedVariables false

theorem own : ownKnob Try.prog.godebug = none := by kernel_rfl
theorem laidOut : laidOutB Try.prog = true := by kernel_rfl

theorem long_at (W : World) (Z : ByteArray) : PrsAt (W.alloc (.cells #[.int .i64 5, .string Z] 53)) (some ⟨W.heap.size, 0, none⟩) [⟨5, Z⟩] := by
  refine .inr ⟨W.heap.size, 0, rfl, fun i hi => ?_⟩
  obtain rfl : i = 0 := by simp at hi; omega
  exact ⟨new_at W [.int .i64 5, .string Z] 53 _ rfl 0 _ rfl, new_at W [.int .i64 5, .string Z] 53 _ rfl 1 _ rfl⟩
theorem byte_in (n k : Nat) (hn : n ≤ 900) (h : k < (longL n).length) : (k : Int) / 120 = (((longL n)[k]).toNat : Int) := by
  have h2 : k < n := by rwa [longL_len] at h
  have e : (longL n)[k] = UInt8.ofNat (k / 120) := by
    have := longL_get n k h2
    rw [List.getElem?_eq_getElem h] at this
    exact Option.some.inj this
  rw [e, UInt8.toNat_ofNat']
  omega

set_option maxRecDepth 100000 in
set_option maxHeartbeats 16000000 in
theorem walk (a0 : Int) (f0 : inF a0) (w : World) :
    Calls Try.prog 6 #[.int .i64 a0] w fun e w' => e = .returned (.bool true) ∧ Below w.heap.size w w' := by
  have hal : Hid (∀ W, Calls Try.prog 9 #[] W fun e w' => e = .returned (.bool true) ∧ Below W.heap.size W w') := alive16
  by_cases hbad : a0 < 0 ∨ (¬ a0 < 0 ∧ 900 < a0)
  · rcases hbad with h1 | ⟨h1, h2⟩
    all_goals
      go_enter Try.func6, Try.ntmps6
      go_wp2_with (first | (go_at_call 9; go_fit (hal.out _); rintro e w1 ⟨rfl, hB⟩) | fail)
      go_ret
      exact ⟨rfl, hB⟩
  have h1 : ¬ a0 < 0 := by omega
  have h2 : ¬ 900 < a0 := by omega
  obtain ⟨n, rfl⟩ := Int.eq_ofNat_of_zero_le (show 0 ≤ a0 by omega)
  have hn9 : n ≤ 900 := by omega
  clear hbad
  have hmk := run_make_row' (P := Try.prog) 51 5 (.int .u8 0) 1 Try.underlying51 (by kernel_rfl) rfl .i64 .i64 n (by omega) (by omega)
  obtain ⟨D, hD⟩ : ∃ D, D = longL n := ⟨_, rfl⟩
  have hl : D.length = n := by rw [hD]; exact longL_len n
  have hby : Hid (∀ k (h : k < D.length), (k : Int) / 120 = ((D[k]).toNat : Int)) := by
    subst hD
    exact fun k h => byte_in n k hn9 h
  have h0 : Hid (∀ W : World, (W.alloc (.cells (madeCells #[Value.int .u8 0] n) 5)).ownsRow W.heap.size 5 1 (.slice (some ⟨W.heap.size, 0, none⟩) n n) n (u8V (D.take 0) ++ List.replicate (D.length - 0) (.int .u8 0))) := fun W => by
    have := World.ownsRow_lit (e := 5) (base := W.heap.size) (size := 1) W (madeCells #[Value.int .u8 0] n) n (by omega) (by have : maxLen = 9223372036854775807 := rfl; omega) (by rw [size_madeCells, Nat.mul_one])
    rw [toList_madeCells_one] at this
    simpa [u8V, hl] using this
  have hN : Hid (∀ W, Calls Try.prog 15 #[.slice (some ⟨W.heap.size, 0, none⟩) 1 1] (W.alloc (.cells #[.int .i64 5, .string ⟨D.toArray⟩] 53)) fun e w' => e = .returned (.int .i64 (if 24 < n then 2 + (n + 119) / 120 else 2 : Nat)) ∧ Below W.heap.size W w') := fun W => by
    have := kneed_any [⟨5, ⟨D.toArray⟩⟩] _ 1 _ (long_at W ⟨D.toArray⟩) (by simp)
    have e : needN [⟨5, ⟨D.toArray⟩⟩] = if 24 < n then 2 + (n + 119) / 120 else 2 := by
      subst hD
      exact long_need n hn9
    rw [e] at this
    exact this.mono fun e w' he => ⟨he.1, ((Grew.refl W).alloc _ _).below.trans (he.2.mono (by simp))⟩
  clear hD
  go_enter Try.func6, Try.ntmps6
  go_wp2_with (first | (go_at_call 9; go_fit (hal.out _); rintro e w1 ⟨rfl, hB⟩) | fail)
  have hr0 := h0.out w1
  have hB0 := hB.trans ((((Grew.refl w1).alloc (madeCells #[Value.int .u8 0] n) 5).below).mono hB.size)
  have hb : w.heap.size ≤ w1.heap.size := hB.size
  generalize w1.alloc (.cells (madeCells #[Value.int .u8 0] n) 5) = W0 at *
  generalize w1.heap.size = b at *
  replace hb : Hid _ := hb
  go_loopw [21] (fun i wr => ∃ k : Nat, k ≤ n ∧ i = .int .i64 k ∧ Below w.heap.size w wr ∧ wr.ownsRow b 5 1 (.slice (some ⟨b, 0, none⟩) n n) n (u8V (D.take k) ++ List.replicate (D.length - k) (.int .u8 0))) (fun i _ => n - (intOf i).toNat)
  case atStart => exact ⟨0, by omega, rfl, hB0, hr0⟩
  case round =>
    clear hB hB0 hr0
    obtain ⟨k, hk, rfl, hG, hr⟩ := hrel
    by_cases hlt : k < n
    · have hi : (k : Int) < n := by omega
      have c0 : wr.cell? ⟨b, k, none⟩ = some (.int .u8 0) := by
        rw [hr.cellAt k (by omega), List.getElem?_append_right (by simp [u8V]; omega), List.getElem?_replicate, if_pos (by simp [u8V]; omega)]
      have z0 : wr.frozen? ⟨b, k, none⟩ = false := hr.frozenAt k
      clear hN
      go_wp2
      refine ⟨⟨k + 1, by omega, by simp, hG.setCell hb.out _, ?_⟩, meas_up hlt⟩
      rw [hby.out k (by omega), ← row_up D k (by omega)]
      exact (hr.stored k _).1
    · have hi : ¬ (k : Int) < n := by omega
      have e : k = n := by omega
      subst e
      rw [List.take_of_length_le (by omega), hl, Nat.sub_self, List.replicate_zero, List.append_nil] at hr
      have hc := conv_own hr hl
      by_cases h24 : 24 < k
      · rw [if_pos h24] at hN
        have h24i : (24 : Int) < k := by omega
        go_wp2_with (first | (go_at_call 15; go_fit (hN.out _); rintro e w2 ⟨rfl, g2⟩) | fail)
        go_ret
        refine ⟨?_, hG.trans (g2.mono hG.size)⟩
        have e9 : (2 + ((k : Int) + 119) / 120 == 2 + ((k : Int) + 120 - 1) / 120) = true := by
          rw [beq_iff_eq]
          omega
        rw [e9]
        rfl
      · rw [if_neg h24] at hN
        have h24i : ¬ (24 : Int) < k := by omega
        go_wp2_with (first | (go_at_call 15; go_fit (hN.out _); rintro e w2 ⟨rfl, g2⟩) | fail)
        go_ret
        exact ⟨rfl, hG.trans (g2.mono hG.size)⟩

set_option maxRecDepth 100000 in
theorem lifted (os : Os) (started : os.Started) (H : Type) (enc : TypeId × Value → H) :
    ReturnsInHanded {} Try.checked os 6 .any (Rows.shelfLongSpec.pre6 enc Try.prog Try.f6 Rows.shelfLongRow.domain false) (Rows.shelfLongSpec.post enc Try.prog Try.f6 false true false false) := by
  refine returnsInHanded_of_change (C := Try.checked) own started (by kernel_rfl) Try.func6
    (ChangeSpec.witness6 (enc := enc) (C := Try.checked) false ⟨#[], #[.int .i64 0], []⟩ 8 (by kernel_rfl) (by kernel_rfl) (by kernel_rfl) (by kernel_rfl)) ?_
  intro W base args ds gs before hval0 hW hcnd _
  have hval : ∀ (j : Nat) t v, Try.f6.params[j]? = some t → args[j]? = some v → Value.okWide Try.prog W .any base t v := hval0
  have hW' := hW
  obtain ⟨p, q, hA0, hV, rfl, hfz, hnd⟩ := hW
  have hA : DataW.TrodAll enc Try.prog W 0 (fun _ => true) true Try.f6.params.toList args.toList ds p := hA0
  rw [Try.params6] at hA hval
  obtain ⟨v0, vs0, d0, ds0, p0, q0, hargs, rfl, rfl, h0, r0⟩ := trodAll_cons hA
  obtain ⟨rfl, rfl, rfl⟩ := trodAll_nil r0
  obtain rfl : args = #[v0] := by cases args; simp_all
  obtain ⟨rfl, rfl⟩ := trodVars_none hV
  obtain ⟨a0, rfl, rfl, rfl, w0⟩ := open_int Try.underlying3 (hval 0 3 v0 rfl rfl) h0
  have f0 := inF_wf w0
  clear hA0 hval0
  refine (walk a0 f0 W ).mono fun e W' ⟨he, bel⟩ => ?_
  subst he
  exact ⟨_, rfl, _, _, _, [], _, [], hW', trodAll_mk1 (shut_bool Try.underlying4 _), (trodAll_cons_mk (shut_int Try.underlying3 w0) trodAll_mk0), rfl, bel.frame _, fun h => by cases h⟩

theorem over : Rows.shelfLongRow.holds Try.pinned (OpenSpec.ofChange Rows.shelfLongSpec) :=
  OpenClaim.holds_of_wide 6 Try.f6 rfl rfl rfl rfl rfl rfl rfl ⟨rfl, rfl, rfl, rfl, rfl⟩ rfl rfl rfl rfl rfl (by kernel_rfl) Try.func6 (by kernel_rfl)
    (of_decide_eq_true (by kernel_rfl)) (by unfold Func.isWrapper; first | (rw [if_pos (by decide +kernel)]; kernel_rfl) | (rw [if_neg (by decide +kernel)]; exact ⟨rfl, rfl⟩))
    (fun os started H enc _ => lifted os started H enc)

theorem proved : Rows.ShelfLongSaid :=
  over
end Go.Proofs.Ytbkkhafckkndfaa.shelfLong

namespace Go.Proofs.Ytbkkhafckkndfaa
theorem shelfLong_holds : Rows.ShelfLongSaid := shelfLong.proved
end Go.Proofs.Ytbkkhafckkndfaa
