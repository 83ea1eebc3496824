/-
  Proved: maquettelaw16.ShelfReads returns true for every list of texts and every int, and leaves what it was given as it was; no condition.
-/
import Derived.Test.YtbkkhafckkndfaaGreatRows
import Derived.Test.YtbkkhafckkndfaaGreatPk09
import Derived.Test.YtbkkhafckkndfaaGreatPxTData
import Derived.Test.YtbkkhafckkndfaaGreatPxODuo
import Derived.Test.YtbkkhafckkndfaaGreatPxERead
import Derived.WalkKit
import Derived.Deep.QuietTactic
import Derived.BigQuiet
import Derived.WalkSpells
import Derived.Deep.CutRange
import Derived.Deep.CutBlock
import Derived.WalkLawsBesides
import Derived.ProofKit
import Derived.OpenShut
import Derived.ChangeOld
import Derived.Below
namespace Go.Proofs.YtbkkhafckkndfaaGreat.shelfReads
open Go.ChangeShapes Go.WideShapes Go.ChangeAt Go.RowKit
set_option linter.unusedVariables false

theorem own : ownKnob Tryz.prog.godebug = none := by kernel_rfl
theorem laidOut : laidOutB Tryz.prog = true := by kernel_rfl

theorem texts_at {w : World} {a : Option Addr} {L : List ByteArray} (h : Texts w a L) {W : World} (g : Below w.heap.size w W) : Texts W a L := by
  rcases h with e | ⟨b, off, e, k⟩
  · exact .inl e
  · exact .inr ⟨b, off, e, fun i hi => below_cell g (k i hi)⟩

set_option maxRecDepth 100000 in
set_option maxHeartbeats 16000000 in
theorem walk (a0 : Option Addr) (cap0 : Nat) (L0 : List ByteArray) (a1 : Int) (f1 : inF a1) (w : World) (b0 : Texts w a0 L0) :
    Calls Tryz.prog 3 #[.slice a0 L0.length cap0, .int .i64 a1] w fun e w' => e = .returned (.bool true) ∧ Below w.heap.size w w' := by
  have hal : Hid (∀ W, Calls Tryz.prog 4 #[] W fun e w' => e = .returned (.bool true) ∧ Below W.heap.size W w') := alive16
  have HB0 : Hid (Texts w a0 L0) := b0
  clear b0
  obtain ⟨n, hn⟩ : ∃ n, L0.length = n := ⟨_, rfl⟩
  rw [hn]
  replace hn : Hid (L0.length = n) := hn
  by_cases hL : 40 < n
  · have hLi : (40 : Int) < n := by omega
    go_enter Tryz.func3, Tryz.ntmps3
    go_wp2_with (first | (go_at_call 4; go_fit (hal.out _); rintro e W1 ⟨rfl, hB⟩))
    go_ret
    exact ⟨rfl, hB⟩
  have hLi : ¬ (40 : Int) < n := by omega
  have hNew : Hid (∀ W, Below w.heap.size w W → Calls Tryz.prog 5 #[.int .i64 40] W fun e w' => ∃ b, e = .returned (.pointer (some ⟨b, 0, none⟩)) ∧ One w w' b (newP 40)) := fun W h => one_new (k := 40) h (by decide) (by decide)
  have hRnw : Hid (∀ W b P, One w W b P → Calls Tryz.prog 6 #[.int .i64 40] W fun e w' => ∃ d, e = .returned (.pointer (some ⟨d, 0, none⟩)) ∧ Pair w w' b P d (newQ 40)) := fun W b P h => one_rnew h (k := 40) (by decide) (by decide)
  go_enter Tryz.func3, Tryz.ntmps3
  go_wp2_with (first
    | (go_at_call 4; go_fit (hal.out _); rintro e W1 ⟨rfl, hB⟩)
    | (go_at_call 5; go_fit (hNew.out _ hB); rintro e w1 ⟨b, rfl, hO⟩)
    | (go_at_call 6; go_fit (hRnw.out _ _ _ hO); rintro e w2 ⟨d, rfl, hP⟩)
    | fail)
  have S0 : St 40 0 (newP 40) (newQ 40) := ⟨sim_new (by decide) (by decide), List.length_replicate, Nat.le_refl _⟩
  go_loopw [32] (fun i wr => ∃ (j : Nat) (P : Pl) (R : Rp), j ≤ n ∧ i = .int .i64 (j : Int) ∧ Pair w wr b P d R ∧ St 40 j P R ∧ Gd P) (fun i _ => n - (intOf i).toNat)
  case atStart => exact ⟨0, newP 40, newQ 40, Nat.zero_le _, rfl, hP, S0, gd_new 40⟩
  case round =>
    clear hP S0 hO hB hNew hRnw hal
    obtain ⟨j, P, R, hj, rfl, hP, hS, hG⟩ := hrel
    obtain ⟨W3, rfl⟩ : ∃ W, W = wr := ⟨_, rfl⟩
    have hPB : Hid (Below w.heap.size w W3) := hP.below
    by_cases hlt : j < n
    · have hji : (j : Int) < n := by omega
      have hjL : j < L0.length := by rw [hn.out]; exact hlt
      obtain ⟨q, off, rfl, hcs⟩ := (texts_at HB0.out hPB.out).resolve_left (fun e => by rw [e] at hjL; simp at hjL)
      have hc := hcs j hjL
      generalize L0.getD j ByteArray.empty = X at *
      clear hcs hjL
      by_cases hz : 300 < X.size
      · have hzi : (300 : Int) < X.size := by omega
        clear hP hS hG
        go_wp2_with (fail)
        go_ret
        exact ⟨rfl, hPB.out⟩
      · have hzi : ¬ (300 : Int) < X.size := by omega
        have hF : Hid (∀ W, Calls Tryz.prog 7 #[.string X] W fun e w' => e = .returned (.string (fillB X)) ∧ Grew W w') := fun W => fill_any W X
        have hf8 := fillB_size X
        generalize fillB X = Y at *
        obtain ⟨r, P', R', s1, s2, hS'⟩ := hS.store (by omega) (j : Int) Y
        obtain ⟨rfl, hG'⟩ := hG.store (by omega) (by rw [hS.len]; omega) hf8 s1
        have hfl := hS.few
        have hRf : R.float.length < 1000000 := by rw [sim_to hS.sim]; show P.float.length < _; omega
        have hSt : Hid (∀ W, Grew W3 W → Calls Tryz.prog 8 #[.pointer (some ⟨b, 0, none⟩), .int .i64 (j : Int), .string Y] W fun e w' => e = .returned (.int .i64 0) ∧ Pair w w' b P' d R) := fun W g => pair_store (hP.grew g) s1 (by omega)
        have hRt : Hid (∀ W, Pair w W b P' d R → Calls Tryz.prog 9 #[.pointer (some ⟨d, 0, none⟩), .int .i64 (j : Int), .string Y] W fun e w' => e = .returned (.int .i64 0) ∧ Pair w w' b P' d R') := fun W h => rpair_store h s2 hRf
        replace hS' : Hid (St 40 (j + 1) P' R') := hS'
        clear hS hG hP s1 s2 hfl hRf hf8
        go_wp2_with (first
          | (go_at_call 7; go_fit (hF.out _); rintro e w4 ⟨rfl, g4⟩)
          | (go_at_call 8; go_fit (hSt.out _ g4); rintro e w5 ⟨rfl, hP5⟩)
          | (go_at_call 9; go_fit (hRt.out _ hP5); rintro e w6 ⟨rfl, hP6⟩)
          | fail)
        go_roundw
        case rel => first | exact ⟨j + 1, P', R', hlt, by simp, hP6, hS'.out, hG'⟩ | ((repeat apply Exists.intro); exact ⟨⟨j + 1, P', R', hlt, by simp, hP6, hS'.out, hG'⟩, rfl⟩)
        case measure => exact meas_up hlt
    · have hji : ¬ (j : Int) < n := by omega
      obtain rfl : j = n := by omega
      clear hlt hj
      obtain ⟨M, hM⟩ : ∃ M, rdM (loadP P) a1 = M := ⟨_, rfl⟩
      have hl1 := lr_len (loadP P) a1
      rw [hM] at hl1
      have hl2 := vr_len (loadP P) M
      have hRd : Hid (Calls Tryz.prog 10 #[.int .i64 a1, .func (.func 11) #[.pointer (some ⟨b, 0, none⟩)] #[]] W3 fun e w' => TwoR W3 w' (loadP P) M e) := (kread_any (hP.loads hG) a1).mono fun e w' h => by rw [hM] at h; exact two_of h
      have hRr : Hid (∀ W, Below W3.heap.size W3 W → Calls Tryz.prog 12 #[.pointer (some ⟨d, 0, none⟩), .int .i64 a1] W fun e w' => TwoR W w' (loadP P) M e) := fun W g => (rread_any ((hP.rlds hS.sim hG).mono g) a1).mono fun e w' h => by rw [hM] at h; exact rtwo_of h
      have hRn : Hid (∀ W, Calls Tryz.prog 10 #[.int .i64 a1, .nilFunc] W fun e w' => e = .returned (.tuple #[.slice none 0 0, .slice none 0 0, .int .i64 9]) ∧ W = w') := fun W => (kread_nil a1 W).mono fun e w' h => ⟨h.1, h.2.symm⟩
      unfold TwoR at hRd hRr
      have hSr : Hid (∀ W a c b d, PrsAt W a (LrM M) → PrsAt W b (LrM M) → Calls Tryz.prog 13 #[.slice a (LrM M).length c, .slice b (LrM M).length d] W fun e w' => e = .returned (.bool true) ∧ Below W.heap.size W w') := fun W a c b d h1 h2 => (same_rec _ _ a b c d W h1 h2 (by omega) (by omega)).mono fun e w' he => ⟨he.1.yes rfl, he.2⟩
      have hSw : Hid (∀ W a c b d, PrsAt W a (VrM (loadP P) M) → PrsAt W b (VrM (loadP P) M) → Calls Tryz.prog 14 #[.slice a (VrM (loadP P) M).length c, .slice b (VrM (loadP P) M).length d] W fun e w' => e = .returned (.bool true) ∧ Below W.heap.size W w') := fun W a c b d h1 h2 => (same_wri _ _ a b c d W h1 h2 (by omega) (by omega)).mono fun e w' he => ⟨he.1.yes rfl, he.2⟩
      generalize VrM (loadP P) M = V at *
      generalize LrM M = A at *
      generalize M.1 = E at *
      clear hP hS hG hM hl1 hl2
      go_wp2_with (first
        | (go_at_call 10; go_fit hRd.out; rintro e w5 ⟨aA, cA, aV, cV, rfl, hA, hV, g5⟩; have B5 := hPB.out.trans (g5.mono hPB.out.size))
        | (go_at_call 12; go_fit (hRr.out _ g5); rintro e w6 ⟨aB, cB, aW, cW, rfl, hA2, hV2, g6⟩; have B6 := B5.trans (g6.mono B5.size); have hA1 := hA.below g6; have hV1 := hV.below g6)
        | (go_at_call 10; go_fit (hRn.out _); rintro e w7 ⟨rfl, rfl⟩)
        | (go_at_call 13; go_fit (hSr.out _ _ _ _ _ hA1 hA2); rintro e w8 ⟨rfl, g8⟩; have B8 := B6.trans (g8.mono B6.size))
        | (go_at_call 14; go_fit (hSw.out _ _ _ _ _ (hV1.below g8) (hV2.below g8)); rintro e w9 ⟨rfl, g9⟩; have B9 := B8.trans (g9.mono B8.size))
        | fail)
      go_ret
      exact ⟨rfl, B9⟩

set_option maxRecDepth 100000 in
theorem lifted (os : Os) (started : os.Started) (H : Type) (enc : TypeId × Value → H) :
    ReturnsInHanded {} Tryz.checked os 3 .any (Rows.shelfReadsSpec.pre6 enc Tryz.prog Tryz.f3 Rows.shelfReadsRow.domain false) (Rows.shelfReadsSpec.post enc Tryz.prog Tryz.f3 false true false false) := by
  refine returnsInHanded_of_change (C := Tryz.checked) own started (by kernel_rfl) Tryz.func3
    (ChangeSpec.witness6 (enc := enc) (C := Tryz.checked) false ⟨#[], #[.slice none 0 0, .int .i64 0], []⟩ 8 (by kernel_rfl) (by kernel_rfl) (by kernel_rfl) (by kernel_rfl)) ?_
  intro W base args ds gs before hval0 hW hcnd _
  have hval : ∀ (j : Nat) t v, Tryz.f3.params[j]? = some t → args[j]? = some v → Value.okWide Tryz.prog W .any base t v := hval0
  have hW' := hW
  obtain ⟨p, q, hA0, hV, rfl, hfz, hnd⟩ := hW
  have hA : DataW.TrodAll enc Tryz.prog W 0 (fun _ => true) true Tryz.f3.params.toList args.toList ds p := hA0
  rw [Tryz.params3] at hA hval
  obtain ⟨v0, vs0, d0, ds0, p0, q0, hargs, rfl, rfl, h0, r0⟩ := trodAll_cons hA
  obtain ⟨v1, vs1, d1, ds1, p1, q1, rfl, rfl, rfl, h1, r1⟩ := trodAll_cons r0
  obtain ⟨rfl, rfl, rfl⟩ := trodAll_nil r1
  obtain rfl : args = #[v0, v1] := by cases args; simp_all
  obtain ⟨rfl, rfl⟩ := trodVars_none hV
  obtain ⟨a0, len0, cap0, rfl⟩ := okWide_slice Tryz.underlying22 (hval 0 22 v0 rfl rfl)
  have k0 := h0
  have lt0 : ∀ x ∈ p0, x.block < W.heap.size := by obtain ⟨m, hm⟩ := k0; exact DataW.trod_lt m _ _ _ hm
  obtain ⟨L0, rfl, b0⟩ := open_texts h0
  obtain ⟨a1, rfl, rfl, rfl, w1⟩ := open_int Tryz.underlying3 (hval 1 3 v1 rfl rfl) h1
  have f1 := inF_wf w1
  clear hA0 hval0
  refine (walk a0 cap0 L0 a1 f1 W b0 ).mono fun e W' ⟨he, bel⟩ => ?_
  subst he
  exact ⟨_, rfl, _, _, _, [], _, [], hW', trodAll_mk1 (shut_bool Tryz.underlying4 _), (trodAll_cons_mk (Below.trod laidOut (by kernel_rfl) (of_decide_eq_true (by kernel_rfl)) k0 bel lt0) (trodAll_cons_mk (shut_int Tryz.underlying3 w1) trodAll_mk0)), rfl, bel.frame _, fun h => by cases h⟩

theorem over : Rows.shelfReadsRow.holds Tryz.pinned (OpenSpec.ofChange Rows.shelfReadsSpec) :=
  OpenClaim.holds_of_wide 3 Tryz.f3 rfl rfl rfl rfl rfl rfl rfl ⟨rfl, rfl, rfl, rfl, rfl⟩ rfl rfl rfl rfl rfl (by kernel_rfl) Tryz.func3 (by kernel_rfl)
    (of_decide_eq_true (by kernel_rfl)) (by unfold Func.isWrapper; first | (rw [if_pos (by decide +kernel)]; kernel_rfl) | (rw [if_neg (by decide +kernel)]; exact ⟨rfl, rfl⟩))
    (fun os started H enc _ => lifted os started H enc)

theorem proved : Rows.ShelfReadsSaid :=
  over
end Go.Proofs.YtbkkhafckkndfaaGreat.shelfReads

namespace Go.Proofs.YtbkkhafckkndfaaGreat
theorem shelfReads_holds : Rows.ShelfReadsSaid := shelfReads.proved
end Go.Proofs.YtbkkhafckkndfaaGreat
