/-
  Proved: maquettelaw13.PlatterLasts returns true for every two lists of texts, and leaves what it was given as it was; no condition.
-/
import Derived.Test.YtjmblichomchpaaRows
import Derived.Test.YtjmblichomchpaaTAlive
import Derived.Test.YtjmblichomchpaaTData
import Derived.WalkKit
import Derived.Deep.QuietTactic
import Derived.BigQuiet
import Derived.WalkSpells
import Derived.Deep.CutRange
import Derived.Deep.CutBlock
import Derived.WalkLawsBesides
import Derived.ProofKit
import Derived.OpenShut
import Derived.ChangeOld
import Derived.Below
namespace Go.Proofs.Ytjmblichomchpaa.platterLasts
open Go.ChangeShapes Go.WideShapes Go.ChangeAt Go.RowKit
set_option linter.unusedVariables false

theorem own : ownKnob Try.prog.godebug = none := by kernel_rfl
theorem laidOut : laidOutB Try.prog = true := by kernel_rfl

/-- What the first of them store. -/
def fl (L : List ByteArray) (k : Nat) : List Wr := (List.range k).map fun j => ⟨j, fillB (L.getD j ByteArray.empty)⟩
def la (L : List ByteArray) (N Ls : List ByteArray) (k : Nat) : Pl := ⟨N, Ls, fl L k, -1, false⟩
theorem la_s (L : List ByteArray) {N Ls : List ByteArray} {k : Nat} (hN : N.length = 20) (hk : k < 20) : storeP (la L N Ls k) (k : Int) (fillB (L.getD k ByteArray.empty)) = (0, la L (N.set k (fillB (L.getD k ByteArray.empty))) Ls (k + 1)) := by
  unfold la fl
  rw [storeP_go (by rw [hN]; exact hk) (fillB_size _) (by decide), List.range_succ, List.map_append]
  rfl
theorem la_few {L N Ls : List ByteArray} {k : Nat} (hk : k < 20) : (la L N Ls k).float.length < 1000000 := by simp [la, fl]; omega
theorem settleL_append (F : List Wr) (x : Wr) : ∀ (L : List ByteArray), settleL (F ++ [x]) L = (settleL F L).set x.n x.b := by
  induction F with
  | nil => exact fun L => rfl
  | cons y F ih => exact fun L => ih _
theorem settleL_len (F : List Wr) : ∀ (L : List ByteArray), (settleL F L).length = L.length := by
  induction F with
  | nil => exact fun L => rfl
  | cons y F ih => exact fun L => by rw [settleL, ih, List.length_set]
theorem pg_set (L : List ByteArray) (i j : Nat) (x : ByteArray) (hi : i < L.length) : pg (L.set i x) j = if j = i then x else pg L j := by
  unfold pg List.getD
  rw [List.getElem?_set]
  by_cases e : i = j
  · subst e; simp [hi]
  · have : ¬ j = i := fun q => e q.symm
    simp [e, this]
theorem fl_settle (L : List ByteArray) (Ls : List ByteArray) (hl : Ls.length = 20) : ∀ (k j : Nat), k ≤ 20 → j < k → pg (settleL (fl L k) Ls) j = fillB (L.getD j ByteArray.empty)
  | 0, j, _, h => absurd h (Nat.not_lt_zero _)
  | k + 1, j, hk, hj => by
    have e : fl L (k + 1) = fl L k ++ [⟨k, fillB (L.getD k ByteArray.empty)⟩] := by unfold fl; rw [List.range_succ, List.map_append]; rfl
    rw [e, settleL_append, pg_set _ _ _ _ (by show k < _; rw [settleL_len]; omega)]
    by_cases h : j = k
    · subst h; rw [if_pos rfl]
    · rw [if_neg h]; exact fl_settle L Ls hl k j (by omega) (by omega)
theorem tear_zero (old new : ByteArray) : tear old new 0 = old := by
  unfold tear
  rw [List.take_zero, List.drop_zero, List.nil_append]
theorem fail_keeps : ∀ (F : List Wr) (k : Nat) (r : Int × List ByteArray), (∀ x ∈ F, x.n < r.2.length) → (failL [] k F r).1 = r.1 ∧ (failL [] k F r).2.length = r.2.length ∧ ∀ j, pg (failL [] k F r).2 j = pg r.2 j
  | [], _, _, _ => ⟨rfl, rfl, fun _ => rfl⟩
  | x :: F, k, r, h => by
    have hc : cutN [] k = 0 := by simp [cutN]
    have hx := h x (by simp)
    obtain ⟨e1, e2, e3⟩ := fail_keeps F (k + 1) (r.1, r.2.set x.n (pg r.2 x.n)) (fun y hy => by simpa using h y (by simp [hy]))
    rw [failL, hc, if_neg (Nat.lt_irrefl 0), tear_zero]
    refine ⟨e1, by rw [e2]; simp, fun j => ?_⟩
    rw [e3, pg_set _ _ _ _ hx]
    split
    · rename_i q; rw [q]
    · rfl
theorem la_f (L : List ByteArray) {N Ls : List ByteArray} {k : Nat} (hl : Ls.length = 20) (hk : k ≤ 20) : ∃ R, failP (la L N Ls k) [] = (0, ⟨R, R, [], -1, false⟩) ∧ R.length = 20 ∧ ∀ j, pg R j = pg Ls j := by
  obtain ⟨e1, e2, e3⟩ := fail_keeps (fl L k) 0 (0, Ls) (fun x hx => by
    obtain ⟨j, hj, rfl⟩ := List.mem_map.1 hx
    have := List.mem_range.1 hj
    show j < Ls.length
    omega)
  refine ⟨(failL [] 0 (fl L k) (0, Ls)).2, Prod.ext e1 rfl, e2.trans hl, e3⟩

set_option maxRecDepth 100000 in
set_option maxHeartbeats 16000000 in
theorem walk (a0 : Option Addr) (cap0 : Nat) (L0 : List ByteArray) (a1 : Option Addr) (cap1 : Nat) (L1 : List ByteArray) (w : World) (b0 : Texts w a0 L0) (b1 : Texts w a1 L1):
    Calls Try.prog 5 #[.slice a0 L0.length cap0, .slice a1 L1.length cap1] w fun e w' => e = .returned (.bool true) ∧ Below w.heap.size w w' := by
  have hal : Hid (∀ W, Calls Try.prog 9 #[] W fun e w' => e = .returned (.bool true) ∧ Below W.heap.size W w') := alive_any
  have HB0 : Hid (Texts w a0 L0) := b0
  have HB1 : Hid (Texts w a1 L1) := b1
  clear b0 b1
  have hF : Hid (∀ W x, Calls Try.prog 15 #[.string x] W fun e w' => e = .returned (.string (fillB x)) ∧ Grew W w') := fun W x => fill_any W x
  by_cases h0 : (15 : Int) < L0.length
  · go_enter Try.func5, Try.ntmps5
    go_wp2_with (first | (go_at_call 9; go_fit (hal.out w); rintro e w1 ⟨rfl, hB⟩))
    go_ret
    exact ⟨rfl, hB⟩
  by_cases h1 : (15 : Int) < L1.length
  · go_enter Try.func5, Try.ntmps5
    go_wp2_with (first | (go_at_call 9; go_fit (hal.out w); rintro e w1 ⟨rfl, hB⟩))
    go_ret
    exact ⟨rfl, hB⟩
  have hNew : Hid (∀ W, Below w.heap.size w W → Calls Try.prog 10 #[.int .i64 20] W fun e w' => ∃ b, e = .returned (.pointer (some ⟨b, 0, none⟩)) ∧ One w w' b (newP 20)) := fun W h => one_new (k := 20) h (by decide) (by decide)
  obtain ⟨n, hn⟩ : ∃ n, n = L0.length := ⟨_, rfl⟩
  obtain ⟨m, hm⟩ : ∃ m, m = L1.length := ⟨_, rfl⟩
  rw [← hn] at h0 ⊢
  rw [← hm] at h1 ⊢
  have hn15 : n ≤ 15 := by omega
  have hm15 : m ≤ 15 := by omega
  replace hn : Hid (n = L0.length) := hn
  replace hm : Hid (m = L1.length) := hm
  go_enter Try.func5, Try.ntmps5
  go_wp2_with (first
    | (go_at_call 9; go_fit (hal.out w); rintro e w1 ⟨rfl, hB⟩)
    | (go_at_call 10; go_fit (hNew.out _ hB); rintro e w1 ⟨b, rfl, hO⟩)
    | fail)
  go_loopw [32] (fun i wr => ∃ (k : Nat) (N : List ByteArray), k ≤ n ∧ i = .int .i64 k ∧ N.length = 20 ∧ One w wr b (la L0 N (List.replicate 20 (zerosB 128)) k)) (fun i _ => n - (intOf i).toNat)
  case atStart => exact ⟨0, (newP 20).now, by omega, rfl, by simp [newP], hO⟩
  case round =>
    obtain ⟨k, N, hk, rfl, hN, hO2⟩ := hrel
    clear hO
    by_cases hlt : k < n
    · skip
      have hki : (k : Int) < n := by omega
      have hkL : k < L0.length := by have := hn.out; omega
      obtain ⟨q, off, rfl, hc0⟩ := HB0.out.resolve_left (fun e => by rw [e] at hkL; simp at hkL)
      have hcell := (hO2.2.cell (cell_block (hc0 k hkL))).trans (hc0 k hkL)
      clear hc0
      obtain ⟨x, hx⟩ : ∃ x, x = L0.getD k ByteArray.empty := ⟨_, rfl⟩
      rw [← hx] at hcell
      replace hx : Hid (x = L0.getD k ByteArray.empty) := hx
      have hs := la_s L0 (Ls := List.replicate 20 (zerosB 128)) hN (show k < 20 by omega)
      have hfew : Hid ((la L0 N (List.replicate 20 (zerosB 128)) k).float.length < 1000000) := la_few (by omega)
      rw [← hx.out] at hs
      obtain ⟨X, hX⟩ : ∃ X, X = fillB x := ⟨_, rfl⟩
      have hFx : Hid (∀ W, Calls Try.prog 15 #[.string x] W fun e w' => e = .returned (.string X) ∧ Grew W w') := by rw [hX]; exact fun W => hF.out W x
      rw [← hX] at hs
      replace hs : Hid (storeP (la L0 N (List.replicate 20 (zerosB 128)) k) (k : Int) X = (0, la L0 (N.set k X) (List.replicate 20 (zerosB 128)) (k + 1))) := hs
      clear hX
      go_wp2_with (first
        | (go_at_call 15; go_fit (hFx.out _); rintro e w1 ⟨rfl, G⟩; replace hO2 := hO2.grew G)
        | (go_at_call 14; go_fit (one_store hO2 hs.out hfew.out); rintro e w1 ⟨rfl, hO2⟩)
        | fail)
      refine ⟨⟨k + 1, N.set k X, hlt, by simp, by simpa using hN, hO2⟩, ?_⟩
      simp only [intOf]; omega
    · have hki : ¬ (k : Int) < n := by omega
      obtain rfl : k = n := by omega
      obtain ⟨Ls, hLs⟩ : ∃ Ls, Ls = settleL (fl L0 k) (List.replicate 20 (zerosB 128)) := ⟨_, rfl⟩
      have hLl : Ls.length = 20 := by rw [hLs, settleL_len, List.length_replicate]
      have hLp : Hid (∀ j, j < k → pg Ls j = fillB (L0.getD j ByteArray.empty)) := fun j hj => by rw [hLs]; exact fl_settle L0 _ List.length_replicate k j (by omega) hj
      have hse : Hid (settleP (la L0 N (List.replicate 20 (zerosB 128)) k) = (0, la L1 N Ls 0)) := by rw [hLs]; rfl
      clear hLs
      go_wp2_with (first
        | (go_at_call 16; go_fit (one_settle hO2 hse.out); rintro e w1 ⟨rfl, hO2⟩)
        | fail)
      go_loopw [49] (fun i wr => ∃ (j : Nat) (N : List ByteArray), j ≤ m ∧ i = .int .i64 j ∧ N.length = 20 ∧ One w wr b (la L1 N Ls j)) (fun i _ => m - (intOf i).toNat)
      case atStart => exact ⟨0, N, by omega, rfl, hN, hO2⟩
      case round =>
        clear hO2 hse hN
        obtain ⟨j, N, hj, rfl, hN, hO2⟩ := hrel
        by_cases hlt2 : j < m
        · skip
          have hki : (j : Int) < m := by omega
          have hkL : j < L1.length := by have := hm.out; omega
          obtain ⟨q, off, rfl, hc0⟩ := HB1.out.resolve_left (fun e => by rw [e] at hkL; simp at hkL)
          have hcell := (hO2.2.cell (cell_block (hc0 j hkL))).trans (hc0 j hkL)
          clear hc0
          obtain ⟨x, hx⟩ : ∃ x, x = L1.getD j ByteArray.empty := ⟨_, rfl⟩
          rw [← hx] at hcell
          replace hx : Hid (x = L1.getD j ByteArray.empty) := hx
          have hs := la_s L1 (Ls := Ls) hN (show j < 20 by omega)
          have hfew : Hid ((la L1 N Ls j).float.length < 1000000) := la_few (by omega)
          rw [← hx.out] at hs
          obtain ⟨X, hX⟩ : ∃ X, X = fillB x := ⟨_, rfl⟩
          have hFx : Hid (∀ W, Calls Try.prog 15 #[.string x] W fun e w' => e = .returned (.string X) ∧ Grew W w') := by rw [hX]; exact fun W => hF.out W x
          rw [← hX] at hs
          replace hs : Hid (storeP (la L1 N Ls j) (j : Int) X = (0, la L1 (N.set j X) Ls (j + 1))) := hs
          clear hX
          go_wp2_with (first
            | (go_at_call 15; go_fit (hFx.out _); rintro e w1 ⟨rfl, G⟩; replace hO2 := hO2.grew G)
            | (go_at_call 14; go_fit (one_store hO2 hs.out hfew.out); rintro e w1 ⟨rfl, hO2⟩)
            | fail)
          refine ⟨⟨j + 1, N.set j X, hlt2, by simp, by simpa using hN, hO2⟩, ?_⟩
          simp only [intOf]; omega
        · have hki : ¬ (j : Int) < m := by omega
          obtain ⟨R, hf, hR, hRj⟩ := la_f L1 (N := N) (k := j) hLl (by omega)
          replace hf : Hid (failP (la L1 N Ls j) [] = (0, ⟨R, R, [], -1, false⟩)) := hf
          replace hRj : Hid (∀ j, j < k → pg R j = fillB (L0.getD j ByteArray.empty)) := fun j hj => (hRj j).trans (hLp.out j hj)
          clear hLp
          go_wp2_with (first
            | (go_at_call 18; go_fit (one_fail0 hO2 hf.out); rintro e w1 ⟨rfl, hO2⟩)
            | fail)
          go_loopw [66] (fun i wr => ∃ (j : Nat), j ≤ k ∧ i = .int .i64 j ∧ One w wr b ⟨R, R, [], -1, false⟩) (fun i _ => k - (intOf i).toNat)
          case atStart => exact ⟨0, by omega, rfl, hO2⟩
          case round =>
            clear hO2 hf hN hj hlt2 hki
            obtain ⟨j, hj, rfl, hO2⟩ := hrel
            by_cases hlt3 : j < k
            · skip
              have hki : (j : Int) < k := by omega
              have hkL : j < L0.length := by have := hn.out; omega
              obtain ⟨q, off, rfl, hc0⟩ := HB0.out.resolve_left (fun e => by rw [e] at hkL; simp at hkL)
              have hcell := (hO2.2.cell (cell_block (hc0 j hkL))).trans (hc0 j hkL)
              clear hc0
              obtain ⟨x, hx⟩ : ∃ x, x = L0.getD j ByteArray.empty := ⟨_, rfl⟩
              rw [← hx] at hcell
              replace hx : Hid (x = L0.getD j ByteArray.empty) := hx
              obtain ⟨X, hX⟩ : ∃ X, X = fillB x := ⟨_, rfl⟩
              have hFx : Hid (∀ W, Calls Try.prog 15 #[.string x] W fun e w' => e = .returned (.string X) ∧ Grew W w') := by rw [hX]; exact fun W => hF.out W x
              have hld : Hid (loadP ⟨R, R, [], -1, false⟩ (j : Int) = (X, 0)) := by
                show _ = _
                rw [loadP_go (by rw [hR]; omega), hRj.out j hlt3, hX, hx.out]
              clear hX
              go_wp2_with (first
                | (go_at_call 15; go_fit (hFx.out _); rintro e w1 ⟨rfl, G⟩; replace hO2 := hO2.grew G)
                | (go_at_call 12; go_fit (one_load hO2 hld.out); rintro e w1 ⟨rfl, e⟩; have e := e.symm; subst e)
                | fail)
              refine ⟨⟨j + 1, hlt3, by simp, hO2⟩, ?_⟩
              simp only [intOf]; omega
            · have hki : ¬ (j : Int) < k := by omega
              go_wp2_with (fail)
              go_ret
              exact ⟨rfl, hO2.2⟩

set_option maxRecDepth 100000 in
theorem lifted (os : Os) (started : os.Started) (H : Type) (enc : TypeId × Value → H) :
    ReturnsInHanded {} Try.checked os 5 .any (Rows.platterLastsSpec.pre6 enc Try.prog Try.f5 Rows.platterLastsRow.domain false) (Rows.platterLastsSpec.post enc Try.prog Try.f5 false true false false) := by
  refine returnsInHanded_of_change (C := Try.checked) own started (by kernel_rfl) Try.func5
    (ChangeSpec.witness6 (enc := enc) (C := Try.checked) false ⟨#[], #[.slice none 0 0, .slice none 0 0], []⟩ 8 (by kernel_rfl) (by kernel_rfl) (by kernel_rfl) (by kernel_rfl)) ?_
  intro W base args ds gs before hval0 hW hcnd _
  have hval : ∀ (j : Nat) t v, Try.f5.params[j]? = some t → args[j]? = some v → Value.okWide Try.prog W .any base t v := hval0
  have hW' := hW
  obtain ⟨p, q, hA0, hV, rfl, hfz, hnd⟩ := hW
  have hA : DataW.TrodAll enc Try.prog W 0 (fun _ => true) true Try.f5.params.toList args.toList ds p := hA0
  rw [Try.params5] at hA hval
  obtain ⟨v0, vs0, d0, ds0, p0, q0, hargs, rfl, rfl, h0, r0⟩ := trodAll_cons hA
  obtain ⟨v1, vs1, d1, ds1, p1, q1, rfl, rfl, rfl, h1, r1⟩ := trodAll_cons r0
  obtain ⟨rfl, rfl, rfl⟩ := trodAll_nil r1
  obtain rfl : args = #[v0, v1] := by cases args; simp_all
  obtain ⟨rfl, rfl⟩ := trodVars_none hV
  obtain ⟨a0, len0, cap0, rfl⟩ := okWide_slice Try.underlying42 (hval 0 42 v0 rfl rfl)
  have k0 := h0
  have lt0 : ∀ x ∈ p0, x.block < W.heap.size := by obtain ⟨m, hm⟩ := k0; exact DataW.trod_lt m _ _ _ hm
  obtain ⟨L0, rfl, b0⟩ := open_texts h0
  obtain ⟨a1, len1, cap1, rfl⟩ := okWide_slice Try.underlying42 (hval 1 42 v1 rfl rfl)
  have k1 := h1
  have lt1 : ∀ x ∈ p1, x.block < W.heap.size := by obtain ⟨m, hm⟩ := k1; exact DataW.trod_lt m _ _ _ hm
  obtain ⟨L1, rfl, b1⟩ := open_texts h1
  clear hA0 hval0
  refine (walk a0 cap0 L0 a1 cap1 L1 W b0 b1).mono fun e W' ⟨he, bel⟩ => ?_
  subst he
  exact ⟨_, rfl, _, _, _, [], _, [], hW', trodAll_mk1 (shut_bool Try.underlying4 _), (trodAll_cons_mk (Below.trod laidOut (by kernel_rfl) (of_decide_eq_true (by kernel_rfl)) k0 bel lt0) (trodAll_cons_mk (Below.trod laidOut (by kernel_rfl) (of_decide_eq_true (by kernel_rfl)) k1 bel lt1) trodAll_mk0)), rfl, bel.frame _, fun h => by cases h⟩

theorem over : Rows.platterLastsRow.holds Try.pinned (OpenSpec.ofChange Rows.platterLastsSpec) :=
  OpenClaim.holds_of_wide 5 Try.f5 rfl rfl rfl rfl rfl rfl rfl ⟨rfl, rfl, rfl, rfl, rfl⟩ rfl rfl rfl rfl rfl (by kernel_rfl) Try.func5 (by kernel_rfl)
    (of_decide_eq_true (by kernel_rfl)) (by unfold Func.isWrapper; first | (rw [if_pos (by decide +kernel)]; kernel_rfl) | (rw [if_neg (by decide +kernel)]; exact ⟨rfl, rfl⟩))
    (fun os started H enc _ => lifted os started H enc)

theorem proved : Rows.PlatterLastsSaid :=
  over
end Go.Proofs.Ytjmblichomchpaa.platterLasts

namespace Go.Proofs.Ytjmblichomchpaa
theorem platterLasts_holds : Rows.PlatterLastsSaid := platterLasts.proved
end Go.Proofs.Ytjmblichomchpaa
