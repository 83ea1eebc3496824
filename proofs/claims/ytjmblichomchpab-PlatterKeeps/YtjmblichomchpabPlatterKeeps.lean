/-
  Proved: maquettelaw13.PlatterKeeps returns true for every list of bools, and leaves what it was given as it was; no condition.
-/
import Derived.Test.YtjmblichomchpabRows
import Derived.Test.YtjmblichomchpabTKeep
import Derived.WalkKit
import Derived.Deep.QuietTactic
import Derived.BigQuiet
import Derived.WalkSpells
import Derived.Deep.CutRange
import Derived.Deep.CutBlock
import Derived.WalkLawsBesides
import Derived.ProofKit
import Derived.OpenShut
import Derived.ChangeOld
import Derived.Below
namespace Go.Proofs.Ytjmblichomchpab.platterKeeps
open Go.ChangeShapes Go.WideShapes Go.ChangeAt Go.RowKit
set_option linter.unusedVariables false

theorem own : ownKnob Try.prog.godebug = none := by kernel_rfl
theorem laidOut : laidOutB Try.prog = true := by kernel_rfl

def xB : ByteArray := ⟨#[120]⟩
theorem fill_empty : fillB ⟨#[]⟩ = zerosB 128 := by decide +kernel
theorem xz : ((fillB xB).toList == (zerosB 128).toList) = false := by decide +kernel
theorem info_int : (Try.prog.info? 3).map (fun i => (i.zero, i.size, i.bytes)) = some (some (.int .i64 0), 1, 8) := by kernel_rfl
theorem info_parts {P : Program} {t : TypeId} {z : Option Value} {s b : Nat} (h : (P.info? t).map (fun i => (i.zero, i.size, i.bytes)) = some (z, s, b)) : ∃ i, P.info? t = some i ∧ i.zero = z ∧ i.size = s ∧ i.bytes = b := by
  cases hq : P.info? t with
  | none => rw [hq] at h; cases h
  | some i =>
    rw [hq] at h
    simp only [Option.map_some, Option.some.injEq, Prod.mk.injEq] at h
    exact ⟨i, rfl, h.1, h.2.1, h.2.2⟩
def kp (X : ByteArray) (N : List ByteArray) (k : Nat) : Pl := ⟨N, List.replicate 20 (zerosB 128), (List.range k).map fun j => ⟨j, X⟩, -1, false⟩
theorem kp_s {X : ByteArray} (hX : X.size = 128) {N : List ByteArray} {k : Nat} (hN : N.length = 20) (hk : k < 20) : storeP (kp X N k) (k : Int) X = (0, kp X (N.set k X) (k + 1)) := by
  unfold kp
  rw [storeP_go (by rw [hN]; exact hk) hX (by decide), List.range_succ, List.map_append]
  rfl
theorem kp_few {X : ByteArray} {N : List ByteArray} {k : Nat} (hk : k < 20) : (kp X N k).float.length < 1000000 := by simp [kp]; omega
theorem kp_f {X : ByteArray} (hX : X.size = 128) (L : List Bool) (hL : L.length ≤ 20) (N : List ByteArray) : ∃ R, failP (kp X N L.length) (L.map cutV) = ((cnt L : Int), ⟨R, R, [], -1, false⟩) ∧ R.length = 20 ∧ ∀ j, j < L.length → pg R j = if L.getD j false = true then X else zerosB 128 := by
  have hz : ∀ j, 0 ≤ j → j < 20 → pg (List.replicate 20 (zerosB 128)) j = zerosB 128 := fun j _ h => by simp only [pg, List.getD, List.getElem?_replicate, if_pos h, Option.getD_some]
  obtain ⟨R, e1, e2, e3⟩ := keep_fail X hX L hL L.length 0 0 (List.replicate 20 (zerosB 128)) (by omega) List.length_replicate hz
  refine ⟨R, ?_, e2, fun j hj => by rw [e3 j hj, if_neg (by omega)]⟩
  have e1' : failL (L.map cutV) 0 (kp X N L.length).float (0, (kp X N L.length).last) = ((cnt L : Int), R) := by
    rw [List.drop_zero, Nat.zero_add] at e1
    rw [← e1]
    show failL _ 0 ((List.range L.length).map _) _ = _
    rw [List.range_eq_range']
    rfl
  unfold failP
  rw [e1']

set_option maxRecDepth 100000 in
set_option maxHeartbeats 16000000 in
theorem walk (a0 : Option Addr) (cap0 : Nat) (L0 : List Bool) (w : World) (b0 : Bools w a0 L0):
    Calls Try.prog 4 #[.slice a0 L0.length cap0] w fun e w' => e = .returned (.bool true) ∧ Below w.heap.size w w' := by
  obtain ⟨i0, hi0, hz0, hz1, hz2⟩ := info_parts info_int
  obtain ⟨X, hX⟩ : ∃ X, X = fillB xB := ⟨_, rfl⟩
  have HX : Hid (X.size = 128) := by rw [hX]; exact fillB_size _
  have hFx : Hid (∀ W, Calls Try.prog 9 #[.string ⟨#[120]⟩] W fun e w' => e = .returned (.string X) ∧ Grew W w') := by rw [hX]; exact fun W => fill_any W xB
  obtain ⟨Z, hZ⟩ : ∃ Z, Z = zerosB 128 := ⟨_, rfl⟩
  have hFe : Hid (∀ W, Calls Try.prog 9 #[.string ⟨#[]⟩] W fun e w' => e = .returned (.string Z) ∧ Grew W w') := by rw [hZ, ← fill_empty]; exact fun W => fill_any W ⟨#[]⟩
  have hxz : (X.toList == Z.toList) = false := by rw [hX, hZ]; exact xz
  have hzx : (Z.toList == X.toList) = false := by rw [BEq.comm]; exact hxz
  have hal : Hid (∀ W, Calls Try.prog 5 #[] W fun e w' => e = .returned (.bool true) ∧ Below W.heap.size W w') := alive_any
  have HB0 : Hid (Bools w a0 L0) := b0
  clear b0 hX
  by_cases hbig : 20 < L0.length
  · have hi : (20 : Int) < L0.length := by omega
    go_enter Try.func4, Try.ntmps4
    go_wp2_with (first | (go_at_call 5; go_fit (hal.out w); rintro e w1 ⟨rfl, hB⟩))
    go_ret
    exact ⟨rfl, hB⟩
  have hL : L0.length ≤ 20 := by omega
  have hi : ¬ (20 : Int) < L0.length := by omega
  have hNew : Hid (∀ W, Below w.heap.size w W → Calls Try.prog 6 #[.int .i64 20] W fun e w' => ∃ b, e = .returned (.pointer (some ⟨b, 0, none⟩)) ∧ One w w' b (newP 20)) := fun W h => one_new (k := 20) h (by decide) (by decide)
  obtain ⟨n, hn⟩ : ∃ n, n = L0.length := ⟨_, rfl⟩
  rw [← hn] at hi hL ⊢
  replace hn : Hid (n = L0.length) := hn
  go_enter Try.func4, Try.ntmps4
  go_wp2_with (first
    | (go_at_call 5; go_fit (hal.out w); rintro e w1 ⟨rfl, hB⟩)
    | (go_at_call 6; go_fit (hNew.out _ hB); rintro e w1 ⟨b, rfl, hO⟩)
    | fail)
  go_loopw [25, 4, 5] (fun i cv nv wr => ∃ (k : Nat) (ac : Option Addr) (cc : Nat) (N : List ByteArray), k ≤ n ∧ i = .int .i64 k ∧ cv = .slice ac k cc ∧ nv = .int .i64 (cnt (L0.take k)) ∧ N.length = 20 ∧ Kp w wr b (kp X N k) (.slice ac k cc) k (((L0.take k).map cutV).map (Value.int .i64))) (fun i _ _ _ => n - (intOf i).toNat)
  case atStart => exact ⟨0, none, 0, (newP 20).now, by omega, rfl, rfl, rfl, by simp [newP], kp_new hO⟩
  case round =>
    obtain ⟨k, ac, cc, N, hk, rfl, rfl, rfl, hN, hK⟩ := hrel
    clear hO
    by_cases hlt : k < n
    · have hki : (k : Int) < n := by omega
      have hkL : k < L0.length := by have := hn.out; omega
      obtain ⟨q, off, rfl, hc0⟩ := HB0.out.resolve_left (fun e => by rw [e] at hkL; simp at hkL)
      have hcell := ((kp_below hK).cell (cell_block (hc0 k hkL))).trans (hc0 k hkL)
      clear hc0
      have hct : Hid ((cnt (L0.take (k + 1)) : Int) = cnt (L0.take k) + (if L0.getD k false = true then 1 else 0)) := by show _ = _; rw [cnt_take L0 k hkL]; split <;> simp
      have hcl : cnt (L0.take k) ≤ 20 := Nat.le_trans (cnt_le _) (by rw [List.length_take]; omega)
      have htk : Hid (L0.take (k + 1) = L0.take k ++ [L0.getD k false]) := by show _ = _; rw [List.take_add_one, List.getElem?_eq_getElem hkL]; simp [List.getD, hkL]
      obtain ⟨c, hc⟩ : ∃ c : Nat, c = cnt (L0.take k) := ⟨_, rfl⟩
      rw [← hc] at hct hcl ⊢
      obtain ⟨v, hv⟩ : ∃ v, v = L0.getD k false := ⟨_, rfl⟩
      rw [← hv] at hcell hct htk
      have hwc : wrap64 ((c : Int) + 1) = c + 1 := IntWalk.wrap64_in _ ⟨by omega, by omega⟩
      have hs := kp_s HX.out hN (show k < 20 by omega)
      have hfew : (kp X N k).float.length < 1000000 := kp_few (by omega)
      replace hs : Hid (storeP (kp X N k) (k : Int) X = (0, kp X (N.set k X) (k + 1))) := hs
      replace hfew : Hid ((kp X N k).float.length < 1000000) := hfew
      obtain ⟨xs, hxs⟩ : ∃ xs, xs = ((L0.take k).map cutV).map (Value.int .i64) := ⟨_, rfl⟩
      rw [← hxs] at hK
      replace hxs : Hid (xs = ((L0.take k).map cutV).map (Value.int .i64)) := hxs
      clear hv hc
      cases v with
      | true =>
        go_wp2_with (first
          | (go_at_call 9; go_fit (hFx.out _); rintro e w1 ⟨rfl, G⟩; replace hK := kp_grew hK G)
          | (go_at_call 8; go_fit (kp_store hK hs.out hfew.out); rintro e w1 ⟨rfl, hK⟩)
          | (at_builtin; refine wpList_app _ rfl (.tmp 36) (.tmp 37) 32 rfl w.heap.size 3 i0 _ 1 8 Try.underlying32 hi0 hz0 hz1 hz2 rfl (by decide) (.slice ac k cc) k xs rfl ((kp_row hK).alloc _) (some ⟨w1.heap.size, 0, none⟩) 1 1 [.int .i64 (1000)] rfl rfl (.inr ⟨_, _, rfl, fun j u hj => by match j, hj with | 0, hj => (simp at hj; subst hj; simp [go_sem])⟩) (fun u hu => by simp at hu; subst hu; rfl) (by unfold maxLen; omega) (by omega) (by have := (kp_below hK).size; simp; omega) ?_; intro v1 w2 hv1 hg1 _ ho1; obtain ⟨ac1, cc1, rfl, _⟩ := own_reads hv1; replace hK := kp_app (kp_grew hK ((Grew.refl _).alloc _ _)) hv1 hg1 ho1; replace hK := show Hid _ from hK; clear hv1 hg1 ho1)
          | fail)
        refine ⟨⟨k + 1, ac1, cc1, N.set k X, hlt, by simp, rfl, ?_, by simpa using hN, ?_⟩, ?_⟩
        · have e := hct.out
          rw [e]
          simp
        · rw [htk.out, List.map_append, List.map_append, ← hxs.out]
          exact hK.out
        · simp only [intOf]; omega
      | false =>
        go_wp2_with (first
          | (go_at_call 9; go_fit (hFx.out _); rintro e w1 ⟨rfl, G⟩; replace hK := kp_grew hK G)
          | (go_at_call 8; go_fit (kp_store hK hs.out hfew.out); rintro e w1 ⟨rfl, hK⟩)
          | (at_builtin; refine wpList_app _ rfl (.tmp 41) (.tmp 42) 32 rfl w.heap.size 3 i0 _ 1 8 Try.underlying32 hi0 hz0 hz1 hz2 rfl (by decide) (.slice ac k cc) k xs rfl ((kp_row hK).alloc _) (some ⟨w1.heap.size, 0, none⟩) 1 1 [.int .i64 (-5)] rfl rfl (.inr ⟨_, _, rfl, fun j u hj => by match j, hj with | 0, hj => (simp at hj; subst hj; simp [go_sem])⟩) (fun u hu => by simp at hu; subst hu; rfl) (by unfold maxLen; omega) (by omega) (by have := (kp_below hK).size; simp; omega) ?_; intro v1 w2 hv1 hg1 _ ho1; obtain ⟨ac1, cc1, rfl, _⟩ := own_reads hv1; replace hK := kp_app (kp_grew hK ((Grew.refl _).alloc _ _)) hv1 hg1 ho1; replace hK := show Hid _ from hK; clear hv1 hg1 ho1)
          | fail)
        refine ⟨⟨k + 1, ac1, cc1, N.set k X, hlt, by simp, rfl, ?_, by simpa using hN, ?_⟩, ?_⟩
        · have e := hct.out
          rw [e]
          simp
        · rw [htk.out, List.map_append, List.map_append, ← hxs.out]
          exact hK.out
        · simp only [intOf]; omega
    · have hki : ¬ (k : Int) < n := by omega
      obtain rfl : k = n := by omega
      have hn' : k = L0.length := hn.out
      have htk : L0.take k = L0 := List.take_of_length_le (by omega)
      rw [htk] at hK ⊢
      obtain ⟨R, hf, hR, hRj⟩ := kp_f HX.out L0 (by omega) N
      rw [← hn'] at hf
      replace hf : Hid (failP (kp X N k) (L0.map cutV) = ((cnt L0 : Int), ⟨R, R, [], -1, false⟩)) := hf
      replace hRj : Hid (∀ j, j < L0.length → pg R j = if L0.getD j false = true then X else Z) := by rw [hZ]; exact hRj
      replace hK : Hid (Kp w wr b (kp X N k) (.slice ac k cc) k ((L0.map cutV).map (Value.int .i64))) := hK
      clear htk hn' hZ
      go_wp2_with (first
        | (go_at_call 10; go_fit (kp_fail hK.out hf.out (cutV_in L0)); rintro e w1 ⟨rfl, hO⟩)
        | fail)
      go_loopw [52] (fun i wr => ∃ (j : Nat), j ≤ k ∧ i = .int .i64 j ∧ One w wr b ⟨R, R, [], -1, false⟩) (fun i _ => k - (intOf i).toNat)
      case atStart => exact ⟨0, by omega, rfl, hO⟩
      case round =>
        obtain ⟨j, hj, rfl, hO2⟩ := hrel
        clear hO hK hf
        by_cases hjt : j < k
        · have hji : (j : Int) < k := by omega
          have hjL : j < L0.length := by have := hn.out; omega
          obtain ⟨q, off, rfl, hc0⟩ := HB0.out.resolve_left (fun e => by rw [e] at hjL; simp at hjL)
          have hcell := (hO2.2.cell (cell_block (hc0 j hjL))).trans (hc0 j hjL)
          clear hc0
          have hp := hRj.out j hjL
          obtain ⟨v, hv⟩ : ∃ v, v = L0.getD j false := ⟨_, rfl⟩
          rw [← hv] at hp hcell
          clear hv
          cases v with
          | true =>
            have hld : Hid (loadP ⟨R, R, [], -1, false⟩ (j : Int) = (X, 0)) := by
              show _ = _
              rw [loadP_go (by rw [hR]; omega), hp]
              rfl
            clear hp
            go_wp2_with (first
              | (go_at_call 9; go_fit (hFx.out _); rintro e w1 ⟨rfl, G⟩; replace hO2 := hO2.grew G)
              | (go_at_call 9; go_fit (hFe.out _); rintro e w1 ⟨rfl, G⟩; replace hO2 := hO2.grew G)
              | (go_at_call 11; go_fit (one_load hO2 hld.out); rintro e w1 ⟨rfl, e⟩; have e := e.symm; subst e)
              | fail)
            refine ⟨⟨j + 1, hjt, by simp, hO2⟩, ?_⟩
            simp only [intOf]; omega
          | false =>
            have hld : Hid (loadP ⟨R, R, [], -1, false⟩ (j : Int) = (Z, 0)) := by
              show _ = _
              rw [loadP_go (by rw [hR]; omega), hp]
              rfl
            clear hp
            go_wp2_with (first
              | (go_at_call 9; go_fit (hFx.out _); rintro e w1 ⟨rfl, G⟩; replace hO2 := hO2.grew G)
              | (go_at_call 9; go_fit (hFe.out _); rintro e w1 ⟨rfl, G⟩; replace hO2 := hO2.grew G)
              | (go_at_call 11; go_fit (one_load hO2 hld.out); rintro e w1 ⟨rfl, e⟩; have e := e.symm; subst e)
              | fail)
            refine ⟨⟨j + 1, hjt, by simp, hO2⟩, ?_⟩
            simp only [intOf]; omega
        · have hji : ¬ (j : Int) < k := by omega
          go_wp2_with (first
            | (go_at_call 12; go_fit (one_afloat hO2 (n := 0) rfl); rintro e w1 ⟨rfl, e⟩; have e := e.symm; subst e)
            | fail)
          go_ret
          exact ⟨rfl, hO2.2⟩

set_option maxRecDepth 100000 in
theorem lifted (os : Os) (started : os.Started) (H : Type) (enc : TypeId × Value → H) :
    ReturnsInHanded {} Try.checked os 4 .any (Rows.platterKeepsSpec.pre6 enc Try.prog Try.f4 Rows.platterKeepsRow.domain false) (Rows.platterKeepsSpec.post enc Try.prog Try.f4 false true false false) := by
  refine returnsInHanded_of_change (C := Try.checked) own started (by kernel_rfl) Try.func4
    (ChangeSpec.witness6 (enc := enc) (C := Try.checked) false ⟨#[], #[.slice none 0 0], []⟩ 8 (by kernel_rfl) (by kernel_rfl) (by kernel_rfl) (by kernel_rfl)) ?_
  intro W base args ds gs before hval0 hW hcnd _
  have hval : ∀ (j : Nat) t v, Try.f4.params[j]? = some t → args[j]? = some v → Value.okWide Try.prog W .any base t v := hval0
  have hW' := hW
  obtain ⟨p, q, hA0, hV, rfl, hfz, hnd⟩ := hW
  have hA : DataW.TrodAll enc Try.prog W 0 (fun _ => true) true Try.f4.params.toList args.toList ds p := hA0
  rw [Try.params4] at hA hval
  obtain ⟨v0, vs0, d0, ds0, p0, q0, hargs, rfl, rfl, h0, r0⟩ := trodAll_cons hA
  obtain ⟨rfl, rfl, rfl⟩ := trodAll_nil r0
  obtain rfl : args = #[v0] := by cases args; simp_all
  obtain ⟨rfl, rfl⟩ := trodVars_none hV
  obtain ⟨a0, len0, cap0, rfl⟩ := okWide_slice Try.underlying31 (hval 0 31 v0 rfl rfl)
  have k0 := h0
  have lt0 : ∀ x ∈ p0, x.block < W.heap.size := by obtain ⟨m, hm⟩ := k0; exact DataW.trod_lt m _ _ _ hm
  obtain ⟨L0, rfl, b0⟩ := open_flags h0
  clear hA0 hval0
  refine (walk a0 cap0 L0 W b0).mono fun e W' ⟨he, bel⟩ => ?_
  subst he
  exact ⟨_, rfl, _, _, _, [], _, [], hW', trodAll_mk1 (shut_bool Try.underlying4 _), (trodAll_cons_mk (Below.trod laidOut (by kernel_rfl) (of_decide_eq_true (by kernel_rfl)) k0 bel lt0) trodAll_mk0), rfl, bel.frame _, fun h => by cases h⟩

theorem over : Rows.platterKeepsRow.holds Try.pinned (OpenSpec.ofChange Rows.platterKeepsSpec) :=
  OpenClaim.holds_of_wide 4 Try.f4 rfl rfl rfl rfl rfl rfl rfl ⟨rfl, rfl, rfl, rfl, rfl⟩ rfl rfl rfl rfl rfl (by kernel_rfl) Try.func4 (by kernel_rfl)
    (of_decide_eq_true (by kernel_rfl)) (by unfold Func.isWrapper; first | (rw [if_pos (by decide +kernel)]; kernel_rfl) | (rw [if_neg (by decide +kernel)]; exact ⟨rfl, rfl⟩))
    (fun os started H enc _ => lifted os started H enc)

theorem proved : Rows.PlatterKeepsSaid :=
  over
end Go.Proofs.Ytjmblichomchpab.platterKeeps

namespace Go.Proofs.Ytjmblichomchpab
theorem platterKeeps_holds : Rows.PlatterKeepsSaid := platterKeeps.proved
end Go.Proofs.Ytjmblichomchpab
