/-
  Proved: maquettelaw16.ShelfErrors returns true for every records and two ints, and leaves what it was given as it was; no condition.
-/
import Derived.Test.YtbkkhafckkndfaaRows
import Derived.Test.YtbkkhafckkndfaaPk09
import Derived.Test.YtbkkhafckkndfaaPxEData
import Derived.WalkKit
import Derived.Deep.QuietTactic
import Derived.BigQuiet
import Derived.WalkSpells
import Derived.Deep.CutRange
import Derived.Deep.CutBlock
import Derived.WalkLawsBesides
import Derived.ProofKit
import Derived.OpenShut
import Derived.ChangeOld
import Derived.Below
namespace Go.Proofs.Ytbkkhafckkndfaa.shelfErrors
open Go.ChangeShapes Go.WideShapes Go.ChangeAt Go.RowKit
set_option linter.unusedVariables false

theorem own : ownKnob Try.prog.godebug = none := by kernel_rfl
theorem laidOut : laidOutB Try.prog = true := by kernel_rfl

theorem nums_split (n : Nat) (h : n ≤ 198) : ∃ G, numsT 198 = numsT n ++ G := by
  refine ⟨(numsT 198).drop n, ?_⟩
  have : numsT n = (numsT 198).take n := by
    unfold numsT
    rw [← List.map_take, List.take_range]
    rw [Nat.min_eq_left h]
  rw [this, List.take_append_drop]
theorem pgs_less (n : Nat) (h : n ≤ 198) : PgsOk [] (numsT n) := by
  refine ⟨fun i hi => absurd hi (by simp), fun i hi => ?_⟩
  rw [numsT_len] at hi
  refine ⟨?_, fun k hk => ?_⟩
  · rw [numsT_get _ hi, pageB_iff]; omega
  · rw [numsT_get _ hi, numsT_get _ (by omega)]; omega
/-- The first plan's error. -/
theorem err_is {L O : List Pr} {n : Nat} {root err : Int} (h : PlanIs L [] (numsT n) O root err) (hn : n ≤ 150) : (recsOk L = true → 0 < needN L → (err = 0 ↔ needN L ≤ n)) ∧ (err = 0 ∨ err = 8 ∨ err = 12 ∨ err = 9) := by
  obtain ⟨G, hG⟩ := nums_split n (by omega)
  have hp := pgs_less n (by omega)
  refine ⟨fun hr hpos => ?_, ?_⟩
  · unfold needN at hpos ⊢
    by_cases hl : 21 < (lvs L).1
    · rw [if_neg (fun e => e.2 hl)] at hpos; exact absurd hpos (by simp)
    · rw [if_pos ⟨hr, hl⟩] at hpos ⊢
      cases e : planR L [] (numsT 198) with
      | none => rw [e] at hpos; exact absurd hpos (by simp)
      | some r =>
        obtain ⟨O', root'⟩ := r
        dsimp only
        rw [hG] at e
        have hx := plan_ext e
        rw [numsT_len] at hx
        rcases h with ⟨h1, _⟩ | ⟨_, h2, _⟩ | ⟨_, _, h3, _, _, h4⟩ | ⟨_, _, h3, h4⟩
        · exact absurd ⟨hr, hp⟩ h1
        · exact absurd h2 hl
        · rcases hx with ⟨_, h6⟩ | ⟨h5, _⟩
          · rw [h4]; omega
          · rw [h3] at h5; cases h5
        · rcases hx with ⟨h5, _⟩ | ⟨_, h6⟩
          · rw [h3] at h5; cases h5
          · rw [h4]; simp; omega
  · rcases h with ⟨_, _, _, h⟩ | ⟨_, _, _, _, h⟩ | ⟨_, _, _, _, _, h⟩ | ⟨_, _, _, h⟩ <;> omega
theorem one_nums {l : List Int} : ∀ u ∈ numsV l, u.oneCell' = true := fun u hu => by
  simp only [numsV, List.mem_map] at hu
  obtain ⟨n, _, rfl⟩ := hu
  rfl
/-- With a page that may not be. -/
theorem err_bad {L O : List Pr} {n : Nat} {bad root err : Int} (h : PlanIs L [] (numsT n ++ [bad]) O root err) (hb : ¬ ((n : Int) + 2 ≤ bad ∧ bad < 200)) : err = 9 := by
  have hno : ¬ PgsOk [] (numsT n ++ [bad]) := fun hp => by
    have h1 := hp.2 n (by simp [numsT_len])
    have e : (numsT n ++ [bad]).getD n 0 = bad := by simp [List.getD, numsT_len]
    rw [e] at h1
    obtain ⟨h2, h3⟩ := h1
    rw [pageB_iff] at h2
    by_cases hlt : bad < n + 2
    · obtain ⟨k, hk⟩ := Int.eq_ofNat_of_zero_le (show 0 ≤ bad - 2 by omega)
      have hkn : k < n := by omega
      refine h3 k hkn ?_
      have : (numsT n ++ [bad]).getD k 0 = (numsT n).getD k 0 := by simp [List.getD, numsT_len, List.getElem?_append_left, hkn]
      rw [this, numsT_get _ hkn]
      omega
    · omega
  rcases h with ⟨_, _, _, h⟩ | ⟨h, _⟩ | ⟨h, _⟩ | ⟨h, _⟩
  · exact h
  · exact absurd h.2 hno
  · exact absurd h.2 hno
  · exact absurd h.2 hno

set_option maxRecDepth 100000 in
set_option maxHeartbeats 16000000 in
theorem walk (a0 : Option Addr) (cap0 : Nat) (L0 : List Pr) (a1 : Int) (f1 : inF a1) (a2 : Int) (f2 : inF a2) (w : World) (b0 : Prss w a0 L0)  :
    Calls Try.prog 7 #[.slice a0 L0.length cap0, .int .i64 a1, .int .i64 a2] w fun e w' => e = .returned (.bool true) ∧ Below w.heap.size w w' := by
  have hal : Hid (∀ W, Calls Try.prog 9 #[] W fun e w' => e = .returned (.bool true) ∧ Below W.heap.size W w') := alive16
  have hlm : L0.length < 9223372036854775808 := by have := b0.2.1; unfold maxLen at this; omega
  have HB0 : Hid (PrsAt w a0 L0) := b0.2.2
  clear b0
  obtain ⟨ip, zp, i1, i2, i3, i4, i5⟩ := info_kint
  have hFew : Hid (∀ W, Below w.heap.size w W → Calls Try.prog 8 #[.slice a0 L0.length cap0] W fun e w' => FewEnd L0.length e ∧ W = w') := fun W g => (few_any L0 a0 cap0 W (HB0.out.below g) hlm).mono fun e w' h => ⟨h.1, h.2.symm⟩
  by_cases hbad : a2 < 0 ∨ (¬ a2 < 0 ∧ 150 < a2)
  · rcases hbad with h1 | ⟨h1, h2⟩
    all_goals
      go_enter Try.func7, Try.ntmps7
      go_wp2_with (first
        | (go_at_call 8; go_fit (hFew.out _ (Below.refl _ _)); rintro e w1 ⟨⟨r, rfl, hr⟩, rfl⟩)
        | (go_at_call 9; go_fit (hal.out _); rintro e w2 ⟨rfl, hB⟩)
        | fail)
      all_goals
        go_ret
        exact ⟨rfl, hB⟩
  have h1 : ¬ a2 < 0 := by omega
  have h2 : ¬ 150 < a2 := by omega
  obtain ⟨n, rfl⟩ := Int.eq_ofNat_of_zero_le (show 0 ≤ a2 by omega)
  have hn : n ≤ 150 := by omega
  clear hbad
  have hR : Hid (L0.length ≤ 120 → ∀ W, Below w.heap.size w W → Calls Try.prog 16 #[.slice a0 L0.length cap0] W fun e w' => e = .returned (.bool (recsOk L0)) ∧ Grew W w') := fun hr W g => kright_any L0 a0 cap0 W (HB0.out.below g) (by omega)
  have hN : Hid (L0.length ≤ 120 → ∀ W, Below w.heap.size w W → Calls Try.prog 15 #[.slice a0 L0.length cap0] W fun e w' => e = .returned (.int .i64 (needN L0)) ∧ Below W.heap.size W w') := fun hr W g => kneed_any L0 a0 cap0 W (HB0.out.below g) (by omega)
  have hP1 : Hid (L0.length ≤ 120 → ∀ W a d, Below w.heap.size w W → W.ownsRow w.heap.size 3 1 (.slice a n d) n (numsV (numsT n)) → Calls Try.prog 10 #[.slice a0 L0.length cap0, .slice none 0 0, .slice a n d] W fun e w' => ∃ v root err, e = .returned (.tuple #[v, .int .i64 root, .int .i64 err]) ∧ ((recsOk L0 = true → 0 < needN L0 → (err == 0) = decide (needN L0 ≤ n)) ∧ (err = 0 ∨ err = 8 ∨ err = 12 ∨ err = 9)) ∧ Below W.heap.size W w') := fun hr W a d g ho => by
    obtain ⟨a', d', e, hn2, hd2⟩ := nums_of ho
    cases e
    have := kplan_any L0 [] (numsT n) a0 none a cap0 0 d W (HB0.out.below g) (.inl rfl) hn2 (by rw [numsT_len]; exact hd2) (by omega) (by simp) (by rw [numsT_len]; omega)
    rw [numsT_len] at this
    refine this.mono fun e w' he => ?_
    obtain ⟨O, root, err, v, h1, rfl, h3, h4⟩ := he
    exact ⟨v, root, err, rfl, ⟨fun e1 e2 => by have := (err_is h1 hn).1 e1 e2; rw [Bool.eq_iff_iff]; simpa using this, (err_is h1 hn).2⟩, h4⟩
  have hP2 : Hid (L0.length ≤ 120 → ∀ W v, Below w.heap.size w W → W.ownsRow w.heap.size 3 1 v (0 + n + 1) ([] ++ numsV (numsT n) ++ [.int .i64 a1]) → Calls Try.prog 10 #[.slice a0 L0.length cap0, .slice none 0 0, v] W fun e w' => ∃ v root err, e = .returned (.tuple #[v, .int .i64 root, .int .i64 err]) ∧ (¬ ((n : Int) + 2 ≤ a1 ∧ a1 < 200) → err = 9) ∧ Below W.heap.size W w') := fun hr W v g ho => by
    have ho2 : W.ownsRow w.heap.size 3 1 v (numsT n ++ [a1]).length (numsV (numsT n ++ [a1])) := by
      have e : (numsT n ++ [a1]).length = 0 + n + 1 := by simp [numsT_len]
      rw [e, numsV_up]
      exact ho
    obtain ⟨a', d', rfl, hn2, hd2⟩ := nums_of ho2
    refine (kplan_any L0 [] (numsT n ++ [a1]) a0 none a' cap0 0 d' W (HB0.out.below g) (.inl rfl) hn2 hd2 (by omega) (by simp) (by simp [numsT_len]; omega)).mono fun e w' he => ?_
    obtain ⟨O, root, err, v, h1, rfl, h3, h4⟩ := he
    exact ⟨v, root, err, rfl, err_bad h1, h4⟩
  generalize needN L0 = N at *
  generalize recsOk L0 = rr at *
  clear hlm
  go_enter Try.func7, Try.ntmps7
  go_wp2_with (first
    | (go_at_call 8; go_fit (hFew.out _ (Below.refl _ _)); rintro e w1 ⟨⟨r, rfl, hr⟩, rfl⟩)
    | (go_at_call 9; go_fit (hal.out _); rintro e w2 ⟨rfl, hB1⟩)
    | fail)
  all_goals first | (go_ret; exact ⟨rfl, hB1⟩) | skip
  replace hr := hr (by assumption)
  replace hR : Hid _ := hR.out hr
  replace hN : Hid _ := hN.out hr
  replace hP1 : Hid _ := hP1.out hr
  replace hP2 : Hid _ := hP2.out hr
  clear hFew
  go_loopw [7, 8] (fun l i wr => ∃ (k : Nat), k ≤ n ∧ i = .int .i64 (k : Int) ∧ wr.ownsRow w.heap.size 3 1 l k (numsV (numsT k)) ∧ Below w.heap.size w wr) (fun _ i _ => n - (intOf i).toNat)
  case atStart => exact ⟨0, by omega, rfl, World.ownsRow_nil _ _ _ _, hB1⟩
  case round =>
    clear hB1
    obtain ⟨k, hk, rfl, hown, hB⟩ := hrel
    replace hB : Hid (Below w.heap.size w wr) := hB
    by_cases hlt : k < n
    · have hki : (k : Int) < n := by omega
      replace hown : Hid (World.ownsRow wr _ _ _ _ _ _) := hown
      clear hR hN hP1 hP2
      go_wp2_with (first
        | (at_builtin; refine wpList_app _ rfl (.tmp 38) (.tmp 41) 24 rfl w.heap.size 3 ip zp 1 8 Try.underlying24 i1 i2 i4 i5 i3 (by decide) _ k _ rfl (hown.out.alloc _) (some ⟨wr.heap.size, 0, none⟩) 1 1 [.int .i64 ((k : Int) + 2)] rfl rfl (.inr ⟨_, 0, rfl, fun j u hj => new_at _ _ _ _ (by simp) j u hj⟩) (fun u hu => by simp at hu; rcases hu with rfl; rfl) (by unfold maxLen; omega) (by omega) (by have := hB.out.size; simp at *; omega) ?_; intro v5 w5 hv5 hg5 hk5 hl5)
        | fail)
      have r1 := hown.out.alloc (.cells #[.int .i64 ((k : Int) + 2)] 3)
      have B2 := hB.out.trans ((((Grew.refl wr).alloc (#[.int .i64 ((k : Int) + 2)] : Array Value) 3).below).mono hB.out.size)
      have B3 := B2.trans ((grown_but hg5).below (fun i e => (r1.lt i e).1) B2.size)
      exact ⟨⟨k + 1, hlt, by simp, by rw [numsT_up, numsV_up]; exact hv5, B3⟩, meas_up hlt⟩
    · have hki : ¬ (k : Int) < n := by omega
      obtain rfl : k = n := by omega
      obtain ⟨a2, d2, rfl, hrd⟩ := own_reads hown
      replace hown : Hid (World.ownsRow wr _ _ _ _ _ _) := hown
      replace hrd : Hid (Reads wr _ _) := hrd
      go_wp2_with (first
        | (go_at_call 15; go_fit (hN.out _ hB.out); rintro e w3 ⟨rfl, g3⟩; have B3 := hB.out.trans (g3.mono hB.out.size))
        | (go_at_call 10; go_fit (hP1.out _ _ _ B3 (row_below hown.out g3)); rintro e w4 ⟨v4, root4, err, rfl, hE, g4⟩; have B4 := B3.trans (g4.mono B3.size))
        | (go_at_call 16; go_fit (hR.out _ B4); rintro e w5 ⟨rfl, g5⟩; have B5 := B4.trans (g5.below.mono B4.size))
        | (at_builtin; refine wpList_app _ rfl (.const (.slice none 0 0)) (.tmp 84) 24 rfl w.heap.size 3 ip zp 1 8 Try.underlying24 i1 i2 i4 i5 i3 (by decide) _ 0 [] rfl (World.ownsRow_nil _ _ _ _) a2 k d2 (numsV (numsT k)) rfl (by simp [numsV, numsT_len]) (((hrd.out.below g3).below g4).below g5.below) one_nums (by unfold maxLen; omega) (by omega) B5.size ?_; intro v6 w6 hv6 hg6 hk6 hl6; have B6 := B5.trans ((grown_but hg6).below (fun i e => by cases e) B5.size))
        | (at_builtin; refine wpList_app _ rfl (.tmp 85) (.tmp 87) 24 rfl w.heap.size 3 ip zp 1 8 Try.underlying24 i1 i2 i4 i5 i3 (by decide) _ (0 + k) _ rfl (hv6.alloc _) (some ⟨w6.heap.size, 0, none⟩) 1 1 [.int .i64 a1] rfl rfl (.inr ⟨_, 0, rfl, fun j u hj => new_at _ _ _ _ (by simp) j u hj⟩) (fun u hu => by simp at hu; rcases hu with rfl; rfl) (by unfold maxLen; omega) (by omega) (by have := B6.size; simp at *; omega) ?_; intro v7 w7 hv7 hg7 hk7 hl7; have B7 := B6.trans ((((Grew.refl w6).alloc (#[.int .i64 a1] : Array Value) 3).below).mono B6.size); have B8 := B7.trans ((grown_but hg7).below (fun i e => ((hv6.alloc (.cells #[.int .i64 a1] 3)).lt i e).1) B7.size))
        | (go_at_call 10; go_fit (hP2.out _ _ B8 hv7); rintro e w9 ⟨v9, root9, err9, rfl, hE9, g9⟩; have B9 := B8.trans (g9.mono B8.size))
        | fail)
      all_goals first
        | (go_ret; refine ⟨?_, B9⟩; first | rfl | (congr 2; have hz := hE9; clear hE9; clear hE; simp only [Bool.or_eq_true, decide_eq_true_eq, Bool.and_eq_true, beq_iff_eq]; omega))
        | (exfalso; have hz := hE.1 (by assumption) (by assumption); have hz2 := hE.2; first | contradiction | (simp_all; done) | omega)
        | (exfalso; have hz2 := hE.2; first | contradiction | omega | (simp_all; done))

set_option maxRecDepth 100000 in
theorem lifted (os : Os) (started : os.Started) (H : Type) (enc : TypeId × Value → H) :
    ReturnsInHanded {} Try.checked os 7 .any (Rows.shelfErrorsSpec.pre6 enc Try.prog Try.f7 Rows.shelfErrorsRow.domain false) (Rows.shelfErrorsSpec.post enc Try.prog Try.f7 false true false false) := by
  refine returnsInHanded_of_change (C := Try.checked) own started (by kernel_rfl) Try.func7
    (ChangeSpec.witness6 (enc := enc) (C := Try.checked) false ⟨#[], #[.slice none 0 0, .int .i64 0, .int .i64 0], []⟩ 8 (by kernel_rfl) (by kernel_rfl) (by kernel_rfl) (by kernel_rfl)) ?_
  intro W base args ds gs before hval0 hW hcnd _
  have hval : ∀ (j : Nat) t v, Try.f7.params[j]? = some t → args[j]? = some v → Value.okWide Try.prog W .any base t v := hval0
  have hW' := hW
  obtain ⟨p, q, hA0, hV, rfl, hfz, hnd⟩ := hW
  have hA : DataW.TrodAll enc Try.prog W 0 (fun _ => true) true Try.f7.params.toList args.toList ds p := hA0
  rw [Try.params7] at hA hval
  obtain ⟨v0, vs0, d0, ds0, p0, q0, hargs, rfl, rfl, h0, r0⟩ := trodAll_cons hA
  obtain ⟨v1, vs1, d1, ds1, p1, q1, rfl, rfl, rfl, h1, r1⟩ := trodAll_cons r0
  obtain ⟨v2, vs2, d2, ds2, p2, q2, rfl, rfl, rfl, h2, r2⟩ := trodAll_cons r1
  obtain ⟨rfl, rfl, rfl⟩ := trodAll_nil r2
  obtain rfl : args = #[v0, v1, v2] := by cases args; simp_all
  obtain ⟨rfl, rfl⟩ := trodVars_none hV
  obtain ⟨a0, len0, cap0, rfl⟩ := okWide_slice Try.underlying22 (hval 0 22 v0 rfl rfl)
  have k0 := h0
  have lt0 : ∀ x ∈ p0, x.block < W.heap.size := by obtain ⟨m, hm⟩ := k0; exact DataW.trod_lt m _ _ _ hm
  obtain ⟨L0, rfl, b0⟩ := open_records h0
  obtain ⟨a1, rfl, rfl, rfl, w1⟩ := open_int Try.underlying3 (hval 1 3 v1 rfl rfl) h1
  have f1 := inF_wf w1
  obtain ⟨a2, rfl, rfl, rfl, w2⟩ := open_int Try.underlying3 (hval 2 3 v2 rfl rfl) h2
  have f2 := inF_wf w2
  clear hA0 hval0
  refine (walk a0 cap0 L0 a1 f1 a2 f2 W b0  ).mono fun e W' ⟨he, bel⟩ => ?_
  subst he
  exact ⟨_, rfl, _, _, _, [], _, [], hW', trodAll_mk1 (shut_bool Try.underlying4 _), (trodAll_cons_mk (Below.trod laidOut (by kernel_rfl) (of_decide_eq_true (by kernel_rfl)) k0 bel lt0) (trodAll_cons_mk (shut_int Try.underlying3 w1) (trodAll_cons_mk (shut_int Try.underlying3 w2) trodAll_mk0))), rfl, bel.frame _, fun h => by cases h⟩

theorem over : Rows.shelfErrorsRow.holds Try.pinned (OpenSpec.ofChange Rows.shelfErrorsSpec) :=
  OpenClaim.holds_of_wide 7 Try.f7 rfl rfl rfl rfl rfl rfl rfl ⟨rfl, rfl, rfl, rfl, rfl⟩ rfl rfl rfl rfl rfl (by kernel_rfl) Try.func7 (by kernel_rfl)
    (of_decide_eq_true (by kernel_rfl)) (by unfold Func.isWrapper; first | (rw [if_pos (by decide +kernel)]; kernel_rfl) | (rw [if_neg (by decide +kernel)]; exact ⟨rfl, rfl⟩))
    (fun os started H enc _ => lifted os started H enc)

theorem proved : Rows.ShelfErrorsSaid :=
  over
end Go.Proofs.Ytbkkhafckkndfaa.shelfErrors

namespace Go.Proofs.Ytbkkhafckkndfaa
theorem shelfErrors_holds : Rows.ShelfErrorsSaid := shelfErrors.proved
end Go.Proofs.Ytbkkhafckkndfaa
