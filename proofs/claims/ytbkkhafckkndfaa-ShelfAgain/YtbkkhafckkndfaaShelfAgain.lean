/-
  Proved: maquettelaw16.ShelfAgain returns true for every records, and leaves what it was given as it was; no condition.
-/
import Derived.Test.YtbkkhafckkndfaaRows
import Derived.Test.YtbkkhafckkndfaaPk09
import Derived.Test.YtbkkhafckkndfaaPxMAgain
import Derived.Test.YtbkkhafckkndfaaPxEData
import Derived.WalkKit
import Derived.Deep.QuietTactic
import Derived.BigQuiet
import Derived.WalkSpells
import Derived.Deep.CutRange
import Derived.Deep.CutBlock
import Derived.WalkLawsBesides
import Derived.ProofKit
import Derived.OpenShut
import Derived.ChangeOld
import Derived.Below
namespace Go.Proofs.Ytbkkhafckkndfaa.shelfAgain
open Go.ChangeShapes Go.WideShapes Go.ChangeAt Go.RowKit
set_option linter.unusedVariables false

theorem own : ownKnob Try.prog.godebug = none := by kernel_rfl
theorem laidOut : laidOutB Try.prog = true := by kernel_rfl

theorem one_nums {l : List Int} : ∀ u ∈ numsV l, u.oneCell' = true := fun u hu => by
  simp only [numsV, List.mem_map] at hu
  obtain ⟨n, _, rfl⟩ := hu
  rfl
theorem pgs_in : PgsIn [] ⟨[], numsT 198⟩ := by
  refine ⟨fun x hx => absurd hx (by simp), fun x hx => absurd hx (by simp), fun n hn => ?_⟩
  simp only [numsT, List.mem_map, List.mem_range] at hn
  obtain ⟨k, hk, rfl⟩ := hn
  rw [pageB_iff]
  omega
theorem pgs_over {O : List Pr} (h : ∀ x ∈ O, pageB x.n = true) : PgsOk O [] := by
  refine ⟨fun i hi => ⟨?_, fun k hk => absurd hk (by simp)⟩, fun i hi => absurd hi (by simp)⟩
  have e : O.getD i noPr = O[i] := by simp [List.getD, hi]
  rw [e]
  exact h _ (List.getElem_mem hi)
theorem none_is {L O : List Pr} {root err : Int} (h : PlanIs L [] (numsT 198) O root err) (he : ¬ err = 0) : O.length = 0 := by
  rcases h with ⟨_, rfl, _⟩ | ⟨_, _, rfl, _⟩ | ⟨_, _, _, rfl, _⟩ | ⟨_, _, _, h⟩
  · rfl
  · rfl
  · rfl
  · exact absurd h he
theorem again_is {L O O2 : List Pr} {root root2 err2 : Int} (h : PlanIs L [] (numsT 198) O root 0) (h2 : PlanIs L O [] O2 root2 err2) : err2 = 0 ∧ O2.length = 0 ∧ root2 = root := by
  rcases h with ⟨_, _, _, h⟩ | ⟨_, _, _, _, h⟩ | ⟨_, _, _, _, _, h⟩ | ⟨⟨hr, hp⟩, hl, hpl, _⟩
  · cases h
  · cases h
  · cases h
  · have h3 := plan_again hpl
    have h4 := pgs_over (plan_pages hpl pgs_in).1
    rcases h2 with ⟨h5, _⟩ | ⟨_, h5, _⟩ | ⟨_, _, h5, _⟩ | ⟨_, _, h5, h6⟩
    · exact absurd ⟨hr, h4⟩ h5
    · exact absurd h5 hl
    · rw [h3] at h5; cases h5
    · rw [h3] at h5
      simp only [Option.some.injEq, Prod.mk.injEq] at h5
      obtain ⟨rfl, rfl⟩ := h5
      exact ⟨h6, rfl, rfl⟩
theorem few_pages {L O : List Pr} {root err : Int} (h : PlanIs L [] (numsT 198) O root err) : O.length ≤ 198 := by
  rcases h with ⟨_, rfl, _⟩ | ⟨_, _, rfl, _⟩ | ⟨_, _, _, rfl, _⟩ | ⟨_, _, h, _⟩
  · simp
  · simp
  · simp
  · have := (plan_pages h pgs_in).2.2
    rwa [numsT_len] at this
theorem err0 {e : Int} (h : (e != 0) = false) : e = 0 := by simpa using h
theorem err1 {e : Int} (h : (e != 0) = true) : ¬ e = 0 := by simpa using h
/-- What the first plan has left. -/
def Ag (L : List Pr) (W : World) (a : Option Addr) (n : Nat) (root : Int) : Prop := ∃ O, O.length = n ∧ PrsAt W a O ∧ PlanIs L [] (numsT 198) O root 0

set_option maxRecDepth 100000 in
set_option maxHeartbeats 16000000 in
theorem walk (a0 : Option Addr) (cap0 : Nat) (L0 : List Pr) (w : World) (b0 : Prss w a0 L0):
    Calls Try.prog 5 #[.slice a0 L0.length cap0] w fun e w' => e = .returned (.bool true) ∧ Below w.heap.size w w' := by
  have hal : Hid (∀ W, Calls Try.prog 9 #[] W fun e w' => e = .returned (.bool true) ∧ Below W.heap.size W w') := alive16
  have hlm : L0.length < 9223372036854775808 := by have := b0.2.1; unfold maxLen at this; omega
  have HB0 : Hid (PrsAt w a0 L0) := b0.2.2
  clear b0
  obtain ⟨ip, zp, i1, i2, i3, i4, i5⟩ := info_kint
  have hFew : Hid (∀ W, Below w.heap.size w W → Calls Try.prog 8 #[.slice a0 L0.length cap0] W fun e w' => FewEnd L0.length e ∧ W = w') := fun W g => (few_any L0 a0 cap0 W (HB0.out.below g) hlm).mono fun e w' h => ⟨h.1, h.2.symm⟩
  have hN : Hid (L0.length ≤ 120 → ∀ W, Below w.heap.size w W → Calls Try.prog 15 #[.slice a0 L0.length cap0] W fun e w' => e = .returned (.int .i64 (needN L0)) ∧ Below W.heap.size W w') := fun hr W g => kneed_any L0 a0 cap0 W (HB0.out.below g) (by omega)
  have hP1 : Hid (L0.length ≤ 120 → ∀ W v, Below w.heap.size w W → W.ownsRow w.heap.size 3 1 v 198 (numsV (numsT 198)) → Calls Try.prog 10 #[.slice a0 L0.length cap0, .slice none 0 0, v] W fun e w' => ∃ a n c root err, e = .returned (.tuple #[.slice a n c, .int .i64 root, .int .i64 err]) ∧ (¬ err = 0 → n = 0) ∧ (err = 0 → Ag L0 w' a n root) ∧ needN L0 = n ∧ Below W.heap.size W w') := fun hr W v g ho => by
    obtain ⟨a', d', rfl, hn2, hd2⟩ := nums_of ho
    have := kplan_any L0 [] (numsT 198) a0 none a' cap0 0 d' W (HB0.out.below g) (.inl rfl) hn2 (by rw [numsT_len]; exact hd2) (by omega) (by simp) (by rw [numsT_len]; omega)
    rw [numsT_len] at this
    refine this.mono fun e w' he => ?_
    obtain ⟨O, root, err, v, h1, rfl, h3, h4⟩ := he
    obtain ⟨a, c, rfl, h5⟩ := prs_of h3
    exact ⟨a, _, c, root, err, rfl, fun e => none_is h1 e, fun e => ⟨O, rfl, h5, by rw [e] at h1; exact h1⟩, (need_is h1).symm, h4⟩
  have hP2 : Hid (L0.length ≤ 120 → ∀ W a n c root, Ag L0 W a n root → Below w.heap.size w W → Calls Try.prog 10 #[.slice a0 L0.length cap0, .slice a n c, .slice none 0 0] W fun e w' => ∃ a2 c2, e = .returned (.tuple #[.slice a2 0 c2, .int .i64 root, .int .i64 0]) ∧ Below W.heap.size W w') := fun hr W a n c root hA g => by
    obtain ⟨O, rfl, h5, h1⟩ := hA
    have hf := few_pages h1
    refine (kplan_any L0 O [] a0 a none cap0 c 0 W (HB0.out.below g) h5 (.inl rfl) (Nat.le_refl _) (by omega) (by omega) (by simp)).mono fun e w' he => ?_
    obtain ⟨O2, root2, err2, v, h6, rfl, h7, h8⟩ := he
    obtain ⟨rfl, hz, rfl⟩ := again_is h1 h6
    rw [hz] at h7
    obtain ⟨a2, c2, rfl, _⟩ := prs_of h7
    exact ⟨a2, c2, rfl, h8⟩
  generalize needN L0 = N at *
  clear hlm
  obtain ⟨n, hn⟩ : ∃ n : Nat, 198 = n := ⟨_, rfl⟩
  rw [hn] at hP1
  go_enter Try.func5, Try.ntmps5
  go_wp2_with (first
    | (go_at_call 8; go_fit (hFew.out _ (Below.refl _ _)); rintro e w1 ⟨⟨r, rfl, hr⟩, rfl⟩)
    | (go_at_call 9; go_fit (hal.out _); rintro e w2 ⟨rfl, hB1⟩)
    | fail)
  all_goals first | (go_ret; exact ⟨rfl, hB1⟩) | skip
  replace hr := hr (by assumption)
  replace hN : Hid _ := hN.out hr
  replace hP1 : Hid _ := hP1.out hr
  replace hP2 : Hid _ := hP2.out hr
  clear hFew
  go_loopw [3, 4] (fun l i wr => ∃ (k : Nat), k ≤ n ∧ i = .int .i64 ((k : Int) + 2) ∧ wr.ownsRow w.heap.size 3 1 l k (numsV (numsT k)) ∧ Below w.heap.size w wr) (fun _ i _ => n + 2 - (intOf i).toNat)
  case atStart => exact ⟨0, by omega, rfl, World.ownsRow_nil _ _ _ _, hB1⟩
  case round =>
    clear hB1
    obtain ⟨k, hk, rfl, hown, hB⟩ := hrel
    replace hB : Hid (Below w.heap.size w wr) := hB
    replace hown : Hid (World.ownsRow wr _ _ _ _ _ _) := hown
    by_cases hlt : k < n
    · have hki : (k : Int) + 2 < 200 := by omega
      have hn2 : n = 198 := hn.symm
      clear hn hN hP1 hP2
      go_wp2_with (first
        | (at_builtin; refine wpList_app _ rfl (.tmp 23) (.tmp 25) 24 rfl w.heap.size 3 ip zp 1 8 Try.underlying24 i1 i2 i4 i5 i3 (by decide) _ k _ rfl (hown.out.alloc _) (some ⟨wr.heap.size, 0, none⟩) 1 1 [.int .i64 ((k : Int) + 2)] rfl rfl (.inr ⟨_, 0, rfl, fun j u hj => new_at _ _ _ _ (by simp) j u hj⟩) (fun u hu => by simp at hu; rcases hu with rfl; rfl) (by unfold maxLen; omega) (by omega) (by have := hB.out.size; simp at *; omega) ?_; intro v5 w5 hv5 hg5 hk5 hl5)
        | fail)
      have r1 := hown.out.alloc (.cells #[.int .i64 ((k : Int) + 2)] 3)
      have B2 := hB.out.trans ((((Grew.refl wr).alloc (#[.int .i64 ((k : Int) + 2)] : Array Value) 3).below).mono hB.out.size)
      have B3 := B2.trans ((grown_but hg5).below (fun i e => (r1.lt i e).1) B2.size)
      exact ⟨⟨k + 1, hlt, by simp; omega, by rw [numsT_up, numsV_up]; exact hv5, B3⟩, by simp [intOf]; omega⟩
    · have hki : ¬ (k : Int) + 2 < 200 := by omega
      obtain rfl : k = n := by omega
      go_wp2_with (first
        | (go_at_call 10; go_fit (hP1.out _ _ hB.out hown.out); rintro e w4 ⟨a4, n4, c4, root4, err, rfl, hz, hA, hNn, g4⟩; have B4 := hB.out.trans (g4.mono hB.out.size))
        | (go_at_call 10; go_fit (hP2.out _ _ _ _ _ (hA (err0 (by assumption))) B4); rintro e w5 ⟨a5, c5, rfl, g5⟩; have B5 := B4.trans (g5.mono B4.size))
        | (go_at_call 15; go_fit (hN.out _ B5); rintro e w6 ⟨rfl, g6⟩; have B6 := B5.trans (g6.mono B5.size))
        | fail)
      · go_ret
        refine ⟨?_, B4⟩
        rw [hz (err1 (by assumption))]
        rfl
      · go_ret
        exact ⟨rfl, B6⟩

set_option maxRecDepth 100000 in
theorem lifted (os : Os) (started : os.Started) (H : Type) (enc : TypeId × Value → H) :
    ReturnsInHanded {} Try.checked os 5 .any (Rows.shelfAgainSpec.pre6 enc Try.prog Try.f5 Rows.shelfAgainRow.domain false) (Rows.shelfAgainSpec.post enc Try.prog Try.f5 false true false false) := by
  refine returnsInHanded_of_change (C := Try.checked) own started (by kernel_rfl) Try.func5
    (ChangeSpec.witness6 (enc := enc) (C := Try.checked) false ⟨#[], #[.slice none 0 0], []⟩ 8 (by kernel_rfl) (by kernel_rfl) (by kernel_rfl) (by kernel_rfl)) ?_
  intro W base args ds gs before hval0 hW hcnd _
  have hval : ∀ (j : Nat) t v, Try.f5.params[j]? = some t → args[j]? = some v → Value.okWide Try.prog W .any base t v := hval0
  have hW' := hW
  obtain ⟨p, q, hA0, hV, rfl, hfz, hnd⟩ := hW
  have hA : DataW.TrodAll enc Try.prog W 0 (fun _ => true) true Try.f5.params.toList args.toList ds p := hA0
  rw [Try.params5] at hA hval
  obtain ⟨v0, vs0, d0, ds0, p0, q0, hargs, rfl, rfl, h0, r0⟩ := trodAll_cons hA
  obtain ⟨rfl, rfl, rfl⟩ := trodAll_nil r0
  obtain rfl : args = #[v0] := by cases args; simp_all
  obtain ⟨rfl, rfl⟩ := trodVars_none hV
  obtain ⟨a0, len0, cap0, rfl⟩ := okWide_slice Try.underlying22 (hval 0 22 v0 rfl rfl)
  have k0 := h0
  have lt0 : ∀ x ∈ p0, x.block < W.heap.size := by obtain ⟨m, hm⟩ := k0; exact DataW.trod_lt m _ _ _ hm
  obtain ⟨L0, rfl, b0⟩ := open_records h0
  clear hA0 hval0
  refine (walk a0 cap0 L0 W b0).mono fun e W' ⟨he, bel⟩ => ?_
  subst he
  exact ⟨_, rfl, _, _, _, [], _, [], hW', trodAll_mk1 (shut_bool Try.underlying4 _), (trodAll_cons_mk (Below.trod laidOut (by kernel_rfl) (of_decide_eq_true (by kernel_rfl)) k0 bel lt0) trodAll_mk0), rfl, bel.frame _, fun h => by cases h⟩

theorem over : Rows.shelfAgainRow.holds Try.pinned (OpenSpec.ofChange Rows.shelfAgainSpec) :=
  OpenClaim.holds_of_wide 5 Try.f5 rfl rfl rfl rfl rfl rfl rfl ⟨rfl, rfl, rfl, rfl, rfl⟩ rfl rfl rfl rfl rfl (by kernel_rfl) Try.func5 (by kernel_rfl)
    (of_decide_eq_true (by kernel_rfl)) (by unfold Func.isWrapper; first | (rw [if_pos (by decide +kernel)]; kernel_rfl) | (rw [if_neg (by decide +kernel)]; exact ⟨rfl, rfl⟩))
    (fun os started H enc _ => lifted os started H enc)

theorem proved : Rows.ShelfAgainSaid :=
  over
end Go.Proofs.Ytbkkhafckkndfaa.shelfAgain

namespace Go.Proofs.Ytbkkhafckkndfaa
theorem shelfAgain_holds : Rows.ShelfAgainSaid := shelfAgain.proved
end Go.Proofs.Ytbkkhafckkndfaa
