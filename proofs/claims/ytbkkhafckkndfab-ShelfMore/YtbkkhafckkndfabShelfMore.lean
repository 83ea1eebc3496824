/-
  Proved: maquettelaw16.ShelfMore returns true for every records and every text, and leaves what it was given as it was; no condition.
-/
import Derived.Test.YtbkkhafckkndfabRows
import Derived.Test.YtbkkhafckkndfabPk09
import Derived.Test.YtbkkhafckkndfabPxMMore
import Derived.Test.YtbkkhafckkndfabPxEData
import Derived.WalkKit
import Derived.Deep.QuietTactic
import Derived.BigQuiet
import Derived.WalkSpells
import Derived.Deep.CutRange
import Derived.Deep.CutBlock
import Derived.WalkLawsBesides
import Derived.ProofKit
import Derived.OpenShut
import Derived.ShutString
import Derived.ChangeOld
import Derived.Below
namespace Go.Proofs.Ytbkkhafckkndfab.shelfMore
open Go.ChangeShapes Go.WideShapes Go.ChangeAt Go.RowKit
open Go.ChangeMaps (open_string shut_string)
set_option linter.unusedVariables false

theorem own : ownKnob Try.prog.godebug = none := by kernel_rfl
theorem laidOut : laidOutB Try.prog = true := by kernel_rfl

set_option maxRecDepth 100000 in
theorem info_krec : ∃ (i : TypeInfo) (z : Value), (Try.prog).info? 25 = some i ∧ i.zero = some z ∧ z.cells.size = 2 ∧ i.size = 2 ∧ i.bytes = 24 := ⟨_, _, rfl, rfl, rfl, rfl, rfl⟩
theorem pgs_in : PgsIn [] ⟨[], numsT 198⟩ := by
  refine ⟨fun x hx => absurd hx (by simp), fun x hx => absurd hx (by simp), fun n hn => ?_⟩
  simp only [numsT, List.mem_map, List.mem_range] at hn
  obtain ⟨k, hk, rfl⟩ := hn
  rw [pageB_iff]
  omega
theorem need_some {L : List Pr} (h : 0 < needN L) : recsOk L = true ∧ ∃ O root, planR L [] (numsT 198) = some (O, root) ∧ needN L = O.length := by
  unfold needN at h ⊢
  by_cases hc : recsOk L = true ∧ ¬ 21 < (lvs L).1
  · rw [if_pos hc] at h ⊢
    cases e : planR L [] (numsT 198) with
    | none => rw [e] at h; exact absurd h (by simp)
    | some r => exact ⟨hc.1, r.1, r.2, rfl, rfl⟩
  · rw [if_neg hc] at h; exact absurd h (by simp)
theorem more_is (L : List Pr) (x : Pr) : needN L = 0 ∨ needN (L ++ [x]) = 0 ∨ needN L ≤ needN (L ++ [x]) := by
  by_cases h1 : needN L = 0
  · exact .inl h1
  by_cases h2 : needN (L ++ [x]) = 0
  · exact .inr (.inl h2)
  obtain ⟨r1, O, root, e1, e2⟩ := need_some (by omega : 0 < needN L)
  obtain ⟨r2, O', root', e3, e4⟩ := need_some (by omega : 0 < needN (L ++ [x]))
  rw [e2, e4]
  exact .inr (.inr (plan_more e1 e3 r1 r2 pgs_in))
theorem prs_at : ∀ (L : List Pr) (j : Nat) (u : Value), (prsV L)[j]? = some u → j / 2 < L.length ∧ (j % 2 = 0 → u = .int .i64 (L.getD (j / 2) noPr).n) ∧ (j % 2 = 1 → u = .string (L.getD (j / 2) noPr).b) := by
  intro L
  induction L with
  | nil => intro j u h; simp [prsV] at h
  | cons x L ih =>
    intro j u h
    match j, h with
    | 0, h => simp [prsV, prV] at h; exact ⟨by simp, fun _ => h.symm, fun e => by omega⟩
    | 1, h => simp [prsV, prV] at h; exact ⟨by simp, fun e => by omega, fun _ => h.symm⟩
    | j + 2, h =>
      have h2 : (prsV L)[j]? = some u := by simpa [prsV, prV] using h
      obtain ⟨q1, q2, q3⟩ := ih j u h2
      have e : (j + 2) / 2 = j / 2 + 1 := by omega
      rw [e]
      refine ⟨by simp; omega, fun h => ?_, fun h => ?_⟩
      · simpa using q2 (by omega)
      · simpa using q3 (by omega)
theorem prs_reads {w : World} {a : Option Addr} {L : List Pr} (h : PrsAt w a L) : Reads w a (prsV L) := by
  rcases h with rfl | ⟨b, off, rfl, h⟩
  · exact .inl rfl
  · refine .inr ⟨b, off, rfl, fun j u hj => ?_⟩
    obtain ⟨q1, q2, q3⟩ := prs_at L j u hj
    have := h (j / 2) q1
    rcases Nat.mod_two_eq_zero_or_one j with e | e
    · rw [q2 e, ← this.1]
      congr 2
      omega
    · rw [q3 e, ← this.2]
      congr 2
      omega
theorem one_prs {L : List Pr} : ∀ u ∈ prsV L, u.oneCell' = true := fun u hu => by
  simp only [prsV, List.mem_flatMap, prV] at hu
  obtain ⟨x, _, hx⟩ := hu
  simp at hx
  rcases hx with rfl | rfl <;> rfl
theorem key_in {L : List Pr} {i : Nat} (h : recsOk L = true) (hi : i < L.length) : 0 ≤ (L.getD i noPr).n ∧ (L.getD i noPr).n ≤ 2147483647 := (keyB_iff _).1 (recs_size h hi).1

set_option maxRecDepth 100000 in
set_option maxHeartbeats 16000000 in
theorem walk (a0 : Option Addr) (cap0 : Nat) (L0 : List Pr) (s1 : ByteArray) (z1 : s1.size ≤ maxLen) (w : World) (b0 : Prss w a0 L0) :
    Calls Try.prog 4 #[.slice a0 L0.length cap0, .string s1] w fun e w' => e = .returned (.bool true) ∧ Below w.heap.size w w' := by
  have hal : Hid (∀ W, Calls Try.prog 5 #[] W fun e w' => e = .returned (.bool true) ∧ Below W.heap.size W w') := alive16
  have hlm : L0.length < 9223372036854775808 := by have := b0.2.1; unfold maxLen at this; omega
  have HB0 : Hid (PrsAt w a0 L0) := b0.2.2
  clear b0
  obtain ⟨ip, zp, i1, i2, i3, i4, i5⟩ := info_krec
  obtain ⟨n, hnL⟩ : ∃ n, L0.length = n := ⟨_, rfl⟩
  have hFew : Hid (∀ W, Below w.heap.size w W → Calls Try.prog 9 #[.slice a0 n cap0] W fun e w' => FewEnd n e ∧ W = w') := fun W g => by
    rw [← hnL]
    exact (few_any L0 a0 cap0 W (HB0.out.below g) hlm).mono fun e w' h => ⟨h.1, h.2.symm⟩
  have hR : Hid (n ≤ 120 → ∀ W, Below w.heap.size w W → Calls Try.prog 7 #[.slice a0 n cap0] W fun e w' => e = .returned (.bool (recsOk L0)) ∧ Grew W w') := fun hr W g => by
    subst hnL
    exact kright_any L0 a0 cap0 W (HB0.out.below g) (by omega)
  have hN : Hid (n ≤ 120 → ∀ W, Below w.heap.size w W → Calls Try.prog 8 #[.slice a0 n cap0] W fun e w' => e = .returned (.int .i64 (needN L0)) ∧ Below W.heap.size W w') := fun hr W g => by
    subst hnL
    exact kneed_any L0 a0 cap0 W (HB0.out.below g) (by omega)
  have hN2 : Hid (n ≤ 120 → ∀ K W v, Below w.heap.size w W → W.ownsRow w.heap.size 25 2 v (0 + n + 1) ([] ++ prsV L0 ++ [.int .i64 K, .string s1]) → Calls Try.prog 8 #[v] W fun e w' => e = .returned (.int .i64 (needN (L0 ++ [⟨K, s1⟩]))) ∧ Below W.heap.size W w') := fun hr K W v g ho => by
    subst hnL
    have ho2 : W.ownsRow w.heap.size 25 2 v (L0 ++ [(⟨K, s1⟩ : Pr)]).length (prsV (L0 ++ [(⟨K, s1⟩ : Pr)])) := by
      have e : (L0 ++ [(⟨K, s1⟩ : Pr)]).length = 0 + L0.length + 1 := by simp
      rw [e, prs_more]
      exact ho
    obtain ⟨a, c, rfl, h5⟩ := prs_of ho2
    exact kneed_any (L0 ++ [(⟨K, s1⟩ : Pr)]) a c W h5 (by simp; omega)
  have hM : Hid (∀ K, needN L0 = 0 ∨ needN (L0 ++ [⟨K, s1⟩]) = 0 ∨ needN L0 ≤ needN (L0 ++ [⟨K, s1⟩])) := fun K => more_is L0 ⟨K, s1⟩
  have hRd : Hid (∀ W, Below w.heap.size w W → Reads W a0 (prsV L0)) := fun W g => (prs_reads HB0.out).below g
  have hpl : (prsV L0).length = n * 2 := by rw [prs_len, hnL]
  have hone : ∀ u ∈ prsV L0, u.oneCell' = true := one_prs
  obtain ⟨r2, hr2⟩ : ∃ r, recsOk L0 = r := ⟨_, rfl⟩
  rw [hr2] at hR
  rw [hnL]
  by_cases hn0 : n = 0
  · subst hn0
    have hr3 : r2 = true := by
      rw [← hr2, List.eq_nil_of_length_eq_zero hnL]
      rfl
    subst hr3
    clear hr2 hnL hlm
    go_enter Try.func4, Try.ntmps4
    go_wp2_with (first
      | (go_at_call 9; go_fit (hFew.out _ (Below.refl _ _)); rintro e w1 ⟨⟨r, rfl, hr⟩, rfl⟩)
      | (go_at_call 5; go_fit (hal.out _); rintro e w2 ⟨rfl, hB1⟩)
      | (go_at_call 7; go_fit (hR.out (by omega) _ hB1); rintro e w3 ⟨rfl, g3⟩; have B3 := hB1.trans (g3.below.mono hB1.size))
      | (at_builtin; refine wpList_app _ rfl (.const (.slice none 0 0)) (.tmp 39) 26 rfl w.heap.size 25 ip zp 2 24 Try.underlying26 i1 i2 i4 i5 i3 (by decide) _ 0 [] rfl (World.ownsRow_nil _ _ _ _) a0 0 cap0 (prsV L0) rfl hpl (hRd.out _ B3) hone (by unfold maxLen; omega) (by omega) B3.size ?_; intro v6 w6 hv6 hg6 hk6 hl6; have B6 := B3.trans ((grown_but hg6).below (fun i e => by cases e) B3.size))
      | (at_builtin; refine wpList_app _ rfl (.tmp 40) (.tmp 45) 26 rfl w.heap.size 25 ip zp 2 24 Try.underlying26 i1 i2 i4 i5 i3 (by decide) _ (0 + 0) _ rfl (hv6.alloc _) (some ⟨w6.heap.size, 0, none⟩) 1 1 [.int .i64 1, .string s1] rfl rfl (.inr ⟨_, 0, rfl, fun j u hj => new_at _ _ _ _ (by simp) j u hj⟩) (fun u hu => by simp at hu; rcases hu with rfl | rfl <;> rfl) (by unfold maxLen; omega) (by omega) (by have := B6.size; simp at *; omega) ?_; intro v7 w7 hv7 hg7 hk7 hl7; have B7 := B6.trans ((((Grew.refl w6).alloc (#[.int .i64 1, .string s1] : Array Value) 25).below).mono B6.size); have B8 := B7.trans ((grown_but hg7).below (fun i e => ((hv6.alloc (.cells #[.int .i64 1, .string s1] 25)).lt i e).1) B7.size))
      | (go_at_call 8; go_fit (hN.out (by omega) _ B8); rintro e w9 ⟨rfl, g9⟩; have B9 := B8.trans (g9.mono B8.size))
      | (go_at_call 8; go_fit (hN2.out (by omega) _ _ _ B9 (row_below hv7 g9)); rintro e w10 ⟨rfl, g10⟩; have B10 := B9.trans (g10.mono B9.size))
      | fail)
    all_goals first
      | (go_ret; exact ⟨rfl, hB1⟩)
      | (go_ret; exact ⟨rfl, B3⟩)
      | (go_ret; exact ⟨rfl, B10⟩)
      | (go_ret; refine ⟨?_, B10⟩; have hm := hM.out 1; simp_all; done)
  · obtain ⟨m, rfl⟩ : ∃ m, n = m + 1 := ⟨n - 1, by omega⟩
    obtain ⟨b, off, rfl, hcs⟩ := HB0.out.resolve_left (fun e => by rw [e] at hnL; simp at hnL)
    obtain ⟨hc, _⟩ := hcs m (by omega)
    have hkb : r2 = true → 0 ≤ (L0.getD m noPr).n := fun e => (key_in (by rw [hr2, e]) (by omega)).1
    generalize (L0.getD m noPr).n = K at *
    have hmb2 : (m : Int) < m + 1 := by omega
    clear hr2 hnL hlm hcs hn0
    cases r2 with
    | false =>
      clear hkb
      go_enter Try.func4, Try.ntmps4
      go_wp2_with (first
        | (go_at_call 9; go_fit (hFew.out _ (Below.refl _ _)); rintro e w1 ⟨⟨r, rfl, hr⟩, rfl⟩)
        | (go_at_call 5; go_fit (hal.out _); rintro e w2 ⟨rfl, hB1⟩; have hc2 := below_cell hB1 hc; try have hm120 := hr (by assumption); try have hm121 : (m : Int) ≤ 119 := by omega)
        | (go_at_call 7; go_fit (hR.out (by assumption) _ hB1); rintro e w3 ⟨rfl, g3⟩; have B3 := hB1.trans (g3.below.mono hB1.size))
        | fail)
      all_goals first
        | (go_ret; exact ⟨rfl, hB1⟩)
        | (go_ret; exact ⟨rfl, B3⟩)
    | true =>
      replace hkb := hkb rfl
      go_enter Try.func4, Try.ntmps4
      go_wp2_with (first
        | (go_at_call 9; go_fit (hFew.out _ (Below.refl _ _)); rintro e w1 ⟨⟨r, rfl, hr⟩, rfl⟩)
        | (go_at_call 5; go_fit (hal.out _); rintro e w2 ⟨rfl, hB1⟩; have hc2 := below_cell hB1 hc; try have hm120 := hr (by assumption); try have hm121 : (m : Int) ≤ 119 := by omega)
        | (go_at_call 7; go_fit (hR.out (by assumption) _ hB1); rintro e w3 ⟨rfl, g3⟩; have B3 := hB1.trans (g3.below.mono hB1.size))
        | (at_builtin; refine wpList_app _ rfl (.const (.slice none 0 0)) (.tmp 39) 26 rfl w.heap.size 25 ip zp 2 24 Try.underlying26 i1 i2 i4 i5 i3 (by decide) _ 0 [] rfl (World.ownsRow_nil _ _ _ _) (some ⟨b, off, none⟩) (m + 1) cap0 (prsV L0) rfl hpl (hRd.out _ B3) hone (by unfold maxLen; omega) (by omega) B3.size ?_; intro v6 w6 hv6 hg6 hk6 hl6; have B6 := B3.trans ((grown_but hg6).below (fun i e => by cases e) B3.size))
        | (at_builtin; refine wpList_app _ rfl (.tmp 40) (.tmp 45) 26 rfl w.heap.size 25 ip zp 2 24 Try.underlying26 i1 i2 i4 i5 i3 (by decide) _ (0 + (m + 1)) _ rfl (hv6.alloc _) (some ⟨w6.heap.size, 0, none⟩) 1 1 [.int .i64 (K + 1), .string s1] rfl rfl (.inr ⟨_, 0, rfl, fun j u hj => new_at _ _ _ _ (by simp) j u hj⟩) (fun u hu => by simp at hu; rcases hu with rfl | rfl <;> rfl) (by unfold maxLen; omega) (by omega) (by have := B6.size; simp at *; omega) ?_; intro v7 w7 hv7 hg7 hk7 hl7; have B7 := B6.trans ((((Grew.refl w6).alloc (#[.int .i64 (K + 1), .string s1] : Array Value) 25).below).mono B6.size); have B8 := B7.trans ((grown_but hg7).below (fun i e => ((hv6.alloc (.cells #[.int .i64 (K + 1), .string s1] 25)).lt i e).1) B7.size))
        | (go_at_call 8; go_fit (hN.out (by assumption) _ B8); rintro e w9 ⟨rfl, g9⟩; have B9 := B8.trans (g9.mono B8.size))
        | (go_at_call 8; go_fit (hN2.out (by assumption) _ _ _ B9 (row_below hv7 g9)); rintro e w10 ⟨rfl, g10⟩; have B10 := B9.trans (g10.mono B9.size))
        | fail)
      all_goals first
        | (go_ret; exact ⟨rfl, hB1⟩)
        | (go_ret; exact ⟨rfl, B3⟩)
        | (go_ret; exact ⟨rfl, B10⟩)
        | (go_ret; refine ⟨?_, B10⟩; have hm := hM.out (K + 1); simp_all; done)

set_option maxRecDepth 100000 in
theorem lifted (os : Os) (started : os.Started) (H : Type) (enc : TypeId × Value → H) :
    ReturnsInHanded {} Try.checked os 4 .any (Rows.shelfMoreSpec.pre6 enc Try.prog Try.f4 Rows.shelfMoreRow.domain false) (Rows.shelfMoreSpec.post enc Try.prog Try.f4 false true false false) := by
  refine returnsInHanded_of_change (C := Try.checked) own started (by kernel_rfl) Try.func4
    (ChangeSpec.witness6 (enc := enc) (C := Try.checked) false ⟨#[], #[.slice none 0 0, .string ByteArray.empty], []⟩ 8 (by kernel_rfl) (by kernel_rfl) (by kernel_rfl) (by kernel_rfl)) ?_
  intro W base args ds gs before hval0 hW hcnd _
  have hval : ∀ (j : Nat) t v, Try.f4.params[j]? = some t → args[j]? = some v → Value.okWide Try.prog W .any base t v := hval0
  have hW' := hW
  obtain ⟨p, q, hA0, hV, rfl, hfz, hnd⟩ := hW
  have hA : DataW.TrodAll enc Try.prog W 0 (fun _ => true) true Try.f4.params.toList args.toList ds p := hA0
  rw [Try.params4] at hA hval
  obtain ⟨v0, vs0, d0, ds0, p0, q0, hargs, rfl, rfl, h0, r0⟩ := trodAll_cons hA
  obtain ⟨v1, vs1, d1, ds1, p1, q1, rfl, rfl, rfl, h1, r1⟩ := trodAll_cons r0
  obtain ⟨rfl, rfl, rfl⟩ := trodAll_nil r1
  obtain rfl : args = #[v0, v1] := by cases args; simp_all
  obtain ⟨rfl, rfl⟩ := trodVars_none hV
  obtain ⟨a0, len0, cap0, rfl⟩ := okWide_slice Try.underlying26 (hval 0 26 v0 rfl rfl)
  have k0 := h0
  have lt0 : ∀ x ∈ p0, x.block < W.heap.size := by obtain ⟨m, hm⟩ := k0; exact DataW.trod_lt m _ _ _ hm
  obtain ⟨L0, rfl, b0⟩ := open_records h0
  obtain ⟨s1, rfl, rfl, rfl, z1⟩ := open_string Try.underlying9 (hval 1 9 v1 rfl rfl) h1
  clear hA0 hval0
  refine (walk a0 cap0 L0 s1 z1 W b0 ).mono fun e W' ⟨he, bel⟩ => ?_
  subst he
  exact ⟨_, rfl, _, _, _, [], _, [], hW', trodAll_mk1 (shut_bool Try.underlying4 _), (trodAll_cons_mk (Below.trod laidOut (by kernel_rfl) (of_decide_eq_true (by kernel_rfl)) k0 bel lt0) (trodAll_cons_mk (shut_string Try.underlying9 z1) trodAll_mk0)), rfl, bel.frame _, fun h => by cases h⟩

theorem over : Rows.shelfMoreRow.holds Try.pinned (OpenSpec.ofChange Rows.shelfMoreSpec) :=
  OpenClaim.holds_of_wide 4 Try.f4 rfl rfl rfl rfl rfl rfl rfl ⟨rfl, rfl, rfl, rfl, rfl⟩ rfl rfl rfl rfl rfl (by kernel_rfl) Try.func4 (by kernel_rfl)
    (of_decide_eq_true (by kernel_rfl)) (by unfold Func.isWrapper; first | (rw [if_pos (by decide +kernel)]; kernel_rfl) | (rw [if_neg (by decide +kernel)]; exact ⟨rfl, rfl⟩))
    (fun os started H enc _ => lifted os started H enc)

theorem proved : Rows.ShelfMoreSaid :=
  over
end Go.Proofs.Ytbkkhafckkndfab.shelfMore

namespace Go.Proofs.Ytbkkhafckkndfab
theorem shelfMore_holds : Rows.ShelfMoreSaid := shelfMore.proved
end Go.Proofs.Ytbkkhafckkndfab
