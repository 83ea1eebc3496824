/-
  For every list and k CalcOrder returns true: a sum's error does not hang on what stands behind it; put together differently a sum that is told is the same.
-/
import Derived.Test.YtjkidepgjbnflaaRows
import Derived.Test.YtjkidepgjbnflaaCRow
import Derived.WalkKit
import Derived.WalkSpells
import Derived.WalkLawsBesides
import Derived.ProofKit
import Derived.OpenShut
import Derived.ShutString
import Derived.ChangeOld
import Derived.Below
namespace Go.Proofs.Ytjkidepgjbnflaa.calcOrder
open Go.ChangeShapes Go.WideShapes Go.ChangeAt Go.RowKit
open Go.ChangeMaps (open_string shut_string)
set_option linter.unusedVariables false

theorem own : ownKnob Try.prog.godebug = none := by kernel_rfl
theorem laidOut : laidOutB Try.prog = true := by kernel_rfl

/-- WHAT THE WALK IS TOLD OF A SLICE OF INTEGERS THAT CAME IN: it is nil; or it leads to a row of 'cap' cells, the numbers 'zs' (the first 'len' are its elements, the rest its spare room), each fitting its kind. -/
def IsRow (k : IntKind) (w : World) (a : Option Addr) (len cap : Nat) (zs : List Int) : Prop :=
  (a = none ∧ len = 0 ∧ cap = 0 ∧ zs = []) ∨
  ∃ x, a = some x ∧ len ≤ cap ∧ cap ≤ maxLen ∧ zs.length = cap ∧ (∀ i, i < zs.length → w.cell? (x.add i) = some (.int k (zs.getD i 0))) ∧ ∀ n ∈ zs, (Lit.int k n).wf = true

theorem part_of {a : Int} {n : Nat} (hn : n ≤ 20) : ∃ j : Nat, j ≤ n ∧ (wrap64 (wrap64 (a.tmod ((n : Int) + 1) + (n : Int)) + 1)).tmod ((n : Int) + 1) = (j : Int) := by
  have h1 := Int.tmod_lt_of_pos a (show (0 : Int) < (n : Int) + 1 by omega)
  have h2 := Int.lt_tmod_of_pos a (show (0 : Int) < (n : Int) + 1 by omega)
  rw [IntWalk.wrap64_in (a.tmod ((n : Int) + 1) + (n : Int)) ⟨by omega, by omega⟩, IntWalk.wrap64_in _ ⟨by omega, by omega⟩, Int.tmod_eq_emod_of_nonneg (by omega)]
  have h3 := Int.emod_nonneg (a.tmod ((n : Int) + 1) + (n : Int) + 1) (show (n : Int) + 1 ≠ 0 by omega)
  have h4 := Int.emod_lt_of_pos (a.tmod ((n : Int) + 1) + (n : Int) + 1) (show (0 : Int) < (n : Int) + 1 by omega)
  exact ⟨((a.tmod ((n : Int) + 1) + (n : Int) + 1) % ((n : Int) + 1)).toNat, by omega, by omega⟩

theorem sumR_app : ∀ (p q : List Int) (s : Int), sumR s (p ++ q) = if (sumR s p).2 = 0 then sumR (sumR s p).1 q else sumR s p
  | [], q, s => by simp [sumR]
  | x :: p, q, s => by
    rw [List.cons_append, sumR, sumR]
    by_cases h : (addR s x).2 = 0
    · rw [if_pos h, if_pos h, sumR_app p q]
    · rw [if_neg h, if_neg h, if_neg h]

theorem sumR_err : ∀ (l : List Int) (s : Int), (sumR s l).2 = 0 ∨ sumR s l = (0, 3)
  | [], s => .inl rfl
  | x :: l, s => by
    rw [sumR]
    by_cases h : (addR s x).2 = 0
    · rw [if_pos h]; exact sumR_err l _
    · rw [if_neg h]; exact .inr (inR_bad h)

theorem sumR_val : ∀ (l : List Int) (s : Int), (sumR s l).2 = 0 → (sumR s l).1 = s + l.sum
  | [], s, _ => by simp [sumR]
  | x :: l, s, h => by
    rw [sumR] at *
    by_cases g : (addR s x).2 = 0
    · rw [if_pos g] at *
      rw [sumR_val l _ h, show (addR s x).1 = s + x from (inR_fit g).2]
      simp
      omega
    · rw [if_neg g] at h
      exact absurd h g

theorem sumR_fit : ∀ (l : List Int) (s : Int), inF s → (sumR s l).2 = 0 → inF (sumR s l).1
  | [], s, hs, _ => hs
  | x :: l, s, hs, h => by
    rw [sumR] at *
    by_cases g : (addR s x).2 = 0
    · rw [if_pos g] at *
      exact sumR_fit l _ (inR_fit g).1 h
    · rw [if_neg g] at h
      exact absurd h g

theorem sum_two {a b c : Int} (ha : inF a) (hc : inF c) (h : c = a + b) : sumR 0 [a, b] = (c, 0) := by
  have h1 : addR 0 a = (a, 0) := by rw [addR, Int.zero_add]; exact inR_ok ha
  have h2 : addR a b = (c, 0) := by rw [addR, ← h]; exact inR_ok hc
  simp [sumR, h1, h2]

theorem cap_of {w : World} {a : Option Addr} {len cap : Nat} {z : List Int}
    (h : (a = none ∧ len = 0 ∧ cap = 0 ∧ z = []) ∨ ∃ x, a = some x ∧ len ≤ cap ∧ cap ≤ maxLen ∧ z.length = cap ∧ (∀ i, i < z.length → w.cell? (x.add i) = some (.int .i64 (z.getD i 0))) ∧ ∀ n ∈ z, (Lit.int .i64 n).wf = true) :
    len ≤ cap ∧ cap ≤ maxLen ∧ (a = none → cap = 0) := by
  rcases h with ⟨rfl, rfl, rfl, rfl⟩ | ⟨x, rfl, h1, h2, h3, h4, h5⟩
  · exact ⟨Nat.le_refl _, by decide, fun _ => rfl⟩
  · exact ⟨h1, h2, fun h => by cases h⟩

theorem row_take {w : World} {a : Option Addr} {l : List Int} (h : Row w a l) (j : Nat) : Row w a (l.take j) := by
  obtain ⟨h1, h2, h3⟩ := h
  refine ⟨by simp; omega, fun x hx => h2 x (List.mem_of_mem_take hx), ?_⟩
  rcases h3 with rfl | ⟨b, off, rfl, h4⟩
  · left; simp
  · refine .inr ⟨b, off, rfl, fun i hi => ?_⟩
    have hij : i < j ∧ i < l.length := by simp at hi; omega
    rw [show (l.take j).getD i 0 = l.getD i 0 from by simp [List.getD, hij.1]]
    exact h4 i hij.2

theorem row_drop {w : World} {a : Option Addr} {l : List Int} (h : Row w a l) (j : Nat) : Row w (Option.map (fun x => x.add j) a) (l.drop j) := by
  obtain ⟨h1, h2, h3⟩ := h
  refine ⟨by simp; omega, fun x hx => h2 x (List.mem_of_mem_drop hx), ?_⟩
  rcases h3 with rfl | ⟨b, off, rfl, h4⟩
  · left; simp
  · refine .inr ⟨b, off + j, by simp [Go.WideShapes.add_plain], fun i hi => ?_⟩
    simp at hi
    rw [show (l.drop j).getD i 0 = l.getD (j + i) 0 from by simp [List.getD], Nat.add_assoc]
    exact h4 _ (by omega)

theorem row_nil (w : World) (a : Option Addr) {l : List Int} (h : l = []) : Row w a l := by
  subst h
  exact ⟨by decide, fun _ h => absurd h (by simp), .inl rfl⟩

/-- The three sums, and how they stand to each other. -/
theorem three (l : List Int) (j : Nat) : ∃ r p q : Int × Int, sumR 0 l = r ∧ sumR 0 (l.take j) = p ∧ sumR 0 (l.drop j) = q ∧ (¬ p.2 = 0 → r = (0, p.2)) ∧ (r.2 = 0 ∨ r.2 = 3) ∧ (p.2 = 0 → r.2 = 0 → q.2 = 0 → inF p.1 ∧ inF q.1 ∧ sumR 0 [p.1, q.1] = (r.1, 0)) := by
  refine ⟨_, _, _, rfl, rfl, rfl, fun h => ?_, ?_, fun h1 h2 h3 => ?_⟩
  · have := sumR_app (l.take j) (l.drop j) 0
    rw [List.take_append_drop, if_neg h] at this
    rw [this]
    rcases sumR_err (l.take j) 0 with h' | h'
    · exact absurd h' h
    · rw [h']
  · rcases sumR_err l 0 with h | h
    · exact .inl h
    · exact .inr (by rw [h])
  · have f0 : inF 0 := ⟨by decide, by decide⟩
    refine ⟨sumR_fit _ _ f0 h1, sumR_fit _ _ f0 h3, sum_two (sumR_fit _ _ f0 h1) (sumR_fit _ _ f0 h2) ?_⟩
    rw [sumR_val _ _ h1, sumR_val _ _ h2, sumR_val _ _ h3]
    have : l.sum = (l.take j).sum + (l.drop j).sum := by rw [← List.sum_append, List.take_append_drop]
    omega
theorem walk (a0 : Option Addr) (len0 cap0 : Nat) (z0 : List Int) (a1 : Int) (w : World) (w0 : IsRow .i64 w a0 len0 cap0 z0) (w1 : (Lit.int .i64 a1).wf = true) :
    Calls Try.prog 8 #[.slice a0 len0 cap0, .int .i64 a1] w fun e w' => e = .returned (.bool true) ∧ Below w.heap.size w w' := by
  have hmf := mk_func
  by_cases hl : len0 ≤ 20
  · obtain ⟨hc1, hc2, hc3⟩ := cap_of w0
    obtain ⟨l, rfl, hr⟩ := row_of (by omega) w0
    have d1 : decide ((20 : Int) < (l.length : Int)) = false := by simp; omega
    clear w0 w1
    obtain ⟨j, hj, hjj⟩ := part_of (a := a1) hl
    go_enter Try.func8, Try.ntmps8
    go_wp2_with (first
      | (go_at_call 9; refine (alive_any _).mono ?_; rintro e W ⟨rfl, G⟩))
    refine (sum_any _ _ l _ (hr.grew G)).mono ?_
    rintro e W1 ⟨rfl, G1⟩
    have hjl : (l.take j).length = j := by simp; omega
    have hjr : (l.drop j).length = l.length - j := by simp
    go_wp2_with (fail)
    have H := sum_any a0 cap0 (l.take j) W1 (row_take ((hr.grew G).grew G1) j)
    rw [hjl] at H
    refine H.mono ?_
    clear H
    rintro e W2 ⟨rfl, G2⟩
    have G3 := (G.trans G1).trans G2
    have hr2 := hr.grew G3
    obtain ⟨r, p, q, e1, e2, e3, F1, F2, F3⟩ := three l j
    rw [e1, e2]
    have HE : Hid (sumR 0 (l.drop j) = q) := e3
    have HF1 : Hid (¬ p.2 = 0 → r = (0, p.2)) := F1
    have HF3 : Hid (p.2 = 0 → r.2 = 0 → q.2 = 0 → inF p.1 ∧ inF q.1 ∧ sumR 0 [p.1, q.1] = (r.1, 0)) := F3
    have HF2 : Hid (r.2 = 0 ∨ r.2 = 3) := F2
    clear F1 F2 F3 e3 e1 e2 hr G G1 G2 hjl
    obtain ⟨all, e⟩ := r
    obtain ⟨a, f⟩ := p
    obtain ⟨b, g⟩ := q
    simp only at HF1 HF2 HF3
    go_wp2_with (fail)
    · have H := sum_any a0 0 (l.drop j) W2 (row_nil _ _ (List.drop_eq_nil_of_le (by omega)))
      rw [hjr, HE.out] at H
      refine H.mono ?_
      clear H
      rintro E W4 ⟨rfl, G4⟩
      have G5 := G3.trans G4
      clear G3 G4 hr2 HE
      by_cases hf : f = 0
      · by_cases he : e = 0
        · by_cases hg : g = 0
          · obtain ⟨fa, fb, hab⟩ := HF3.out hf he hg
            subst hf; subst he; subst hg
            clear HF1 HF2 HF3
            have HA : Hid (sumR 0 [a, b] = (all, 0)) := hab
            clear hab
            go_wp2_with (fail)
            have r4 : Row (W4.alloc (.cells #[.int .i64 a, .int .i64 b] 22)) (some ⟨W4.heap.size, 0, none⟩) [a, b] := by
              refine ⟨by simp, fun x hx => ?_, .inr ⟨_, _, rfl, fun i hi => ?_⟩⟩
              · simp at hx; rcases hx with rfl | rfl
                · exact fa
                · exact fb
              · simp at hi
                rcases (by omega : i = 0 ∨ i = 1) with rfl | rfl <;> simp
            refine (sum_any _ 2 [a, b] _ r4).mono ?_
            rintro E W6 ⟨rfl, G6⟩
            rw [HA.out]
            have G7 := (G5.alloc #[.int .i64 a, .int .i64 b] 22).trans G6
            clear r4 G6 G5
            go_wp2
            go_ret
            exact ⟨rfl, G7.below⟩
          · have q1 : (g != 0) = true := by simp [hg]
            subst hf; subst he
            clear HF1 HF2 HF3
            go_wp2
            go_ret
            exact ⟨rfl, G5.below⟩
        · have he3 : e = 3 := HF2.out.resolve_left he
          subst hf; subst he3
          clear HF1 HF2 HF3
          go_wp2
          go_ret
          exact ⟨rfl, G5.below⟩
      · have q1 : (f != 0) = true := by simp [hf]
        obtain ⟨ra, re⟩ := Prod.mk.inj (HF1.out hf)
        subst ra; subst re
        clear HF1 HF2 HF3
        go_wp2
        go_ret
        exact ⟨rfl, G5.below⟩
    · have H := sum_any _ (cap0 - j) (l.drop j) W2 (row_drop hr2 j)
      rw [hjr, HE.out] at H
      refine H.mono ?_
      clear H
      rintro E W4 ⟨rfl, G4⟩
      have G5 := G3.trans G4
      clear G3 G4 hr2 HE
      by_cases hf : f = 0
      · by_cases he : e = 0
        · by_cases hg : g = 0
          · obtain ⟨fa, fb, hab⟩ := HF3.out hf he hg
            subst hf; subst he; subst hg
            clear HF1 HF2 HF3
            have HA : Hid (sumR 0 [a, b] = (all, 0)) := hab
            clear hab
            go_wp2_with (fail)
            have r4 : Row (W4.alloc (.cells #[.int .i64 a, .int .i64 b] 22)) (some ⟨W4.heap.size, 0, none⟩) [a, b] := by
              refine ⟨by simp, fun x hx => ?_, .inr ⟨_, _, rfl, fun i hi => ?_⟩⟩
              · simp at hx; rcases hx with rfl | rfl
                · exact fa
                · exact fb
              · simp at hi
                rcases (by omega : i = 0 ∨ i = 1) with rfl | rfl <;> simp
            refine (sum_any _ 2 [a, b] _ r4).mono ?_
            rintro E W6 ⟨rfl, G6⟩
            rw [HA.out]
            have G7 := (G5.alloc #[.int .i64 a, .int .i64 b] 22).trans G6
            clear r4 G6 G5
            go_wp2
            go_ret
            exact ⟨rfl, G7.below⟩
          · have q1 : (g != 0) = true := by simp [hg]
            subst hf; subst he
            clear HF1 HF2 HF3
            go_wp2
            go_ret
            exact ⟨rfl, G5.below⟩
        · have he3 : e = 3 := HF2.out.resolve_left he
          subst hf; subst he3
          clear HF1 HF2 HF3
          go_wp2
          go_ret
          exact ⟨rfl, G5.below⟩
      · have q1 : (f != 0) = true := by simp [hf]
        obtain ⟨ra, re⟩ := Prod.mk.inj (HF1.out hf)
        subst ra; subst re
        clear HF1 HF2 HF3
        go_wp2
        go_ret
        exact ⟨rfl, G5.below⟩
  · have d1 : decide ((20 : Int) < (len0 : Int)) = true := by simp; omega
    go_enter Try.func8, Try.ntmps8
    go_wp2_with (first
      | (go_at_call 9; refine (alive_any _).mono ?_; rintro e w' ⟨rfl, G⟩))
    go_ret
    exact ⟨rfl, G.below⟩

set_option maxRecDepth 100000 in
theorem lifted (os : Os) (started : os.Started) (H : Type) (enc : TypeId × Value → H) :
    ReturnsInHanded {} Try.checked os 8 .any (Rows.calcOrderSpec.pre6 enc Try.prog Try.f8 Rows.calcOrderRow.domain false) (Rows.calcOrderSpec.post enc Try.prog Try.f8 false true false false) := by
  refine returnsInHanded_of_change (C := Try.checked) own started (by kernel_rfl) Try.func8
    (ChangeSpec.witness6 (enc := enc) (C := Try.checked) false ⟨#[], #[.slice none 0 0, .int .i64 0], []⟩ 8 (by kernel_rfl) (by kernel_rfl) (by kernel_rfl) (by kernel_rfl)) ?_
  intro W base args ds gs before hval0 hW hcnd _
  have hval : ∀ (j : Nat) t v, Try.f8.params[j]? = some t → args[j]? = some v → Value.okWide Try.prog W .any base t v := hval0
  have hW' := hW
  obtain ⟨p, q, hA0, hV, rfl, hfz, hnd⟩ := hW
  have hA : DataW.TrodAll enc Try.prog W 0 (fun _ => true) true Try.f8.params.toList args.toList ds p := hA0
  rw [Try.params8] at hA hval
  obtain ⟨v0, vs0, d0, ds0, p0, q0, hargs, rfl, rfl, h0, r0⟩ := trodAll_cons hA
  obtain ⟨v1, vs1, d1, ds1, p1, q1, rfl, rfl, rfl, h1, r1⟩ := trodAll_cons r0
  obtain ⟨rfl, rfl, rfl⟩ := trodAll_nil r1
  obtain rfl : args = #[v0, v1] := by cases args; simp_all
  obtain ⟨rfl, rfl⟩ := trodVars_none hV
  obtain ⟨a0, len0, cap0, rfl⟩ := okWide_slice Try.underlying34 (hval 0 34 v0 rfl rfl)
  have k0 := h0
  have lt0 : ∀ x ∈ p0, x.block < W.heap.size := by obtain ⟨m, hm⟩ := k0; exact DataW.trod_lt m _ _ _ hm
  obtain ⟨z0, w0⟩ : ∃ zs, IsRow .i64 W a0 len0 cap0 zs := by
    obtain ⟨fuel, hf⟩ := h0
    rcases open_ints Try.underlying34 Try.underlying22 (by kernel_rfl) hf with ⟨hcs, _⟩ | ⟨x, l, c, zs, hcs, _, hl, hm, hz, _, hcell, hwz⟩
    · simp [Value.cells] at hcs
      obtain ⟨rfl, rfl, rfl⟩ := hcs
      exact ⟨[], .inl ⟨rfl, rfl, rfl, rfl⟩⟩
    · simp [Value.cells] at hcs
      obtain ⟨rfl, rfl, rfl⟩ := hcs
      exact ⟨zs, .inr ⟨_, rfl, hl, hm, by simpa using hz, hcell, hwz⟩⟩
  obtain ⟨a1, rfl, rfl, rfl, w1⟩ := open_int Try.underlying3 (hval 1 3 v1 rfl rfl) h1
  clear hA0 hval0
  refine (walk a0 len0 cap0 z0 a1 W w0 w1).mono fun e W' ⟨he, bel⟩ => ?_
  subst he
  exact ⟨_, rfl, _, _, _, [], _, [], hW', trodAll_mk1 (shut_bool Try.underlying4 _), (trodAll_cons_mk (Below.trod laidOut (by kernel_rfl) (of_decide_eq_true (by kernel_rfl)) k0 bel lt0) (trodAll_cons_mk (shut_int Try.underlying3 w1) trodAll_mk0)), rfl, bel.frame _, fun h => by cases h⟩

theorem over : Rows.calcOrderRow.holds Try.pinned (OpenSpec.ofChange Rows.calcOrderSpec) :=
  OpenClaim.holds_of_wide 8 Try.f8 rfl rfl rfl rfl rfl rfl rfl ⟨rfl, rfl, rfl, rfl, rfl⟩ rfl rfl rfl rfl rfl (by kernel_rfl) Try.func8 (by kernel_rfl)
    (of_decide_eq_true (by kernel_rfl)) (by unfold Func.isWrapper; first | (rw [if_pos (by decide +kernel)]; kernel_rfl) | (rw [if_neg (by decide +kernel)]; exact ⟨rfl, rfl⟩))
    (fun os started H enc _ => lifted os started H enc)

theorem proved : Rows.CalcOrderSaid := over
end Go.Proofs.Ytjkidepgjbnflaa.calcOrder

namespace Go.Proofs.Ytjkidepgjbnflaa
theorem calcOrder_holds : Rows.CalcOrderSaid := calcOrder.proved
end Go.Proofs.Ytjkidepgjbnflaa
