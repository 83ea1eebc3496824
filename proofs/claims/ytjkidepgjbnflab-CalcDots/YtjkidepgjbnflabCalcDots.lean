/-
  For every list CalcDots returns true: a product with ones is a sum, with zeros nothing, and lists that are not as long are refused.
-/
import Derived.Test.YtjkidepgjbnflabRows
import Derived.Test.YtjkidepgjbnflabCDot
import Derived.Test.YtjkidepgjbnflabLawNum
import Derived.Test.YtjkidepgjbnflabCRow
import Derived.WalkKit
import Derived.WalkSpells
import Derived.WalkLawsBesides
import Derived.ProofKit
import Derived.OpenShut
import Derived.ShutString
import Derived.ChangeOld
import Derived.Below
namespace Go.Proofs.Ytjkidepgjbnflab.calcDots
open Go.ChangeShapes Go.WideShapes Go.ChangeAt Go.RowKit
open Go.ChangeMaps (open_string shut_string)
set_option linter.unusedVariables false

theorem own : ownKnob Try.prog.godebug = none := by kernel_rfl
theorem laidOut : laidOutB Try.prog = true := by kernel_rfl

/-- WHAT THE WALK IS TOLD OF A SLICE OF INTEGERS THAT CAME IN: it is nil; or it leads to a row of 'cap' cells, the numbers 'zs' (the first 'len' are its elements, the rest its spare room), each fitting its kind. -/
def IsRow (k : IntKind) (w : World) (a : Option Addr) (len cap : Nat) (zs : List Int) : Prop :=
  (a = none ∧ len = 0 ∧ cap = 0 ∧ zs = []) ∨
  ∃ x, a = some x ∧ len ≤ cap ∧ cap ≤ maxLen ∧ zs.length = cap ∧ (∀ i, i < zs.length → w.cell? (x.add i) = some (.int k (zs.getD i 0))) ∧ ∀ n ∈ zs, (Lit.int k n).wf = true

theorem info_fix : (Try.prog.info? 24).map (fun i => (i.zero, i.size, i.bytes)) = some (some (.int .i64 0), 1, 8) := by kernel_rfl

/-- A row that the call made is a Row. -/
theorem own_row {w : World} {B : Nat} {E : TypeId} {v : Value} {xs : List Int} (h : w.ownsRow B E 1 v xs.length (xs.map (Value.int .i64))) (hl : xs.length ≤ 1000) (hf : ∀ x ∈ xs, inF x) :
    ∃ a cap, v = .slice a xs.length cap ∧ Row w a xs := by
  rcases h.2 with ⟨rfl, h0⟩ | ⟨g, cap, cur, rfl, hb, hg, hc, hm, hs, ht⟩
  · exact ⟨none, 0, by rw [h0], hl, hf, .inl (List.eq_nil_of_length_eq_zero h0)⟩
  · refine ⟨_, cap, rfl, hl, hf, .inr ⟨g, 0, rfl, fun i hi => ?_⟩⟩
    have h1 : (cur.toList.take (xs.length * 1))[i]? = (xs.map (Value.int .i64))[i]? := by rw [ht]
    rw [List.getElem?_take, if_pos (by omega), Array.getElem?_toList] at h1
    simp only [World.cell?, hg, Nat.zero_add, Option.isSome_none, Bool.false_eq_true, if_false]
    rw [h1]
    simp [List.getD, List.getElem?_eq_getElem hi]

/-- Two rows that begin otherwise are not one. -/
theorem own_apart {w : World} {B : Nat} {E : TypeId} {v v' : Value} {n m : Nat} {p q : Value} {xs ys : List Value} (h : w.ownsRow B E 1 v n (p :: xs)) (h' : w.ownsRow B E 1 v' m (q :: ys)) (hpq : p ≠ q) :
    v.ownBlock ≠ v'.ownBlock := by
  intro e
  have l1 := h.1
  have l2 := h'.1
  rcases h.2 with ⟨rfl, h0⟩ | ⟨g, cap, cur, rfl, hb, hg, hc, hm, hs, ht⟩
  · subst h0; simp at l1
  rcases h'.2 with ⟨rfl, h0⟩ | ⟨g', cap', cur', rfl, hb', hg', hc', hm', hs', ht'⟩
  · subst h0; simp at l2
  simp [Value.ownBlock] at e
  subst e
  rw [hg] at hg'
  cases hg'
  have a1 : (cur.toList.take (n * 1))[0]? = some p := by rw [ht]; rfl
  have a2 : (cur.toList.take (m * 1))[0]? = some q := by rw [ht']; rfl
  simp only [List.length_cons] at l1 l2
  rw [List.getElem?_take, if_pos (by omega)] at a1 a2
  rw [a1] at a2
  exact hpq (Option.some.inj a2)

theorem zeros_kept {B : Nat} {wr w1 : World} {E : TypeId} {o z : Value} {k : Nat} {c : Obj} (ho : wr.ownsRow B E 1 o k (List.replicate k (.int .i64 4294967296))) (hz : wr.ownsRow B E 1 z k (List.replicate k (.int .i64 0)))
    (hnil : k = 0 → o = .slice none 0 0 ∧ z = .slice none 0 0) (hg : (wr.alloc c).grownBy w1 o.ownBlock) : w1.ownsRow B E 1 z k (List.replicate k (.int .i64 0)) := by
  refine (hz.alloc c).kept hg ?_
  cases k with
  | zero => rw [(hnil rfl).2]; exact .inl rfl
  | succ k =>
    rw [List.replicate_succ] at ho hz
    exact .inr (own_apart hz ho (by simp))

theorem ones_step {w wr w1 w3 : World} {E : TypeId} {o z o1 z1 : Value} {k : Nat} {c c' : Obj} (ho : wr.ownsRow w.heap.size E 1 o k (List.replicate k (.int .i64 4294967296))) (hz : wr.ownsRow w.heap.size E 1 z k (List.replicate k (.int .i64 0))) (hB : Below w.heap.size w wr)
    (hnil : k = 0 → o = .slice none 0 0 ∧ z = .slice none 0 0) (ho1 : w1.ownsRow w.heap.size E 1 o1 (k + 1) (List.replicate k (.int .i64 4294967296) ++ [.int .i64 4294967296])) (hg1 : (wr.alloc c).grownBy w1 o.ownBlock)
    (hz3 : w3.ownsRow w.heap.size E 1 z1 (k + 1) (List.replicate k (.int .i64 0) ++ [.int .i64 0])) (hg3 : (w1.alloc c').grownBy w3 z.ownBlock) :
    w3.ownsRow w.heap.size E 1 o1 (k + 1) (List.replicate (k + 1) (.int .i64 4294967296)) ∧ w3.ownsRow w.heap.size E 1 z1 (k + 1) (List.replicate (k + 1) (.int .i64 0)) ∧ Below w.heap.size w w3 := by
  have hzk := zeros_kept ho hz hnil hg1
  have s0 := hB.size
  have s1 := hg1.size
  have s2 : wr.heap.size ≤ (wr.alloc c).heap.size := by simp
  have s3 : w1.heap.size ≤ (w1.alloc c').heap.size := by simp
  rw [← List.replicate_succ'] at ho1 hz3
  refine ⟨(ho1.alloc c').kept hg3 ?_, hz3, ?_⟩
  · cases k with
    | zero =>
      rw [(hnil rfl).2]
      cases o1.ownBlock
      · exact .inl rfl
      · exact .inr (by simp [Value.ownBlock])
    | succ k =>
      rw [List.replicate_succ] at ho1 hzk
      exact .inr (own_apart ho1 hzk (by simp))
  · have b1 := (hB.alloc s0 c).grown hg1 (by omega) (fun i hi => (ho.lt i hi).1)
    exact (b1.alloc (by omega) c').grown hg3 (by omega) (fun i hi => (hz.lt i hi).1)

theorem row_below {w w' : World} {a : Option Addr} {l : List Int} (h : Row w a l) (g : Below w.heap.size w w') : Row w' a l := by
  obtain ⟨h1, h2, h3⟩ := h
  refine ⟨h1, h2, ?_⟩
  rcases h3 with h3 | ⟨b, off, h3, h4⟩
  · exact .inl h3
  · exact .inr ⟨b, off, h3, fun i hi => by rw [cell_of_heap (g.block _ (cell_block (h4 i hi)))]; exact h4 i hi⟩

theorem own_grew {w w' : World} {B n : Nat} {E : TypeId} {v : Value} {xs : List Value} (h : w.ownsRow B E 1 v n xs) (g : Grew w w') : w'.ownsRow B E 1 v n xs := by
  refine ⟨h.1, ?_⟩
  rcases h.2 with h | ⟨b, cap, cur, e, hb, hg, r⟩
  · exact .inl h
  · exact .inr ⟨b, cap, cur, e, hb, (g.heap (Array.getElem?_eq_some_iff.1 hg).1).trans hg, r⟩

theorem own_many {w : World} {B n : Nat} {E : TypeId} {v : Value} (y : Int) (h : w.ownsRow B E 1 v n (List.replicate n (.int .i64 y))) (hn : n ≤ 1000) (fy : inF y) : ∃ a cap, v = .slice a n cap ∧ Row w a (List.replicate n y) := by
  have h' : w.ownsRow B E 1 v (List.replicate n y).length ((List.replicate n y).map (Value.int .i64)) := by
    rw [List.length_replicate, List.map_replicate]; exact h
  obtain ⟨a, cap, e, r⟩ := own_row h' (by simpa using hn) (fun x hx => by rw [List.eq_of_mem_replicate hx]; exact fy)
  rw [List.length_replicate] at e
  exact ⟨a, cap, e, r⟩

theorem own_slice {w : World} {B n : Nat} {E : TypeId} {v : Value} {xs : List Value} (h : w.ownsRow B E 1 v (n + 1) xs) : ∃ a cap, v = .slice a (n + 1) cap := by
  rcases h.2 with ⟨_, h⟩ | ⟨b, cap, cur, e, _⟩
  · omega
  · exact ⟨_, cap, e⟩

theorem dot_ones : ∀ (l : List Int) (s : Int), (∀ x ∈ l, inF x) → dotR s l (List.replicate l.length 4294967296) = sumR s l
  | [], s, _ => by simp [dotR, sumR]
  | x :: l, s, h => by
    rw [List.length_cons, List.replicate_succ, dotR, sumR, mulR_one (h x (by simp))]
    rw [if_pos rfl]
    by_cases g : (addR s x).2 = 0
    · rw [if_pos g, if_pos g, dot_ones l _ (fun y hy => h y (by simp [hy]))]
    · rw [if_neg g, if_neg g]

theorem mulR_none (y : Int) : mulR 0 y = (0, 0) := by
  rw [mulR, mulM_zero_left]
  exact sgR_zero _

theorem dot_zeros : ∀ (l : List Int), dotR 0 (List.replicate l.length 0) l = (0, 0)
  | [] => by simp [dotR]
  | x :: l => by
    rw [List.length_cons, List.replicate_succ, dotR, mulR_none]
    rw [if_pos rfl, show addR 0 (0, 0).1 = (0, 0) from rfl, if_pos rfl]
    exact dot_zeros l
theorem walk (a0 : Option Addr) (len0 cap0 : Nat) (z0 : List Int) (w : World) (w0 : IsRow .i64 w a0 len0 cap0 z0) :
    Calls Try.prog 3 #[.slice a0 len0 cap0] w fun e w' => e = .returned (.bool true) ∧ Below w.heap.size w w' := by
  have hmf := mk_func
  by_cases hl : len0 ≤ 20
  · obtain ⟨l, rfl, hr⟩ := row_of (by omega) w0
    obtain ⟨i0, hi0, hz0, hz1, hz2⟩ := info_parts info_fix
    have d1 : decide ((20 : Int) < (l.length : Int)) = false := by simp; omega
    clear w0
    go_enter Try.func3, Try.ntmps3
    go_wp2_with (first
      | (go_at_call 5; refine (alive_any _).mono ?_; rintro e W ⟨rfl, G⟩))
    go_loopw [3, 4, 23] (fun o z i wr => ∃ k : Nat, k ≤ l.length ∧ i = .int .i64 k ∧ wr.ownsRow w.heap.size 24 1 o k (List.replicate k (.int .i64 4294967296)) ∧ wr.ownsRow w.heap.size 24 1 z k (List.replicate k (.int .i64 0)) ∧ Below w.heap.size w wr ∧ (k = 0 → o = .slice none 0 0 ∧ z = .slice none 0 0)) (fun _ _ i _ => l.length - (intOf i).toNat)
    case atStart => exact ⟨0, by omega, rfl, World.ownsRow_nil _ _ _ _, World.ownsRow_nil _ _ _ _, G.below, fun _ => ⟨rfl, rfl⟩⟩
    case round =>
      obtain ⟨k, hk, rfl, ho, hz, hB, hnil⟩ := hrel
      by_cases hlt : k < l.length
      · have hi : (k : Int) < (l.length : Int) := by omega
        have hsz := hB.size
        have hnil' : Hid (k = 0 → u3 = .slice none 0 0 ∧ u4 = .slice none 0 0) := hnil
        clear hnil
        go_wp2_with (first
          | (at_builtin; refine wpList_append_own _ rfl (.tmp 25) (.tmp 26) 22 rfl w.heap.size 24 i0 (.int .i64 0) 1 8 Try.underlying22 hi0 hz0 hz1 hz2 rfl (by decide) u3 _ _ rfl (ho.alloc _) ⟨wr.heap.size, 0, none⟩ 1 1 [.int .i64 4294967296] rfl rfl (fun j u hj => by match j, hj with | 0, hj => simp at hj; subst hj; simp [Addr.add]) (fun u hu => by simp at hu; subst hu; rfl) (by unfold maxLen; omega) (by omega) (by simp; omega) ?_; intro o1 w1 ho1 hg1 _; have hzk := zeros_kept ho hz hnil'.out hg1; have hsz1 := hg1.size; simp at hsz1)
          | (at_builtin; refine wpList_append_own _ rfl (.tmp 28) (.tmp 29) 22 rfl w.heap.size 24 i0 (.int .i64 0) 1 8 Try.underlying22 hi0 hz0 hz1 hz2 rfl (by decide) u4 _ _ rfl (hzk.alloc _) ⟨w1.heap.size, 0, none⟩ 1 1 [.int .i64 0] rfl rfl (fun j u hj => by match j, hj with | 0, hj => simp at hj; subst hj; simp [Addr.add]) (fun u hu => by simp at hu; subst hu; rfl) (by unfold maxLen; omega) (by omega) (by simp; omega) ?_; intro z1 w3 hz3 hg3 _; have R := ones_step ho hz hB hnil'.out ho1 hg1 hz3 hg3; clear hz3 hg3 ho1 hg1 hzk hsz1 ho hz hB))
        refine ⟨⟨k + 1, by omega, rfl, R.1, R.2.1, R.2.2, fun h => absurd h (by omega)⟩, ?_⟩
        simp [intOf]; omega
      · have hi : ¬ (k : Int) < (l.length : Int) := by omega
        obtain rfl : k = l.length := by omega
        obtain ⟨b1, c1, rfl, r1⟩ := own_many _ ho (by omega) ⟨by decide, by decide⟩
        obtain ⟨b2, c2, rfl, r2⟩ := own_many _ hz (by omega) ⟨by decide, by decide⟩
        have r0 := row_below hr hB
        have hone := dot_ones l 0 r0.2.1
        have hzer := dot_zeros l
        obtain ⟨r, hR⟩ : ∃ r, r = sumR 0 l := ⟨_, rfl⟩
        have HR : Hid (sumR 0 l = r) := hR.symm
        have H1 : Hid (dotR 0 l (List.replicate l.length 4294967296) = r) := hone.trans hR.symm
        have H2 : Hid (dotR 0 (List.replicate l.length 0) l = (0, 0)) := hzer
        clear hR hone hzer hz hr hnil
        go_wp2_with (fail)
        refine (sum_any _ _ l _ r0).mono ?_
        rintro e W1 ⟨rfl, G1⟩
        rw [HR.out]
        go_wp2_with (fail)
        have H := dot_any a0 b1 cap0 c1 l _ W1 (r0.grew G1) (r1.grew G1) (by simp)
        rw [List.length_replicate, H1.out] at H
        refine H.mono ?_
        clear H
        rintro e W2 ⟨rfl, G2⟩
        go_wp2_with (fail)
        have G12 := G1.trans G2
        have H := dot_any b2 a0 c2 cap0 _ l W2 (r2.grew G12) (r0.grew G12) (by simp)
        rw [List.length_replicate, H2.out] at H
        refine H.mono ?_
        clear H
        rintro e W3 ⟨rfl, G3⟩
        have G4 := G12.trans G3
        have ho3 := own_grew ho G4
        have hB3 := hB.trans (G4.below.mono hB.size)
        have hsz3 := hB3.size
        have hlt2 := (ho3.lt)
        clear ho hB r0 r1 r2 G1 G2 G3 G12 G4 HR H1 H2
        go_wp2_with (first
          | (at_builtin; (refine wpList_append_own _ rfl _ _ 22 rfl w.heap.size 24 i0 (.int .i64 0) 1 8 Try.underlying22 hi0 hz0 hz1 hz2 rfl (by decide) (.slice b1 l.length c1) _ _ rfl (ho3.alloc _) ⟨W3.heap.size, 0, none⟩ 1 1 [.int .i64 1] rfl rfl (fun j u hj => by match j, hj with | 0, hj => simp at hj; subst hj; simp [Addr.add]) (fun u hu => by simp at hu; subst hu; rfl) (by unfold maxLen; omega) (by omega) (by simp; omega) ?_); intro o1 w5 ho5 hg5 _; obtain ⟨b5, c5, rfl⟩ := own_slice ho5; have hB5 := (hB3.alloc hsz3 (.cells #[.int .i64 1] 24)).grown hg5 (by simp; omega) (fun i hi => (hlt2 i hi).1); clear hg5 ho5)
          | (go_at_call 7; refine (dot_arg _ _ _ _ _ _ _ (by omega)).mono ?_; rintro e W6 ⟨rfl, G6⟩))
        go_ret
        exact ⟨rfl, hB5.trans (G6.below.mono hB5.size)⟩
  · have d1 : decide ((20 : Int) < (len0 : Int)) = true := by simp; omega
    go_enter Try.func3, Try.ntmps3
    go_wp2_with (first
      | (go_at_call 5; refine (alive_any _).mono ?_; rintro e w' ⟨rfl, G⟩))
    go_ret
    exact ⟨rfl, G.below⟩

set_option maxRecDepth 100000 in
theorem lifted (os : Os) (started : os.Started) (H : Type) (enc : TypeId × Value → H) :
    ReturnsInHanded {} Try.checked os 3 .any (Rows.calcDotsSpec.pre6 enc Try.prog Try.f3 Rows.calcDotsRow.domain false) (Rows.calcDotsSpec.post enc Try.prog Try.f3 false true false false) := by
  refine returnsInHanded_of_change (C := Try.checked) own started (by kernel_rfl) Try.func3
    (ChangeSpec.witness6 (enc := enc) (C := Try.checked) false ⟨#[], #[.slice none 0 0], []⟩ 8 (by kernel_rfl) (by kernel_rfl) (by kernel_rfl) (by kernel_rfl)) ?_
  intro W base args ds gs before hval0 hW hcnd _
  have hval : ∀ (j : Nat) t v, Try.f3.params[j]? = some t → args[j]? = some v → Value.okWide Try.prog W .any base t v := hval0
  have hW' := hW
  obtain ⟨p, q, hA0, hV, rfl, hfz, hnd⟩ := hW
  have hA : DataW.TrodAll enc Try.prog W 0 (fun _ => true) true Try.f3.params.toList args.toList ds p := hA0
  rw [Try.params3] at hA hval
  obtain ⟨v0, vs0, d0, ds0, p0, q0, hargs, rfl, rfl, h0, r0⟩ := trodAll_cons hA
  obtain ⟨rfl, rfl, rfl⟩ := trodAll_nil r0
  obtain rfl : args = #[v0] := by cases args; simp_all
  obtain ⟨rfl, rfl⟩ := trodVars_none hV
  obtain ⟨a0, len0, cap0, rfl⟩ := okWide_slice Try.underlying22 (hval 0 22 v0 rfl rfl)
  have k0 := h0
  have lt0 : ∀ x ∈ p0, x.block < W.heap.size := by obtain ⟨m, hm⟩ := k0; exact DataW.trod_lt m _ _ _ hm
  obtain ⟨z0, w0⟩ : ∃ zs, IsRow .i64 W a0 len0 cap0 zs := by
    obtain ⟨fuel, hf⟩ := h0
    rcases open_ints Try.underlying22 Try.underlying24 (by kernel_rfl) hf with ⟨hcs, _⟩ | ⟨x, l, c, zs, hcs, _, hl, hm, hz, _, hcell, hwz⟩
    · simp [Value.cells] at hcs
      obtain ⟨rfl, rfl, rfl⟩ := hcs
      exact ⟨[], .inl ⟨rfl, rfl, rfl, rfl⟩⟩
    · simp [Value.cells] at hcs
      obtain ⟨rfl, rfl, rfl⟩ := hcs
      exact ⟨zs, .inr ⟨_, rfl, hl, hm, by simpa using hz, hcell, hwz⟩⟩
  clear hA0 hval0
  refine (walk a0 len0 cap0 z0 W w0).mono fun e W' ⟨he, bel⟩ => ?_
  subst he
  exact ⟨_, rfl, _, _, _, [], _, [], hW', trodAll_mk1 (shut_bool Try.underlying4 _), (trodAll_cons_mk (Below.trod laidOut (by kernel_rfl) (of_decide_eq_true (by kernel_rfl)) k0 bel lt0) trodAll_mk0), rfl, bel.frame _, fun h => by cases h⟩

theorem over : Rows.calcDotsRow.holds Try.pinned (OpenSpec.ofChange Rows.calcDotsSpec) :=
  OpenClaim.holds_of_wide 3 Try.f3 rfl rfl rfl rfl rfl rfl rfl ⟨rfl, rfl, rfl, rfl, rfl⟩ rfl rfl rfl rfl rfl (by kernel_rfl) Try.func3 (by kernel_rfl)
    (of_decide_eq_true (by kernel_rfl)) (by unfold Func.isWrapper; first | (rw [if_pos (by decide +kernel)]; kernel_rfl) | (rw [if_neg (by decide +kernel)]; exact ⟨rfl, rfl⟩))
    (fun os started H enc _ => lifted os started H enc)

theorem proved : Rows.CalcDotsSaid := over
end Go.Proofs.Ytjkidepgjbnflab.calcDots

namespace Go.Proofs.Ytjkidepgjbnflab
theorem calcDots_holds : Rows.CalcDotsSaid := calcDots.proved
end Go.Proofs.Ytjkidepgjbnflab
