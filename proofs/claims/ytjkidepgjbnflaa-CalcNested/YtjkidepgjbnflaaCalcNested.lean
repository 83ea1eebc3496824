/-
  For every depth, errno and again CalcNested returns true: a Fault that is caught within is not seen without; one that is thrown anew is.
-/
import Derived.Test.YtjkidepgjbnflaaRows
import Derived.Test.YtjkidepgjbnflaaCAlive
import Derived.WalkKit
import Derived.WalkSpells
import Derived.WalkLawsBesides
import Derived.ProofKit
import Derived.OpenShut
import Derived.ShutString
namespace Go.Proofs.Ytjkidepgjbnflaa.calcNested
open Go.ChangeShapes Go.WideShapes Go.ChangeAt Go.RowKit
open Go.ChangeMaps (open_string shut_string)
set_option linter.unusedVariables false

theorem own : ownKnob Try.prog.godebug = none := by kernel_rfl

theorem past_over {n m : Nat} {a b c : World} (h : Past n a b) (g : Past m b c) (hm : a.heap.size ≤ m) : Past n a c :=
  ⟨fun w₀ hw G => g.grew w₀ (Nat.le_trans G.size hm) (h.grew w₀ hw G), fun i hi hn => (g.block i (Nat.lt_of_lt_of_le hi h.size) (by omega)).trans (h.block i hi hn), Nat.le_trans h.size g.size⟩

/-- How a round of depth k ends, and how often it has seen the Fault. -/
def endR (again : Bool) (x : Int) (k : Nat) : Ending := if k = 0 ∨ again = true then .panicked [fault x] else .returned (.tuple #[])
def cnt (again : Bool) (k : Nat) : Int := if again = true then (k : Int) else if k = 0 then 0 else 1

theorem nest11 (k : Int) (hk' : inF k) (E : Ending) (Q : World → Prop) (hE : E = .returned (.tuple #[]) ∨ ∃ c, E = .panicked c) (pe pin ps pa pk : Addr) (w : World)
    (ci : w.cell? pin = some (.func (.func 29) #[] #[.pointer (some pe), .pointer (some pin), .pointer (some ps), .pointer (some pa)])) (ck : w.cell? pk = some (.int .i64 (k + 1)))
    (h : Calls Try.prog 29 #[.int .i64 k, .pointer (some pe), .pointer (some pin), .pointer (some ps), .pointer (some pa)] w fun e w' => e = E ∧ Q w') :
    Calls Try.prog 30 #[.pointer (some pin), .pointer (some pk)] w fun e w' => e = E ∧ Q w' := by
  have hw : wrap64 k = k := IntWalk.wrap64_in _ hk'
  rcases hE with rfl | ⟨c, rfl⟩
  · go_enter Try.func30, Try.ntmps30
    go_wp2_with (fail)
    refine h.mono ?_
    rintro e w' ⟨rfl, hQ⟩
    go_wp2
    go_end0
    exact ⟨rfl, hQ⟩
  · go_enter Try.func30, Try.ntmps30
    go_wp2_with (fail)
    refine h.mono ?_
    rintro e w' ⟨rfl, hQ⟩
    exact ⟨rfl, rfl, hQ⟩

theorem nest2 (k : Int) (E : Ending) (Q : World → Prop) (hE : E = .returned (.tuple #[]) ∨ ∃ c, E = .panicked c) (pe pin ps pa pk : Addr) (w : World)
    (ci : w.cell? pin = some (.func (.func 29) #[] #[.pointer (some pe), .pointer (some pin), .pointer (some ps), .pointer (some pa)])) (ck : w.cell? pk = some (.int .i64 k))
    (h : Calls Try.prog 29 #[.int .i64 k, .pointer (some pe), .pointer (some pin), .pointer (some ps), .pointer (some pa)] w fun e w' => e = E ∧ Q w') :
    Calls Try.prog 31 #[.pointer (some pin), .pointer (some pk)] w fun e w' => e = E ∧ Q w' := by
  rcases hE with rfl | ⟨c, rfl⟩
  · go_enter Try.func31, Try.ntmps31
    go_wp2_with (fail)
    refine h.mono ?_
    rintro e w' ⟨rfl, hQ⟩
    go_wp2
    go_end0
    exact ⟨rfl, hQ⟩
  · go_enter Try.func31, Try.ntmps31
    go_wp2_with (fail)
    refine h.mono ?_
    rintro e w' ⟨rfl, hQ⟩
    exact ⟨rfl, rfl, hQ⟩

theorem nest_zero (x : Int) (pe pin ps pa : Addr) (w : World) (ce : w.cell? pe = some (.int .i64 x)) :
    Calls Try.prog 29 #[.int .i64 0, .pointer (some pe), .pointer (some pin), .pointer (some ps), .pointer (some pa)] w fun e w' => e = .panicked [fault x] ∧ Grew w w' := by
  have ce' := ((Grew.refl w).alloc #[.int .i64 0] 3).cell ce
  go_enter Try.func29, Try.ntmps29
  go_wp2
  exact ⟨rfl, rfl, (Grew.refl w).alloc _ _⟩

theorem nest_any (again : Bool) (x : Int) (hx : 1 ≤ x) (ne ni ns na : Nat) (hne : ne ≠ ns) (hni : ni ≠ ns) (hna : na ≠ ns) (w₀ : World) (hw₀ : w₀.heap.size ≤ ns) :
    ∀ (k : Nat) (s : Int) (w : World), k ≤ 20 → 0 ≤ s → s ≤ 1000 → Grew w₀ w →
      w.cell? ⟨ne, 0, none⟩ = some (.int .i64 x) →
      w.cell? ⟨ni, 0, none⟩ = some (.func (.func 29) #[] #[.pointer (some ⟨ne, 0, none⟩), .pointer (some ⟨ni, 0, none⟩), .pointer (some ⟨ns, 0, none⟩), .pointer (some ⟨na, 0, none⟩)]) →
      w.cell? ⟨ns, 0, none⟩ = some (.int .i64 s) → w.cell? ⟨na, 0, none⟩ = some (.bool again) →
      Calls Try.prog 29 #[.int .i64 (k : Int), .pointer (some ⟨ne, 0, none⟩), .pointer (some ⟨ni, 0, none⟩), .pointer (some ⟨ns, 0, none⟩), .pointer (some ⟨na, 0, none⟩)] w fun e w' =>
        e = endR again x k ∧ (Past ns w w' ∧ w'.cell? ⟨ns, 0, none⟩ = some (.int .i64 (s + cnt again k)))
  | 0, s, w, _, _, _, G, ce, ci, cs, ca => by
    refine (nest_zero x _ _ _ _ w ce).mono ?_
    rintro e w' ⟨rfl, G1⟩
    refine ⟨rfl, G1.past, ?_⟩
    have : cnt again 0 = 0 := by cases again <;> rfl
    rw [this, Int.add_zero]
    exact G1.cell cs
  | k + 1, s, w, hk, s0, s1, G, ce, ci, cs, ca => by
    have hmf := mk_func
    have hb : ((k : Int) + 1 == 0) = false := by simp; omega
    have ih := nest_any again x hx ne ni ns na hne hni hna w₀ hw₀ k
    have bs := cell_block cs
    simp only at bs
    rw [show ((k + 1 : Nat) : Int) = (k : Int) + 1 from rfl]
    go_enter Try.func29, Try.ntmps29
    go_wp2_with (fail)
    refine try_wp 30 _ _ _ (fun _ => by simp [go_sem]) ?_
    obtain ⟨V, hV⟩ : ∃ V, V = (w.alloc (.cells #[.int .i64 ((k : Int) + 1)] 3)).alloc (.cells #[.int .i64 0] 24) := ⟨_, rfl⟩
    have GV : Grew w V := by rw [hV]; exact ((Grew.refl w).alloc _ _).alloc _ _
    have ck : V.cell? ⟨w.heap.size, 0, none⟩ = some (.int .i64 ((k : Int) + 1)) := by rw [hV]; simp [go_sem]
    have cv : V.cell? ⟨w.heap.size + 1, 0, none⟩ = some (.int .i64 0) := by rw [hV]; simp [go_sem]
    have hs : (w.alloc (.cells #[.int .i64 ((k : Int) + 1)] 3)).heap.size = w.heap.size + 1 := by simp [go_sem]
    rw [← hV, hs]
    clear hV hs
    have hE : endR again x k = .returned (.tuple #[]) ∨ ∃ c, endR again x k = .panicked c := by
      unfold endR; split
      · exact .inr ⟨_, rfl⟩
      · exact .inl rfl
    refine (nest11 (k : Int) ⟨by omega, by omega⟩ _ _ hE _ _ _ _ _ V (GV.cell ci) ck (ih s V (by omega) s0 s1 (G.trans GV) (GV.cell ce) (GV.cell ci) (GV.cell cs) (GV.cell ca))).mono ?_
    rintro e w1 ⟨rfl, hp, cs1⟩
    have G1 := hp.grew w₀ hw₀ (G.trans GV)
    refine ⟨hp.cell (by simp; omega) cv, G1.free (by simp; have := G.size; omega), ?_⟩
    have hpw : Past ns w w1 := GV.past.trans hp
    have cn1 := hp.cell (p := ⟨na, 0, none⟩) (by simp; omega) (GV.cell ca)
    clear ih cv ck
    by_cases h0 : k = 0 ∨ again = true
    · refine ⟨x, .inr (if_pos h0), fun W hP => ?_⟩
      have hpW := past_over hpw hP (by omega)
      have G2 := hP.grew w₀ (by have := G.size; omega) G1
      have cs2 := hP.cell (p := ⟨ns, 0, none⟩) (by simp; omega) cs1
      have cn2 := hP.cell (p := ⟨na, 0, none⟩) (by simp; have := cell_block ca; simp only at this; omega) cn1
      have zs2 := G2.free (p := ⟨ns, 0, none⟩) (by simpa using hw₀)
      have e1 : (x != 0) = true := by simp; omega
      have cs3 := fun v => World.cell?_setCell_same _ _ v cs2
      have cn3 := fun v => (past_setCell ns W 0 none v).cell (p := ⟨na, 0, none⟩) (by simpa using hna) cn2
      cases again
      · have hk0 : k = 0 := by simpa using h0
        have hcs : cnt false k = 0 := by rw [hk0]; rfl
        have hce : cnt false (k + 1) = 1 := rfl
        have hen : endR false x (k + 1) = .returned (.tuple #[]) := rfl
        rw [hcs, Int.add_zero] at cs2
        have hw : wrap64 (s + 1) = s + 1 := IntWalk.wrap64_in _ ⟨by omega, by omega⟩
        have HE : Hid (cnt false (k + 1) = 1) := hce
        have HN : Hid (endR false x (k + 1) = .returned (.tuple #[])) := hen
        clear hP hpw hp cs1 cn1 G1 GV hE hcs hce hen h0 hk0
        go_wp2
        go_end0
        refine ⟨HN.out.symm, hpW.trans (past_setCell _ _ _ _ _), ?_⟩
        rw [HE.out]
        exact cs3 _
      · have hcs : cnt true k = k := rfl
        have hce : cnt true (k + 1) = k + 1 := rfl
        have hen : endR true x (k + 1) = .panicked [fault x] := by simp [endR]
        rw [hcs] at cs2
        have hw : wrap64 (s + (k : Int) + 1) = s + (k : Int) + 1 := IntWalk.wrap64_in _ ⟨by omega, by omega⟩
        have HE : Hid (cnt true (k + 1) = k + 1) := hce
        have HN : Hid (endR true x (k + 1) = .panicked [fault x]) := hen
        clear hP hpw hp cs1 cn1 G1 GV hE hcs hce hen h0
        go_wp2
        refine ⟨rfl, HN.out.symm, hpW.trans (past_setCell _ _ _ _ _), ?_⟩
        rw [HE.out, ← Int.add_assoc]
        exact cs3 _
    · have hag : again = false := by cases again <;> simp_all
      subst hag
      have hk0 : ¬ k = 0 := by simpa using h0
      refine ⟨0, .inl ⟨if_neg h0, rfl⟩, fun W hP => ?_⟩
      have hpW := past_over hpw hP (by omega)
      have cs2 := hP.cell (p := ⟨ns, 0, none⟩) (by simp; omega) cs1
      have hcs : cnt false k = 1 := by simp [cnt, hk0]
      have hce : cnt false (k + 1) = 1 := rfl
      have hen : endR false x (k + 1) = .returned (.tuple #[]) := rfl
      rw [hcs] at cs2
      have HE : Hid (cnt false (k + 1) = 1) := hce
      have HN : Hid (endR false x (k + 1) = .returned (.tuple #[])) := hen
      clear hP hpw hp cs1 cn1 G1 GV hE hcs hce hen h0 hk0
      go_wp2
      go_end0
      refine ⟨HN.out.symm, hpW, ?_⟩
      rw [HE.out]
      exact cs2
theorem walk (a0 : Int) (a1 : Int) (a2 : Bool) (w0 : (Lit.int .i64 a0).wf = true) (w1 : (Lit.int .i64 a1).wf = true) (w : World) :
    Calls Try.prog 7 #[.int .i64 a0, .int .i64 a1, .bool a2] w fun e w' => e = .returned (.bool true) ∧ Grown w w' := by
  have hmf := mk_func
  by_cases h : 1 ≤ a0 ∧ a0 ≤ 20 ∧ 1 ≤ a1 ∧ a1 ≤ 1000
  · obtain ⟨h1, h2, h3, h4⟩ := h
    have d1 : decide (a0 < 1) = false := by simp; omega
    have d2 : decide (20 < a0) = false := by simp; omega
    have d3 : decide (a1 < 1) = false := by simp; omega
    have d4 : decide (1000 < a1) = false := by simp; omega
    go_enter Try.func7, Try.ntmps7
    go_wp2_with (first
      | (go_at_call 9; refine (alive_any _).mono ?_; rintro e w' ⟨rfl, G⟩))
    have Ga : Grew w w' := ((((Grew.refl w).alloc _ _).alloc _ _).alloc _ _).trans G
    have cd : w'.cell? ⟨w.heap.size, 0, none⟩ = some (.int .i64 a0) := G.cell (by simp [go_sem])
    have ce : w'.cell? ⟨w.heap.size + 1, 0, none⟩ = some (.int .i64 a1) := G.cell (by simp [go_sem])
    have ca : w'.cell? ⟨w.heap.size + 1 + 1, 0, none⟩ = some (.bool a2) := G.cell (by simp [go_sem])
    have sz : w.heap.size + 1 + 1 < w'.heap.size := cell_block ca
    clear G
    refine try_wp 31 _ _ _ (fun _ => by simp [go_sem]) ?_
    obtain ⟨fv, hfv⟩ : ∃ fv, fv = Value.func (.func 29) #[] #[.pointer (some ⟨w.heap.size + 1, 0, none⟩), .pointer (some ⟨w'.heap.size + 1, 0, none⟩), .pointer (some ⟨w'.heap.size, 0, none⟩), .pointer (some ⟨w.heap.size + 1 + 1, 0, none⟩)] := ⟨_, rfl⟩
    rw [← hfv]
    obtain ⟨V, hV⟩ : ∃ V, V = ((w'.alloc (.cells #[.int .i64 0] 3)).alloc (.cells #[fv] 39)).alloc (.cells #[.int .i64 0] 24) := ⟨_, rfl⟩
    have GV : Grew w' V := by rw [hV]; exact (((Grew.refl w').alloc _ _).alloc _ _).alloc _ _
    have cs : V.cell? ⟨w'.heap.size, 0, none⟩ = some (.int .i64 0) := by rw [hV]; simp [go_sem]
    have ci : V.cell? ⟨w'.heap.size + 1, 0, none⟩ = some fv := by rw [hV]; simp [go_sem]
    have cv : V.cell? ⟨w'.heap.size + 2, 0, none⟩ = some (.int .i64 0) := by rw [hV]; simp [go_sem]
    have hs : ((w'.alloc (.cells #[.int .i64 0] 3)).alloc (.cells #[fv] 39)).heap.size = w'.heap.size + 2 := by simp [go_sem]
    rw [← hV, hs]
    clear hV hs
    rw [hfv] at ci
    have G0 := Ga.trans GV
    have hE : endR a2 a1 a0.toNat = .returned (.tuple #[]) ∨ ∃ c, endR a2 a1 a0.toNat = .panicked c := by
      unfold endR; split
      · exact .inr ⟨_, rfl⟩
      · exact .inl rfl
    have H := nest_any a2 a1 h3 (w.heap.size + 1) (w'.heap.size + 1) w'.heap.size (w.heap.size + 1 + 1) (by omega) (by omega) (by omega) w (by omega) a0.toNat 0 V (by omega) (by omega) (by omega) G0 (GV.cell ce) ci cs (GV.cell ca)
    rw [Int.toNat_of_nonneg (by omega : 0 ≤ a0)] at H
    refine (nest2 a0 _ _ hE _ _ _ _ _ V ci (GV.cell cd) H).mono ?_
    rintro e w1 ⟨rfl, hp, cs1⟩
    have G1 := hp.grew w (by omega) G0
    refine ⟨hp.cell (by simp) cv, G1.free (by simp; omega), ?_⟩
    have ca1 := hp.cell (p := ⟨w.heap.size + 1 + 1, 0, none⟩) (by simp; omega) (GV.cell ca)
    have ce1 := hp.cell (p := ⟨w.heap.size + 1, 0, none⟩) (by simp; omega) (GV.cell ce)
    have cd1 := hp.cell (p := ⟨w.heap.size, 0, none⟩) (by simp; omega) (GV.cell cd)
    clear H hE cs ci cv hp GV Ga cd ce ca G0 hfv
    cases a2
    · refine ⟨0, .inl ⟨if_neg (by simp; omega), rfl⟩, fun W hP => ?_⟩
      have G2 := hP.grew w (by omega) G1
      have ca2 := hP.cell (p := ⟨w.heap.size + 1 + 1, 0, none⟩) (by simp; omega) ca1
      have cs2 := hP.cell (p := ⟨w'.heap.size, 0, none⟩) (by simp) cs1
      rw [show (0 : Int) + cnt false a0.toNat = 1 from by rw [cnt, if_neg (by simp), if_neg (by omega)]; rfl] at cs2
      clear hP cs1 ca1 ce1 cd1 G1
      go_wp2
      go_ret
      exact ⟨rfl, G2.grown⟩
    · refine ⟨a1, .inr (if_pos (.inr rfl)), fun W hP => ?_⟩
      have G2 := hP.grew w (by omega) G1
      have ca2 := hP.cell (p := ⟨w.heap.size + 1 + 1, 0, none⟩) (by simp; omega) ca1
      have ce2 := hP.cell (p := ⟨w.heap.size + 1, 0, none⟩) (by simp; omega) ce1
      have cd2 := hP.cell (p := ⟨w.heap.size, 0, none⟩) (by simp; omega) cd1
      have cs2 := hP.cell (p := ⟨w'.heap.size, 0, none⟩) (by simp) cs1
      rw [show (0 : Int) + cnt true a0.toNat = a0 from by rw [cnt, if_pos rfl]; omega] at cs2
      clear hP cs1 ca1 ce1 cd1 G1
      go_wp2
      go_ret
      exact ⟨rfl, G2.grown⟩
  · have hb : (decide (a0 < 1) || decide (20 < a0) || decide (a1 < 1) || decide (1000 < a1)) = true := by
      simp; omega
    go_enter Try.func7, Try.ntmps7
    go_wp2_with (first
      | (go_at_call 9; refine (alive_any _).mono ?_; rintro e w' ⟨rfl, G⟩))
    all_goals
      go_ret
      exact ⟨rfl, (((((Grew.refl w).alloc _ _).alloc _ _).alloc _ _).trans G).grown⟩

set_option maxRecDepth 100000 in
theorem lifted (os : Os) (started : os.Started) (H : Type) (enc : TypeId × Value → H) :
    ReturnsInHanded {} Try.checked os 7 .any (Rows.calcNestedSpec.pre6 enc Try.prog Try.f7 Rows.calcNestedRow.domain false) (Rows.calcNestedSpec.post enc Try.prog Try.f7 false true false false) := by
  refine returnsInHanded_of_change (C := Try.checked) own started (by kernel_rfl) Try.func7
    (ChangeSpec.witness6 (enc := enc) (C := Try.checked) false ⟨#[], #[.int .i64 0, .int .i64 0, .bool false], []⟩ 8 (by kernel_rfl) (by kernel_rfl) (by kernel_rfl) (by kernel_rfl)) ?_
  intro W base args ds gs before hval0 hW hcnd _
  have hval : ∀ (j : Nat) t v, Try.f7.params[j]? = some t → args[j]? = some v → Value.okWide Try.prog W .any base t v := hval0
  have hW' := hW
  obtain ⟨p, q, hA0, hV, rfl, hfz, hnd⟩ := hW
  have hA : DataW.TrodAll enc Try.prog W 0 (fun _ => true) true Try.f7.params.toList args.toList ds p := hA0
  rw [Try.params7] at hA hval
  obtain ⟨v0, vs0, d0, ds0, p0, q0, hargs, rfl, rfl, h0, r0⟩ := trodAll_cons hA
  obtain ⟨v1, vs1, d1, ds1, p1, q1, rfl, rfl, rfl, h1, r1⟩ := trodAll_cons r0
  obtain ⟨v2, vs2, d2, ds2, p2, q2, rfl, rfl, rfl, h2, r2⟩ := trodAll_cons r1
  obtain ⟨rfl, rfl, rfl⟩ := trodAll_nil r2
  obtain rfl : args = #[v0, v1, v2] := by cases args; simp_all
  obtain ⟨rfl, rfl⟩ := trodVars_none hV
  obtain ⟨a0, rfl, rfl, rfl, w0⟩ := open_int Try.underlying3 (hval 0 3 v0 rfl rfl) h0
  obtain ⟨a1, rfl, rfl, rfl, w1⟩ := open_int Try.underlying3 (hval 1 3 v1 rfl rfl) h1
  obtain ⟨a2, rfl, rfl, rfl⟩ := open_bool Try.underlying4 (hval 2 4 v2 rfl rfl) h2
  clear hA0 hval0
  simp only [List.append_nil] at hW'
  refine (walk a0 a1 a2 w0 w1 W).mono fun e W' ⟨he, hg⟩ => ?_
  subst he
  exact ⟨_, rfl, post_of_same (pa := []) (pv := []) hW' (fun _ _ _ => (trodAll_cons_mk (shut_bool Try.underlying4 _) trodAll_mk0)) (fun sp _ => (trodAll_cons_mk (shut_int Try.underlying3 w0) (trodAll_cons_mk (shut_int Try.underlying3 w1) (trodAll_cons_mk (shut_bool Try.underlying4 _) trodAll_mk0)))) (fun _ _ => rfl) rfl
    (hg.frame _) hg.2.1 (ok_one (by kernel_rfl) rfl (okWide_bool_mk Try.underlying4 _))⟩

theorem over : Rows.calcNestedRow.holds Try.pinned (OpenSpec.ofChange Rows.calcNestedSpec) :=
  OpenClaim.holds_of_wide 7 Try.f7 rfl rfl rfl rfl rfl rfl rfl ⟨rfl, rfl, rfl, rfl, rfl⟩ rfl rfl rfl rfl rfl (by kernel_rfl) Try.func7 (by kernel_rfl)
    (of_decide_eq_true (by kernel_rfl)) (by unfold Func.isWrapper; first | (rw [if_pos (by decide +kernel)]; kernel_rfl) | (rw [if_neg (by decide +kernel)]; exact ⟨rfl, rfl⟩))
    (fun os started H enc _ => lifted os started H enc)

theorem proved : Rows.CalcNestedSaid :=
  over
end Go.Proofs.Ytjkidepgjbnflaa.calcNested

namespace Go.Proofs.Ytjkidepgjbnflaa
theorem calcNested_holds : Rows.CalcNestedSaid := calcNested.proved
end Go.Proofs.Ytjkidepgjbnflaa
