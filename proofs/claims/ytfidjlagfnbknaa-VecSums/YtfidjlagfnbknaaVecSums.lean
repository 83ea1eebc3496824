/-
  Proved: maquettelaw6.VecSums returns true for every two places a and b (what is added can be taken away; scaled by One, or shared by 1, a is itself; shared by 0 it is told), and leaves what it was given as it was; no condition.
-/
import Derived.Test.YtfidjlagfnbknaaRows
import Derived.Test.YtfidjlagfnbknaaVAlive
import Derived.Test.YtfidjlagfnbknaaVData
import Derived.WalkKit
import Derived.Deep.QuietTactic
import Derived.BigQuiet
import Derived.WalkSpells
import Derived.WalkLawsBesides
import Derived.ProofKit
import Derived.OpenShut
namespace Go.Proofs.Ytfidjlagfnbknaa.vecSums
open Go.ChangeShapes Go.WideShapes Go.ChangeAt Go.RowKit
set_option linter.unusedVariables false

theorem own : ownKnob Try.prog.godebug = none := by kernel_rfl

theorem sum_back {x u : Int} (hx : inF x) (h : (addR x u).2 = 0) : subR (addR x u).1 u = (x, 0) ∧ inF (addR x u).1 := by
  unfold addR at *
  rcases inR_cases (x + u) with ⟨e, g⟩ | ⟨e, _⟩
  · rw [e]
    refine ⟨?_, g⟩
    unfold subR
    rw [show x + u - u = x by omega, inR_ok hx]
  · rw [e] at h; exact absurd h (by decide)
theorem sum_err (r s : Int × Int) (hr : r.2 = 0 ∨ r.2 = 3) (hs : s.2 = 0 ∨ s.2 = 3) : (two r s).2.2 = 0 ∨ (two r s).2.2 = 3 := by
  unfold two
  split
  · split
    · exact .inl rfl
    · exact hs
  · exact hr
theorem add_err (x u : Int) : (addR x u).2 = 0 ∨ (addR x u).2 = 3 := by
  unfold addR
  rcases inR_cases (x + u) with ⟨e, _⟩ | ⟨e, _⟩ <;> rw [e]
  · exact .inl rfl
  · exact .inr rfl
theorem part_one (x : Int) : partR x 1 = (x, 0) := by
  unfold partR
  rw [if_neg (by decide), if_neg (fun h => absurd h.2 (by decide)), Int.tdiv_one]

set_option maxHeartbeats 1000000 in
theorem sums1_any (A B S D : Nat) (hSD : S ≠ D) (hSB : S ≠ B) (x y u v : Int) (W : World) (hA : At W A x y) (hB : At W B u v) (hS : At W S 0 0) (hD : At W D 0 0) (zS : Free W S) (zD : Free W D) (fx : inF x) (fy : inF y) (fu : inF u) (fv : inF v) :
    Calls Try.prog 29 #[.pointer (some ⟨A, 0, none⟩), .pointer (some ⟨B, 0, none⟩), .pointer (some ⟨S, 0, none⟩), .pointer (some ⟨D, 0, none⟩)] W fun e w1 =>
      Wrote (fun n => n = S ∨ n = D) W w1 ∧ ∃ k, (e = .returned (.tuple #[]) ∧ k = 0 ∨ e = .panicked [fault k]) ∧ LeftV D (x, y, (two (addR x u) (addR y v)).2.2) k w1 := by
  have HA : Hid (∀ W, Calls Try.prog 12 #[.agg #[.int .i64 x, .int .i64 y], .agg #[.int .i64 u, .int .i64 v]] W fun e w' => e = outV (two (addR x u) (addR y v)) ∧ Grew W w') := fun W => vadd_any x y u v W fx fy fu fv
  have b1 := @sum_back x u fx
  have b2 := @sum_back y v fy
  have HS := fun p q hp hq W => vsub_any p q u v W hp hq fu fv
  generalize addR x u = r at *
  generalize addR y v = s at *
  obtain ⟨a0, a1⟩ := hA
  obtain ⟨p0, p1⟩ := hB
  obtain ⟨s0, s1⟩ := hS
  obtain ⟨d0, d1⟩ := hD
  by_cases hr : r.2 = 0
  · by_cases hs : s.2 = 0
    · obtain ⟨r1, r2⟩ := b1 hr
      obtain ⟨q1, q2⟩ := b2 hs
      have HB : Hid (∀ W, Calls Try.prog 13 #[.agg #[.int .i64 r.1, .int .i64 s.1], .agg #[.int .i64 u, .int .i64 v]] W fun e w' => e = .returned (.agg #[.int .i64 x, .int .i64 y]) ∧ Grew W w') := fun W => by
        have := HS r.1 s.1 r2 q2 W
        rw [r1, q1] at this
        exact this
      have HA' : Hid (∀ W, Calls Try.prog 12 #[.agg #[.int .i64 x, .int .i64 y], .agg #[.int .i64 u, .int .i64 v]] W fun e w' => e = .returned (.agg #[.int .i64 r.1, .int .i64 s.1]) ∧ Grew W w') := fun W => (HA.out W).mono fun e w' h => ⟨h.1.trans (outV_ok hr hs), h.2⟩
      have hk : (two r s).2.2 = 0 := by rw [two_ok hr hs]
      rw [hk]
      clear HA HS b1 b2 r1 q1
      have z1 := zS 0 none
      have z2 := zS 1 none
      go_enter Try.func29, Try.ntmps29
      go_wp2_with (first
        | (go_at_call 12; go_fit (HA'.out _); rintro e V ⟨rfl, U⟩; have t0 := U.cell s0; have t1 := U.cell s1; have y0 := U.frozen z1; have y1 := U.frozen z2; have K := U.set1 S (.int .i64 r.1) (.int .i64 s.1); have hB1 := At.wrote ⟨p0, p1⟩ K hSB.symm; have hD1 := At.wrote ⟨d0, d1⟩ K hSD.symm; have zD1 := zD.wrote K hSD.symm (At.size ⟨d0, d1⟩); obtain ⟨c0, c1⟩ := at_set V S 0 0 r.1 s.1 ⟨t0, t1⟩; obtain ⟨m0, m1⟩ := hB1)
        | (go_at_call 13; go_fit (HB.out _); rintro e V' ⟨rfl, U'⟩; obtain ⟨e0, e1⟩ := hD1; have l0 := U'.cell e0; have l1 := U'.cell e1; have o0 := U'.frozen (zD1 0 none); have o1 := U'.frozen (zD1 1 none)))
      go_end0
      exact ⟨(K.more (fun n hn => .inl hn)).trans ((U'.set1 D (.int .i64 x) (.int .i64 y)).more (fun n hn => .inr hn)), 0, .inl ⟨rfl, rfl⟩, rfl, fun _ => at_set V' D 0 0 x y ⟨l0, l1⟩⟩
    · have HA' : Hid (∀ W, Calls Try.prog 12 #[.agg #[.int .i64 x, .int .i64 y], .agg #[.int .i64 u, .int .i64 v]] W fun e w' => e = .panicked [fault s.2] ∧ Grew W w') := fun W => (HA.out W).mono fun e w' h => ⟨h.1.trans (outV_no2 hr hs), h.2⟩
      have hk : (two r s).2.2 = s.2 := by rw [two_no2 hr hs]
      rw [hk]
      clear HA HS b1 b2
      go_enter Try.func29, Try.ntmps29
      go_wp2_with (first
        | (go_at_call 12; go_fit (HA'.out _); rintro e V ⟨rfl, U⟩))
      exact ⟨rfl, U.wrote, s.2, .inr rfl, rfl, fun h => absurd h hs⟩
  · have HA' : Hid (∀ W, Calls Try.prog 12 #[.agg #[.int .i64 x, .int .i64 y], .agg #[.int .i64 u, .int .i64 v]] W fun e w' => e = .panicked [fault r.2] ∧ Grew W w') := fun W => (HA.out W).mono fun e w' h => ⟨h.1.trans (outV_no1 hr), h.2⟩
    have hk : (two r s).2.2 = r.2 := by rw [two_no1 hr]
    rw [hk]
    clear HA HS b1 b2
    go_enter Try.func29, Try.ntmps29
    go_wp2_with (first
      | (go_at_call 12; go_fit (HA'.out _); rintro e V ⟨rfl, U⟩))
    exact ⟨rfl, U.wrote, r.2, .inr rfl, rfl, fun h => absurd h hr⟩

set_option maxHeartbeats 1000000 in
theorem sums2_any (A S D : Nat) (hSD : S ≠ D) (hSA : S ≠ A) (x y : Int) (W : World) (hA : At W A x y) (hS : At W S 0 0) (hD : At W D 0 0) (zS : Free W S) (zD : Free W D) (fx : inF x) (fy : inF y) :
    Calls Try.prog 30 #[.pointer (some ⟨A, 0, none⟩), .pointer (some ⟨S, 0, none⟩), .pointer (some ⟨D, 0, none⟩)] W fun e w1 =>
      Wrote (fun n => n = S ∨ n = D) W w1 ∧ ∃ k, (e = .returned (.tuple #[]) ∧ k = 0 ∨ e = .panicked [fault k]) ∧ (k = 0 ∧ At w1 S x y ∧ At w1 D x y) := by
  have HA : Hid (∀ W, Calls Try.prog 14 #[.agg #[.int .i64 x, .int .i64 y], .int .i64 4294967296] W fun e w' => e = .returned (.agg #[.int .i64 x, .int .i64 y]) ∧ Grew W w') := fun W => by
    have := vscale_any x y 4294967296 W fx fy ⟨by decide, by decide⟩
    rw [mulR_one fx, mulR_one fy] at this
    exact this
  have HB : Hid (∀ W, Calls Try.prog 19 #[.agg #[.int .i64 x, .int .i64 y], .int .i64 1] W fun e w' => e = .returned (.agg #[.int .i64 x, .int .i64 y]) ∧ Grew W w') := fun W => by
    have := vshare_any x y 1 W fx fy ⟨by decide, by decide⟩
    rw [part_one, part_one] at this
    exact this
  obtain ⟨a0, a1⟩ := hA
  obtain ⟨s0, s1⟩ := hS
  have z1 := zS 0 none
  have z2 := zS 1 none
  go_enter Try.func30, Try.ntmps30
  go_wp2_with (first
    | (go_at_call 14; go_fit (HA.out _); rintro e V ⟨rfl, U⟩; have t0 := U.cell s0; have t1 := U.cell s1; have y0 := U.frozen z1; have y1 := U.frozen z2; have K := U.set1 S (.int .i64 x) (.int .i64 y); have hA1 := At.wrote ⟨a0, a1⟩ K hSA.symm; have hD1 := hD.wrote K hSD.symm; have zD1 := zD.wrote K hSD.symm hD.size; have hS1 := at_set V S 0 0 x y ⟨t0, t1⟩; obtain ⟨m0, m1⟩ := hA1)
    | (go_at_call 19; go_fit (HB.out _); rintro e V' ⟨rfl, U'⟩; obtain ⟨e0, e1⟩ := hD1; have l0 := U'.cell e0; have l1 := U'.cell e1; have o0 := U'.frozen (zD1 0 none); have o1 := U'.frozen (zD1 1 none)))
  go_end0
  have K2 := U'.set1 D (.int .i64 x) (.int .i64 y)
  exact ⟨(K.more (fun n hn => .inl hn)).trans (K2.more (fun n hn => .inr hn)), 0, .inl ⟨rfl, rfl⟩, rfl, hS1.wrote K2 hSD, at_set V' D 0 0 x y ⟨l0, l1⟩⟩

theorem sums3_any (A : Nat) (x y : Int) (W : World) (hA : At W A x y) :
    Calls Try.prog 31 #[.pointer (some ⟨A, 0, none⟩)] W fun e w1 => e = .panicked [fault 4] ∧ Grew W w1 := by
  have HB : Hid (∀ W, Calls Try.prog 19 #[.agg #[.int .i64 x, .int .i64 y], .int .i64 0] W fun e w' => e = .panicked [fault 4] ∧ Grew W w') := fun W => vshare_zero x y W
  obtain ⟨a0, a1⟩ := hA
  go_enter Try.func31, Try.ntmps31
  go_wp2_with (first
    | (go_at_call 19; go_fit (HB.out _); rintro e V' ⟨rfl, U'⟩))
  exact ⟨rfl, rfl, U'⟩

set_option maxHeartbeats 1000000 in
theorem walk (x0 y0 : Int) (f0 : inF x0) (g0 : inF y0) (x1 y1 : Int) (f1 : inF x1) (g1 : inF y1) (w : World) :
    Calls Try.prog 5 #[vec x0 y0, vec x1 y1] w fun e w' => e = .returned (.bool true) ∧ Grown w w' := by
  have hmf := mk_func
  have e0 := sum_err (addR x0 x1) (addR y0 y1) (add_err x0 x1) (add_err y0 y1)
  obtain ⟨d, hd⟩ : ∃ d, (two (addR x0 x1) (addR y0 y1)).2.2 = d := ⟨_, rfl⟩
  rw [hd] at e0
  have D1 : Hid (_ = _) := hd
  clear hd
  unfold vec
  go_enter Try.func5, Try.ntmps5
  go_wp2_with (first
    | (go_at_call 9; refine (alive_any _).mono ?_; rintro e V ⟨rfl, G⟩))
  have G1 : Grew w V := (((Grew.refl w).alloc _ _).alloc _ _).trans G
  have ha : At V w.heap.size x0 y0 := ⟨G.cell (by simp [go_sem]), G.cell (by simp [go_sem])⟩
  have hb : At V (w.heap.size + 1) x1 y1 := ⟨G.cell (by simp [go_sem]), G.cell (by simp [go_sem])⟩
  have hsz : w.heap.size + 1 < V.heap.size := cell_block hb.1
  clear G
  obtain ⟨V3, hV3⟩ : ∃ V3, V3 = (((V.alloc (.cells #[.int .i64 0, .int .i64 0] 24)).alloc (.cells #[.int .i64 0, .int .i64 0] 24)).alloc (.cells #[.int .i64 0, .int .i64 0] 24)).alloc (.cells #[.int .i64 0, .int .i64 0] 24) := ⟨_, rfl⟩
  rw [← hV3]
  have g3 : Grew V V3 := by rw [hV3]; exact ((((Grew.refl V).alloc _ _).alloc _ _).alloc _ _).alloc _ _
  have s3 : V3.heap.size = V.heap.size + 4 := by rw [hV3]; simp [go_sem]
  have cs : At V3 V.heap.size 0 0 := by rw [hV3]; constructor <;> simp [go_sem]
  have cd : At V3 (V.heap.size + 1) 0 0 := by rw [hV3]; constructor <;> simp [go_sem]
  have co : At V3 (V.heap.size + 1 + 1) 0 0 := by rw [hV3]; constructor <;> simp [go_sem]
  have cp : At V3 (V.heap.size + 1 + 1 + 1) 0 0 := by rw [hV3]; constructor <;> simp [go_sem]
  have G3 := G1.trans g3
  replace ha := ha.grew g3
  replace hb := hb.grew g3
  obtain ⟨X, hX⟩ : ∃ X, X = V.heap.size := ⟨_, rfl⟩
  rw [← hX] at cs cd co cp s3 hsz ⊢
  clear hV3 g3 hX
  have zs : Free V3 X := G3.freeB (by omega)
  have zd : Free V3 (X + 1) := G3.freeB (by omega)
  refine (try_set (S := fun n => n = X ∨ n = X + 1) (P := LeftV (X + 1) (x0, y0, d)) _ _ _ (fun _ => by simp [go_sem]) (fun n hn => by omega) (LeftV.keep (by omega)) (fun W0 g => ?_)).mono ?_
  · have := sums1_any w.heap.size (w.heap.size + 1) X (X + 1) (by omega) (by omega) x0 y0 x1 y1 W0 (ha.grew g) (hb.grew g) (cs.grew g) (cd.grew g) (zs.grew g) (zd.grew g) f0 g0 f1 g1
    rw [D1.out] at this
    exact this
  rintro e V4 ⟨hW, k, rfl, hk, hc⟩
  have G4 : Grew w V4 := hW.to G3 (fun n hn => by omega)
  replace ha := ha.wrote hW (by omega)
  replace co := co.wrote hW (by omega)
  replace cp := cp.wrote hW (by omega)
  have zo : Free V4 (X + 1 + 1) := G4.freeB (by omega)
  have zp : Free V4 (X + 1 + 1 + 1) := G4.freeB (by omega)
  have s4 : X + 4 ≤ V4.heap.size := by have := hW.size; omega
  clear hW G3 cs cd zs zd s3 hb
  go_wp2_with (fail)
  refine (try_set (S := fun n => n = X + 1 + 1 ∨ n = X + 1 + 1 + 1) (P := fun k W => k = 0 ∧ At W (X + 1 + 1) x0 y0 ∧ At W (X + 1 + 1 + 1) x0 y0) _ _ _ (fun _ => by simp [go_sem]) (fun n hn => by omega) (fun k W W' hh h => ⟨h.1, h.2.1.heap (hh _ (by omega)), h.2.2.heap (hh _ (by omega))⟩) (fun W0 g => ?_)).mono ?_
  · exact sums2_any w.heap.size (X + 1 + 1) (X + 1 + 1 + 1) (by omega) (by omega) x0 y0 W0 (ha.grew g) (co.grew g) (cp.grew g) (zo.grew g) (zp.grew g) f0 g0
  rintro e V5 ⟨hW, k2, rfl, rfl, ho, hp⟩
  have G5 : Grew w V5 := hW.to G4 (fun n hn => by omega)
  replace ha := ha.wrote hW (by omega)
  replace hc := fun h => (hc h).wrote hW (by omega)
  clear hW G4 co cp zo zp s4 f0 g0 f1 g1 D1
  change k = d at hk
  change k = 0 → At V5 (X + 1) x0 y0 at hc
  subst hk
  have hq := same_vec x0 y0
  obtain ⟨o0, o1⟩ := ho
  obtain ⟨p0, p1⟩ := hp
  have ha' := ha
  obtain ⟨a0, a1⟩ := ha
  rcases e0 with e0 | e0
  · subst e0
    obtain ⟨c0, c1⟩ := hc rfl
    clear hc
    go_wp2_with (fail)
    refine (try_set (S := fun _ => False) (P := fun x _ => x = 4) _ _ V5 (fun _ => by simp [go_sem]) (fun n hn => hn.elim) (fun _ _ _ _ h => h) (fun W0 g => (sums3_any w.heap.size x0 y0 W0 (ha'.grew g)).mono ?_)).mono ?_
    · rintro e w' ⟨rfl, g⟩
      exact ⟨g.wrote, 4, .inr rfl, rfl⟩
    rintro e V6 ⟨hW, x, rfl, rfl⟩
    have G6 : Grew w V6 := hW.to G5 (fun _ h => h.elim)
    go_wp2
    go_ret
    exact ⟨rfl, G6.grown⟩
  · subst e0
    clear hc
    go_wp2_with (fail)
    refine (try_set (S := fun _ => False) (P := fun x _ => x = 4) _ _ V5 (fun _ => by simp [go_sem]) (fun n hn => hn.elim) (fun _ _ _ _ h => h) (fun W0 g => (sums3_any w.heap.size x0 y0 W0 (ha'.grew g)).mono ?_)).mono ?_
    · rintro e w' ⟨rfl, g⟩
      exact ⟨g.wrote, 4, .inr rfl, rfl⟩
    rintro e V6 ⟨hW, x, rfl, rfl⟩
    have G6 : Grew w V6 := hW.to G5 (fun _ h => h.elim)
    go_wp2
    go_ret
    exact ⟨rfl, G6.grown⟩

set_option maxRecDepth 100000 in
theorem lifted (os : Os) (started : os.Started) (H : Type) (enc : TypeId × Value → H) :
    ReturnsInHanded {} Try.checked os 5 .any (Rows.vecSumsSpec.pre6 enc Try.prog Try.f5 Rows.vecSumsRow.domain false) (Rows.vecSumsSpec.post enc Try.prog Try.f5 false true false false) := by
  refine returnsInHanded_of_change (C := Try.checked) own started (by kernel_rfl) Try.func5
    (ChangeSpec.witness6 (enc := enc) (C := Try.checked) false ⟨#[], #[.agg #[.int .i64 0, .int .i64 0], .agg #[.int .i64 0, .int .i64 0]], []⟩ 8 (by kernel_rfl) (by kernel_rfl) (by kernel_rfl) (by kernel_rfl)) ?_
  intro W base args ds gs before hval0 hW hcnd _
  have hval : ∀ (j : Nat) t v, Try.f5.params[j]? = some t → args[j]? = some v → Value.okWide Try.prog W .any base t v := hval0
  have hW' := hW
  obtain ⟨p, q, hA0, hV, rfl, hfz, hnd⟩ := hW
  have hA : DataW.TrodAll enc Try.prog W 0 (fun _ => true) true Try.f5.params.toList args.toList ds p := hA0
  rw [Try.params5] at hA hval
  obtain ⟨v0, vs0, d0, ds0, p0, q0, hargs, rfl, rfl, h0, r0⟩ := trodAll_cons hA
  obtain ⟨v1, vs1, d1, ds1, p1, q1, rfl, rfl, rfl, h1, r1⟩ := trodAll_cons r0
  obtain ⟨rfl, rfl, rfl⟩ := trodAll_nil r1
  obtain rfl : args = #[v0, v1] := by cases args; simp_all
  obtain ⟨rfl, rfl⟩ := trodVars_none hV
  obtain ⟨x0, y0, rfl, rfl, rfl, f0, g0⟩ := open_vec (hval 0 24 v0 rfl rfl) h0
  obtain ⟨x1, y1, rfl, rfl, rfl, f1, g1⟩ := open_vec (hval 1 24 v1 rfl rfl) h1
  clear hA0 hval0
  simp only [List.append_nil] at hW'
  refine (walk x0 y0 f0 g0 x1 y1 f1 g1 W).mono fun e W' ⟨he, hg⟩ => ?_
  subst he
  exact ⟨_, rfl, post_of_same (pa := []) (pv := []) hW' (fun _ _ _ => (trodAll_cons_mk (shut_bool Try.underlying4 _) trodAll_mk0)) (fun sp _ => (trodAll_cons_mk (shut_vec f0 g0) (trodAll_cons_mk (shut_vec f1 g1) trodAll_mk0))) (fun _ _ => rfl) rfl
    (hg.frame _) hg.2.1 (ok_one (by kernel_rfl) rfl (okWide_bool_mk Try.underlying4 _))⟩

theorem over : Rows.vecSumsRow.holds Try.pinned (OpenSpec.ofChange Rows.vecSumsSpec) :=
  OpenClaim.holds_of_wide 5 Try.f5 rfl rfl rfl rfl rfl rfl rfl ⟨rfl, rfl, rfl, rfl, rfl⟩ rfl rfl rfl rfl rfl (by kernel_rfl) Try.func5 (by kernel_rfl)
    (of_decide_eq_true (by kernel_rfl)) (by unfold Func.isWrapper; first | (rw [if_pos (by decide +kernel)]; kernel_rfl) | (rw [if_neg (by decide +kernel)]; exact ⟨rfl, rfl⟩))
    (fun os started H enc _ => lifted os started H enc)

theorem proved : Rows.VecSumsSaid :=
  over
end Go.Proofs.Ytfidjlagfnbknaa.vecSums

namespace Go.Proofs.Ytfidjlagfnbknaa
theorem vecSums_holds : Rows.VecSumsSaid := vecSums.proved
end Go.Proofs.Ytfidjlagfnbknaa
