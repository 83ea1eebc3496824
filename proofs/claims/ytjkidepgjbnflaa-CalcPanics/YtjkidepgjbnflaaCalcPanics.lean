/-
  For every text and errno CalcPanics returns true: a panic that is no Fault goes on through Try with its value; a Fault in a Try in a Try is caught by the inner one; Try of nil tells ErrArg.
-/
import Derived.Test.YtjkidepgjbnflaaRows
import Derived.Test.YtjkidepgjbnflaaCAlive
import Derived.WalkKit
import Derived.WalkSpells
import Derived.WalkLawsBesides
import Derived.ProofKit
import Derived.OpenShut
import Derived.ShutString
namespace Go.Proofs.Ytjkidepgjbnflaa.calcPanics
open Go.ChangeShapes Go.WideShapes Go.ChangeAt Go.RowKit
open Go.ChangeMaps (open_string shut_string)
set_option linter.unusedVariables false

theorem own : ownKnob Try.prog.godebug = none := by kernel_rfl

/-- A text, thrown. -/
def txt (s : ByteArray) : PanicEntry := { v := .iface 9 (.string s), recovered := false }
def txt' (s : ByteArray) : PanicEntry := { v := .iface 9 (.string s), recovered := true }

theorem zero_fault (w : World) : (zeroValue 32).run Try.prog w = .ok (.agg #[.int .i64 0]) w := rfl
theorem assert_miss (s : TypeId) (v : Value) (w : World) :
    (Instr.typeAssert (.iface 9 v) s 32 true).run Try.prog w = .ok (.tuple #[.agg #[.int .i64 0], .bool false]) w := by
  have hu := run_underlying Try.underlying32 w
  have hz := zero_fault w
  simp [Instr.typeAssert, go_sem, hu, hz]
theorem assert_text (s : TypeId) (v : Value) (w : World) :
    (Instr.typeAssert (.iface 9 v) s 9 true).run Try.prog w = .ok (.tuple #[v, .bool true]) w := by
  have hu := run_underlying Try.underlying9 w
  simp [Instr.typeAssert, go_sem, hu]

theorem errno_other (s : ByteArray) (w : World) :
    Calls Try.prog 35 #[.iface 9 (.string s)] w fun e w' => e = .panicked [txt s] ∧ Grew w w' := by
  have hta := assert_miss
  go_enter Try.func35, Try.ntmps35
  go_wp2
  exact ⟨rfl, rfl, (Grew.refl w).alloc _ _⟩

/-- The function that Try defers, of a frame that a text goes through: it goes on. -/
theorem catch_other (p : Addr) (s : ByteArray) (older : List PanicEntry) (w : World) :
    CallsD Try.prog 34 #[.pointer (some p)] (.panicking (txt s :: older)) w fun e u' w' =>
      e = .panicked [txt s] ∧ u' = .panicking (txt' s :: older) ∧ Grew w w' := by
  refine callsD_of_wpS Try.func34 rfl fun c₀ cs hu => ?_
  apply wpS_seq
  apply wpS_region
  simp [wpOpsS, go_sem, recoverD, hu, txt, Try.ntmps34, Exit.thenS]
  refine wpS_of_wp ?_
  go_wp2_with (first
    | (go_at_call 35; refine (errno_other _ _).mono ?_; rintro e w' ⟨rfl, G⟩))
  exact ⟨rfl, _, rfl, rfl, rfl, G⟩

theorem try_other (F : Nat) (cap : Array Value) (w : World) (s : ByteArray) (hF : ∀ w, (callFunc F cap).run Try.prog w = .ok (.enter F cap) w)
    (h : ∀ W, Grew w W → Calls Try.prog F cap W fun e w1 => e = .panicked [txt s] ∧ Grew W w1) :
    Calls Try.prog 10 #[.func (.func F) #[] cap] w fun e w' => e = .panicked [txt s, txt' s] ∧ Grew w w' := by
  have hmf := mk_func
  have hn := ne_nil
  have G := (Grew.refl w).alloc #[.int .i64 0] 24
  have h1 := h _ G
  clear h
  go_enter_defers Try.func10, Try.ntmps10
  go_wp2
  refine h1.mono ?_
  rintro e w1 ⟨rfl, G1⟩
  refine leaves_cons (f := 34) (args := #[.pointer (some ⟨w.heap.size, 0, none⟩)]) (by simp) (by simp [go_sem]) ?_
  refine (catch_other _ s [] _).mono ?_
  rintro e u' w'' ⟨rfl, rfl, G2⟩
  exact ⟨rfl, (G.trans G1).trans G2⟩

/-- The function that caught defers, of a frame that a text goes through. -/
theorem caught_text (n : Nat) (s u : ByteArray) (hs : s.toList.isEmpty = false) (older : List PanicEntry) (w : World) (hc : w.cell? ⟨n, 0, none⟩ = some (.string u)) (hz : w.frozen? ⟨n, 0, none⟩ = false) :
    CallsD Try.prog 41 #[.pointer (some ⟨n, 0, none⟩)] (.panicking (txt s :: older)) w fun e u' w' =>
      e = .returned (.tuple #[]) ∧ u' = .panicking (txt' s :: older) ∧ w' = w.setCell ⟨n, 0, none⟩ (.string s) := by
  have hta := assert_text
  refine callsD_of_wpS Try.func41 rfl fun c₀ cs hu => ?_
  apply wpS_seq
  apply wpS_region
  simp [wpOpsS, go_sem, recoverD, hu, txt, Try.ntmps41, Exit.thenS]
  refine wpS_of_wp ?_
  change Code.wp _ _ _ { tmps := #[.pointer (some ⟨n, 0, none⟩), .iface 9 (.string s), .iface 9 (.string s), undef, undef, undef, undef, undef, undef, undef, undef, undef], defers := [] } w
  have c2 := World.cell?_setCell_same _ _ (.string s) hc
  go_wp2
  exact ⟨rfl, _, rfl, _, results_none rfl _ _ _, rfl, rfl, rfl⟩

theorem caught_any (F : Nat) (cap : Array Value) (w : World) (s : ByteArray) (hs : s.toList.isEmpty = false) (hF : ∀ w, (callFunc F cap).run Try.prog w = .ok (.enter F cap) w)
    (h : ∀ W, Grew w W → Calls Try.prog F cap W fun e w1 => e = .panicked [txt s, txt' s] ∧ Grew W w1) :
    Calls Try.prog 20 #[.func (.func F) #[] cap] w fun e w' => e = .returned (.string s) ∧ Grew w w' := by
  have hmf := mk_func
  have G := (Grew.refl w).alloc #[.string { data := #[] }] 9
  have h1 := h _ G
  clear h
  go_enter_defers Try.func20, Try.ntmps20
  go_wp2
  refine h1.mono ?_
  rintro e w1 ⟨rfl, G1⟩
  have c1 : w1.cell? ⟨w.heap.size, 0, none⟩ = some (.string { data := #[] }) := G1.cell (by simp)
  have G2 := (G.trans G1).setCell (a := ⟨w.heap.size, 0, none⟩) (by simp) (.string s)
  refine leaves_cons (f := 41) (args := #[.pointer (some ⟨w.heap.size, 0, none⟩)]) (by simp) (by simp [go_sem]) ?_
  refine (caught_text w.heap.size s _ hs [txt' s] _ c1 ((G.trans G1).free (by simp))).mono ?_
  rintro e u' w'' ⟨rfl, rfl, rfl⟩
  simp [Leaves, settle, txt', results, Try.results20, go_sem, World.cell?_setCell_same _ _ _ c1]
  exact G2

theorem p11 (p : Addr) (s : ByteArray) (w : World) (hc : w.cell? p = some (.string s)) :
    Calls Try.prog 22 #[.pointer (some p)] w fun e w' => e = .panicked [txt s] ∧ Grew w w' := by
  go_enter Try.func22, Try.ntmps22
  go_wp2
  exact ⟨rfl, rfl, Grew.refl w⟩

theorem p1 (p : Addr) (s : ByteArray) (w : World) (hc : w.cell? p = some (.string s)) :
    Calls Try.prog 21 #[.pointer (some p)] w fun e w' => e = .panicked [txt s, txt' s] ∧ Grew w w' := by
  have hmf := mk_func
  go_enter Try.func21, Try.ntmps21
  go_wp2_with (fail)
  refine (try_other _ _ _ s (fun _ => by simp [go_sem]) (fun W G => p11 p s W (G.cell hc))).mono ?_
  rintro e w' ⟨rfl, G⟩
  exact ⟨rfl, rfl, G⟩

theorem p21 (p : Addr) (x : Int) (w : World) (hc : w.cell? p = some (.int .i64 x)) :
    Calls Try.prog 24 #[.pointer (some p)] w fun e w' => e = .panicked [fault x] ∧ Grew w w' := by
  go_enter Try.func24, Try.ntmps24
  go_wp2
  exact ⟨rfl, rfl, Grew.refl w⟩

theorem p2 (p q : Addr) (x u : Int) (w : World) (hc : w.cell? p = some (.int .i64 x)) (hq : w.cell? q = some (.int .i64 u)) (hz : w.frozen? q = false) :
    Calls Try.prog 23 #[.pointer (some p), .pointer (some q)] w fun e w' => e = .returned (.tuple #[]) ∧ ∃ W, Grew w W ∧ w' = W.setCell q (.int .i64 x) := by
  have hmf := mk_func
  go_enter Try.func23, Try.ntmps23
  go_wp2_with (fail)
  refine (try_grow _ _ _ x _ (fun _ => by simp [go_sem]) (.inr rfl) (fun W G => p21 p x W (G.cell hc))).mono ?_
  rintro e w' ⟨rfl, G⟩
  have hq' := G.cell hq
  have hz' := G.frozen hz
  go_wp2
  go_end0
  exact ⟨rfl, w', G, rfl⟩
theorem walk (a0 : ByteArray) (a1 : Int) (w0 : a0.size ≤ maxLen) (w1 : (Lit.int .i64 a1).wf = true) (w : World) :
    Calls Try.prog 4 #[.string a0, .int .i64 a1] w fun e w' => e = .returned (.bool true) ∧ Grown w w' := by
  have hmf := mk_func
  by_cases h1 : a0.toList.isEmpty = true
  · go_enter Try.func4, Try.ntmps4
    go_wp2_with (first
      | (go_at_call 9; refine (alive_any _).mono ?_; rintro e w' ⟨rfl, G⟩))
    go_ret
    exact ⟨rfl, ((((Grew.refl w).alloc _ _).alloc _ _).trans G).grown⟩
  have h1' : a0.toList.isEmpty = false := by simpa using h1
  clear h1
  by_cases h2 : (60 : Int) < (a0.size : Int)
  · go_enter Try.func4, Try.ntmps4
    go_wp2_with (first
      | (go_at_call 9; refine (alive_any _).mono ?_; rintro e w' ⟨rfl, G⟩))
    go_ret
    exact ⟨rfl, ((((Grew.refl w).alloc _ _).alloc _ _).trans G).grown⟩
  go_enter Try.func4, Try.ntmps4
  go_wp2_with (first
    | (go_at_call 9; refine (alive_any _).mono ?_; rintro e w' ⟨rfl, G⟩))
  have Ga : Grew w w' := (((Grew.refl w).alloc _ _).alloc _ _).trans G
  have ca : w'.cell? ⟨w.heap.size, 0, none⟩ = some (.string a0) := G.cell (by simp [go_sem])
  have cb : w'.cell? ⟨w.heap.size + 1, 0, none⟩ = some (.int .i64 a1) := G.cell (by simp [go_sem])
  clear G
  go_region_with (go_at_call 20; refine (caught_any _ _ _ a0 h1' ?_ ?_).mono ?_; (intro _; simp [go_sem]); (intro W G; exact p1 _ a0 W (G.cell ca)); rintro e W ⟨rfl, GW⟩; have ca1 := GW.cell (p := ⟨w.heap.size, 0, none⟩) ca)
  all_goals
    have Gb : Grew w W := (Ga.trans ((Grew.refl w').drewN 1)).trans GW
    have cb1 := GW.cell (p := ⟨w.heap.size + 1, 0, none⟩) cb
    have sz : w.heap.size + 1 < W.heap.size := cell_block cb1
    clear Ga ca cb GW w'
    go_wp2_with (fail)
    refine try_wp 23 _ _ _ (fun _ => by simp [go_sem]) ?_
    obtain ⟨V, hV⟩ : ∃ V, V = (W.alloc (.cells #[.int .i64 0] 24)).alloc (.cells #[.int .i64 0] 24) := ⟨_, rfl⟩
    have GV : Grew W V := by rw [hV]; exact ((Grew.refl W).alloc _ _).alloc _ _
    have ci : V.cell? ⟨W.heap.size, 0, none⟩ = some (.int .i64 0) := by rw [hV]; simp [go_sem]
    have ce : V.cell? ⟨W.heap.size + 1, 0, none⟩ = some (.int .i64 0) := by rw [hV]; simp [go_sem]
    have hs : (W.alloc (.cells #[.int .i64 0] 24)).heap.size = W.heap.size + 1 := by simp [go_sem]
    rw [← hV, hs]
    clear hV hs
    have G0 := Gb.trans GV
    refine (p2 _ ⟨W.heap.size, 0, none⟩ a1 0 V (GV.cell cb1) ci (GV.free (by simp))).mono ?_
    rintro e w1 ⟨rfl, W1, G1, rfl⟩
    have G2 := (G0.trans G1).setCell (a := ⟨W.heap.size, 0, none⟩) (by simp; omega) (.int .i64 a1)
    have pa := past_setCell W.heap.size W1 0 none (.int .i64 a1)
    refine ⟨pa.cell (by simp) (G1.cell ce), G2.free (by simp; omega), 0, .inl ⟨rfl, rfl⟩, fun W2 hP => ?_⟩
    have G3 := hP.grew w (by omega) G2
    have ci2 := hP.cell (p := ⟨W.heap.size, 0, none⟩) (by simp) (World.cell?_setCell_same _ _ _ (G1.cell ci))
    have cb2 := hP.cell (by simp; omega) (pa.cell (by simp; omega) (G1.cell (GV.cell cb1)))
    clear hP pa G2 G1 G0 ce ci GV cb1 ca1 Gb
    go_wp2_with (first
      | (go_at_call 10; refine (try_nil _).mono ?_; rintro e w' ⟨rfl, G4⟩))
    go_ret
    exact ⟨rfl, (G3.trans G4).grown⟩

set_option maxRecDepth 100000 in
theorem lifted (os : Os) (started : os.Started) (H : Type) (enc : TypeId × Value → H) :
    ReturnsInHanded {} Try.checked os 4 .any (Rows.calcPanicsSpec.pre6 enc Try.prog Try.f4 Rows.calcPanicsRow.domain false) (Rows.calcPanicsSpec.post enc Try.prog Try.f4 false true false false) := by
  refine returnsInHanded_of_change (C := Try.checked) own started (by kernel_rfl) Try.func4
    (ChangeSpec.witness6 (enc := enc) (C := Try.checked) false ⟨#[], #[.string ByteArray.empty, .int .i64 0], []⟩ 8 (by kernel_rfl) (by kernel_rfl) (by kernel_rfl) (by kernel_rfl)) ?_
  intro W base args ds gs before hval0 hW hcnd _
  have hval : ∀ (j : Nat) t v, Try.f4.params[j]? = some t → args[j]? = some v → Value.okWide Try.prog W .any base t v := hval0
  have hW' := hW
  obtain ⟨p, q, hA0, hV, rfl, hfz, hnd⟩ := hW
  have hA : DataW.TrodAll enc Try.prog W 0 (fun _ => true) true Try.f4.params.toList args.toList ds p := hA0
  rw [Try.params4] at hA hval
  obtain ⟨v0, vs0, d0, ds0, p0, q0, hargs, rfl, rfl, h0, r0⟩ := trodAll_cons hA
  obtain ⟨v1, vs1, d1, ds1, p1, q1, rfl, rfl, rfl, h1, r1⟩ := trodAll_cons r0
  obtain ⟨rfl, rfl, rfl⟩ := trodAll_nil r1
  obtain rfl : args = #[v0, v1] := by cases args; simp_all
  obtain ⟨rfl, rfl⟩ := trodVars_none hV
  obtain ⟨a0, rfl, rfl, rfl, w0⟩ := open_string Try.underlying9 (hval 0 9 v0 rfl rfl) h0
  obtain ⟨a1, rfl, rfl, rfl, w1⟩ := open_int Try.underlying3 (hval 1 3 v1 rfl rfl) h1
  clear hA0 hval0
  simp only [List.append_nil] at hW'
  refine (walk a0 a1 w0 w1 W).mono fun e W' ⟨he, hg⟩ => ?_
  subst he
  exact ⟨_, rfl, post_of_same (pa := []) (pv := []) hW' (fun _ _ _ => (trodAll_cons_mk (shut_bool Try.underlying4 _) trodAll_mk0)) (fun sp _ => (trodAll_cons_mk (shut_string Try.underlying9 w0) (trodAll_cons_mk (shut_int Try.underlying3 w1) trodAll_mk0))) (fun _ _ => rfl) rfl
    (hg.frame _) hg.2.1 (ok_one (by kernel_rfl) rfl (okWide_bool_mk Try.underlying4 _))⟩

theorem over : Rows.calcPanicsRow.holds Try.pinned (OpenSpec.ofChange Rows.calcPanicsSpec) :=
  OpenClaim.holds_of_wide 4 Try.f4 rfl rfl rfl rfl rfl rfl rfl ⟨rfl, rfl, rfl, rfl, rfl⟩ rfl rfl rfl rfl rfl (by kernel_rfl) Try.func4 (by kernel_rfl)
    (of_decide_eq_true (by kernel_rfl)) (by unfold Func.isWrapper; first | (rw [if_pos (by decide +kernel)]; kernel_rfl) | (rw [if_neg (by decide +kernel)]; exact ⟨rfl, rfl⟩))
    (fun os started H enc _ => lifted os started H enc)

theorem proved : Rows.CalcPanicsSaid :=
  over
end Go.Proofs.Ytjkidepgjbnflaa.calcPanics

namespace Go.Proofs.Ytjkidepgjbnflaa
theorem calcPanics_holds : Rows.CalcPanicsSaid := calcPanics.proved
end Go.Proofs.Ytjkidepgjbnflaa
