/-
  For every list CalcBehind returns true: what a Try did ahead of a fault stays done, what is behind it is not done, and each Try is by itself.
-/
import Derived.Test.YtjkidepgjbnflaaRows
import Derived.Test.YtjkidepgjbnflaaCRow
import Derived.WalkKit
import Derived.WalkSpells
import Derived.WalkLawsBesides
import Derived.ProofKit
import Derived.OpenShut
import Derived.ShutString
import Derived.ChangeOld
import Derived.Below
namespace Go.Proofs.Ytjkidepgjbnflaa.calcBehind
open Go.ChangeShapes Go.WideShapes Go.ChangeAt Go.RowKit
open Go.ChangeMaps (open_string shut_string)
set_option linter.unusedVariables false

theorem own : ownKnob Try.prog.godebug = none := by kernel_rfl
theorem laidOut : laidOutB Try.prog = true := by kernel_rfl

/-- WHAT THE WALK IS TOLD OF A SLICE OF INTEGERS THAT CAME IN: it is nil; or it leads to a row of 'cap' cells, the numbers 'zs' (the first 'len' are its elements, the rest its spare room), each fitting its kind. -/
def IsRow (k : IntKind) (w : World) (a : Option Addr) (len cap : Nat) (zs : List Int) : Prop :=
  (a = none ∧ len = 0 ∧ cap = 0 ∧ zs = []) ∨
  ∃ x, a = some x ∧ len ≤ cap ∧ cap ≤ maxLen ∧ zs.length = cap ∧ (∀ i, i < zs.length → w.cell? (x.add i) = some (.int k (zs.getD i 0))) ∧ ∀ n ∈ zs, (Lit.int k n).wf = true

/-- How many divide One from the front on, and the first error. -/
def behR : Int → List Int → Int × Int
  | n, [] => (n, 0)
  | n, x :: l => if (divR 4294967296 x).2 = 0 then behR (n + 1) l else (n, (divR 4294967296 x).2)

theorem behR_step (l : List Int) (k : Nat) (hk : k < l.length) (n : Int) :
    behR n (l.drop k) = if (divR 4294967296 (l.getD k 0)).2 = 0 then behR (n + 1) (l.drop (k + 1)) else (n, (divR 4294967296 (l.getD k 0)).2) := by
  rw [List.drop_eq_getElem_cons hk, behR]
  simp [List.getD, List.getElem?_eq_getElem hk]

def behE (r : Int × Int) : Ending := if r.2 = 0 then .returned (.tuple #[]) else .panicked [fault r.2]

theorem beh1 (pl : Addr) (nn : Nat) (a : Option Addr) (cap : Nat) (l : List Int) (w₀ w : World) (hl : l.length ≤ 30) (hn : w₀.heap.size ≤ nn) (hpl : pl.block ≠ nn) (hr : Row w₀ a l) (G : Grew w₀ w)
    (cl : w.cell? pl = some (.slice a l.length cap)) (cn : w.cell? ⟨nn, 0, none⟩ = some (.int .i64 0)) :
    Calls Try.prog 27 #[.pointer (some pl), .pointer (some ⟨nn, 0, none⟩)] w fun e w' =>
      e = behE (behR 0 l) ∧ Past nn w w' ∧ w'.cell? ⟨nn, 0, none⟩ = some (.int .i64 (behR 0 l).1) := by
  go_enter Try.func27, Try.ntmps27
  go_wp2
  go_loopw [6] (fun i wr => ∃ (k : Nat) (n : Int), k ≤ l.length ∧ i = .int .i64 k ∧ 0 ≤ n ∧ n ≤ k ∧ Past nn w wr ∧ wr.cell? ⟨nn, 0, none⟩ = some (.int .i64 n) ∧ behR 0 l = behR n (l.drop k)) (fun i _ => l.length - (intOf i).toNat)
  case atStart => exact ⟨0, 0, by omega, rfl, by omega, by omega, Past.refl _ _, cn, rfl⟩
  case round =>
    obtain ⟨k, n, hk, rfl, n0, n1, hP, cn1, hs⟩ := hrel
    have HS : Hid (behR 0 l = behR n (l.drop k)) := hs
    have HP : Hid (Past nn w wr) := hP
    have G1 := hP.grew w₀ hn G
    have hr1 := hr.grew G1
    have z1 := G1.free (p := ⟨nn, 0, none⟩) (by simpa using hn)
    obtain ⟨h1, h2, h3⟩ := hr1
    clear hs hP cl cn
    by_cases hlt : k < l.length
    · obtain ⟨b, off, rfl, h4⟩ : ∃ b off, a = some ⟨b, off, none⟩ ∧ ∀ i, i < l.length → wr.cell? ⟨b, off + i, none⟩ = some (.int .i64 (l.getD i 0)) := h3.resolve_left (fun e => by simp [e] at hlt)
      obtain ⟨y, hy⟩ : ∃ y, y = l.getD k 0 := ⟨_, rfl⟩
      have hcell := h4 k hlt
      rw [← hy] at hcell
      have fy : inF y := by rw [hy]; simp [List.getD, List.getElem?_eq_getElem hlt]; exact h2 _ (List.getElem_mem hlt)
      have hst : Hid (behR 0 l = if (divR 4294967296 y).2 = 0 then behR (n + 1) (l.drop (k + 1)) else (n, (divR 4294967296 y).2)) := by
        have := behR_step l k hlt n
        rw [← hy] at this
        exact HS.out.trans this
      have hi : (k : Int) < (l.length : Int) := by omega
      have hw : wrap64 (n + 1) = n + 1 := IntWalk.wrap64_in _ ⟨by omega, by omega⟩
      clear h4 h3 h2 hy hr
      by_cases hd : (divR 4294967296 y).2 = 0
      · have ho : outR (divR 4294967296 y) = .returned (.int .i64 (divR 4294967296 y).1) := if_pos hd
        go_wp2_with (first
          | (go_at_call 15; refine (cdiv_any _ _ _ ⟨by decide, by decide⟩ fy).mono ?_; rintro e w' ⟨rfl, m, rfl⟩; rw [ho]))
        have c9 : (wr.drewN m).cell? ⟨nn, 0, none⟩ = some (.int .i64 n) := cn1
        refine ⟨⟨k + 1, n + 1, by omega, rfl, by omega, by omega, (HP.out.trans ((Grew.refl wr).drewN m).past).trans (past_setCell _ _ _ _ _), World.cell?_setCell_same _ _ _ c9, ?_⟩, ?_⟩
        · rw [hst.out, if_pos hd]
        · simp [intOf]; omega
      · have ho : outR (divR 4294967296 y) = .panicked [fault (divR 4294967296 y).2] := if_neg hd
        go_wp2_with (first
          | (go_at_call 15; refine (cdiv_any _ _ _ ⟨by decide, by decide⟩ fy).mono ?_; rintro e w' ⟨rfl, m, rfl⟩; rw [ho]))
        have hb : behR 0 l = (n, (divR 4294967296 y).2) := by rw [hst.out, if_neg hd]
        refine ⟨rfl, ?_, HP.out.trans ((Grew.refl wr).drewN m).past, ?_⟩
        · rw [hb]; exact (if_neg hd).symm
        · rw [hb]; exact cn1
    · have hi : ¬ (k : Int) < (l.length : Int) := by omega
      go_wp2
      go_end0
      have hb : behR 0 l = (n, 0) := by rw [HS.out, List.drop_eq_nil_of_le (by omega)]; rfl
      refine ⟨?_, HP.out, ?_⟩
      · rw [hb]; rfl
      · rw [hb]; exact cn1

theorem beh2 (w : World) : Calls Try.prog 28 #[] w fun e w' => e = .returned (.tuple #[]) ∧ Grew w w' := by
  go_enter Try.func28, Try.ntmps28
  go_wp2
  go_end0
  exact ⟨rfl, Grew.refl w⟩

theorem behR_le : ∀ (l : List Int) (n : Int), n ≤ (behR n l).1 ∧ (behR n l).1 ≤ n + l.length
  | [], n => by simp [behR]
  | x :: l, n => by
    rw [behR]
    split
    · have := behR_le l (n + 1); simp; omega
    · simp; omega
theorem walk (a0 : Option Addr) (len0 cap0 : Nat) (z0 : List Int) (w : World) (w0 : IsRow .i64 w a0 len0 cap0 z0) :
    Calls Try.prog 6 #[.slice a0 len0 cap0] w fun e w' => e = .returned (.bool true) ∧ Below w.heap.size w w' := by
  have hmf := mk_func
  by_cases hl : len0 ≤ 30
  · obtain ⟨l, rfl, hr⟩ := row_of (by omega) w0
    have d1 : decide ((30 : Int) < (l.length : Int)) = false := by simp; omega
    clear w0
    go_enter Try.func6, Try.ntmps6
    go_wp2_with (first
      | (go_at_call 9; refine (alive_any _).mono ?_; rintro e w' ⟨rfl, G⟩))
    have Ga : Grew w w' := ((Grew.refl w).alloc _ _).trans G
    have cl : w'.cell? ⟨w.heap.size, 0, none⟩ = some (.slice a0 l.length cap0) := G.cell (by simp [go_sem])
    have sz : w.heap.size < w'.heap.size := cell_block cl
    clear G
    refine try_wp 27 _ _ _ (fun _ => by simp [go_sem]) ?_
    obtain ⟨V, hV⟩ : ∃ V, V = (w'.alloc (.cells #[.int .i64 0] 3)).alloc (.cells #[.int .i64 0] 24) := ⟨_, rfl⟩
    have GV : Grew w' V := by rw [hV]; exact ((Grew.refl w').alloc _ _).alloc _ _
    have cn : V.cell? ⟨w'.heap.size, 0, none⟩ = some (.int .i64 0) := by rw [hV]; simp [go_sem]
    have cv : V.cell? ⟨w'.heap.size + 1, 0, none⟩ = some (.int .i64 0) := by rw [hV]; simp [go_sem]
    have hs : (w'.alloc (.cells #[.int .i64 0] 3)).heap.size = w'.heap.size + 1 := by simp [go_sem]
    rw [← hV, hs]
    clear hV hs
    refine (beh1 _ w'.heap.size a0 cap0 l w V (by omega) (by omega) (by simp; omega) hr (Ga.trans GV) (GV.cell cl) cn).mono ?_
    rintro e w1 ⟨rfl, hp, cn1⟩
    have G1 := hp.grew w (by omega) (Ga.trans GV)
    refine ⟨hp.cell (by simp) cv, G1.free (by simp; omega), (behR 0 l).2, ?_, fun W hP => ?_⟩
    · unfold behE
      by_cases h0 : (behR 0 l).2 = 0
      · exact .inl ⟨if_pos h0, h0⟩
      · exact .inr (if_neg h0)
    have G2 := hP.grew w (by omega) G1
    have cn2 := hP.cell (p := ⟨w'.heap.size, 0, none⟩) (by simp) cn1
    have cl2 := hP.cell (p := ⟨w.heap.size, 0, none⟩) (by simp; omega) (hp.cell (p := ⟨w.heap.size, 0, none⟩) (by simp; omega) (GV.cell cl))
    have hle := behR_le l 0
    obtain ⟨r, hR⟩ : ∃ r, r = behR 0 l := ⟨_, rfl⟩
    have HR : Hid (behR 0 l = r) := hR.symm
    rw [← hR] at cn2 hle ⊢
    clear hP hp cn1 cv cn GV Ga cl G1 hR
    go_wp2
    go_loopw [5, 6, 21] (fun g f i wr => ∃ (k : Nat) (n x : Int), k ≤ l.length ∧ i = .int .i64 k ∧ g = .int .i64 n ∧ f = .int .i64 x ∧ 0 ≤ n ∧ n ≤ k ∧ (∃ m, wr = W.drewN m) ∧ ((x = 0 ∧ behR 0 l = behR n (l.drop k)) ∨ (¬ x = 0 ∧ behR 0 l = (n, x)))) (fun _ _ i _ => l.length - (intOf i).toNat)
    case atStart => exact ⟨0, 0, 0, by omega, rfl, rfl, rfl, by omega, by omega, ⟨0, rfl⟩, .inl ⟨rfl, rfl⟩⟩
    case round =>
      obtain ⟨k, n, x, hk, rfl, rfl, rfl, n0, n1, ⟨m, rfl⟩, hs⟩ := hrel
      have hs' : Hid ((x = 0 ∧ behR 0 l = behR n (l.drop k)) ∨ (¬ x = 0 ∧ behR 0 l = (n, x))) := hs
      obtain ⟨h1, h2, h3⟩ := hr.grew G2
      have hw : wrap64 (n + 1) = n + 1 := IntWalk.wrap64_in _ ⟨by omega, by omega⟩
      have hle' : Hid (0 ≤ r.1 ∧ r.1 ≤ 0 + (l.length : Int)) := hle
      clear hs hle hr
      by_cases hlt : k < l.length
      · obtain ⟨b, off, rfl, h4⟩ : ∃ b off, a0 = some ⟨b, off, none⟩ ∧ ∀ i, i < l.length → W.cell? ⟨b, off + i, none⟩ = some (.int .i64 (l.getD i 0)) := h3.resolve_left (fun e => by simp [e] at hlt)
        obtain ⟨y, hy⟩ : ∃ y, y = l.getD k 0 := ⟨_, rfl⟩
        have hcell := h4 k hlt
        rw [← hy] at hcell
        have fy : inF y := by rw [hy]; simp [List.getD, List.getElem?_eq_getElem hlt]; exact h2 _ (List.getElem_mem hlt)
        have hst : Hid (behR n (l.drop k) = if (divR 4294967296 y).2 = 0 then behR (n + 1) (l.drop (k + 1)) else (n, (divR 4294967296 y).2)) := by
          have := behR_step l k hlt n
          rw [← hy] at this
          exact this
        have hi : (k : Int) < (l.length : Int) := by omega
        clear h4 h3 h2 hy
        by_cases hx : x = 0
        · subst hx
          have hs2 : Hid (behR 0 l = behR n (l.drop k)) := hs'.out.elim (fun h => h.2) (fun h => absurd rfl h.1)
          obtain ⟨q, hq⟩ : ∃ q, q = divR 4294967296 y := ⟨_, rfl⟩
          have HQ : Hid (divR 4294967296 y = q) := hq.symm
          rw [← hq] at hst
          obtain ⟨v, x⟩ := q
          simp only at hst
          clear hq hs'
          by_cases hx : x = 0
          · subst hx
            go_wp2_with (first
              | (go_at_call 19; refine (div_any _ _ _ ⟨by decide, by decide⟩ fy).mono ?_; rintro e w' ⟨rfl, m', rfl⟩; rw [HQ.out]))
            refine ⟨⟨k + 1, n + 1, 0, by omega, rfl, rfl, rfl, by omega, by omega, ⟨_, rfl⟩, .inl ⟨rfl, ?_⟩⟩, ?_⟩
            · exact hs2.out.trans (hst.out.trans (if_pos trivial))
            · simp [intOf]; omega
          · have e1 : (x == 0) = false := by simp [hx]
            go_wp2_with (first
              | (go_at_call 19; refine (div_any _ _ _ ⟨by decide, by decide⟩ fy).mono ?_; rintro e w' ⟨rfl, m', rfl⟩; rw [HQ.out]))
            refine ⟨⟨k + 1, n, x, by omega, rfl, rfl, rfl, by omega, by omega, ⟨_, rfl⟩, .inr ⟨hx, ?_⟩⟩, ?_⟩
            · rw [hs2.out, hst.out, if_neg hx]
            · simp [intOf]; omega
        · have e1 : (x == 0) = false := by simp [hx]
          go_wp2
          refine ⟨⟨k + 1, n, x, by omega, rfl, rfl, rfl, by omega, by omega, ⟨_, rfl⟩, .inr ⟨hx, ?_⟩⟩, ?_⟩
          · exact hs'.out.elim (fun h => absurd h.1 hx) (fun h => h.2)
          · simp [intOf]; omega
      · have hi : ¬ (k : Int) < (l.length : Int) := by omega
        have hrr : r = (n, x) := by
          rw [← HR.out]
          rcases hs'.out with ⟨h, g⟩ | ⟨h, g⟩
          · rw [g, h, List.drop_eq_nil_of_le (by omega)]; rfl
          · exact g
        subst hrr
        simp only at cn2
        clear hle' HR hs'
        go_wp2_with (first
          | (go_at_call 10; refine (try_grow _ _ _ 0 _ (fun _ => by simp [go_sem]) (.inl ⟨rfl, rfl⟩) (fun W _ => beh2 W)).mono ?_; rintro e W' ⟨rfl, G5⟩))
        go_ret
        exact ⟨rfl, ((G2.drewN m).trans G5).below⟩
  · have d1 : decide ((30 : Int) < (len0 : Int)) = true := by simp; omega
    go_enter Try.func6, Try.ntmps6
    go_wp2_with (first
      | (go_at_call 9; refine (alive_any _).mono ?_; rintro e w' ⟨rfl, G⟩))
    go_ret
    exact ⟨rfl, (((Grew.refl w).alloc _ _).trans G).below⟩

set_option maxRecDepth 100000 in
theorem lifted (os : Os) (started : os.Started) (H : Type) (enc : TypeId × Value → H) :
    ReturnsInHanded {} Try.checked os 6 .any (Rows.calcBehindSpec.pre6 enc Try.prog Try.f6 Rows.calcBehindRow.domain false) (Rows.calcBehindSpec.post enc Try.prog Try.f6 false true false false) := by
  refine returnsInHanded_of_change (C := Try.checked) own started (by kernel_rfl) Try.func6
    (ChangeSpec.witness6 (enc := enc) (C := Try.checked) false ⟨#[], #[.slice none 0 0], []⟩ 8 (by kernel_rfl) (by kernel_rfl) (by kernel_rfl) (by kernel_rfl)) ?_
  intro W base args ds gs before hval0 hW hcnd _
  have hval : ∀ (j : Nat) t v, Try.f6.params[j]? = some t → args[j]? = some v → Value.okWide Try.prog W .any base t v := hval0
  have hW' := hW
  obtain ⟨p, q, hA0, hV, rfl, hfz, hnd⟩ := hW
  have hA : DataW.TrodAll enc Try.prog W 0 (fun _ => true) true Try.f6.params.toList args.toList ds p := hA0
  rw [Try.params6] at hA hval
  obtain ⟨v0, vs0, d0, ds0, p0, q0, hargs, rfl, rfl, h0, r0⟩ := trodAll_cons hA
  obtain ⟨rfl, rfl, rfl⟩ := trodAll_nil r0
  obtain rfl : args = #[v0] := by cases args; simp_all
  obtain ⟨rfl, rfl⟩ := trodVars_none hV
  obtain ⟨a0, len0, cap0, rfl⟩ := okWide_slice Try.underlying34 (hval 0 34 v0 rfl rfl)
  have k0 := h0
  have lt0 : ∀ x ∈ p0, x.block < W.heap.size := by obtain ⟨m, hm⟩ := k0; exact DataW.trod_lt m _ _ _ hm
  obtain ⟨z0, w0⟩ : ∃ zs, IsRow .i64 W a0 len0 cap0 zs := by
    obtain ⟨fuel, hf⟩ := h0
    rcases open_ints Try.underlying34 Try.underlying22 (by kernel_rfl) hf with ⟨hcs, _⟩ | ⟨x, l, c, zs, hcs, _, hl, hm, hz, _, hcell, hwz⟩
    · simp [Value.cells] at hcs
      obtain ⟨rfl, rfl, rfl⟩ := hcs
      exact ⟨[], .inl ⟨rfl, rfl, rfl, rfl⟩⟩
    · simp [Value.cells] at hcs
      obtain ⟨rfl, rfl, rfl⟩ := hcs
      exact ⟨zs, .inr ⟨_, rfl, hl, hm, by simpa using hz, hcell, hwz⟩⟩
  clear hA0 hval0
  refine (walk a0 len0 cap0 z0 W w0).mono fun e W' ⟨he, bel⟩ => ?_
  subst he
  exact ⟨_, rfl, _, _, _, [], _, [], hW', trodAll_mk1 (shut_bool Try.underlying4 _), (trodAll_cons_mk (Below.trod laidOut (by kernel_rfl) (of_decide_eq_true (by kernel_rfl)) k0 bel lt0) trodAll_mk0), rfl, bel.frame _, fun h => by cases h⟩

theorem over : Rows.calcBehindRow.holds Try.pinned (OpenSpec.ofChange Rows.calcBehindSpec) :=
  OpenClaim.holds_of_wide 6 Try.f6 rfl rfl rfl rfl rfl rfl rfl ⟨rfl, rfl, rfl, rfl, rfl⟩ rfl rfl rfl rfl rfl (by kernel_rfl) Try.func6 (by kernel_rfl)
    (of_decide_eq_true (by kernel_rfl)) (by unfold Func.isWrapper; first | (rw [if_pos (by decide +kernel)]; kernel_rfl) | (rw [if_neg (by decide +kernel)]; exact ⟨rfl, rfl⟩))
    (fun os started H enc _ => lifted os started H enc)

theorem proved : Rows.CalcBehindSaid := over
end Go.Proofs.Ytjkidepgjbnflaa.calcBehind

namespace Go.Proofs.Ytjkidepgjbnflaa
theorem calcBehind_holds : Rows.CalcBehindSaid := calcBehind.proved
end Go.Proofs.Ytjkidepgjbnflaa
