/-
  Proved: maquettelaw15.SheetIndexes returns true for every two ints, and leaves what it was given as it was; no condition.
-/
import Derived.Test.YtjcocmoidboamaaRows
import Derived.Test.YtjcocmoidboamaaZZero
import Derived.Test.YtjcocmoidboamaaZSame
import Derived.WalkKit
import Derived.Deep.QuietTactic
import Derived.BigQuiet
import Derived.WalkSpells
import Derived.Deep.CutRange
import Derived.Deep.CutBlock
import Derived.WalkLawsBesides
import Derived.ProofKit
import Derived.OpenShut
import Derived.ChangeOld
import Derived.Below
namespace Go.Proofs.Ytjcocmoidboamaa.sheetIndexes
open Go.ChangeShapes Go.WideShapes Go.ChangeAt Go.RowKit
set_option linter.unusedVariables false

theorem own : ownKnob Try.prog.godebug = none := by kernel_rfl
theorem laidOut : laidOutB Try.prog = true := by kernel_rfl

def slL (q : Int) (n : Nat) : List Sl := (List.range n).map fun (k : Nat) => (⟨3 * (k : Int), q⟩ : Sl)
theorem slL_len (q : Int) (n : Nat) : (slL q n).length = n := by simp [slL]
theorem slL_up (q : Int) (n : Nat) : slsV (slL q (n + 1)) = slsV (slL q n) ++ [.int .i64 (3 * (n : Int)), .int .i64 q] := by
  rw [← show slV ⟨3 * (n : Int), q⟩ = [.int .i64 (3 * (n : Int)), .int .i64 q] from rfl, ← sls_more]
  simp [slL, List.range_succ]
theorem slL_get (q : Int) (n k : Nat) (h : k < n) : (slL q n).getD k ⟨0, 0⟩ = ⟨3 * (k : Int), q⟩ := by simp [slL, List.getD, h]
theorem slL_ok (q : Int) (n : Nat) (hq : 2 ≤ q ∧ q < 200) (hn : n ≤ 40) : idxOk (slL q n) = decide (n ≤ 21) := by
  by_cases h : n ≤ 21
  · rw [decide_eq_true h]
    refine idx_yes (by rw [slL_len]; exact h) fun k hk => ?_
    rw [slL_len] at hk
    cases k with
    | zero =>
      rw [slOk_zero, slL_get q n 0 hk]
      simp [keyB, pageB]
      omega
    | succ k =>
      rw [slOk_succ, slL_get q n (k + 1) hk, slL_get q n k (by omega)]
      simp [keyB, pageB]
      omega
  · rw [decide_eq_false h]
    exact idx_long (by rw [slL_len]; omega)
theorem slL_twice (q : Int) (n : Nat) : idxOk (slL q n ++ [⟨3 * ((n : Int) - 1), q⟩]) = false := by
  refine idx_no (k := n) (by simp [slL]) ?_
  have e : (slL q n ++ [(⟨3 * ((n : Int) - 1), q⟩ : Sl)]).getD n (⟨0, 0⟩ : Sl) = (⟨3 * ((n : Int) - 1), q⟩ : Sl) := by simp [List.getD, slL]
  cases n with
  | zero =>
    rw [slOk_zero, e]
    simp [keyB]
  | succ n =>
    rw [slOk_succ, e]
    have e2 : (slL q (n + 1) ++ [(⟨3 * (((n + 1 : Nat) : Int) - 1), q⟩ : Sl)]).getD n (⟨0, 0⟩ : Sl) = (⟨3 * (n : Int), q⟩ : Sl) := by
      simp only [List.getD, List.getElem?_append_left (show n < (slL q (n + 1)).length by rw [slL_len]; omega)]
      exact slL_get q (n + 1) n (by omega)
    rw [e2]
    simp <;> omega
theorem idx_empty : isIdx ByteArray.empty = false := by decide

set_option maxRecDepth 100000 in
set_option maxHeartbeats 16000000 in
theorem walk (a0 : Int) (f0 : inF a0) (a1 : Int) (f1 : inF a1) (w : World)  :
    Calls Try.prog 7 #[.int .i64 a0, .int .i64 a1] w fun e w' => e = .returned (.bool true) ∧ Below w.heap.size w w' := by
  have hal : Hid (∀ W, Calls Try.prog 9 #[] W fun e w' => e = .returned (.bool true) ∧ Below W.heap.size W w') := alive15
  by_cases hbad : a0 < 0 ∨ (¬ a0 < 0 ∧ 30 < a0) ∨ (¬ a0 < 0 ∧ ¬ 30 < a0 ∧ a1 < 2) ∨ (¬ a0 < 0 ∧ ¬ 30 < a0 ∧ ¬ a1 < 2 ∧ 200 ≤ a1)
  · rcases hbad with h1 | ⟨h1, h2⟩ | ⟨h1, h2, h3⟩ | ⟨h1, h2, h3, h4⟩
    all_goals
      go_enter Try.func7, Try.ntmps7
      go_wp2_with (first | (go_at_call 9; go_fit (hal.out _); rintro e w1 ⟨rfl, hB⟩) | fail)
      go_ret
      exact ⟨rfl, hB⟩
  have h1 : ¬ a0 < 0 := by omega
  have h2 : ¬ 30 < a0 := by omega
  have h3 : ¬ a1 < 2 := by omega
  have h4 : ¬ 200 ≤ a1 := by omega
  obtain ⟨n, rfl⟩ := Int.eq_ofNat_of_zero_le (show 0 ≤ a0 by omega)
  clear hbad
  obtain ⟨iw, zw, i1, i2, i3, i4, i5⟩ := info_sslot
  have hok : Hid (idxOk (slL a1 n) = decide (n ≤ 21)) := slL_ok a1 n (by omega) (by omega)
  obtain ⟨p, hp⟩ : ∃ p, w.heap.size = p := ⟨_, rfl⟩
  replace hp : Hid (w.heap.size = p) := hp
  go_enter Try.func7, Try.ntmps7
  go_wp2_with (first | (go_at_call 9; go_fit (hal.out _); rintro e w1 ⟨rfl, hB1⟩) | fail)
  go_loopw [5, 6] (fun l i wr => ∃ (k : Nat) (a : Option Addr) (cp : Nat), k ≤ n ∧ i = .int .i64 k ∧ l = .slice a k cp ∧ wr.ownsRow p 59 2 (.slice a k cp) k (slsV (slL a1 k)) ∧ Below p w wr) (fun _ i _ => n - (intOf i).toNat)
  case atStart => exact ⟨0, none, 0, by omega, rfl, rfl, World.ownsRow_nil _ _ _ _, by rw [← hp.out]; exact hB1⟩
  case round =>
    obtain ⟨k, a3, cp, hk, rfl, rfl, hr, hB⟩ := hrel
    have hpl := hB.size
    have hpp : p ≤ wr.heap.size := by rw [hp.out] at hpl; exact hpl
    clear hpl
    by_cases hlt : k < n
    · have hki : (k : Int) < n := by omega
      replace hB : Hid (Below p w wr) := hB
      go_wp2_with (first
        | (at_builtin; refine wpList_app _ rfl (.tmp 37) (.tmp 42) 22 rfl p 59 iw zw 2 16 Try.underlying22 i1 i2 i4 i5 i3 (by decide) (.slice a3 k cp) k _ rfl (hr.alloc _) (some ⟨wr.heap.size, 0, none⟩) 1 1 [.int .i64 (3 * (k : Int)), .int .i64 a1] rfl rfl (.inr ⟨_, 0, rfl, fun j u hj => new_at _ _ _ _ (by simp) j u hj⟩) (fun u hu => by simp at hu; rcases hu with rfl | rfl <;> rfl) (by unfold maxLen; omega) (by omega) (by simp; omega) ?_; intro v5 w5 hv5 hg5 hk5 hl5)
        | fail)
      obtain ⟨a5, c5, rfl, _⟩ := own_reads hv5
      refine ⟨⟨k + 1, a5, c5, hlt, by simp, rfl, ?_, ?_⟩, meas_up hlt⟩
      · rw [slL_up]
        exact hv5
      · exact (hB.out.trans ((((Grew.refl wr).alloc _ _).below).mono hpp)).trans ((grown_but hg5).below (fun i e => (hr.lt i e).1) (by simp; omega))
    · have hki : ¬ (k : Int) < n := by omega
      obtain rfl : k = n := by omega
      obtain ⟨a', cp', e9, hSl⟩ := slots_of hr
      obtain ⟨rfl, _, rfl⟩ : a3 = a' ∧ k = k ∧ cp = cp' := by simpa using e9
      clear e9
      have hlen : (slL a1 k).length = k := slL_len a1 k
      have hI : Hid (Calls Try.prog 10 #[.slice a3 k cp] wr fun e w' => e = .returned (.tuple #[.string (idxV (slL a1 k)), .bool (idxOk (slL a1 k))]) ∧ Below wr.heap.size wr w') := by
        show Calls _ _ _ _ _
        have := index_any (slL a1 k) a3 cp wr hSl (by omega)
        rw [hlen] at this
        exact this
      have hCv : Hid (∀ W, Below wr.heap.size wr W → Calls Try.prog 12 #[.slice a3 k cp] W fun e w' => ∃ b c, e = .returned (.slice b k c) ∧ SlotsAt w' b (slL a1 k) ∧ Below W.heap.size W w') := fun W hW => by
        have := conv_slot (slL a1 k) a3 cp W (hSl.below hW) (by omega)
        rw [hlen] at this
        refine this.mono fun e w' ⟨v, q1, q2, q3⟩ => ?_
        obtain ⟨b, c, rfl, q4⟩ := slots_of q2
        exact ⟨b, c, q1, q4, q3⟩
      have hSm : Hid (∀ W b c b2 c2, SlotsAt W b (slL a1 k) → SlotsAt W b2 (slL a1 k) → Calls Try.prog 25 #[.slice b k c, .slice b2 k c2] W fun e w' => e = .returned (.bool true) ∧ Below W.heap.size W w') := fun W b c b2 c2 g1 g2 => by
        have := same_slot (slL a1 k) (slL a1 k) b b2 c c2 W g1 g2 (by omega) (by omega)
        rw [hlen] at this
        exact this.mono fun e w' ⟨q1, q2⟩ => ⟨q1.yes rfl, q2⟩
      have hI2 : Hid (∀ W b c, SlotsAt W b (slL a1 k ++ [⟨3 * ((k : Int) - 1), a1⟩]) → Calls Try.prog 10 #[.slice b (k + 1) c] W fun e w' => e = .returned (.tuple #[.string ByteArray.empty, .bool false]) ∧ Below W.heap.size W w') := fun W b c g => by
        have := index_any (slL a1 k ++ [⟨3 * ((k : Int) - 1), a1⟩]) b c W g (by simp [hlen]; omega)
        unfold idxV at this
        rw [slL_twice, if_neg (by decide), List.length_append, hlen] at this
        exact this
      have hv : idxV (slL a1 k) = if idxOk (slL a1 k) then txt (idxL (slL a1 k)) else ByteArray.empty := rfl
      rw [hv] at hI
      replace hB : Hid (Below p w wr) := hB
      clear hv
      by_cases hm : k ≤ 21
      · have hok1 : idxOk (slL a1 k) = true := by rw [hok.out]; exact decide_eq_true hm
        obtain ⟨q1, q2⟩ := idx_back hok1
        have hz : (txt (idxL (slL a1 k))).size = 128 := by rw [txt_size, idxL_len (by omega)]
        rw [hok1, if_pos rfl] at hI
        have hS : Hid (∀ W, Calls Try.prog 19 #[.string (txt (idxL (slL a1 k)))] W fun e w' => ∃ b c, e = .returned (.tuple #[.slice b k c, .bool true]) ∧ SlotsAt w' b (slL a1 k) ∧ Below W.heap.size W w') := fun W => by
          refine (slots_any _ W (by rw [hz]; omega)).mono fun e w' ⟨v, e1, e2, e3⟩ => ?_
          rw [q1] at e1
          rw [q2] at e2
          obtain ⟨b, c, rfl, q4⟩ := slots_of e2
          rw [hlen] at e1
          exact ⟨b, c, e1, q4, e3⟩
        have hmi : (k : Int) ≤ 21 := by omega
        replace hSl : Hid (SlotsAt wr a3 (slL a1 k)) := hSl
        clear hok1 q1 q2 hz hlen hok
        generalize txt (idxL (slL a1 k)) = P at *
        go_wp2_with (first
          | (go_at_call 10; go_fit hI.out; rintro e w2 ⟨rfl, hB2⟩)
          | (go_at_call 19; go_fit (hS.out _); rintro e w3 ⟨b3, c3, rfl, hS3, hB3⟩)
          | (go_at_call 12; go_fit (hCv.out _ (on_two hB2 hB3)); rintro e w4 ⟨b4, c4, rfl, hS4, hB4⟩)
          | (go_at_call 25; go_fit (hSm.out _ _ _ _ _ (hS3.below hB4) hS4); rintro e w5 ⟨rfl, hB5⟩; have hw5 := on_two (on_three hB2 hB3 hB4) hB5; have hr5 := row_below hr hw5; have hs5 := hw5.size)
          | (at_builtin; refine wpList_app _ rfl (.tmp 74) (.tmp 80) 22 rfl p 59 iw zw 2 16 Try.underlying22 i1 i2 i4 i5 i3 (by decide) (.slice a3 k cp) k _ rfl (hr5.alloc _) (some ⟨w5.heap.size, 0, none⟩) 1 1 [.int .i64 (3 * ((k : Int) - 1)), .int .i64 a1] rfl rfl (.inr ⟨_, 0, rfl, fun j u hj => new_at _ _ _ _ (by simp) j u hj⟩) (fun u hu => by simp at hu; rcases hu with rfl | rfl <;> rfl) (by unfold maxLen; omega) (by omega) (by simp; omega) ?_; intro v6 w6 hv6 hg6 hk6 hl6; have hv7 : w6.ownsRow p 59 2 v6 (k + 1) (slsV (slL a1 k ++ [⟨3 * ((k : Int) - 1), a1⟩])) := (by rw [sls_more]; exact hv6); obtain ⟨a6, c6, rfl, hS6⟩ := slots_of hv7)
          | (go_at_call 10; go_fit (hI2.out _ _ _ hS6); rintro e w7 ⟨rfl, hB7⟩)
          | fail)
        all_goals
          go_ret
          have G6 : Below p w w6 := (hB.out.trans ((hw5.trans (((Grew.refl w5).alloc (#[.int .i64 (3 * ((k : Int) - 1)), .int .i64 a1] : Array Value) 59).below.mono hs5)).mono hpp)).trans ((grown_but hg6).below (fun i e => (hr.lt i e).1) (by simp; omega))
          exact ⟨ret_bool (by simp), by rw [hp.out]; exact G6.trans (hB7.mono (by have := G6.size; rw [hp.out] at this; exact this))⟩
      · have hok1 : idxOk (slL a1 k) = false := by rw [hok.out]; exact decide_eq_false hm
        rw [hok1, if_neg (by decide)] at hI
        have hS : Hid (∀ W, Calls Try.prog 19 #[.string ByteArray.empty] W fun e w' => ∃ v, e = .returned (.tuple #[v, .bool false]) ∧ Below W.heap.size W w') := fun W => slots_is _ W (by decide) idx_empty
        have hmi : ¬ (k : Int) ≤ 21 := by omega
        replace hSl : Hid (SlotsAt wr a3 (slL a1 k)) := hSl
        clear hok1 hlen hok hCv hSm
        go_wp2_with (first
          | (go_at_call 10; go_fit hI.out; rintro e w2 ⟨rfl, hB2⟩)
          | (go_at_call 19; go_fit (hS.out _); rintro e w3 ⟨b3, rfl, hB3⟩; have hw5 := on_two hB2 hB3; have hr5 := row_below hr hw5; have hs5 := hw5.size)
          | (at_builtin; refine wpList_app _ rfl (.tmp 74) (.tmp 80) 22 rfl p 59 iw zw 2 16 Try.underlying22 i1 i2 i4 i5 i3 (by decide) (.slice a3 k cp) k _ rfl (hr5.alloc _) (some ⟨w3.heap.size, 0, none⟩) 1 1 [.int .i64 (3 * ((k : Int) - 1)), .int .i64 a1] rfl rfl (.inr ⟨_, 0, rfl, fun j u hj => new_at _ _ _ _ (by simp) j u hj⟩) (fun u hu => by simp at hu; rcases hu with rfl | rfl <;> rfl) (by unfold maxLen; omega) (by omega) (by simp; omega) ?_; intro v6 w6 hv6 hg6 hk6 hl6; have hv7 : w6.ownsRow p 59 2 v6 (k + 1) (slsV (slL a1 k ++ [⟨3 * ((k : Int) - 1), a1⟩])) := (by rw [sls_more]; exact hv6); obtain ⟨a6, c6, rfl, hS6⟩ := slots_of hv7)
          | (go_at_call 10; go_fit (hI2.out _ _ _ hS6); rintro e w7 ⟨rfl, hB7⟩)
          | fail)
        all_goals
          go_ret
          have G6 : Below p w w6 := (hB.out.trans ((hw5.trans (((Grew.refl w3).alloc (#[.int .i64 (3 * ((k : Int) - 1)), .int .i64 a1] : Array Value) 59).below.mono hs5)).mono hpp)).trans ((grown_but hg6).below (fun i e => (hr.lt i e).1) (by simp; omega))
          exact ⟨ret_bool (by simp), by rw [hp.out]; exact G6.trans (hB7.mono (by have := G6.size; rw [hp.out] at this; exact this))⟩

set_option maxRecDepth 100000 in
theorem lifted (os : Os) (started : os.Started) (H : Type) (enc : TypeId × Value → H) :
    ReturnsInHanded {} Try.checked os 7 .any (Rows.sheetIndexesSpec.pre6 enc Try.prog Try.f7 Rows.sheetIndexesRow.domain false) (Rows.sheetIndexesSpec.post enc Try.prog Try.f7 false true false false) := by
  refine returnsInHanded_of_change (C := Try.checked) own started (by kernel_rfl) Try.func7
    (ChangeSpec.witness6 (enc := enc) (C := Try.checked) false ⟨#[], #[.int .i64 0, .int .i64 0], []⟩ 8 (by kernel_rfl) (by kernel_rfl) (by kernel_rfl) (by kernel_rfl)) ?_
  intro W base args ds gs before hval0 hW hcnd _
  have hval : ∀ (j : Nat) t v, Try.f7.params[j]? = some t → args[j]? = some v → Value.okWide Try.prog W .any base t v := hval0
  have hW' := hW
  obtain ⟨p, q, hA0, hV, rfl, hfz, hnd⟩ := hW
  have hA : DataW.TrodAll enc Try.prog W 0 (fun _ => true) true Try.f7.params.toList args.toList ds p := hA0
  rw [Try.params7] at hA hval
  obtain ⟨v0, vs0, d0, ds0, p0, q0, hargs, rfl, rfl, h0, r0⟩ := trodAll_cons hA
  obtain ⟨v1, vs1, d1, ds1, p1, q1, rfl, rfl, rfl, h1, r1⟩ := trodAll_cons r0
  obtain ⟨rfl, rfl, rfl⟩ := trodAll_nil r1
  obtain rfl : args = #[v0, v1] := by cases args; simp_all
  obtain ⟨rfl, rfl⟩ := trodVars_none hV
  obtain ⟨a0, rfl, rfl, rfl, w0⟩ := open_int Try.underlying3 (hval 0 3 v0 rfl rfl) h0
  have f0 := inF_wf w0
  obtain ⟨a1, rfl, rfl, rfl, w1⟩ := open_int Try.underlying3 (hval 1 3 v1 rfl rfl) h1
  have f1 := inF_wf w1
  clear hA0 hval0
  refine (walk a0 f0 a1 f1 W  ).mono fun e W' ⟨he, bel⟩ => ?_
  subst he
  exact ⟨_, rfl, _, _, _, [], _, [], hW', trodAll_mk1 (shut_bool Try.underlying4 _), (trodAll_cons_mk (shut_int Try.underlying3 w0) (trodAll_cons_mk (shut_int Try.underlying3 w1) trodAll_mk0)), rfl, bel.frame _, fun h => by cases h⟩

theorem over : Rows.sheetIndexesRow.holds Try.pinned (OpenSpec.ofChange Rows.sheetIndexesSpec) :=
  OpenClaim.holds_of_wide 7 Try.f7 rfl rfl rfl rfl rfl rfl rfl ⟨rfl, rfl, rfl, rfl, rfl⟩ rfl rfl rfl rfl rfl (by kernel_rfl) Try.func7 (by kernel_rfl)
    (of_decide_eq_true (by kernel_rfl)) (by unfold Func.isWrapper; first | (rw [if_pos (by decide +kernel)]; kernel_rfl) | (rw [if_neg (by decide +kernel)]; exact ⟨rfl, rfl⟩))
    (fun os started H enc _ => lifted os started H enc)

theorem proved : Rows.SheetIndexesSaid :=
  over
end Go.Proofs.Ytjcocmoidboamaa.sheetIndexes

namespace Go.Proofs.Ytjcocmoidboamaa
theorem sheetIndexes_holds : Rows.SheetIndexesSaid := sheetIndexes.proved
end Go.Proofs.Ytjcocmoidboamaa
