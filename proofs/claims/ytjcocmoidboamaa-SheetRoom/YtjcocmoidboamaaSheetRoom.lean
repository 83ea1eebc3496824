/-
  Proved: maquettelaw15.SheetRoom returns true for every two ints, and leaves what it was given as it was; no condition.
-/
import Derived.Test.YtjcocmoidboamaaRows
import Derived.Test.YtjcocmoidboamaaZZero
import Derived.Test.YtjcocmoidboamaaZSame
import Derived.WalkKit
import Derived.Deep.QuietTactic
import Derived.BigQuiet
import Derived.WalkSpells
import Derived.Deep.CutRange
import Derived.Deep.CutBlock
import Derived.WalkLawsBesides
import Derived.ProofKit
import Derived.OpenShut
import Derived.ChangeOld
import Derived.Below
namespace Go.Proofs.Ytjcocmoidboamaa.sheetRoom
open Go.ChangeShapes Go.WideShapes Go.ChangeAt Go.RowKit
set_option linter.unusedVariables false

theorem own : ownKnob Try.prog.godebug = none := by kernel_rfl
theorem laidOut : laidOutB Try.prog = true := by kernel_rfl

/-- The k-th cell. -/
def cel (z k : Nat) : Ce := if z ≤ 24 then ⟨k, z, 0, zerosB z⟩ else ⟨k, z, 2 + (k : Int), ByteArray.empty⟩
def celL (z n : Nat) : List Ce := (List.range n).map (cel z)
def oneC (z : Nat) : Nat := if z ≤ 24 then 6 + z else 8
theorem celL_len (z n : Nat) : (celL z n).length = n := by simp [celL]
theorem celL_up (z n : Nat) : celL z (n + 1) = celL z n ++ [cel z n] := by simp [celL, List.range_succ]
theorem celL_get (z n k : Nat) (h : k < n) : (celL z n).getD k noCe = cel z k := by simp [celL, List.getD, h]
theorem cel_good (z k : Nat) (hz : z ≤ 40) (hk : k ≤ 40) : ceGood (cel z k) = true := by
  unfold cel
  by_cases h : z ≤ 24
  · rw [if_pos h]
    exact good_in ((keyB_iff _).2 (by dsimp only; omega)) (by dsimp only; omega) (by dsimp only; omega) rfl (by rw [zerosB_size])
  · rw [if_neg h]
    exact good_out ((keyB_iff _).2 (by dsimp only; omega)) (by dsimp only; omega) (by dsimp only; omega) ((pageB_iff _).2 (by dsimp only; omega)) rfl
theorem cel_key (z k : Nat) : (cel z k).key = k := by unfold cel; split <;> rfl
theorem cel_len (z k : Nat) : (ceB (cel z k)).length = oneC z := by
  unfold cel oneC ceB
  by_cases h : z ≤ 24
  · rw [if_pos h, if_pos h]
    have h2 : ((z : Nat) : Int) ≤ 24 := by omega
    simp only [List.length_append, digs_len, if_pos h2]
    have : (zerosB z).data.toList.length = z := by rw [Array.length_toList]; exact zerosB_size z
    omega
  · rw [if_neg h, if_neg h]
    have h2 : ¬ ((z : Nat) : Int) ≤ 24 := by omega
    simp only [List.length_append, digs_len, if_neg h2]
theorem celL_leafH (z n : Nat) : ∀ k, k ≤ n → (leafH (celL z n) k).length = 2 + k * oneC z := by
  intro k
  induction k with
  | zero => intro _; simp [leafH, digs_len]
  | succ k ih =>
    intro h
    rw [leafH_up _ k (by rw [celL_len]; omega), List.length_append, ih (by omega), celL_get z n k (by omega), cel_len, Nat.succ_mul]
    omega
theorem celL_ok (z n : Nat) (hz : z ≤ 40) (hn : n ≤ 40) : leafOk (celL z n) = decide (2 + n * oneC z ≤ 128) := by
  have := leaf_end (C := celL z n) (by rw [celL_len]; omega) (fun k hk => by
    rw [celL_len] at hk
    cases k with
    | zero => rw [ceOk_zero, celL_get z n 0 hk]; exact cel_good z 0 hz (by omega)
    | succ k =>
      rw [ceOk_succ, celL_get z n (k + 1) hk, celL_get z n k (by omega), cel_good z (k + 1) hz (by omega), cel_key, cel_key]
      simp
      omega)
  rw [this, celL_len, celL_leafH z n n (Nat.le_refl _)]
theorem ces_up (z k : Nat) : cesV (celL z (k + 1)) = cesV (celL z k) ++ ceR (cel z k) := by rw [celL_up, ces_more]

set_option maxRecDepth 100000 in
set_option maxHeartbeats 16000000 in
theorem walk (a0 : Int) (f0 : inF a0) (a1 : Int) (f1 : inF a1) (w : World)  :
    Calls Try.prog 5 #[.int .i64 a0, .int .i64 a1] w fun e w' => e = .returned (.bool true) ∧ Below w.heap.size w w' := by
  have hal : Hid (∀ W, Calls Try.prog 9 #[] W fun e w' => e = .returned (.bool true) ∧ Below W.heap.size W w') := alive15
  by_cases hbad : a0 < 0 ∨ (¬ a0 < 0 ∧ 30 < a0) ∨ (¬ a0 < 0 ∧ ¬ 30 < a0 ∧ a1 < 0) ∨ (¬ a0 < 0 ∧ ¬ 30 < a0 ∧ ¬ a1 < 0 ∧ 40 < a1)
  · rcases hbad with h1 | ⟨h1, h2⟩ | ⟨h1, h2, h3⟩ | ⟨h1, h2, h3, h4⟩
    all_goals
      go_enter Try.func5, Try.ntmps5
      go_wp2_with (first | (go_at_call 9; go_fit (hal.out _); rintro e w1 ⟨rfl, hB⟩) | fail)
      go_ret
      exact ⟨rfl, hB⟩
  have h1 : ¬ a0 < 0 := by omega
  have h2 : ¬ 30 < a0 := by omega
  have h3 : ¬ a1 < 0 := by omega
  have h4 : ¬ 40 < a1 := by omega
  obtain ⟨n, rfl⟩ := Int.eq_ofNat_of_zero_le (show 0 ≤ a0 by omega)
  obtain ⟨z, rfl⟩ := Int.eq_ofNat_of_zero_le (show 0 ≤ a1 by omega)
  clear hbad
  obtain ⟨iw, zw, i1, i2, i3, i4, i5⟩ := info_scell
  have hok := celL_ok z n (by omega) (by omega)
  obtain ⟨p, hp⟩ : ∃ p, w.heap.size = p := ⟨_, rfl⟩
  replace hp : Hid (w.heap.size = p) := hp
  obtain ⟨mk, cv⟩ := made_zeros z (by omega)
  have cv1 : ∀ (w : World) (o : Obj), (convert 53 9 (.slice (some ⟨w.heap.size + 1, 0, none⟩) z z)).run Try.prog ((w.alloc o).alloc (.cells (madeCells #[Value.int .u8 0] z) 5)) = .ok (.string (zerosB z)) ((w.alloc o).alloc (.cells (madeCells #[Value.int .u8 0] z) 5)) := fun w o => by
    have := cv (w.alloc o)
    rw [show (w.alloc o).heap.size = w.heap.size + 1 by simp] at this
    exact this
  by_cases hz : z ≤ 24
  · have hz1 : (z : Int) ≤ 24 := by omega
    have hcel : Hid (∀ k, cesV (celL z (k + 1)) = cesV (celL z k) ++ [.int .i64 k, .int .i64 z, .int .i64 0, .string (zerosB z)]) := fun k => by
      rw [ces_up]
      unfold cel
      rw [if_pos hz]
      rfl
    generalize zerosB z = T at *
    go_enter Try.func5, Try.ntmps5
    go_wp2_with (first | (go_at_call 9; go_fit (hal.out _); rintro e w1 ⟨rfl, hB1⟩) | fail)
    go_loopw [5, 6] (fun l i wr => ∃ (k : Nat) (a : Option Addr) (cp : Nat), k ≤ n ∧ i = .int .i64 k ∧ l = .slice a k cp ∧ wr.ownsRow p 26 4 (.slice a k cp) k (cesV (celL z k)) ∧ Below p w wr) (fun _ i _ => n - (intOf i).toNat)
    case atStart => exact ⟨0, none, 0, by omega, rfl, rfl, World.ownsRow_nil _ _ _ _, by rw [← hp.out]; exact hB1⟩
    case round =>
      obtain ⟨k, a3, cp, hk, rfl, rfl, hr, hB⟩ := hrel
      have hpl := hB.size
      have hpp : p ≤ wr.heap.size := by rw [hp.out] at hpl; exact hpl
      clear hpl
      by_cases hlt : k < n
      · have hki : (k : Int) < n := by omega
        replace hB : Hid (Below p w wr) := hB
        go_wp2_with (first
          | (at_builtin; refine wpList_app _ rfl (.tmp 47) (.tmp 49) 23 rfl p 26 iw zw 4 40 Try.underlying23 i1 i2 i4 i5 i3 (by decide) (.slice a3 k cp) k _ rfl (((hr.alloc _).alloc _).alloc _) (some ⟨wr.heap.size + 1 + 1, 0, none⟩) 1 1 [.int .i64 k, .int .i64 z, .int .i64 0, .string T] rfl rfl (.inr ⟨_, 0, rfl, fun j u hj => new_at _ _ _ _ (by simp) j u hj⟩) (fun u hu => by simp at hu; rcases hu with rfl | rfl | rfl | rfl <;> rfl) (by unfold maxLen; omega) (by omega) (by simp; omega) ?_; intro v5 w5 hv5 hg5 hk5 hl5)
          | fail)
        obtain ⟨a5, c5, rfl, _⟩ := own_reads hv5
        refine ⟨⟨k + 1, a5, c5, hlt, by simp, rfl, ?_, ?_⟩, meas_up hlt⟩
        · rw [hcel.out]
          exact hv5
        · exact (hB.out.trans ((((((Grew.refl wr).alloc _ _).alloc _ _).alloc _ _).below).mono hpp)).trans ((grown_but hg5).below (fun i e => (hr.lt i e).1) (by simp; omega))
      · have hki : ¬ (k : Int) < n := by omega
        obtain rfl : k = n := by omega
        obtain ⟨a', cp', e9, hSl⟩ := cells_of hr
        obtain ⟨rfl, _, rfl⟩ : a3 = a' ∧ k = k ∧ cp = cp' := by simpa using e9
        clear e9
        have hlen : (celL z k).length = k := celL_len z k
        have hL : Hid (Calls Try.prog 13 #[.slice a3 k cp] wr fun e w' => e = .returned (.tuple #[.string (leafV (celL z k)), .bool (leafOk (celL z k))]) ∧ Below wr.heap.size wr w') := by
          show Calls _ _ _ _ _
          have := leaf_any (celL z k) a3 cp wr hSl (by omega)
          rw [hlen] at this
          exact this
        have hFt : Hid (∀ W, Below wr.heap.size wr W → Calls Try.prog 18 #[.slice a3 k cp] W fun e w' => e = .returned (.bool (leafOk (celL z k))) ∧ Below W.heap.size W w') := fun W hW => by
          have := fits_any (celL z k) a3 cp W (hSl.below hW) (by omega)
          rw [hlen] at this
          exact this
        have hv : leafV (celL z k) = if leafOk (celL z k) then txt (leafL (celL z k)) else ByteArray.empty := rfl
        rw [hv] at hL
        replace hB : Hid (Below p w wr) := hB
        rw [hok] at hL hFt
        have hone : oneC z = 6 + z := by unfold oneC; rw [if_pos hz]
        rw [hone] at hL hFt
        clear hone hok hv hSl hr hcel hlen
        generalize txt (leafL (celL z k)) = P at *
        by_cases hm : 2 + k * (6 + z) ≤ 128
        · rw [decide_eq_true hm] at hL hFt
          rw [if_pos rfl] at hL
          have hmi : (2 : Int) + (k : Int) * (6 + (z : Int)) ≤ 128 := (by have h := Int.ofNat_le.2 hm; simpa using h)
          have hm0 : (0 : Int) ≤ (k : Int) * (6 + (z : Int)) := Int.mul_nonneg (by omega) (by omega)
          go_wp2_with (first
            | (go_at_call 13; go_fit hL.out; rintro e w2 ⟨rfl, hB2⟩)
            | (go_at_call 18; go_fit (hFt.out _ hB2); rintro e w3 ⟨rfl, hB3⟩)
            | fail)
          go_ret
          refine ⟨ret_bool ?_, by rw [hp.out]; exact hB.out.trans ((on_two hB2 hB3).mono hpp)⟩
          first | rfl | (rw [decide_eq_false (Int.not_le.2 hmi)]; rfl)
        · rw [decide_eq_false hm] at hL hFt
          rw [if_neg (by decide)] at hL
          have hmi : ¬ (2 : Int) + (k : Int) * (6 + (z : Int)) ≤ 128 := (fun e => hm (Int.ofNat_le.1 (by simpa using e)))
          have hm0 : (0 : Int) ≤ (k : Int) * (6 + (z : Int)) := Int.mul_nonneg (by omega) (by omega)
          have hm1 : (k : Int) * (6 + (z : Int)) ≤ 30 * 40 := Int.mul_le_mul (by omega) (by omega) (by omega) (by omega)
          go_wp2_with (first
            | (go_at_call 13; go_fit hL.out; rintro e w2 ⟨rfl, hB2⟩)
            | (go_at_call 18; go_fit (hFt.out _ hB2); rintro e w3 ⟨rfl, hB3⟩)
            | fail)
          go_ret
          refine ⟨ret_bool ?_, by rw [hp.out]; exact hB.out.trans ((on_two hB2 hB3).mono hpp)⟩
          first | rfl | (rw [decide_eq_false (Int.not_le.2 hmi)]; rfl)
  · have hz1 : ¬ (z : Int) ≤ 24 := by omega
    have hcel : Hid (∀ k, cesV (celL z (k + 1)) = cesV (celL z k) ++ [.int .i64 k, .int .i64 z, .int .i64 (2 + (k : Int)), .string ByteArray.empty]) := fun k => by
      rw [ces_up]
      unfold cel
      rw [if_neg hz]
      rfl
    clear cv cv1 mk
    go_enter Try.func5, Try.ntmps5
    go_wp2_with (first | (go_at_call 9; go_fit (hal.out _); rintro e w1 ⟨rfl, hB1⟩) | fail)
    go_loopw [5, 6] (fun l i wr => ∃ (k : Nat) (a : Option Addr) (cp : Nat), k ≤ n ∧ i = .int .i64 k ∧ l = .slice a k cp ∧ wr.ownsRow p 26 4 (.slice a k cp) k (cesV (celL z k)) ∧ Below p w wr) (fun _ i _ => n - (intOf i).toNat)
    case atStart => exact ⟨0, none, 0, by omega, rfl, rfl, World.ownsRow_nil _ _ _ _, by rw [← hp.out]; exact hB1⟩
    case round =>
      obtain ⟨k, a3, cp, hk, rfl, rfl, hr, hB⟩ := hrel
      have hpl := hB.size
      have hpp : p ≤ wr.heap.size := by rw [hp.out] at hpl; exact hpl
      clear hpl
      by_cases hlt : k < n
      · have hki : (k : Int) < n := by omega
        replace hB : Hid (Below p w wr) := hB
        go_wp2_with (first
          | (at_builtin; refine wpList_app _ rfl (.tmp 47) (.tmp 49) 23 rfl p 26 iw zw 4 40 Try.underlying23 i1 i2 i4 i5 i3 (by decide) (.slice a3 k cp) k _ rfl ((hr.alloc _).alloc _) (some ⟨wr.heap.size + 1, 0, none⟩) 1 1 [.int .i64 k, .int .i64 z, .int .i64 (2 + (k : Int)), .string ByteArray.empty] rfl rfl (.inr ⟨_, 0, rfl, fun j u hj => new_at _ _ _ _ (by simp) j u hj⟩) (fun u hu => by simp at hu; rcases hu with rfl | rfl | rfl | rfl <;> rfl) (by unfold maxLen; omega) (by omega) (by simp; omega) ?_; intro v5 w5 hv5 hg5 hk5 hl5)
          | fail)
        obtain ⟨a5, c5, rfl, _⟩ := own_reads hv5
        refine ⟨⟨k + 1, a5, c5, hlt, by simp, rfl, ?_, ?_⟩, meas_up hlt⟩
        · rw [hcel.out]
          exact hv5
        · exact (hB.out.trans (((((Grew.refl wr).alloc _ _).alloc _ _).below).mono hpp)).trans ((grown_but hg5).below (fun i e => (hr.lt i e).1) (by simp; omega))
      · have hki : ¬ (k : Int) < n := by omega
        obtain rfl : k = n := by omega
        obtain ⟨a', cp', e9, hSl⟩ := cells_of hr
        obtain ⟨rfl, _, rfl⟩ : a3 = a' ∧ k = k ∧ cp = cp' := by simpa using e9
        clear e9
        have hlen : (celL z k).length = k := celL_len z k
        have hL : Hid (Calls Try.prog 13 #[.slice a3 k cp] wr fun e w' => e = .returned (.tuple #[.string (leafV (celL z k)), .bool (leafOk (celL z k))]) ∧ Below wr.heap.size wr w') := by
          show Calls _ _ _ _ _
          have := leaf_any (celL z k) a3 cp wr hSl (by omega)
          rw [hlen] at this
          exact this
        have hFt : Hid (∀ W, Below wr.heap.size wr W → Calls Try.prog 18 #[.slice a3 k cp] W fun e w' => e = .returned (.bool (leafOk (celL z k))) ∧ Below W.heap.size W w') := fun W hW => by
          have := fits_any (celL z k) a3 cp W (hSl.below hW) (by omega)
          rw [hlen] at this
          exact this
        have hv : leafV (celL z k) = if leafOk (celL z k) then txt (leafL (celL z k)) else ByteArray.empty := rfl
        rw [hv] at hL
        replace hB : Hid (Below p w wr) := hB
        rw [hok] at hL hFt
        have hone : oneC z = 8 := by unfold oneC; rw [if_neg hz]
        rw [hone] at hL hFt
        clear hone hok hv hSl hr hcel hlen
        generalize txt (leafL (celL z k)) = P at *
        by_cases hm : 2 + k * (8) ≤ 128
        · rw [decide_eq_true hm] at hL hFt
          rw [if_pos rfl] at hL
          have hmi : (2 : Int) + (k : Int) * (8) ≤ 128 := (by have h := Int.ofNat_le.2 hm; simpa using h)
          have hm0 : (0 : Int) ≤ (k : Int) * (8) := Int.mul_nonneg (by omega) (by omega)
          go_wp2_with (first
            | (go_at_call 13; go_fit hL.out; rintro e w2 ⟨rfl, hB2⟩)
            | (go_at_call 18; go_fit (hFt.out _ hB2); rintro e w3 ⟨rfl, hB3⟩)
            | fail)
          go_ret
          refine ⟨ret_bool ?_, by rw [hp.out]; exact hB.out.trans ((on_two hB2 hB3).mono hpp)⟩
          first | rfl | (rw [decide_eq_false (Int.not_le.2 hmi)]; rfl)
        · rw [decide_eq_false hm] at hL hFt
          rw [if_neg (by decide)] at hL
          have hmi : ¬ (2 : Int) + (k : Int) * (8) ≤ 128 := (fun e => hm (Int.ofNat_le.1 (by simpa using e)))
          have hm0 : (0 : Int) ≤ (k : Int) * (8) := Int.mul_nonneg (by omega) (by omega)
          have hm1 : (k : Int) * (8) ≤ 30 * 40 := Int.mul_le_mul (by omega) (by omega) (by omega) (by omega)
          go_wp2_with (first
            | (go_at_call 13; go_fit hL.out; rintro e w2 ⟨rfl, hB2⟩)
            | (go_at_call 18; go_fit (hFt.out _ hB2); rintro e w3 ⟨rfl, hB3⟩)
            | fail)
          go_ret
          refine ⟨ret_bool ?_, by rw [hp.out]; exact hB.out.trans ((on_two hB2 hB3).mono hpp)⟩
          first | rfl | (rw [decide_eq_false (Int.not_le.2 hmi)]; rfl)

set_option maxRecDepth 100000 in
theorem lifted (os : Os) (started : os.Started) (H : Type) (enc : TypeId × Value → H) :
    ReturnsInHanded {} Try.checked os 5 .any (Rows.sheetRoomSpec.pre6 enc Try.prog Try.f5 Rows.sheetRoomRow.domain false) (Rows.sheetRoomSpec.post enc Try.prog Try.f5 false true false false) := by
  refine returnsInHanded_of_change (C := Try.checked) own started (by kernel_rfl) Try.func5
    (ChangeSpec.witness6 (enc := enc) (C := Try.checked) false ⟨#[], #[.int .i64 0, .int .i64 0], []⟩ 8 (by kernel_rfl) (by kernel_rfl) (by kernel_rfl) (by kernel_rfl)) ?_
  intro W base args ds gs before hval0 hW hcnd _
  have hval : ∀ (j : Nat) t v, Try.f5.params[j]? = some t → args[j]? = some v → Value.okWide Try.prog W .any base t v := hval0
  have hW' := hW
  obtain ⟨p, q, hA0, hV, rfl, hfz, hnd⟩ := hW
  have hA : DataW.TrodAll enc Try.prog W 0 (fun _ => true) true Try.f5.params.toList args.toList ds p := hA0
  rw [Try.params5] at hA hval
  obtain ⟨v0, vs0, d0, ds0, p0, q0, hargs, rfl, rfl, h0, r0⟩ := trodAll_cons hA
  obtain ⟨v1, vs1, d1, ds1, p1, q1, rfl, rfl, rfl, h1, r1⟩ := trodAll_cons r0
  obtain ⟨rfl, rfl, rfl⟩ := trodAll_nil r1
  obtain rfl : args = #[v0, v1] := by cases args; simp_all
  obtain ⟨rfl, rfl⟩ := trodVars_none hV
  obtain ⟨a0, rfl, rfl, rfl, w0⟩ := open_int Try.underlying3 (hval 0 3 v0 rfl rfl) h0
  have f0 := inF_wf w0
  obtain ⟨a1, rfl, rfl, rfl, w1⟩ := open_int Try.underlying3 (hval 1 3 v1 rfl rfl) h1
  have f1 := inF_wf w1
  clear hA0 hval0
  refine (walk a0 f0 a1 f1 W  ).mono fun e W' ⟨he, bel⟩ => ?_
  subst he
  exact ⟨_, rfl, _, _, _, [], _, [], hW', trodAll_mk1 (shut_bool Try.underlying4 _), (trodAll_cons_mk (shut_int Try.underlying3 w0) (trodAll_cons_mk (shut_int Try.underlying3 w1) trodAll_mk0)), rfl, bel.frame _, fun h => by cases h⟩

theorem over : Rows.sheetRoomRow.holds Try.pinned (OpenSpec.ofChange Rows.sheetRoomSpec) :=
  OpenClaim.holds_of_wide 5 Try.f5 rfl rfl rfl rfl rfl rfl rfl ⟨rfl, rfl, rfl, rfl, rfl⟩ rfl rfl rfl rfl rfl (by kernel_rfl) Try.func5 (by kernel_rfl)
    (of_decide_eq_true (by kernel_rfl)) (by unfold Func.isWrapper; first | (rw [if_pos (by decide +kernel)]; kernel_rfl) | (rw [if_neg (by decide +kernel)]; exact ⟨rfl, rfl⟩))
    (fun os started H enc _ => lifted os started H enc)

theorem proved : Rows.SheetRoomSaid :=
  over
end Go.Proofs.Ytjcocmoidboamaa.sheetRoom

namespace Go.Proofs.Ytjcocmoidboamaa
theorem sheetRoom_holds : Rows.SheetRoomSaid := sheetRoom.proved
end Go.Proofs.Ytjcocmoidboamaa
