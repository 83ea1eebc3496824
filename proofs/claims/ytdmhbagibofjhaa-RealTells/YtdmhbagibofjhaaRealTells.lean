/-
  Proved: maquettelaw2.RealTells returns true for every two uint64s, every int64 and every string, and leaves what it was given as it was; no condition.
-/
import Derived.Test.YtdmhbagibofjhaaRows
import Derived.Test.YtdmhbagibofjhaaRRef
import Derived.WalkKit
import Derived.WalkSpells
import Derived.WalkLawsBesides
import Derived.ProofKit
import Derived.OpenShut
import Derived.ShutString
namespace Go.Proofs.Ytdmhbagibofjhaa.realTells
open Go.ChangeShapes Go.WideShapes Go.ChangeAt Go.RowKit
open Go.ChangeMaps (open_string shut_string)
set_option linter.unusedVariables false

theorem own : ownKnob Try.prog.godebug = none := by kernel_rfl

def one (b : Int) : ByteArray := ⟨#[UInt8.ofNat b.toNat]⟩
theorem one_size (b : Int) : (one b).size = 1 := rfl
theorem conv1 (w : World) (b : Int) (t : TypeId) : (convert 31 9 (.slice (some ⟨w.heap.size, 0, none⟩) 1 1)).run Try.prog (w.alloc (.cells #[.int .u8 b] t)) = .ok (.string (one b)) (w.alloc (.cells #[.int .u8 b] t)) := by
  rw [run_convert_bytes_string _ 31 9 5 _ _ _ Try.underlying31 Try.underlying5 Try.underlying9]
  refine run_bytesToString _ _ 1 1 [b] ?_
  refine run_loadCells_list (w := w.alloc (.cells #[.int .u8 b] t)) ⟨w.heap.size, 0, none⟩ [.int .u8 b] ?_
  intro j v hj
  have hjl : j = 0 := by
    apply Nat.eq_zero_of_not_pos
    intro q
    rw [List.getElem?_eq_none (show [Value.int .u8 b].length ≤ j from q)] at hj
    cases hj
  subst hjl
  simp at hj; subst hj; simp [go_sem, Addr.add]
theorem conv1' (w : World) (n : Nat) (b : Int) (t : TypeId) (h : w.heap.size = n) : (convert 31 9 (.slice (some ⟨n, 0, none⟩) 1 1)).run Try.prog (w.alloc (.cells #[.int .u8 b] t)) = .ok (.string (one b)) (w.alloc (.cells #[.int .u8 b] t)) := by
  subst h; exact conv1 w b t
theorem cat8 (X : Nat) : (⟨#[]⟩ : ByteArray) ++ one ((X : Int) / 72057594037927936) ++ one ((X : Int) / 281474976710656 % 256) ++ one ((X : Int) / 1099511627776 % 256) ++ one ((X : Int) / 4294967296 % 256) ++ one ((X : Int) / 16777216 % 256) ++ one ((X : Int) / 65536 % 256) ++ one ((X : Int) / 256 % 256) ++ one ((X : Int) % 256) = dig8 X := by
  have e0 : ((X : Int) / 72057594037927936).toNat = (X / 72057594037927936) := by omega
  have e1 : ((X : Int) / 281474976710656 % 256).toNat = (X / 281474976710656 % 256) := by omega
  have e2 : ((X : Int) / 1099511627776 % 256).toNat = (X / 1099511627776 % 256) := by omega
  have e3 : ((X : Int) / 4294967296 % 256).toNat = (X / 4294967296 % 256) := by omega
  have e4 : ((X : Int) / 16777216 % 256).toNat = (X / 16777216 % 256) := by omega
  have e5 : ((X : Int) / 65536 % 256).toNat = (X / 65536 % 256) := by omega
  have e6 : ((X : Int) / 256 % 256).toNat = (X / 256 % 256) := by omega
  have e7 : ((X : Int) % 256).toNat = (X % 256) := by omega
  unfold one dig8 mk8
  rw [e0, e1, e2, e3, e4, e5, e6, e7]
  apply ByteArray.ext
  simp only [ByteArray.data_append]
  rfl
theorem grown_dr {w v : World} {n : Nat} (h : Grown w v) : Grown w (v.drewN n) := h
set_option maxHeartbeats 4000000 in
theorem walk (a0 : Int) (a1 : Int) (a2 : Int) (a3 : ByteArray) (w0 : (Lit.int .u64 a0).wf = true) (w1 : (Lit.int .u64 a1).wf = true) (w2 : (Lit.int .i64 a2).wf = true) (w3 : a3.size ≤ maxLen) (w : World) :
    Calls Try.prog 3 #[.int .u64 a0, .int .u64 a1, .int .i64 a2, .string a3] w fun e w' => e = .returned (.bool true) ∧ Grown w w' := by
  obtain ⟨K⟩ : Nonempty Ks := ⟨⟨1042, 1074, rfl, rfl⟩⟩
  obtain ⟨X, rfl, hX⟩ := u64_nat w0
  obtain ⟨Y, rfl, hY⟩ := u64_nat w1
  have ha : inF a2 := inF_wf w2
  have c1 := fun n w => call_fromN n w
  have c2 := fun n w => call_bits n w
  have c3 := fun w n b t h => conv1' w n b t h
  have c4 := fun b => one_size b
  have e1 := rdV_dig X hX
  have e2 := rdB_dig X
  have ds := dig_size X
  obtain ⟨D, hD⟩ : ∃ D, dig8 X = D := ⟨_, rfl⟩
  have cat := cat8 X
  rw [hD] at e1 e2 ds cat
  by_cases h20 : 20 < a3.size
  · go_enter Try.func3, Try.ntmps3
    go_wp2_with (go_at_call 9; refine (alive_any _).mono ?_; rintro e w' ⟨rfl, rfl⟩)
    all_goals (go_ret; exact ⟨rfl, Grown.refl _⟩)
  · go_enter Try.func3, Try.ntmps3
    go_wp2_with (first
      | (go_at_call 9; refine (alive_any _).mono ?_; rintro e w' ⟨rfl, rfl⟩)
      | (go_at_call 11; refine (get_any (K := K) _ hX _).mono ?_; rintro e w' ⟨rfl, rfl⟩)
      | (go_at_call 12; refine (rget_any (K := K) _ hX _).mono ?_; rintro e W ⟨rfl, hG⟩; have G : Hid (Grown _ W) := hG; clear hG)
      | (go_at_call 13; refine (bytes_any _ hX _).mono ?_; rintro e w' ⟨rfl, cs, rfl⟩; rw [hD]))
    refine wp_loop_rounds 9 ?_
    iterate 8 (rw [rounds_succ]; go_wp2)
    rw [rounds_succ]
    obtain ⟨Z, p1, p2, p3⟩ := put_math (K := K) a2 ha
    have m1 : ∀ t w, (binOp .quo t (.float .f64 (floatOfInt .f64 a2)) (.float .f64 4751297606875873280)).run Try.prog w = .ok (.float .f64 (wd (decide (a2 < 0)) Z)) w := fun t w => run_float_arith w .quo t .f64 _ 4751297606875873280 _ p3
    clear p1 p2
    generalize wd (decide (a2 < 0)) Z = P at *
    by_cases h8 : a3.size = 8
    · have r1 := rdV_lt a3
      have r2 := dig_rdV a3 h8
      have r3 : rdB a3 = true := by unfold rdB; simp [h8]
      go_wp2_with (first
        | (go_at_call 14; refine (read_any _ _).mono ?_; rintro e w' ⟨rfl, rfl⟩)
        | (go_at_call 13; refine (bytes_any _ r1 _).mono ?_; rintro e w' ⟨rfl, cs, rfl⟩; rw [r2])
        | (go_at_call 16; refine (put_at _ _ p3 _).mono ?_; rintro e w' ⟨rfl, rfl⟩)
        | (go_at_call 17; refine (class_any _ hX _).mono ?_; rintro e w' ⟨rfl, rfl⟩)
        | (go_at_call 18; refine (rclass_any _ hX _).mono ?_; rintro e w' ⟨rfl, rfl⟩)
        | (go_at_call 19; refine (order_any _ _ hX hY _).mono ?_; rintro e w' ⟨rfl, rfl⟩)
        | (go_at_call 20; refine (rorder_any _ _ hX hY _).mono ?_; rintro e w' ⟨rfl, n, rfl⟩)
        | (go_at_call 21; refine (same_any _ _ _).mono ?_; rintro e w' ⟨rfl, rfl⟩))
      all_goals (go_ret; exact ⟨rfl, by repeat (first | exact G.out | refine grown_dr ?_ | refine Grown.alloc ?_ _ _)⟩)
    · have r1 : rdV a3 = 0 := by unfold rdV; rw [if_neg h8]
      have r3 : rdB a3 = false := by unfold rdB; simp [h8]
      have r4 : ¬ (a3.size : Int) = 8 := by omega
      go_wp2_with (first
        | (go_at_call 14; refine (read_any _ _).mono ?_; rintro e w' ⟨rfl, rfl⟩)
        | (go_at_call 16; refine (put_at _ _ p3 _).mono ?_; rintro e w' ⟨rfl, rfl⟩)
        | (go_at_call 17; refine (class_any _ hX _).mono ?_; rintro e w' ⟨rfl, rfl⟩)
        | (go_at_call 18; refine (rclass_any _ hX _).mono ?_; rintro e w' ⟨rfl, rfl⟩)
        | (go_at_call 19; refine (order_any _ _ hX hY _).mono ?_; rintro e w' ⟨rfl, rfl⟩)
        | (go_at_call 20; refine (rorder_any _ _ hX hY _).mono ?_; rintro e w' ⟨rfl, n, rfl⟩)
        | (go_at_call 21; refine (same_any _ _ _).mono ?_; rintro e w' ⟨rfl, rfl⟩))
      all_goals (go_ret; exact ⟨rfl, by repeat (first | exact G.out | refine grown_dr ?_ | refine Grown.alloc ?_ _ _)⟩)

set_option maxRecDepth 100000 in
theorem lifted (os : Os) (started : os.Started) (H : Type) (enc : TypeId × Value → H) :
    ReturnsInHanded {} Try.checked os 3 .any (Rows.realTellsSpec.pre6 enc Try.prog Try.f3 Rows.realTellsRow.domain false) (Rows.realTellsSpec.post enc Try.prog Try.f3 false true false false) := by
  refine returnsInHanded_of_change (C := Try.checked) own started (by kernel_rfl) Try.func3
    (ChangeSpec.witness6 (enc := enc) (C := Try.checked) false ⟨#[], #[.int .u64 0, .int .u64 0, .int .i64 0, .string ByteArray.empty], []⟩ 8 (by kernel_rfl) (by kernel_rfl) (by kernel_rfl) (by kernel_rfl)) ?_
  intro W base args ds gs before hval0 hW hcnd _
  have hval : ∀ (j : Nat) t v, Try.f3.params[j]? = some t → args[j]? = some v → Value.okWide Try.prog W .any base t v := hval0
  have hW' := hW
  obtain ⟨p, q, hA0, hV, rfl, hfz, hnd⟩ := hW
  have hA : DataW.TrodAll enc Try.prog W 0 (fun _ => true) true Try.f3.params.toList args.toList ds p := hA0
  rw [Try.params3] at hA hval
  obtain ⟨v0, vs0, d0, ds0, p0, q0, hargs, rfl, rfl, h0, r0⟩ := trodAll_cons hA
  obtain ⟨v1, vs1, d1, ds1, p1, q1, rfl, rfl, rfl, h1, r1⟩ := trodAll_cons r0
  obtain ⟨v2, vs2, d2, ds2, p2, q2, rfl, rfl, rfl, h2, r2⟩ := trodAll_cons r1
  obtain ⟨v3, vs3, d3, ds3, p3, q3, rfl, rfl, rfl, h3, r3⟩ := trodAll_cons r2
  obtain ⟨rfl, rfl, rfl⟩ := trodAll_nil r3
  obtain rfl : args = #[v0, v1, v2, v3] := by cases args; simp_all
  obtain ⟨rfl, rfl⟩ := trodVars_none hV
  obtain ⟨a0, rfl, rfl, rfl, w0⟩ := open_int Try.underlying22 (hval 0 22 v0 rfl rfl) h0
  obtain ⟨a1, rfl, rfl, rfl, w1⟩ := open_int Try.underlying22 (hval 1 22 v1 rfl rfl) h1
  obtain ⟨a2, rfl, rfl, rfl, w2⟩ := open_int Try.underlying23 (hval 2 23 v2 rfl rfl) h2
  obtain ⟨a3, rfl, rfl, rfl, w3⟩ := open_string Try.underlying9 (hval 3 9 v3 rfl rfl) h3
  clear hA0 hval0
  simp only [List.append_nil] at hW'
  refine (walk a0 a1 a2 a3 w0 w1 w2 w3 W).mono fun e W' ⟨he, hg⟩ => ?_
  subst he
  exact ⟨_, rfl, post_of_same (pa := []) (pv := []) hW' (fun _ _ _ => (trodAll_cons_mk (shut_bool Try.underlying4 _) trodAll_mk0)) (fun sp _ => (trodAll_cons_mk (shut_int Try.underlying22 w0) (trodAll_cons_mk (shut_int Try.underlying22 w1) (trodAll_cons_mk (shut_int Try.underlying23 w2) (trodAll_cons_mk (shut_string Try.underlying9 w3) trodAll_mk0))))) (fun _ _ => rfl) rfl
    (hg.frame _) hg.2.1 (ok_one (by kernel_rfl) rfl (okWide_bool_mk Try.underlying4 _))⟩

theorem over : Rows.realTellsRow.holds Try.pinned (OpenSpec.ofChange Rows.realTellsSpec) :=
  OpenClaim.holds_of_wide 3 Try.f3 rfl rfl rfl rfl rfl rfl rfl ⟨rfl, rfl, rfl, rfl, rfl⟩ rfl rfl rfl rfl rfl (by kernel_rfl) Try.func3 (by kernel_rfl)
    (of_decide_eq_true (by kernel_rfl)) (by unfold Func.isWrapper; first | (rw [if_pos (by decide +kernel)]; kernel_rfl) | (rw [if_neg (by decide +kernel)]; exact ⟨rfl, rfl⟩))
    (fun os started H enc _ => lifted os started H enc)

theorem proved : Rows.RealTellsSaid :=
  over
end Go.Proofs.Ytdmhbagibofjhaa.realTells

namespace Go.Proofs.Ytdmhbagibofjhaa
theorem realTells_holds : Rows.RealTellsSaid := realTells.proved
end Go.Proofs.Ytdmhbagibofjhaa
