/-
  Package shelf's Read: the records of a root, and the pages that were seen.
-/
import Derived.Test.YtbkkhafckkndfaaGreatPxOTree
namespace Go.Proofs.YtbkkhafckkndfaaGreat
open Go Go.RowKit

theorem Loads.mono {w0 w : World} {p : Nat} {ld : Ld} (h : Loads w0 p ld) (g : Below w0.heap.size w0 w) : Loads w p ld :=
  ⟨fun W n hB => h.call W n (g.trans (hB.mono g.size)), h.rng, h.non, h.sz⟩
theorem canon_nil (ld : Ld) : canon ld [] = [] := by
  unfold canon
  rw [List.filterMap_eq_nil_iff]
  intro k _
  unfold seenP
  rw [if_neg (by simp)]
def ReadE (w w' : World) (ld : Ld) (R : Int × List Pr × List Int) (e : Ending) : Prop :=
  (R.1 = 0 → ∃ v vw, e = .returned (.tuple #[v, vw, .int .i64 0]) ∧ w'.ownsRow w.heap.size 46 2 v R.2.1.length (prsV R.2.1) ∧ w'.ownsRow w.heap.size 49 2 vw (canon ld R.2.2).length (prsV (canon ld R.2.2))) ∧
  (¬ R.1 = 0 → e = .returned (.tuple #[.slice none 0 0, .slice none 0 0, .int .i64 R.1])) ∧ Below w.heap.size w w'
set_option maxRecDepth 100000 in
theorem fn_nil (w : World) : (binOp BinOp.eql 35 .nilFunc .nilFunc).run Tryz.prog w = .ok (.bool true) w := by rfl
set_option maxRecDepth 100000 in
theorem fn_some (p : Nat) (w : World) : (binOp BinOp.eql 35 (loadV p) .nilFunc).run Tryz.prog w = .ok (.bool false) w := by rfl
set_option maxRecDepth 100000 in
theorem kread_nil (root : Int) (w : World) : Calls Tryz.prog 10 #[.int .i64 root, .nilFunc] w fun e w' => e = .returned (.tuple #[.slice none 0 0, .slice none 0 0, .int .i64 9]) ∧ w' = w := by
  have hq := fn_nil
  go_enter Tryz.func10, Tryz.ntmps10
  go_wp2_with (fail)
  go_ret3
  exact ⟨rfl, rfl⟩
set_option maxRecDepth 100000 in
set_option maxHeartbeats 4000000 in
theorem kread_any {w : World} {p : Nat} {ld : Ld} (hL : Loads w p ld) (root : Int) :
    Calls Tryz.prog 10 #[.int .i64 root, loadV p] w fun e w' => ReadE w w' ld (rdM ld root) e := by
  have hR0 : RdK w (w.alloc (.cells #[loadV p, .slice none 0 0] 68)) w.heap.size p (canon ld []) := by
    rw [canon_nil]
    exact ⟨.slice none 0 0, heap_alloc_new _ _, World.ownsRow_nil _ _ _ _, below_one _ _, Nat.le_refl _⟩
  have hT := ktree_in hL hR0 root
  obtain ⟨R, hR⟩ : ∃ R, rdM ld root = R := ⟨_, rfl⟩
  rw [hR] at hT ⊢
  obtain ⟨E, L, T⟩ := R
  unfold ReadK at hT
  dsimp only at hT
  dsimp only [loadV] at hT ⊢
  replace hT : Hid (Calls Tryz.prog 20 #[.pointer (some ⟨w.heap.size, 0, none⟩), .int .i64 root] (w.alloc (.cells #[.func (.func 11) #[.pointer (some ⟨p, 0, none⟩)] #[], .slice none 0 0] 68)) fun e w' => ∃ v, e = .returned (.tuple #[v, .int .i64 E]) ∧ (E = 0 → w'.ownsRow (w.alloc (.cells #[.func (.func 11) #[.pointer (some ⟨p, 0, none⟩)] #[], .slice none 0 0] 68)).heap.size 46 2 v L.length (prsV L)) ∧ RdK w w' w.heap.size p (canon ld T) ∧ WrR w.heap.size (w.alloc (.cells #[.func (.func 11) #[.pointer (some ⟨p, 0, none⟩)] #[], .slice none 0 0] 68)) w') := hT
  clear hR hR0 hL
  have hz : w.heap.size ≤ (w.alloc (.cells #[.func (.func 11) #[.pointer (some ⟨p, 0, none⟩)] #[], .slice none 0 0] 68)).heap.size := by rw [World.size_alloc]; omega
  replace hz : Hid _ := hz
  have hq := fn_some p
  dsimp only [loadV] at hq
  have hsf : ∀ (W : World) (a : Addr), (store a (.func (.func 11) #[.pointer (some ⟨p, 0, none⟩)] #[])).run Tryz.prog W = stored Tryz.prog W a (.func (.func 11) #[.pointer (some ⟨p, 0, none⟩)] #[]) .plain := fun W a => run_store _ W a _ _ rfl
  by_cases hE : E = 0
  · subst hE
    have hEnd : Hid (∀ w' v vw, w'.ownsRow w.heap.size 46 2 v L.length (prsV L) → w'.ownsRow w.heap.size 49 2 vw (canon ld T).length (prsV (canon ld T)) → Below w.heap.size w w' → ReadE w w' ld (0, L, T) (.returned (.tuple #[v, vw, .int .i64 0]))) := fun w' v vw a b c => ⟨fun _ => ⟨v, vw, rfl, a, b⟩, fun e => absurd rfl e, c⟩
    go_enter Tryz.func10, Tryz.ntmps10
    go_upto_region 7 with (first
      | (go_at_call 20; go_fit hT.out; rintro e w1 ⟨v, rfl, hL1, ⟨vw, hRv⟩, _⟩)
      | fail)
    have k1 := hRv.c1
    go_quiet (fail)
    go_wp2_with (fail)
    go_ret3
    exact hEnd.out _ _ _ (row_below (row_low (hL1 trivial) hz.out) (drewN_below (Below.refl _ w1) _)) (row_below hRv.row (drewN_below (Below.refl _ w1) _)) (hRv.bel.trans (drewN_below (Below.refl _ w1) _ |>.mono hRv.bel.size))
  · have hEnd : Hid (∀ w', Below w.heap.size w w' → ReadE w w' ld (E, L, T) (.returned (.tuple #[.slice none 0 0, .slice none 0 0, .int .i64 E]))) := fun w' c => ⟨fun e => absurd e hE, fun _ => rfl, c⟩
    go_enter Tryz.func10, Tryz.ntmps10
    go_wp2_with (first
      | (go_at_call 20; go_fit hT.out; rintro e w1 ⟨v, rfl, _, hR1, _⟩)
      | fail)
    go_ret3
    exact hEnd.out _ hR1.bel
end Go.Proofs.YtbkkhafckkndfaaGreat
