/-
  What the statements' Book does when it is handed a list of pairs: it keeps it, and a copy.
-/
import Derived.Test.YtflffgjldoipfaaBgPairs
import Derived.Test.YtflffgjldoipfaaUBook
import Derived.Deep.RegionLaw
import Derived.Deep.DrawnRows
namespace Go.Proofs.Ytflffgjldoipfaa
open Go.RowKit
attribute [local go_sem ↓] Go.wp_at_zero Go.wp_at_succ

/-- What the Book has behind it. -/
def KeptPairs (B base m : Nat) (cs : Array Value) (hs qs : List Value) (a : Option Addr) (l : List (Int × Int)) (cap : Nat) (w w' : World) : Prop :=
  ∃ hv' hq' cv, w'.heap[B]? = some (.cells ((cs.setIfInBounds 2 hv').setIfInBounds 3 hq') 42 (0, 0)) ∧ w'.ownsRow base 29 1 hv' (m + 1) (hs ++ [.slice a l.length cap]) ∧ w'.ownsRow base 29 1 hq' (m + 1) (qs ++ [cv]) ∧ Apart2 hv' hq' ∧
    w'.ownsRow base 50 2 cv l.length (l.flatMap encJ) ∧ FrB base 29 42 w w'

set_option maxRecDepth 10000 in
set_option maxHeartbeats 4000000 in
theorem keepPairs_any (B base m cap : Nat) (a : Option Addr) (cs : Array Value) (hv hq : Value) (hs qs : List Value) (l : List (Int × Int)) (w : World) (hbk : w.heap[B]? = some (.cells cs 42 (0, 0))) (h0 : cs[2]? = some hv) (h1 : cs[3]? = some hq)
    (ho : w.ownsRow base 29 1 hv m hs) (hp : w.ownsRow base 29 1 hq m qs) (hap : Apart2 hv hq) (hm : m < 250) (hbase : base ≤ w.heap.size) (hl : w.ownsRow base 50 2 (.slice a l.length cap) l.length (l.flatMap encJ)) (hBb : base ≤ B) (hn : l.length ≤ 900000) :
    Calls Try.prog 11 #[.pointer (some ⟨B, 0, none⟩), .slice a l.length cap] w fun e w' => e = .returned (.tuple #[]) ∧ KeptPairs B base m cs hs qs a l cap w w' := by
  obtain ⟨i1, hi1, hy0, hy1, hy2⟩ := info_parts infoHPairs
  have z0 : w.cell? ⟨B, 2, none⟩ = some hv := by rw [cell_of_row w B 2 cs _ _ hbk]; exact h0
  have z1 : w.cell? ⟨B, 3, none⟩ = some hq := by rw [cell_of_row w B 3 cs _ _ hbk]; exact h1
  obtain ⟨av, capv, rfl, _⟩ := own_reads ho
  obtain ⟨aq, capq, rfl, _⟩ := own_reads hp
  have hmi : (m : Int) < 250 := by omega
  go_enter Try.func11, Try.ntmps11
  go_upto_region 2 with (first
    | (at_builtin; refine wpList_app _ rfl (.tmp 14) (.tmp 16) 35 rfl base 29 i1 (.slice none 0 0) 1 24 Try.underlying35 hi1 hy0 hy1 hy2 rfl (by decide) (.slice av m capv) m hs rfl (ho.alloc _) (some ⟨w.heap.size, 0, none⟩) 1 1 [.slice a l.length cap] rfl rfl (.inr ⟨_, _, rfl, fun j u hj => by match j, hj with | 0, hj => (simp at hj; subst hj; simp [go_sem])⟩) (fun u hu => by simp at hu; subst hu; rfl) (by unfold maxLen; omega) (by omega) (by simp; omega) ?_; intro v1 w1 hv1 hg1 hk1 hl1; obtain ⟨a1, cap1, rfl, _⟩ := own_reads hv1; have hbk1 : w1.heap[B]? = some (.cells cs 42 (0, 0)) := bk_by ho (by decide) hbk hg1; have y0 := (bk_cell hbk1 h0).1; have f0 := (bk_cell hbk1 h0).2))
  have hS := stage1 (c := 2) hbk ho hp hap hl (by decide) (by decide) (by decide) hbase hBb hv1 hg1 hl1
  generalize hW2 : w1.setCell ⟨B, 2, none⟩ (.slice a1 (m + 1) cap1) = W2 at *
  clear hW2
  obtain ⟨hbk2, hv2, hq2, hl2, hap2, hF2, hsz2⟩ := hS
  have z3 := (bk_cell hbk2 (i := 3) (v := .slice aq m capq) (by rw [← h1]; simp)).1
  have f3 := (bk_cell hbk2 (i := 3) (v := .slice aq m capq) (by rw [← h1]; simp)).2
  obtain ⟨al, capl, el, rl⟩ := own_reads hl2
  cases el
  have hCp : Hid (∀ W, Below W2.heap.size W2 W → Calls Try.prog 26 #[.slice a l.length cap] W fun e w' => (∃ v, e = .returned v ∧ w'.ownsRow W.heap.size 50 2 v l.length (l.flatMap encJ)) ∧ Below W.heap.size W w') := fun W h => copyPairs_any a cap l W (rl.below h) (by omega)
  clear hbk ho hp hap hl hv1 hg1 hk1 hl1 hbk1 y0 f0 z0 z1 hbase
  go_region_law ((first
    | (go_simp; go_at_call 26; go_fit (hCp.out _ (Below.refl _ W2).drew); rintro e w3 ⟨⟨v3, rfl, hv3⟩, hB3⟩; obtain ⟨a3, cap3, rfl, _⟩ := own_reads hv3; have hB3' : Below W2.heap.size W2 w3 := on_trans (Below.refl _ W2).drew hB3; have hsz3 := hB3'.size; have hbk3 := (hB3'.block B (Array.getElem?_eq_some_iff.1 hbk2).1).trans hbk2; have hq3 := own_on hq2 hB3'; have z4 := (bk_cell hbk3 (i := 3) (v := .slice aq m capq) (by rw [← h1]; simp)).1; have z4a := fun o => ((below1 w3 o).cell (cell_block z4)).trans z4; have f4 := (bk_cell hbk3 (i := 3) (v := .slice aq m capq) (by rw [← h1]; simp)).2)
    | (refine step_app _ (by rfl) (.tmp 24) (.tmp 27) 35 (by rfl) base 29 i1 (.slice none 0 0) 1 24 Try.underlying35 hi1 hy0 hy1 hy2 rfl (by decide) (.slice aq m capq) m qs (by rfl) (hq3.alloc _) (some ⟨w3.heap.size, 0, none⟩) 1 1 [.slice a3 l.length cap3] (by rfl) rfl (.inr ⟨_, _, rfl, fun j u hj => by match j, hj with | 0, hj => (simp at hj; subst hj; simp [go_sem])⟩) (fun u hu => by simp at hu; subst hu; rfl) (by unfold maxLen; omega) (by omega) (by simp; omega) ?_; intro v4 w4 hv4 hg4 hk4 hl4; obtain ⟨a4, cap4, rfl, _⟩ := own_reads hv4; have hbk4 := bk_by hq3 (by decide) hbk3 hg4; have z5 := (bk_cell hbk4 (i := 3) (v := .slice aq m capq) (by rw [← h1]; simp)).1; have f5 := (bk_cell hbk4 (i := 3) (v := .slice aq m capq) (by rw [← h1]; simp)).2)
    | fail))
  all_goals
    have hR := stage2 (c := 3) hv2 hq2 hap2 hF2 hsz2 hBb hB3' hbk3 (own_base (B' := base) hv3 hsz2) (by decide) (by decide) (by decide) hv4 hg4 hl4
    go_wp2_with (fail)
    go_end0
    exact ⟨rfl, _, _, _, hR⟩
end Go.Proofs.Ytflffgjldoipfaa
