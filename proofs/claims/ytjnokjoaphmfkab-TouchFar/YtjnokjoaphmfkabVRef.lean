/-
  The document's own places (maquetteref1's Calc: Plus, Less, Times, Over, Dot, Unit, Share), with no error so far: what the plain functions say, and the error.
-/
import Derived.Test.YtjnokjoaphmfkabVUnit
import Derived.Test.YtjnokjoaphmfkabKCalc
import Derived.Test.YtjnokjoaphmfkabCalc
import Derived.Test.YtjnokjoaphmfkabQRef
import Derived.Deep.DeepFit
namespace Go.Proofs.Ytjnokjoaphmfkab
open Go.RowKit

theorem Past.setNew {b N : Nat} {w W : World} (h : Past b w W) (hN : w.heap.size ≤ N) (o : Nat) (s : Option Nat) (v : Value) : Past b w (W.setCell ⟨N, o, s⟩ v) := by
  have P := past_setCell N W o s v
  exact ⟨fun w₀ hw G => P.grew w₀ (Nat.le_trans G.size hN) (h.grew w₀ hw G), fun i hi hn => (P.block i (Nat.lt_of_lt_of_le hi h.size) (by omega)).trans (h.block i hi hn), Nat.le_trans h.size P.size⟩
theorem Past.frozen {n : Nat} {w W : World} (h : Past n w W) {p : Addr} (hp : p.block < w.heap.size) (hn : p.block ≠ n) (hz : w.frozen? p = false) : W.frozen? p = false := by
  have e := h.block _ hp hn
  unfold World.frozen? at *
  rw [e]; exact hz
theorem Err.past {w W : World} {b N o : Nat} {k : Int} (h : Err w b 0 k) (hN : b ≠ N) (v : Value) (e : W = w.setCell ⟨N, o, none⟩ v) : Err W b 0 k := by
  subst e
  exact ⟨(past_setCell N w o none v).cell (p := ⟨b, 0, none⟩) hN h.1, by rw [World.frozen?_setCell]; exact h.2⟩
theorem ifK_two (r s : Int × Int) : (ifK r.2 s).2 = (two r s).2.2 := by
  unfold ifK two
  by_cases h : r.2 = 0
  · rw [if_pos h, if_pos h]
    by_cases g : s.2 = 0
    · rw [if_pos g, g]
    · rw [if_neg g]
  · rw [if_neg h, if_neg h]
theorem ifK_in {k : Int} {r : Int × Int} (h : inF r.1) : inF (ifK k r).1 := by
  unfold ifK
  split
  · exact h
  · exact ⟨show (-9223372036854775808 : Int) ≤ 0 by decide, show (0 : Int) ≤ 9223372036854775807 by decide⟩

theorem dotV_ifK (x y u v : Int) : (ifK (ifK (mulR x u).2 (mulR y v)).2 (addR (mulR x u).1 (ifK (mulR x u).2 (mulR y v)).1)).2 = (dotV x y u v).2 ∧ ((dotV x y u v).2 = 0 → (ifK (ifK (mulR x u).2 (mulR y v)).2 (addR (mulR x u).1 (ifK (mulR x u).2 (mulR y v)).1)).1 = (dotV x y u v).1) := by
  unfold ifK dotV
  by_cases h : (mulR x u).2 = 0
  · rw [if_pos h, if_pos h]
    by_cases g : (mulR y v).2 = 0
    · rw [if_pos g]; exact ⟨rfl, fun _ => rfl⟩
    · rw [if_neg g]; exact ⟨rfl, fun e => absurd e g⟩
  · rw [if_neg h, if_neg h]
    simp only
    rw [if_neg h]; exact ⟨rfl, fun e => absurd e h⟩
theorem len_zero {x y : Int} (h : ¬ (lenR x y).2 = 0) : (lenR x y).1 = 0 := by
  unfold lenR at *
  split at h
  · exact absurd rfl h
  · rename_i g; rw [if_neg g]
end Go.Proofs.Ytjnokjoaphmfkab
