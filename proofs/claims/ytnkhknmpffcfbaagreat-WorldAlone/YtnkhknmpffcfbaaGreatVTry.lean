/-
  Worlds in which some blocks may have been written (Wrote), and Try of a function that writes such blocks alone: its error, and what holds behind it.
-/
import Derived.Test.YtnkhknmpffcfbaaGreatCSound
import Derived.Laws.EntriesVeiled
namespace Go.Proofs.YtnkhknmpffcfbaaGreat
open Go.RowKit

theorem frozen_of_heap {w w' : World} {p : Addr} (h : w'.heap[p.block]? = w.heap[p.block]?) : w'.frozen? p = w.frozen? p := by
  unfold World.frozen?
  rw [h]

/-- W is w1 with new blocks, and the blocks of S may have been written. -/
structure Wrote (S : Nat → Prop) (w1 W : World) : Prop where
  grew : ∀ w₀ : World, (∀ n, S n → w₀.heap.size ≤ n) → Grew w₀ w1 → Grew w₀ W
  block : ∀ i, i < w1.heap.size → ¬ S i → W.heap[i]? = w1.heap[i]?
  size : w1.heap.size ≤ W.heap.size

theorem Wrote.refl (S : Nat → Prop) (w : World) : Wrote S w w := ⟨fun _ _ h => h, fun _ _ _ => rfl, Nat.le_refl _⟩
theorem Wrote.trans {S : Nat → Prop} {a b c : World} (h : Wrote S a b) (g : Wrote S b c) : Wrote S a c :=
  ⟨fun w₀ hw G => g.grew w₀ hw (h.grew w₀ hw G), fun i hi hn => (g.block i (Nat.lt_of_lt_of_le hi h.size) hn).trans (h.block i hi hn), Nat.le_trans h.size g.size⟩
theorem Wrote.more {S T : Nat → Prop} {a b : World} (h : Wrote S a b) (hS : ∀ n, S n → T n) : Wrote T a b :=
  ⟨fun w₀ hw G => h.grew w₀ (fun n hn => hw n (hS n hn)) G, fun i hi hn => h.block i hi (fun x => hn (hS i x)), h.size⟩
theorem Grew.wrote {S : Nat → Prop} {w W : World} (h : Grew w W) : Wrote S w W := ⟨fun _ _ G => G.trans h, fun _ hi _ => h.heap hi, h.size⟩
theorem Past.wrote {S : Nat → Prop} {n : Nat} {w W : World} (h : Past n w W) (hn : S n) : Wrote S w W :=
  ⟨fun w₀ hw G => h.grew w₀ (hw n hn) G, fun i hi hi' => h.block i hi (fun e => hi' (e ▸ hn)), h.size⟩
theorem Wrote.set {S : Nat → Prop} {w W : World} (h : Wrote S w W) {b : Nat} (hb : S b) (o : Nat) (s : Option Nat) (v : Value) : Wrote S w (W.setCell ⟨b, o, s⟩ v) :=
  h.trans ((past_setCell b W o s v).wrote hb)
theorem Wrote.cell {S : Nat → Prop} {w W : World} (h : Wrote S w W) {p : Addr} {v : Value} (hc : w.cell? p = some v) (hn : ¬ S p.block) : W.cell? p = some v := by
  rw [cell_of_heap (h.block _ (cell_block hc) hn), hc]
theorem Wrote.frozen {S : Nat → Prop} {w W : World} (h : Wrote S w W) {p : Addr} (hc : p.block < w.heap.size) (hn : ¬ S p.block) (hz : w.frozen? p = false) : W.frozen? p = false := by
  rw [frozen_of_heap (h.block _ hc hn), hz]
theorem Wrote.to {S : Nat → Prop} {w v W : World} (h : Wrote S v W) (g : Grew w v) (hS : ∀ n, S n → w.heap.size ≤ n) : Grew w W := h.grew w hS g

/-- Try of what writes S alone. -/
theorem try_set {S : Nat → Prop} {P : Int → World → Prop} (F : Nat) (cap : Array Value) (w : World) (hF : ∀ w, (callFunc F cap).run Tryz.prog w = .ok (.enter F cap) w)
    (hS : ∀ n, S n → n < w.heap.size) (hP : ∀ x W W', (∀ i, i < w.heap.size → W'.heap[i]? = W.heap[i]?) → P x W → P x W')
    (h : ∀ W0, Grew w W0 → Calls Tryz.prog F cap W0 fun e w1 => Wrote S W0 w1 ∧ ∃ x, (e = .returned (.tuple #[]) ∧ x = 0 ∨ e = .panicked [fault x]) ∧ P x w1) :
    Calls Tryz.prog 23 #[.func (.func F) #[] cap] w fun e w' => Wrote S w w' ∧ ∃ x, e = .returned (.int .i64 x) ∧ P x w' := by
  refine try_wp F cap w _ hF ?_
  have G := (Grew.refl w).alloc #[.int .i64 0] 30
  refine (h _ G).mono ?_
  rintro e w1 ⟨hW, x, he, hx⟩
  have hn : ¬ S w.heap.size := fun e => Nat.lt_irrefl _ (hS _ e)
  have hc : (w.alloc (.cells #[.int .i64 0] 30)).cell? ⟨w.heap.size, 0, none⟩ = some (.int .i64 0) := by simp
  refine ⟨hW.cell hc hn, hW.frozen (cell_block hc) hn (by simp), x, he, fun W hp => ⟨⟨fun w₀ hw g => ?_, fun i hi hi' => ?_, ?_⟩, x, rfl, ?_⟩⟩
  · exact hp.grew w₀ g.size (hW.grew w₀ hw (g.trans G))
  · rw [hp.block i (Nat.lt_of_lt_of_le (Nat.lt_of_lt_of_le hi G.size) hW.size) (by omega), hW.block i (Nat.lt_of_lt_of_le hi G.size) hi', G.heap hi]
  · exact Nat.le_trans G.size (Nat.le_trans hW.size hp.size)
  · exact hP x w1 W (fun i hi => hp.block i (Nat.lt_of_lt_of_le (Nat.lt_of_lt_of_le hi G.size) hW.size) (by omega)) hx

theorem mk_func (fn : Fn) (first cap : Array Value) (w : World) : (Instr.makeFunc fn first cap).run Tryz.prog w = .ok (.func fn first cap) w := rfl
end Go.Proofs.YtnkhknmpffcfbaaGreat
