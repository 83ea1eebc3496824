/-
  Try of what writes blocks of its own: as try_wp, where nothing is told of the blocks' marks (But).
-/
import Derived.Test.YtnkhknmpffcfbaaGreatSMem
namespace Go.Proofs.YtnkhknmpffcfbaaGreat
open Go.RowKit

theorem catch_fault2 (p : Addr) (x y : Int) (older : List PanicEntry) (w : World) (hc : w.cell? p = some (.int .i64 y)) (hz : w.frozen? p = false) :
    CallsD Tryz.prog 42 #[.pointer (some p)] (.panicking (fault x :: older)) w fun e u' w' =>
      e = .returned (.tuple #[]) ∧ u' = .panicking ({ v := .iface 91 (.agg #[.int .i64 x]), recovered := true } :: older) ∧ w'.cell? p = some (.int .i64 x) ∧ But (fun n => n = p.block) w w' := by
  refine callsD_of_wpS Tryz.func42 rfl fun c₀ cs hu => ?_
  apply wpS_seq
  apply wpS_region
  simp [wpOpsS, go_sem, recoverD, hu, fault, Tryz.ntmps42, Exit.thenS]
  refine wpS_of_wp ?_
  go_wp2_with (first
    | (go_at_call 43; refine (errno_fault _ _).mono ?_; rintro e w' ⟨rfl, G⟩; have hc' := G.cell hc; have hz' := G.frozen hz))
  simp [bodyPostS, results, Tryz.results42]
  exact ⟨World.cell?_setCell_same _ _ _ hc', (Grew.but (S := fun n => n = p.block) G).set rfl p.off p.spot _⟩

theorem try_wp2 (F : Nat) (cap : Array Value) (w : World) (R : Ending → World → Prop) (hF : ∀ w, (callFunc F cap).run Tryz.prog w = .ok (.enter F cap) w)
    (h : Calls Tryz.prog F cap (w.alloc (.cells #[.int .i64 0] 30)) fun e w1 => w1.cell? ⟨w.heap.size, 0, none⟩ = some (.int .i64 0) ∧ w1.frozen? ⟨w.heap.size, 0, none⟩ = false ∧
      ∃ x, (e = .returned (.tuple #[]) ∧ x = 0 ∨ e = .panicked [fault x]) ∧ ∀ W, But (fun n => n = w.heap.size) w1 W → R (.returned (.int .i64 x)) W) :
    Calls Tryz.prog 23 #[.func (.func F) #[] cap] w R := by
  have hmf : ∀ (fn : Fn) (first cap : Array Value) (w : World), (Instr.makeFunc fn first cap).run Tryz.prog w = .ok (.func fn first cap) w := fun _ _ _ _ => rfl
  have hn := ne_nil
  go_enter_defers Tryz.func23, Tryz.ntmps23
  go_wp2
  refine h.mono ?_
  rintro e w1 ⟨hc, hz, x, (⟨rfl, rfl⟩ | rfl), hR⟩
  · go_wp2
    refine leaves_cons (f := 42) (args := #[.pointer (some ⟨w.heap.size, 0, none⟩)]) (by simp) (by simp [go_sem]) ?_
    refine (catch_none _ _).mono ?_
    rintro e u' w'' ⟨rfl, rfl, rfl⟩
    simp [Leaves, settle, results, Tryz.results23, go_sem, World.cell?_setCell_same _ _ _ hc]
    exact hR _ (But.set (S := fun n => n = w.heap.size) (But.refl _ _) (b := w.heap.size) rfl _ _ _)
  · refine leaves_cons (f := 42) (args := #[.pointer (some ⟨w.heap.size, 0, none⟩)]) (by simp) (by simp [go_sem]) ?_
    refine (catch_fault2 _ x 0 [] _ hc hz).mono ?_
    rintro e u' w'' ⟨rfl, rfl, hc', hP⟩
    simp [Leaves, settle, results, Tryz.results23, go_sem, hc']
    exact hR _ hP

/-- Try of what writes S alone: its error, and what holds behind it. -/
theorem try_but {S : Nat → Prop} {P : Int → World → Prop} (F : Nat) (cap : Array Value) (w : World) (hF : ∀ w, (callFunc F cap).run Tryz.prog w = .ok (.enter F cap) w)
    (hS : ∀ n, S n → n < w.heap.size) (hP : ∀ x W W', (∀ i, i < w.heap.size → W'.heap[i]? = W.heap[i]?) → P x W → P x W')
    (h : ∀ W0, Grew w W0 → Calls Tryz.prog F cap W0 fun e w1 => But S W0 w1 ∧ ∃ x, (e = .returned (.tuple #[]) ∧ x = 0 ∨ e = .panicked [fault x]) ∧ P x w1) :
    Calls Tryz.prog 23 #[.func (.func F) #[] cap] w fun e w' => But S w w' ∧ ∃ x, e = .returned (.int .i64 x) ∧ P x w' := by
  refine try_wp2 F cap w _ hF ?_
  have G := (Grew.refl w).alloc #[.int .i64 0] 30
  refine (h _ G).mono ?_
  rintro e w1 ⟨hW, x, he, hx⟩
  have hn : ¬ S w.heap.size := fun e => Nat.lt_irrefl _ (hS _ e)
  have hc : (w.alloc (.cells #[.int .i64 0] 30)).cell? ⟨w.heap.size, 0, none⟩ = some (.int .i64 0) := by simp
  refine ⟨hW.cell hc hn, hW.frozen (cell_block hc) hn (by simp), x, he, fun W hp => ⟨⟨hp.os.trans (hW.os), hp.tape.trans (hW.tape.trans G.tape), hp.output.trans (hW.output), ?_, fun i hi hi' => ?_⟩, x, rfl, ?_⟩⟩
  · exact Nat.le_trans G.size (Nat.le_trans hW.size hp.size)
  · rw [hp.block i (Nat.lt_of_lt_of_le (Nat.lt_of_lt_of_le hi G.size) hW.size) (by omega), hW.block i (Nat.lt_of_lt_of_le hi G.size) hi', G.heap hi]
  · exact hP x w1 W (fun i hi => hp.block i (Nat.lt_of_lt_of_le (Nat.lt_of_lt_of_le hi G.size) hW.size) (by omega)) hx
end Go.Proofs.YtnkhknmpffcfbaaGreat
