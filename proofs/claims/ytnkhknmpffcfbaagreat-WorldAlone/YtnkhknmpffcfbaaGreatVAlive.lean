/-
  The statements' own first look ('alive' of stage 6's laws): it returns true; what was there stays.
-/
import Derived.Test.YtnkhknmpffcfbaaGreatVUnit
import Derived.Test.YtnkhknmpffcfbaaGreatVTry
namespace Go.Proofs.YtnkhknmpffcfbaaGreat
open Go.RowKit

theorem al_len : lenR 12884901888 17179869184 = (21474836480, 0) := by
  unfold lenR
  rw [show rt (12884901888 * 12884901888 + 17179869184 * 17179869184) = 21474836480 from rt_eq ⟨by decide, by decide, by decide⟩ (by decide)]
  decide
theorem al_d1 : divR 12884901888 21474836480 = (2576980377, 0) := by decide +kernel
theorem al_d2 : divR 17179869184 21474836480 = (3435973836, 0) := by decide +kernel
theorem al_unit : unitR 12884901888 17179869184 = ((2576980377, 3435973836), 21474836480, 0) := by
  have h := @unitR_ok 12884901888 17179869184
  rw [al_len] at h
  simp only [al_d1, al_d2] at h
  exact h trivial (by decide) rfl
theorem al_over : outV (two (divR 0 0) (divR 0 0)) = .panicked [fault 4] := rfl

/-- A place that lies in memory. -/
def At (w : World) (b : Nat) (x y : Int) : Prop := w.cell? ⟨b, 0, none⟩ = some (.int .i64 x) ∧ w.cell? ⟨b, 1, none⟩ = some (.int .i64 y)
theorem At.wrote {S : Nat → Prop} {w W : World} {b : Nat} {x y : Int} (h : At w b x y) (g : Wrote S w W) (hb : ¬ S b) : At W b x y := ⟨g.cell h.1 hb, g.cell h.2 hb⟩
theorem At.grew {w W : World} {b : Nat} {x y : Int} (h : At w b x y) (g : Grew w W) : At W b x y := ⟨g.cell h.1, g.cell h.2⟩
theorem At.heap {w W : World} {b : Nat} {x y : Int} (h : At w b x y) (g : W.heap[b]? = w.heap[b]?) : At W b x y := ⟨by rw [cell_of_heap g]; exact h.1, by rw [cell_of_heap g]; exact h.2⟩
/-- .. and may be written. -/
def Free (w : World) (b : Nat) : Prop := ∀ o s, w.frozen? ⟨b, o, s⟩ = false
theorem Grew.freeB {w₀ w : World} (h : Grew w₀ w) {b : Nat} (hb : w₀.heap.size ≤ b) : Free w b := fun _ _ => h.free hb
theorem Free.grew {w W : World} {b : Nat} (h : Free w b) (g : Grew w W) : Free W b := fun o s => g.frozen (h o s)
theorem at_set (w : World) (b : Nat) (x y u v : Int) (h : At w b x y) : At ((w.setCell ⟨b, 0, none⟩ (.int .i64 u)).setCell ⟨b, 1, none⟩ (.int .i64 v)) b u v := by
  obtain ⟨h1, h2⟩ := h
  constructor <;> simp [go_sem, h1, h2]

/-- What a closure that asks a number leaves: the error, and the number where there is none. -/
def Left (X : Nat) (d : Int × Int) (k : Int) (W : World) : Prop := k = d.2 ∧ (k = 0 → W.cell? ⟨X, 0, none⟩ = some (.int .i64 d.1))
theorem Left.keep {X n : Nat} {d : Int × Int} (hX : X < n) : ∀ k W W', (∀ i, i < n → W'.heap[i]? = W.heap[i]?) → Left X d k W → Left X d k W' :=
  fun _ _ _ hh h => ⟨h.1, fun hk => by rw [cell_of_heap (hh X hX)]; exact h.2 hk⟩

/-- .. that asks a place. -/
def LeftV (X : Nat) (d : Int × Int × Int) (k : Int) (W : World) : Prop := k = d.2.2 ∧ (k = 0 → At W X d.1 d.2.1)
theorem LeftV.keep {X n : Nat} {d : Int × Int × Int} (hX : X < n) : ∀ k W W', (∀ i, i < n → W'.heap[i]? = W.heap[i]?) → LeftV X d k W → LeftV X d k W' :=
  fun _ _ _ hh h => ⟨h.1, fun hk => (h.2 hk).heap (hh X hX)⟩

theorem eq_vec (x y u v : Int) (w : World) : (binOp .eql 24 (.agg #[.int .i64 x, .int .i64 y]) (.agg #[.int .i64 u, .int .i64 v])).run Tryz.prog w = .ok (.bool (x == u && y == v)) w := by
  have hu := run_underlying Tryz.underlying24 w
  have hd : ∀ t x y, Op.equal t x y = Op.equalIn (9998 + 1 + 1) t x y := fun _ _ _ => rfl
  simp only [binOp, hd]
  rw [Op.equalIn]
  simp [go_sem, hu]
  by_cases h1 : x = u <;> by_cases h2 : y = v <;> simp [h1, h2]
theorem ne_vec (x y u v : Int) (w : World) : (binOp .neq 24 (.agg #[.int .i64 x, .int .i64 y]) (.agg #[.int .i64 u, .int .i64 v])).run Tryz.prog w = .ok (.bool (!(x == u && y == v))) w := by
  have hu := run_underlying Tryz.underlying24 w
  have hd : ∀ t x y, Op.equal t x y = Op.equalIn (9998 + 1 + 1) t x y := fun _ _ _ => rfl
  simp only [binOp, hd]
  rw [Op.equalIn]
  simp [go_sem, hu]
  by_cases h1 : x = u <;> by_cases h2 : y = v <;> simp [h1, h2]
theorem same_vec (x y : Int) (w : World) : (binOp .eql 24 (.agg #[.int .i64 x, .int .i64 y]) (.agg #[.int .i64 x, .int .i64 y])).run Tryz.prog w = .ok (.bool true) w := by
  rw [eq_vec]; simp

theorem Free.wrote {S : Nat → Prop} {w W : World} {b : Nat} (h : Free w b) (g : Wrote S w W) (hb : ¬ S b) (hs : b < w.heap.size) : Free W b := fun o s => g.frozen (p := ⟨b, o, s⟩) hs hb (h o s)
theorem At.size {w : World} {b : Nat} {x y : Int} (h : At w b x y) : b < w.heap.size := cell_block h.1
theorem Grew.set1 {W V : World} (U : Grew W V) (S : Nat) (p q : Value) : Wrote (fun n => n = S) W ((V.setCell ⟨S, 0, none⟩ p).setCell ⟨S, 1, none⟩ q) := (U.wrote.set (S := fun n => n = S) rfl _ _ _).set (S := fun n => n = S) rfl _ _ _

/-- A place and a number, laid into two variables. -/
theorem at_set2 (V : World) (a b : Nat) (hab : a ≠ b) (x y u v n : Int) (z : Value) (h : At V a x y) (hb : V.cell? ⟨b, 0, none⟩ = some z) :
    At (((V.setCell ⟨a, 0, none⟩ (.int .i64 u)).setCell ⟨a, 1, none⟩ (.int .i64 v)).setCell ⟨b, 0, none⟩ (.int .i64 n)) a u v ∧ (((V.setCell ⟨a, 0, none⟩ (.int .i64 u)).setCell ⟨a, 1, none⟩ (.int .i64 v)).setCell ⟨b, 0, none⟩ (.int .i64 n)).cell? ⟨b, 0, none⟩ = some (.int .i64 n) := by
  have A := at_set V a x y u v h
  have P := past_setCell b ((V.setCell ⟨a, 0, none⟩ (.int .i64 u)).setCell ⟨a, 1, none⟩ (.int .i64 v)) 0 none (.int .i64 n)
  refine ⟨⟨P.cell hab A.1, P.cell hab A.2⟩, ?_⟩
  have h1 := (past_setCell a V 0 none (.int .i64 u)).cell (p := ⟨b, 0, none⟩) hab.symm hb
  have h2 := (past_setCell a (V.setCell ⟨a, 0, none⟩ (.int .i64 u)) 1 none (.int .i64 v)).cell (p := ⟨b, 0, none⟩) hab.symm h1
  exact World.cell?_setCell_same _ _ _ h2
theorem wrote_set2 {S : Nat → Prop} {W V : World} (U : Wrote S W V) (a b : Nat) (ha : S a) (hb : S b) (u v n : Value) :
    Wrote S W (((V.setCell ⟨a, 0, none⟩ u).setCell ⟨a, 1, none⟩ v).setCell ⟨b, 0, none⟩ n) := ((U.set ha _ _ _).set ha _ _ _).set hb _ _ _

end Go.Proofs.YtnkhknmpffcfbaaGreat
