/-
  Contacts in memory; what a closure that asks one leaves; whether two contacts are the same.
-/
import Derived.Test.YtnkhknmpffcfbaaGreatHNum
import Derived.Test.YtnkhknmpffcfbaaGreatBAlive
namespace Go.Proofs.YtnkhknmpffcfbaaGreat
open Go.RowKit

/-- A contact that lies in memory. -/
structure HAt (w : World) (b : Nat) (h : Ht) : Prop where
  c0 : w.cell? ⟨b, 0, none⟩ = some (.int .i64 h.x)
  c1 : w.cell? ⟨b, 1, none⟩ = some (.int .i64 h.y)
  c2 : w.cell? ⟨b, 2, none⟩ = some (.int .i64 h.d)
theorem HAt.heap {w W : World} {b : Nat} {h : Ht} (k : HAt w b h) (g : W.heap[b]? = w.heap[b]?) : HAt W b h := by
  have e : ∀ o s, W.cell? ⟨b, o, s⟩ = w.cell? ⟨b, o, s⟩ := fun o s => cell_of_heap g
  exact ⟨(e _ _).trans k.c0, (e _ _).trans k.c1, (e _ _).trans k.c2⟩
theorem HAt.size {w : World} {b : Nat} {h : Ht} (k : HAt w b h) : b < w.heap.size := cell_block k.c0
theorem HAt.grew {w W : World} {b : Nat} {h : Ht} (k : HAt w b h) (g : Grew w W) : HAt W b h := k.heap (g.heap k.size)
theorem HAt.wrote {S : Nat → Prop} {w W : World} {b : Nat} {h : Ht} (k : HAt w b h) (g : Wrote S w W) (hb : ¬ S b) : HAt W b h := k.heap (g.block b k.size hb)
theorem hat_set (V : World) (a : Nat) (h g : Ht) (k : HAt V a h) : HAt (((V.setCell ⟨a, 0, none⟩ (.int .i64 g.x)).setCell ⟨a, 1, none⟩ (.int .i64 g.y)).setCell ⟨a, 2, none⟩ (.int .i64 g.d)) a g := by
  obtain ⟨h0, h1, h2⟩ := k
  constructor <;> simp [go_sem, h0, h1, h2]
theorem Grew.set3 {W V : World} (U : Grew W V) (S : Nat) (p q r : Value) : Wrote (fun n => n = S) W (((V.setCell ⟨S, 0, none⟩ p).setCell ⟨S, 1, none⟩ q).setCell ⟨S, 2, none⟩ r) :=
  ((U.wrote.set (S := fun n => n = S) rfl _ _ _).set (S := fun n => n = S) rfl _ _ _).set (S := fun n => n = S) rfl _ _ _
/-- A contact and a Boolean, laid into two variables. -/
theorem hit_laid (V : World) (c d : Nat) (hcd : c ≠ d) (h g : Ht) (z : Value) (t : Bool) (k : HAt V c h) (hb : V.cell? ⟨d, 0, none⟩ = some z) :
    HAt ((((V.setCell ⟨c, 0, none⟩ (.int .i64 g.x)).setCell ⟨c, 1, none⟩ (.int .i64 g.y)).setCell ⟨c, 2, none⟩ (.int .i64 g.d)).setCell ⟨d, 0, none⟩ (.bool t)) c g ∧ ((((V.setCell ⟨c, 0, none⟩ (.int .i64 g.x)).setCell ⟨c, 1, none⟩ (.int .i64 g.y)).setCell ⟨c, 2, none⟩ (.int .i64 g.d)).setCell ⟨d, 0, none⟩ (.bool t)).cell? ⟨d, 0, none⟩ = some (.bool t) := by
  have A := hat_set V c h g k
  have K := (Grew.refl V).set3 c (.int .i64 g.x) (.int .i64 g.y) (.int .i64 g.d)
  have B := K.cell hb (fun e => hcd e.symm)
  generalize ((V.setCell ⟨c, 0, none⟩ (.int .i64 g.x)).setCell ⟨c, 1, none⟩ (.int .i64 g.y)).setCell ⟨c, 2, none⟩ (.int .i64 g.d) = M at *
  have P := past_setCell d M 0 none (.bool t)
  exact ⟨⟨P.cell hcd A.c0, P.cell hcd A.c1, P.cell hcd A.c2⟩, World.cell?_setCell_same _ _ _ B⟩
theorem wrote_hit {S : Nat → Prop} {W V : World} (U : Wrote S W V) {c d : Nat} (hc : S c) (hd : S d) (p q r t : Value) :
    Wrote S W ((((V.setCell ⟨c, 0, none⟩ p).setCell ⟨c, 1, none⟩ q).setCell ⟨c, 2, none⟩ r).setCell ⟨d, 0, none⟩ t) := (((U.set hc _ _ _).set hc _ _ _).set hc _ _ _).set hd _ _ _
/-- What a closure that asks a contact leaves: the error, and the contact where there is none. -/
def LeftH (c d : Nat) (t : (Ht × Bool) × Int) (k : Int) (W : World) : Prop := k = t.2 ∧ (k = 0 → HAt W c t.1.1 ∧ W.cell? ⟨d, 0, none⟩ = some (.bool t.1.2))
theorem LeftH.keep {c d n : Nat} {t : (Ht × Bool) × Int} (hc : c < n) (hd : d < n) : ∀ k W W', (∀ i, i < n → W'.heap[i]? = W.heap[i]?) → LeftH c d t k W → LeftH c d t k W' :=
  fun _ _ _ hh h => ⟨h.1, fun hk => ⟨(h.2 hk).1.heap (hh c hc), by rw [cell_of_heap (hh d hd)]; exact (h.2 hk).2⟩⟩

theorem eq_hit (a b c p q r : Int) (w : World) : (binOp .eql 47 (.agg #[.int .i64 a, .int .i64 b, .int .i64 c]) (.agg #[.int .i64 p, .int .i64 q, .int .i64 r])).run Tryz.prog w = .ok (.bool ((a == p && b == q) && c == r)) w := by
  have hu := run_underlying Tryz.underlying47 w
  have hd : ∀ t x y, Op.equal t x y = Op.equalIn (9997 + 1 + 1 + 1) t x y := fun _ _ _ => rfl
  simp only [binOp, hd]
  rw [Op.equalIn]
  simp [go_sem, hu]
  by_cases h1 : a = p <;> by_cases h2 : b = q <;> by_cases h3 : c = r <;> simp [h1, h2, h3]
theorem ne_hit (a b c p q r : Int) (w : World) : (binOp .neq 47 (.agg #[.int .i64 a, .int .i64 b, .int .i64 c]) (.agg #[.int .i64 p, .int .i64 q, .int .i64 r])).run Tryz.prog w = .ok (.bool (!((a == p && b == q) && c == r))) w := by
  have hu := run_underlying Tryz.underlying47 w
  have hd : ∀ t x y, Op.equal t x y = Op.equalIn (9997 + 1 + 1 + 1) t x y := fun _ _ _ => rfl
  simp only [binOp, hd]
  rw [Op.equalIn]
  simp [go_sem, hu]
  by_cases h1 : a = p <;> by_cases h2 : b = q <;> by_cases h3 : c = r <;> simp [h1, h2, h3]
theorem same_hit (a b c : Int) (w : World) : (binOp .eql 47 (.agg #[.int .i64 a, .int .i64 b, .int .i64 c]) (.agg #[.int .i64 a, .int .i64 b, .int .i64 c])).run Tryz.prog w = .ok (.bool true) w := by rw [eq_hit]; simp
theorem ne_same_hit (a b c : Int) (w : World) : (binOp .neq 47 (.agg #[.int .i64 a, .int .i64 b, .int .i64 c]) (.agg #[.int .i64 a, .int .i64 b, .int .i64 c])).run Tryz.prog w = .ok (.bool false) w := by rw [ne_hit]; simp

end Go.Proofs.YtnkhknmpffcfbaaGreat
