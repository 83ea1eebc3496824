/-
  The document's own reckoner (maquetteref1's Calc) with whatever error so far: what Add, Sub, Mul answer, and the error behind them. Err: the reckoner's error lies at b, off.
-/
import Derived.Test.YtcoooehcgbohgaaGreatPxRefCalc
import Derived.Test.YtcoooehcgbohgaaGreatPk02
namespace Go.Proofs.YtcoooehcgbohgaaGreat
open Go.RowKit

/-- The error k lies at b, off. -/
def Err (w : World) (b off : Nat) (k : Int) : Prop := w.cell? ⟨b, off, none⟩ = some (.int .i64 k) ∧ w.frozen? ⟨b, off, none⟩ = false
theorem Err.grew {w w' : World} {b off : Nat} {k : Int} (h : Err w b off k) (g : Grew w w') : Err w' b off k := ⟨g.cell h.1, g.frozen h.2⟩
theorem Err.set {w : World} {b off : Nat} {k : Int} (h : Err w b off k) (l : Int) : Err (w.setCell ⟨b, off, none⟩ (.int .i64 l)) b off l :=
  ⟨World.cell?_setCell_same _ _ _ h.1, by rw [World.frozen?_setCell]; exact h.2⟩
/-- A reckoning that is not done where there is an error already. -/
def ifK (k : Int) (r : Int × Int) : Int × Int := if k = 0 then r else (0, k)
theorem ifK_ok (r : Int × Int) : ifK 0 r = r := rfl
theorem ifK_no {k : Int} (h : k ≠ 0) (r : Int × Int) : ifK k r = (0, k) := by unfold ifK; rw [if_neg h]

set_option maxHeartbeats 400000 in
theorem radd_k (b off : Nat) (k x y : Int) (w : World) (hx : inF x) (hy : inF y) (h : Err w b off k) :
    Calls Tryz.prog 15 #[.pointer (some ⟨b, off, none⟩), .int .i64 x, .int .i64 y] w fun e w' => e = .returned (.int .i64 (ifK k (addR x y)).1) ∧ Err w' b off (ifK k (addR x y)).2 ∧ Past b w w' := by
  by_cases hk : k = 0
  · subst hk
    exact (radd_any b off x y w hx hy h.1 h.2).mono fun e w' ⟨he, hw⟩ => ⟨he, by rw [hw]; exact h.set _, by rw [hw]; exact past_setCell _ _ _ _ _⟩
  · rw [ifK_no hk]
    have hz : (k == 0) = false := by simpa using hk
    have hc := h.1; have hf := h.2
    have H : Hid (Err w b off k) := h
    clear h
    go_enter Tryz.func15, Tryz.ntmps15
    go_wp2
    go_ret
    exact ⟨rfl, H.out, Past.refl _ _⟩
set_option maxHeartbeats 400000 in
theorem rsub_k (b off : Nat) (k x y : Int) (w : World) (hx : inF x) (hy : inF y) (h : Err w b off k) :
    Calls Tryz.prog 16 #[.pointer (some ⟨b, off, none⟩), .int .i64 x, .int .i64 y] w fun e w' => e = .returned (.int .i64 (ifK k (subR x y)).1) ∧ Err w' b off (ifK k (subR x y)).2 ∧ Past b w w' := by
  by_cases hk : k = 0
  · subst hk
    exact (rsub_any b off x y w hx hy h.1 h.2).mono fun e w' ⟨he, hw⟩ => ⟨he, by rw [hw]; exact h.set _, by rw [hw]; exact past_setCell _ _ _ _ _⟩
  · rw [ifK_no hk]
    have hz : (k == 0) = false := by simpa using hk
    have hc := h.1; have hf := h.2
    have H : Hid (Err w b off k) := h
    clear h
    go_enter Tryz.func16, Tryz.ntmps16
    go_wp2
    go_ret
    exact ⟨rfl, H.out, Past.refl _ _⟩
end Go.Proofs.YtcoooehcgbohgaaGreat
