/-
  What the document's own reckoner (maquetteref1's Calc) does in Add, Sub, Mul: with no error so far it returns what the plain function says and keeps its error; the rest of the world is as it was.
-/
import Derived.Test.YtcoooehcgbohgaaGreatPxRefBase
namespace Go.Proofs.YtcoooehcgbohgaaGreat
open Go.RowKit

set_option maxHeartbeats 400000 in
theorem radd_any (b off : Nat) (x y : Int) (w : World) (hx : inF x) (hy : inF y) (hc : w.cell? ⟨b, off, none⟩ = some (.int .i64 0)) (hf : w.frozen? ⟨b, off, none⟩ = false) :
    Calls Tryz.prog 15 #[.pointer (some ⟨b, off, none⟩), .int .i64 x, .int .i64 y] w fun e w' => e = .returned (.int .i64 (addR x y).1) ∧ w' = w.setCell ⟨b, off, none⟩ (.int .i64 (addR x y).2) := by
  have hid := setCell_id w b off _ hc
  unfold inF at hx hy
  rcases inR_cases (x + y) with ⟨h, h2⟩ | ⟨h, h2⟩
  · rw [show addR x y = (x + y, 0) from h]; clear h
    rw [hid]; clear hid
    by_cases g1 : 0 < y
    · go_enter Tryz.func15, Tryz.ntmps15
      go_wp2
      go_ret
      exact ⟨rfl, rfl⟩
    · by_cases g2 : y < 0
      · go_enter Tryz.func15, Tryz.ntmps15
        go_wp2
        go_ret
        exact ⟨rfl, rfl⟩
      · go_enter Tryz.func15, Tryz.ntmps15
        go_wp2
        go_ret
        exact ⟨rfl, rfl⟩
  · rw [show addR x y = (0, 3) from h]; clear h hid
    by_cases g1 : 0 < y
    · have g2 : 9223372036854775807 - y < x := by omega
      clear h2
      go_enter Tryz.func15, Tryz.ntmps15
      go_wp2_with (go_at_call 32; refine (fail_any b off 3 _ hc hf).mono ?_; rintro e w' ⟨rfl, rfl⟩)
      go_ret
      exact ⟨rfl, rfl⟩
    · have g2 : y < 0 := by omega
      have g3 : x < -9223372036854775808 - y := by omega
      clear h2
      go_enter Tryz.func15, Tryz.ntmps15
      go_wp2_with (go_at_call 32; refine (fail_any b off 3 _ hc hf).mono ?_; rintro e w' ⟨rfl, rfl⟩)
      go_ret
      exact ⟨rfl, rfl⟩
set_option maxHeartbeats 400000 in
theorem rsub_any (b off : Nat) (x y : Int) (w : World) (hx : inF x) (hy : inF y) (hc : w.cell? ⟨b, off, none⟩ = some (.int .i64 0)) (hf : w.frozen? ⟨b, off, none⟩ = false) :
    Calls Tryz.prog 16 #[.pointer (some ⟨b, off, none⟩), .int .i64 x, .int .i64 y] w fun e w' => e = .returned (.int .i64 (subR x y).1) ∧ w' = w.setCell ⟨b, off, none⟩ (.int .i64 (subR x y).2) := by
  have hid := setCell_id w b off _ hc
  unfold inF at hx hy
  rcases inR_cases (x - y) with ⟨h, h2⟩ | ⟨h, h2⟩
  · rw [show subR x y = (x - y, 0) from h]; clear h
    rw [hid]; clear hid
    by_cases g1 : y < 0
    · go_enter Tryz.func16, Tryz.ntmps16
      go_wp2
      go_ret
      exact ⟨rfl, rfl⟩
    · by_cases g2 : 0 < y
      · go_enter Tryz.func16, Tryz.ntmps16
        go_wp2
        go_ret
        exact ⟨rfl, rfl⟩
      · go_enter Tryz.func16, Tryz.ntmps16
        go_wp2
        go_ret
        exact ⟨rfl, rfl⟩
  · rw [show subR x y = (0, 3) from h]; clear h hid
    by_cases g1 : y < 0
    · have g2 : 9223372036854775807 + y < x := by omega
      clear h2
      go_enter Tryz.func16, Tryz.ntmps16
      go_wp2_with (go_at_call 32; refine (fail_any b off 3 _ hc hf).mono ?_; rintro e w' ⟨rfl, rfl⟩)
      go_ret
      exact ⟨rfl, rfl⟩
    · have g2 : 0 < y := by omega
      have g3 : x < -9223372036854775808 + y := by omega
      clear h2
      go_enter Tryz.func16, Tryz.ntmps16
      go_wp2_with (go_at_call 32; refine (fail_any b off 3 _ hc hf).mono ?_; rintro e w' ⟨rfl, rfl⟩)
      go_ret
      exact ⟨rfl, rfl⟩
end Go.Proofs.YtcoooehcgbohgaaGreat
