/-
  The statements' own first look ('alive' of stage 15's laws): it returns true; what was there stays.
-/
import Derived.Test.YtjcocmoidboamaaZKind
namespace Go.Proofs.Ytjcocmoidboamaa
open Go Go.RowKit

def abB : ByteArray := ⟨#[97, 98]⟩
def C0 : List Ce := [⟨7, 2, 0, abB⟩, ⟨9, 100, 5, ByteArray.empty⟩]
theorem C0_ok : leafOk C0 = true := by decide +kernel
theorem C0_page : (txt (leafL C0)).extract 0 10 = ⟨#[76, 2, 0, 0, 0, 7, 0, 2, 97, 98]⟩ := by decide +kernel
theorem leaf_kind {s : ByteArray} (h : isLeaf s = true) : kindV s = 76 := by
  unfold kindV
  cases e : isIdx s with
  | true => rw [((one_kind s).1 e).1] at h; cases h
  | false => rw [h]; rfl
theorem leafL_len {C : List Ce} (h : leafOk C = true) : (leafL C).length = 128 := by
  simp only [leafOk, Bool.and_eq_true, decide_eq_true_eq] at h
  exact padL_len h.2
set_option maxHeartbeats 1000000 in
theorem alive15 (w : World) : Calls Try.prog 9 #[] w fun e w' => e = .returned (.bool true) ∧ Below w.heap.size w w' := by
  obtain ⟨h1, h2⟩ := leaf_back C0_ok
  have hp := C0_page
  have hk := leaf_kind h1
  have hsz : (txt (leafL C0)).size = 128 := by rw [txt_size, leafL_len C0_ok]
  have hv : leafV C0 = txt (leafL C0) := if_pos C0_ok
  have hL : Hid (∀ W, Calls Try.prog 13 #[.slice (some ⟨W.heap.size, 0, none⟩) 2 2] (W.alloc (.cells #[.int .i64 7, .int .i64 2, .int .i64 0, .string abB, .int .i64 9, .int .i64 100, .int .i64 5, .string ByteArray.empty] 26)) fun e w' => e = .returned (.tuple #[.string (txt (leafL C0)), .bool true]) ∧ Below W.heap.size W w') := fun W => by
    have hr : (W.alloc (.cells #[.int .i64 7, .int .i64 2, .int .i64 0, .string abB, .int .i64 9, .int .i64 100, .int .i64 5, .string ByteArray.empty] 26)).ownsRow 0 26 4 (.slice (some ⟨W.heap.size, 0, none⟩) 2 2) 2 (cesV C0) := World.ownsRow_lit (base := 0) (e := 26) (size := 4) W #[.int .i64 7, .int .i64 2, .int .i64 0, .string abB, .int .i64 9, .int .i64 100, .int .i64 5, .string ByteArray.empty] 2 (by omega) (by decide) rfl
    obtain ⟨a, cap, e, hC⟩ := cells_of hr
    cases e
    have := leaf_any C0 _ 2 _ hC (by decide)
    rw [hv, C0_ok] at this
    exact this.mono fun e w' ⟨q1, q2⟩ => ⟨q1, (((Grew.refl W).alloc _ _).below).trans (q2.mono (by simp))⟩
  have hC : Hid (∀ W, Calls Try.prog 21 #[.string (txt (leafL C0))] W fun e w' => ∃ g cap, e = .returned (.tuple #[.slice (some ⟨g, 0, none⟩) 2 cap, .bool true]) ∧ w'.cell? ⟨g, 6, none⟩ = some (.int .i64 5) ∧ Below W.heap.size W w') := fun W => by
    refine (cells_any _ W (by rw [hsz]; omega)).mono fun e w' ⟨v, e1, e2, e3⟩ => ?_
    rw [h1] at e1
    rw [h2] at e2
    rcases e2.2 with ⟨_, h0⟩ | ⟨g, cap, cur, rfl, _⟩
    · cases h0
    · exact ⟨g, cap, e1, e2.cellAt 6 (by decide), e3⟩
  have hK : Hid (∀ W, Calls Try.prog 27 #[.string (txt (leafL C0))] W fun e w' => e = .returned (.int .u8 76) ∧ Below W.heap.size W w') := fun W => by
    have := kind_any _ W (by rw [hsz]; omega)
    rw [hk] at this
    exact this
  clear hv hk h1 h2
  generalize txt (leafL C0) = P at *
  have hi : (P.size : Int) = 128 := by omega
  clear hsz
  go_enter Try.func9, Try.ntmps9
  go_wp2_with (first
    | (go_at_call 13; go_fit (hL.out _); rintro e w1 ⟨rfl, B1⟩)
    | (go_at_call 21; go_fit (hC.out _); rintro e w2 ⟨g, cap, rfl, c6, B2⟩)
    | (go_at_call 27; go_fit (hK.out _); rintro e w3 ⟨rfl, B3⟩)
    | fail)
  go_ret
  exact ⟨rfl, on_three B1 B2 B3⟩
end Go.Proofs.Ytjcocmoidboamaa
