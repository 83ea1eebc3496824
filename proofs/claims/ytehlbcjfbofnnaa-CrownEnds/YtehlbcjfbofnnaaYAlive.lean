/-
  The statements' first call of chapter 14: alive; what laws say of Puts.
-/
import Derived.Test.YtehlbcjfbofnnaaYPick
namespace Go.Proofs.Ytehlbcjfbofnnaa
open Go Go.RowKit

theorem chain {w W W' : World} (B : Below w.heap.size w W) (K : Below W.heap.size W W') : Below w.heap.size w W' := B.trans (K.mono B.size)
theorem below_drewN {B : Nat} {a w : World} (h : Below B a w) (n : Nat) : Below B a (w.drewN n) := h.trans ⟨rfl, rfl, rfl, Nat.le_refl _, fun _ _ => rfl⟩
/-- Two crowns in new blocks, and a call behind them. -/
theorem boxes2 {w W1 : World} (A C : Cr) {t u : TypeId} (K : Below ((w.alloc (.cells #[.int .i64 A.g, .int .i64 A.r, .int .i64 A.p] t)).alloc (.cells #[.int .i64 C.g, .int .i64 C.r, .int .i64 C.p] u)).heap.size ((w.alloc (.cells #[.int .i64 A.g, .int .i64 A.r, .int .i64 A.p] t)).alloc (.cells #[.int .i64 C.g, .int .i64 C.r, .int .i64 C.p] u)) W1) :
    Below w.heap.size w W1 ∧ CAt W1 w.heap.size A ∧ CAt W1 (w.heap.size + 1) C ∧ w.heap.size + 1 < W1.heap.size := by
  have e : (w.alloc (.cells #[.int .i64 A.g, .int .i64 A.r, .int .i64 A.p] t)).heap.size = w.heap.size + 1 := by simp
  refine ⟨chain ((((Grew.refl w).alloc _ _).alloc _ _).below) K, ((cat_new w A t).grew ((Grew.refl _).alloc _ _)).below K, ?_, ?_⟩
  · have := (cat_new (w.alloc (.cells #[.int .i64 A.g, .int .i64 A.r, .int .i64 A.p] t)) C u).below K
    rw [e] at this
    exact this
  · have := K.size
    simp at this
    omega
theorem put_list (c : Cr) : (putB c).data.toList = putL c := rfl
theorem put_ok {c : Cr} (h : okC c = true) (w : World) : Calls Try.prog 10 #[c.val] w fun e w' => e = .returned (.tuple #[.string (putB c), .bool true]) ∧ Below w.heap.size w w' := by
  have := put_any c w
  rw [h, show putV c = putB c by unfold putV; rw [if_pos h]] at this
  exact this
theorem put_no {c : Cr} (h : okC c = false) (w : World) : Calls Try.prog 10 #[c.val] w fun e w' => e = .returned (.tuple #[.string ByteArray.empty, .bool false]) ∧ Below w.heap.size w w' := by
  have := put_any c w
  rw [h, show putV c = ByteArray.empty by unfold putV; rw [if_neg (by rw [h]; decide)]] at this
  exact this
theorem pick_puts {a b : Cr} (ha : okC a = true) (hb : okC b = true) (w : World) : Calls Try.prog 14 #[.string (putB a), .string (putB b)] w fun e w' => e = .returned (.tuple #[(if a.g < b.g then b else a).val, .int .i64 (if a.g < b.g then 1 else 0), .bool true]) ∧ Below w.heap.size w w' := by
  have h := pick_any (putB a) (putB b) w
  rw [put_list, put_list] at h
  unfold pickC pickI pickO at h
  rw [get_put ha, get_put hb, isC_put ha] at h
  exact h
set_option maxRecDepth 10000 in
theorem alive_any (w : World) : Calls Try.prog 9 #[] w fun e w' => e = .returned (.bool true) ∧ Below w.heap.size w w' := by
  have h1 : Hid (∀ W, _) := fun W => put_ok (c := ⟨3, 2, 8⟩) (by decide) W
  have h2 : Hid (∀ W, _) := fun W => put_ok (c := ⟨4, 5, 8⟩) (by decide) W
  have h3 : Hid (∀ W, _) := fun W => pick_puts (a := ⟨3, 2, 8⟩) (b := ⟨4, 5, 8⟩) (by decide) (by decide) W
  have l1 := putB_size ⟨3, 2, 8⟩
  generalize putB ⟨3, 2, 8⟩ = x at *
  generalize putB ⟨4, 5, 8⟩ = y at *
  unfold Cr.val at h1 h2 h3
  simp only [show ((3 : Int) < 4) = True from by simp, if_true] at h3
  dsimp only at h1 h2 h3
  go_enter Try.func9, Try.ntmps9
  go_wp2_with (first
    | (go_at_call 10; go_fit (h1.out _); rintro e W1 ⟨rfl, K1⟩)
    | (go_at_call 10; go_fit (h2.out _); rintro e W2 ⟨rfl, K2⟩)
    | (go_at_call 14; go_fit (h3.out _); rintro e W3 ⟨rfl, K3⟩)
    | (go_at_call 16; go_fit (slot_any 3 _); rintro e W4 ⟨rfl, rfl⟩)
    | fail)
  go_ret
  exact ⟨rfl, (chain (chain (chain (Below.refl _ _) K1) K2) K3).alloc (chain (chain (chain (Below.refl _ _) K1) K2) K3).size _⟩
theorem eq_crown (a b c p q r : Int) (w : World) : (binOp .eql 23 (.agg #[.int .i64 a, .int .i64 b, .int .i64 c]) (.agg #[.int .i64 p, .int .i64 q, .int .i64 r])).run Try.prog w = .ok (.bool (a == p && b == q && c == r)) w := by
  have hu := run_underlying Try.underlying23 w
  have hd : ∀ t x y, Op.equal t x y = Op.equalIn (9997 + 1 + 1 + 1) t x y := fun _ _ _ => rfl
  simp only [binOp, hd]
  rw [Op.equalIn]
  simp [go_sem, hu]
  by_cases h1 : a = p <;> by_cases h2 : b = q <;> by_cases h3 : c = r <;> simp [h1, h2, h3]
theorem ne_crown (a b c p q r : Int) (w : World) : (binOp .neq 23 (.agg #[.int .i64 a, .int .i64 b, .int .i64 c]) (.agg #[.int .i64 p, .int .i64 q, .int .i64 r])).run Try.prog w = .ok (.bool (!(a == p && b == q && c == r))) w := by
  have hu := run_underlying Try.underlying23 w
  have hd : ∀ t x y, Op.equal t x y = Op.equalIn (9997 + 1 + 1 + 1) t x y := fun _ _ _ => rfl
  simp only [binOp, hd]
  rw [Op.equalIn]
  simp [go_sem, hu]
  by_cases h1 : a = p <;> by_cases h2 : b = q <;> by_cases h3 : c = r <;> simp [h1, h2, h3]
theorem same_crown (a b c : Int) (w : World) : (binOp .eql 23 (.agg #[.int .i64 a, .int .i64 b, .int .i64 c]) (.agg #[.int .i64 a, .int .i64 b, .int .i64 c])).run Try.prog w = .ok (.bool true) w := by
  rw [eq_crown]; simp
theorem ne_same_crown (a b c : Int) (w : World) : (binOp .neq 23 (.agg #[.int .i64 a, .int .i64 b, .int .i64 c]) (.agg #[.int .i64 a, .int .i64 b, .int .i64 c])).run Try.prog w = .ok (.bool false) w := by
  rw [ne_crown]; simp
/-- A crown has its number at both its ends. -/
theorem put_ends (c : Cr) : ((putB c).extract 0 8) = (putB c).extract 120 128 := by
  apply ByteArray.ext
  apply Array.toList_inj.1
  simp only [ByteArray.data_extract, Array.toList_extract, List.extract_eq_take_drop, List.drop_zero, Nat.sub_zero]
  show (putL c).take 8 = ((putL c).drop 120).take 8
  rw [take_gen, drop_gen, List.take_of_length_le (by rw [digs_len]; omega)]
theorem same_bytes {a b : ByteArray} (h : a = b) : (a.toList == b.toList) = true := by rw [h]; simp
theorem byte_wf {a : Int} (h : (Lit.int .u8 a).wf = true) : ∃ n : Nat, a = n ∧ n < 256 := by
  simp [Lit.wf, IntKind.min, IntKind.max, IntKind.signed, IntKind.bits] at h
  exact ⟨a.toNat, by omega, by omega⟩
end Go.Proofs.Ytehlbcjfbofnnaa
