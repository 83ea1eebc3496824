/-
  What package real's Bytes and Read do. Nothing is claimed here.
-/
import Derived.Test.YtdmhbagibofjhabRArith
import Derived.Laws.BytesString
import Derived.Laws.Cells
namespace Go.Proofs.Ytdmhbagibofjhab
open Go.RowKit

/-- Eight bytes. -/
def mk8 (c0 c1 c2 c3 c4 c5 c6 c7 : Nat) : ByteArray := ⟨#[c0.toUInt8, c1.toUInt8, c2.toUInt8, c3.toUInt8, c4.toUInt8, c5.toUInt8, c6.toUInt8, c7.toUInt8]⟩
/-- The number that they are. -/
def val8 (c0 c1 c2 c3 c4 c5 c6 c7 : Nat) : Nat := c0 * 72057594037927936 + c1 * 281474976710656 + c2 * 1099511627776 + c3 * 4294967296 + c4 * 16777216 + c5 * 65536 + c6 * 256 + c7
def dig8 (x : Nat) : ByteArray := mk8 (x / 72057594037927936) (x / 281474976710656 % 256) (x / 1099511627776 % 256) (x / 4294967296 % 256) (x / 16777216 % 256) (x / 65536 % 256) (x / 256 % 256) (x % 256)
theorem mk8_size (c0 c1 c2 c3 c4 c5 c6 c7 : Nat) : (mk8 c0 c1 c2 c3 c4 c5 c6 c7).size = 8 := rfl
theorem mk8_of (s : ByteArray) (h : s.size = 8) : ∃ c0 c1 c2 c3 c4 c5 c6 c7, c0 < 256 ∧ c1 < 256 ∧ c2 < 256 ∧ c3 < 256 ∧ c4 < 256 ∧ c5 < 256 ∧ c6 < 256 ∧ c7 < 256 ∧ s = mk8 c0 c1 c2 c3 c4 c5 c6 c7 := by
  obtain ⟨⟨l⟩⟩ := s
  have hl : l.length = 8 := h
  match l, hl with
  | [c0, c1, c2, c3, c4, c5, c6, c7], _ =>
    refine ⟨c0.toNat, c1.toNat, c2.toNat, c3.toNat, c4.toNat, c5.toNat, c6.toNat, c7.toNat, c0.toNat_lt, c1.toNat_lt, c2.toNat_lt, c3.toNat_lt, c4.toNat_lt, c5.toNat_lt, c6.toNat_lt, c7.toNat_lt, ?_⟩
    simp [mk8]
theorem val_dig (x : Nat) : val8 (x / 72057594037927936) (x / 281474976710656 % 256) (x / 1099511627776 % 256) (x / 4294967296 % 256) (x / 16777216 % 256) (x / 65536 % 256) (x / 256 % 256) (x % 256) = x := by unfold val8; omega
theorem dig_val (c0 c1 c2 c3 c4 c5 c6 c7 : Nat) (h1 : c1 < 256) (h2 : c2 < 256) (h3 : c3 < 256) (h4 : c4 < 256) (h5 : c5 < 256) (h6 : c6 < 256) (h7 : c7 < 256) : dig8 (val8 c0 c1 c2 c3 c4 c5 c6 c7) = mk8 c0 c1 c2 c3 c4 c5 c6 c7 := by
  unfold dig8 val8
  have e0 : ((c0 * 72057594037927936 + c1 * 281474976710656 + c2 * 1099511627776 + c3 * 4294967296 + c4 * 16777216 + c5 * 65536 + c6 * 256 + c7) / 72057594037927936) = c0 := by omega
  have e1 : ((c0 * 72057594037927936 + c1 * 281474976710656 + c2 * 1099511627776 + c3 * 4294967296 + c4 * 16777216 + c5 * 65536 + c6 * 256 + c7) / 281474976710656 % 256) = c1 := by omega
  have e2 : ((c0 * 72057594037927936 + c1 * 281474976710656 + c2 * 1099511627776 + c3 * 4294967296 + c4 * 16777216 + c5 * 65536 + c6 * 256 + c7) / 1099511627776 % 256) = c2 := by omega
  have e3 : ((c0 * 72057594037927936 + c1 * 281474976710656 + c2 * 1099511627776 + c3 * 4294967296 + c4 * 16777216 + c5 * 65536 + c6 * 256 + c7) / 4294967296 % 256) = c3 := by omega
  have e4 : ((c0 * 72057594037927936 + c1 * 281474976710656 + c2 * 1099511627776 + c3 * 4294967296 + c4 * 16777216 + c5 * 65536 + c6 * 256 + c7) / 16777216 % 256) = c4 := by omega
  have e5 : ((c0 * 72057594037927936 + c1 * 281474976710656 + c2 * 1099511627776 + c3 * 4294967296 + c4 * 16777216 + c5 * 65536 + c6 * 256 + c7) / 65536 % 256) = c5 := by omega
  have e6 : ((c0 * 72057594037927936 + c1 * 281474976710656 + c2 * 1099511627776 + c3 * 4294967296 + c4 * 16777216 + c5 * 65536 + c6 * 256 + c7) / 256 % 256) = c6 := by omega
  have e7 : ((c0 * 72057594037927936 + c1 * 281474976710656 + c2 * 1099511627776 + c3 * 4294967296 + c4 * 16777216 + c5 * 65536 + c6 * 256 + c7) % 256) = c7 := by omega
  rw [e0, e1, e2, e3, e4, e5, e6, e7]
theorem val_lt (c0 c1 c2 c3 c4 c5 c6 c7 : Nat) (h0 : c0 < 256) (h1 : c1 < 256) (h2 : c2 < 256) (h3 : c3 < 256) (h4 : c4 < 256) (h5 : c5 < 256) (h6 : c6 < 256) (h7 : c7 < 256) : val8 c0 c1 c2 c3 c4 c5 c6 c7 < 18446744073709551616 := by unfold val8; omega
theorem dig_inj {x y : Nat} (h : dig8 x = dig8 y) (hx : x < 18446744073709551616) (hy : y < 18446744073709551616) : x = y := by
  have e : ∀ z, z < 18446744073709551616 → ∃ c0 c1 c2 c3 c4 c5 c6 c7, c0 < 256 ∧ c1 < 256 ∧ c2 < 256 ∧ c3 < 256 ∧ c4 < 256 ∧ c5 < 256 ∧ c6 < 256 ∧ c7 < 256 ∧ dig8 z = mk8 c0 c1 c2 c3 c4 c5 c6 c7 ∧ val8 c0 c1 c2 c3 c4 c5 c6 c7 = z := fun z _ => ⟨(z / 72057594037927936), (z / 281474976710656 % 256), (z / 1099511627776 % 256), (z / 4294967296 % 256), (z / 16777216 % 256), (z / 65536 % 256), (z / 256 % 256), (z % 256), by omega, by omega, by omega, by omega, by omega, by omega, by omega, by omega, rfl, val_dig z⟩
  obtain ⟨c0, c1, c2, c3, c4, c5, c6, c7, p0, p1, p2, p3, p4, p5, p6, p7, f1, f2⟩ := e x hx
  obtain ⟨d0, d1, d2, d3, d4, d5, d6, d7, q0, q1, q2, q3, q4, q5, q6, q7, g1, g2⟩ := e y hy
  rw [f1, g1] at h
  unfold mk8 at h
  simp only [ByteArray.mk.injEq, Array.mk.injEq, List.cons.injEq, and_true] at h
  obtain ⟨k0, k1, k2, k3, k4, k5, k6, k7⟩ := h
  have t : ∀ a b : Nat, a < 256 → b < 256 → a.toUInt8 = b.toUInt8 → a = b := by
    intro a b ha hb q
    have := congrArg UInt8.toNat q
    simp at this
    omega
  have t0 := t _ _ p0 q0 k0
  have t1 := t _ _ p1 q1 k1
  have t2 := t _ _ p2 q2 k2
  have t3 := t _ _ p3 q3 k3
  have t4 := t _ _ p4 q4 k4
  have t5 := t _ _ p5 q5 k5
  have t6 := t _ _ p6 q6 k6
  have t7 := t _ _ p7 q7 k7
  rw [← f2, ← g2]
  unfold val8; omega
theorem conv8 (w : World) (b0 b1 b2 b3 b4 b5 b6 b7 : Int) : (convert 50 9 (.slice (some ⟨w.heap.size, 0, none⟩) 8 8)).run Try.prog (w.alloc (.cells #[.int .u8 b0, .int .u8 b1, .int .u8 b2, .int .u8 b3, .int .u8 b4, .int .u8 b5, .int .u8 b6, .int .u8 b7] 49)) = .ok (.string ([b0, b1, b2, b3, b4, b5, b6, b7].foldl (fun r n => r.push (UInt8.ofNat n.toNat)) ByteArray.empty)) (w.alloc (.cells #[.int .u8 b0, .int .u8 b1, .int .u8 b2, .int .u8 b3, .int .u8 b4, .int .u8 b5, .int .u8 b6, .int .u8 b7] 49)) := by
  rw [run_convert_bytes_string _ 50 9 5 _ _ _ Try.underlying50 Try.underlying5 Try.underlying9]
  refine run_bytesToString _ _ 8 8 [b0, b1, b2, b3, b4, b5, b6, b7] ?_
  refine run_loadCells_list (w := w.alloc (.cells #[.int .u8 b0, .int .u8 b1, .int .u8 b2, .int .u8 b3, .int .u8 b4, .int .u8 b5, .int .u8 b6, .int .u8 b7] 49)) ⟨w.heap.size, 0, none⟩ [.int .u8 b0, .int .u8 b1, .int .u8 b2, .int .u8 b3, .int .u8 b4, .int .u8 b5, .int .u8 b6, .int .u8 b7] ?_
  intro j v hj
  have hjl : j < 8 := by
    apply Nat.lt_of_not_le
    intro q
    rw [List.getElem?_eq_none (by simpa using q)] at hj
    cases hj
  have cases8 : j = 0 ∨ j = 1 ∨ j = 2 ∨ j = 3 ∨ j = 4 ∨ j = 5 ∨ j = 6 ∨ j = 7 := by omega
  rcases cases8 with rfl | rfl | rfl | rfl | rfl | rfl | rfl | rfl <;> (simp at hj; subst hj; simp [go_sem, Addr.add])
theorem ret_s {a b : ByteArray} (h : a = b) : Ending.returned (.string a) = .returned (.string b) := by rw [h]
set_option maxHeartbeats 1000000 in
theorem bytes_any (x : Nat) (hx : x < 18446744073709551616) (w : World) : Calls Try.prog 11 #[.float .f64 x] w fun e w' => e = .returned (.string (dig8 x)) ∧ ∃ cs, w' = w.alloc (.cells cs 49) := by
  have h1 := fun b w => call_bits b w
  have h2 := fun w b0 b1 b2 b3 b4 b5 b6 b7 => conv8 w b0 b1 b2 b3 b4 b5 b6 b7
  go_enter Try.func11, Try.ntmps11
  go_wp2
  refine wp_loop_rounds 9 ?_
  iterate 9 (rw [rounds_succ]; go_wp2)
  go_ret
  refine ⟨ret_s ?_, _, rfl⟩
  rfl
theorem or_join (a b : Int) (ha : 0 ≤ a) (ha2 : a < 72057594037927936) (hb : 0 ≤ b) (hb2 : b < 256) : bits .or .u64 (IntKind.u64.wrap (a * 256)) b = a * 256 + b := by
  obtain ⟨A, rfl⟩ := Int.eq_ofNat_of_zero_le ha
  obtain ⟨B, rfl⟩ := Int.eq_ofNat_of_zero_le hb
  have e1 : IntKind.u64.wrap ((A : Int) * 256) = ((A * 256 : Nat) : Int) := by rw [IntKind.wrap_u64]; omega
  rw [e1, u64_or_nat _ _ (by omega) (by omega)]
  have := Nat.two_pow_add_eq_or_of_lt (i := 8) (b := B) (by omega) A
  rw [show (2 : Nat) ^ 8 = 256 by decide] at this
  rw [Nat.mul_comm A 256, ← this]
  omega
theorem or_first (b : Int) (hb : 0 ≤ b) (hb2 : b < 256) : bits .or .u64 0 b = b := by
  have := or_join 0 b (by decide) (by decide) hb hb2
  rw [Int.zero_mul, Int.zero_add] at this
  exact this
theorem ret_rd {a b : Nat} (h : a = b) : Ending.returned (.tuple #[.float .f64 a, .bool true]) = .returned (.tuple #[.float .f64 b, .bool true]) := by rw [h]
set_option maxHeartbeats 1000000 in
theorem read8_any (c0 c1 c2 c3 c4 c5 c6 c7 : Nat) (h0 : c0 < 256) (h1 : c1 < 256) (h2 : c2 < 256) (h3 : c3 < 256) (h4 : c4 < 256) (h5 : c5 < 256) (h6 : c6 < 256) (h7 : c7 < 256) (w : World) : Calls Try.prog 13 #[.string (mk8 c0 c1 c2 c3 c4 c5 c6 c7)] w fun e w' => e = .returned (.tuple #[.float .f64 (val8 c0 c1 c2 c3 c4 c5 c6 c7), .bool true]) ∧ w' = w := by
  have k1 := fun b w => call_from b w
  have hs := mk8_size c0 c1 c2 c3 c4 c5 c6 c7
  have g0 : ∀ h, ((mk8 c0 c1 c2 c3 c4 c5 c6 c7)[0]'h).toNat = c0 := fun h => by show (c0.toUInt8).toNat = c0; simp; omega
  have g1 : ∀ h, ((mk8 c0 c1 c2 c3 c4 c5 c6 c7)[1]'h).toNat = c1 := fun h => by show (c1.toUInt8).toNat = c1; simp; omega
  have g2 : ∀ h, ((mk8 c0 c1 c2 c3 c4 c5 c6 c7)[2]'h).toNat = c2 := fun h => by show (c2.toUInt8).toNat = c2; simp; omega
  have g3 : ∀ h, ((mk8 c0 c1 c2 c3 c4 c5 c6 c7)[3]'h).toNat = c3 := fun h => by show (c3.toUInt8).toNat = c3; simp; omega
  have g4 : ∀ h, ((mk8 c0 c1 c2 c3 c4 c5 c6 c7)[4]'h).toNat = c4 := fun h => by show (c4.toUInt8).toNat = c4; simp; omega
  have g5 : ∀ h, ((mk8 c0 c1 c2 c3 c4 c5 c6 c7)[5]'h).toNat = c5 := fun h => by show (c5.toUInt8).toNat = c5; simp; omega
  have g6 : ∀ h, ((mk8 c0 c1 c2 c3 c4 c5 c6 c7)[6]'h).toNat = c6 := fun h => by show (c6.toUInt8).toNat = c6; simp; omega
  have g7 : ∀ h, ((mk8 c0 c1 c2 c3 c4 c5 c6 c7)[7]'h).toNat = c7 := fun h => by show (c7.toUInt8).toNat = c7; simp; omega
  generalize mk8 c0 c1 c2 c3 c4 c5 c6 c7 = s at *
  go_enter Try.func13, Try.ntmps13
  go_wp2
  refine wp_loop_rounds 9 ?_
  iterate 9 (rw [rounds_succ]; go_wp2)
  go_ret2
  refine ⟨ret_rd ?_, rfl⟩
  unfold val8
  rw [or_first (c0 : Int) (by omega) (by omega)]
  rw [or_join ((c0 : Int)) (c1 : Int) (by omega) (by omega) (by omega) (by omega)]
  rw [or_join ((c0 : Int) * 256 + c1) (c2 : Int) (by omega) (by omega) (by omega) (by omega)]
  rw [or_join (((c0 : Int) * 256 + c1) * 256 + c2) (c3 : Int) (by omega) (by omega) (by omega) (by omega)]
  rw [or_join ((((c0 : Int) * 256 + c1) * 256 + c2) * 256 + c3) (c4 : Int) (by omega) (by omega) (by omega) (by omega)]
  rw [or_join (((((c0 : Int) * 256 + c1) * 256 + c2) * 256 + c3) * 256 + c4) (c5 : Int) (by omega) (by omega) (by omega) (by omega)]
  rw [or_join ((((((c0 : Int) * 256 + c1) * 256 + c2) * 256 + c3) * 256 + c4) * 256 + c5) (c6 : Int) (by omega) (by omega) (by omega) (by omega)]
  rw [or_join (((((((c0 : Int) * 256 + c1) * 256 + c2) * 256 + c3) * 256 + c4) * 256 + c5) * 256 + c6) (c7 : Int) (by omega) (by omega) (by omega) (by omega)]
  omega
theorem read_no (s : ByteArray) (h : ¬ s.size = 8) (w : World) : Calls Try.prog 13 #[.string s] w fun e w' => e = .returned (.tuple #[.float .f64 0, .bool false]) ∧ w' = w := by
  have h' : ¬ (s.size : Int) = 8 := by omega
  clear h
  go_enter Try.func13, Try.ntmps13
  go_wp2
  go_ret2
  exact ⟨rfl, rfl⟩
/-- What Read answers. -/
def rdV (s : ByteArray) : Nat := if s.size = 8 then val8 (s.get! 0).toNat (s.get! 1).toNat (s.get! 2).toNat (s.get! 3).toNat (s.get! 4).toNat (s.get! 5).toNat (s.get! 6).toNat (s.get! 7).toNat else 0
def rdB (s : ByteArray) : Bool := decide (s.size = 8)
theorem rdV_mk (c0 c1 c2 c3 c4 c5 c6 c7 : Nat) (h0 : c0 < 256) (h1 : c1 < 256) (h2 : c2 < 256) (h3 : c3 < 256) (h4 : c4 < 256) (h5 : c5 < 256) (h6 : c6 < 256) (h7 : c7 < 256) : rdV (mk8 c0 c1 c2 c3 c4 c5 c6 c7) = val8 c0 c1 c2 c3 c4 c5 c6 c7 := by
  unfold rdV
  rw [if_pos (mk8_size c0 c1 c2 c3 c4 c5 c6 c7)]
  have g0 : ((mk8 c0 c1 c2 c3 c4 c5 c6 c7).get! 0).toNat = c0 := by show (c0.toUInt8).toNat = c0; simp; omega
  have g1 : ((mk8 c0 c1 c2 c3 c4 c5 c6 c7).get! 1).toNat = c1 := by show (c1.toUInt8).toNat = c1; simp; omega
  have g2 : ((mk8 c0 c1 c2 c3 c4 c5 c6 c7).get! 2).toNat = c2 := by show (c2.toUInt8).toNat = c2; simp; omega
  have g3 : ((mk8 c0 c1 c2 c3 c4 c5 c6 c7).get! 3).toNat = c3 := by show (c3.toUInt8).toNat = c3; simp; omega
  have g4 : ((mk8 c0 c1 c2 c3 c4 c5 c6 c7).get! 4).toNat = c4 := by show (c4.toUInt8).toNat = c4; simp; omega
  have g5 : ((mk8 c0 c1 c2 c3 c4 c5 c6 c7).get! 5).toNat = c5 := by show (c5.toUInt8).toNat = c5; simp; omega
  have g6 : ((mk8 c0 c1 c2 c3 c4 c5 c6 c7).get! 6).toNat = c6 := by show (c6.toUInt8).toNat = c6; simp; omega
  have g7 : ((mk8 c0 c1 c2 c3 c4 c5 c6 c7).get! 7).toNat = c7 := by show (c7.toUInt8).toNat = c7; simp; omega
  rw [g0, g1, g2, g3, g4, g5, g6, g7]
theorem read_any (s : ByteArray) (w : World) : Calls Try.prog 13 #[.string s] w fun e w' => e = .returned (.tuple #[.float .f64 (rdV s), .bool (rdB s)]) ∧ w' = w := by
  by_cases h : s.size = 8
  · obtain ⟨c0, c1, c2, c3, c4, c5, c6, c7, p0, p1, p2, p3, p4, p5, p6, p7, rfl⟩ := mk8_of s h
    have := read8_any c0 c1 c2 c3 c4 c5 c6 c7 p0 p1 p2 p3 p4 p5 p6 p7 w
    rw [rdV_mk c0 c1 c2 c3 c4 c5 c6 c7 p0 p1 p2 p3 p4 p5 p6 p7]
    exact this
  · have := read_no s h w
    have e1 : rdV s = 0 := by unfold rdV; rw [if_neg h]
    have e2 : rdB s = false := by unfold rdB; simp [h]
    rw [e1, e2]
    exact this
theorem rdV_dig (x : Nat) (hx : x < 18446744073709551616) : rdV (dig8 x) = x := by
  unfold dig8
  rw [rdV_mk _ _ _ _ _ _ _ _ (by omega) (by omega) (by omega) (by omega) (by omega) (by omega) (by omega) (by omega), val_dig]
theorem rdB_dig (x : Nat) : rdB (dig8 x) = true := rfl
theorem rdV_lt (s : ByteArray) : rdV s < 18446744073709551616 := by
  by_cases h : s.size = 8
  · obtain ⟨c0, c1, c2, c3, c4, c5, c6, c7, p0, p1, p2, p3, p4, p5, p6, p7, rfl⟩ := mk8_of s h
    rw [rdV_mk c0 c1 c2 c3 c4 c5 c6 c7 p0 p1 p2 p3 p4 p5 p6 p7]
    exact val_lt c0 c1 c2 c3 c4 c5 c6 c7 p0 p1 p2 p3 p4 p5 p6 p7
  · unfold rdV; rw [if_neg h]; decide
theorem dig_at0 (x : Nat) (hx : x < 18446744073709551616) : ∀ h, ((dig8 x)[0]'h).toNat = x / 72057594037927936 := fun h => by
  show ((x / 72057594037927936).toUInt8).toNat = x / 72057594037927936
  simp; omega
theorem dig_at7 (x : Nat) : ∀ h, ((dig8 x)[7]'h).toNat = x % 256 := fun h => by
  show ((x % 256).toUInt8).toNat = x % 256
  simp
theorem dig_size (x : Nat) : (dig8 x).size = 8 := rfl
theorem dig_rdV (s : ByteArray) (h : s.size = 8) : dig8 (rdV s) = s := by
  obtain ⟨c0, c1, c2, c3, c4, c5, c6, c7, p0, p1, p2, p3, p4, p5, p6, p7, rfl⟩ := mk8_of s h
  rw [rdV_mk c0 c1 c2 c3 c4 c5 c6 c7 p0 p1 p2 p3 p4 p5 p6 p7, dig_val c0 c1 c2 c3 c4 c5 c6 c7 p1 p2 p3 p4 p5 p6 p7]
end Go.Proofs.Ytdmhbagibofjhab
