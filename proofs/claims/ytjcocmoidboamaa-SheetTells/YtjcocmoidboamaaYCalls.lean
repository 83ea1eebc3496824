/-
  What package crown's number and big do, and the document's own Of and Big.
-/
import Derived.Test.YtjcocmoidboamaaYNum
import Derived.Test.YtjcocmoidboamaaTCalls
import Derived.Laws.BitsAllLaws
import Derived.Deep.OwnRows
namespace Go.Proofs.Ytjcocmoidboamaa
open Go Go.RowKit

theorem ofInt_wrap (x : Int) : BitVec.ofInt 64 (wrap64 x) = BitVec.ofInt 64 x := by
  apply BitVec.eq_of_toNat_eq
  rw [BitVec.toNat_ofInt, BitVec.toNat_ofInt]
  unfold wrap64
  congr 1
  omega
theorem or_byte (x b : Int) (h0 : 0 ≤ b) (h1 : b < 256) : bits .or .i64 (wrap64 (x * 256)) b = wrap64 (x * 256 + b) := by
  obtain ⟨B, rfl⟩ := Int.eq_ofNat_of_zero_le h0
  have e : IntKind.i64.wrap ((BitVec.ofInt 64 (wrap64 (x * 256)) ||| BitVec.ofInt 64 (B : Int)).toNat : Int) = wrap64 (x * 256 + B) := by
    rw [ofInt_wrap, BitVec.toNat_or, BitVec.toNat_ofInt, BitVec.toNat_ofInt]
    have eb : ((B : Int) % ((2 ^ 64 : Nat) : Int)).toNat = B := by omega
    obtain ⟨M, hM⟩ : ∃ M : Nat, (x * 256 % ((2 ^ 64 : Nat) : Int)).toNat = 256 * M := ⟨(x * 256 % ((2 ^ 64 : Nat) : Int)).toNat / 256, by omega⟩
    rw [eb, hM]
    have := Nat.two_pow_add_eq_or_of_lt (i := 8) (b := B) (by omega) M
    rw [show (2 : Nat) ^ 8 = 256 by decide] at this
    rw [← this]
    rw [IntKind.wrap_i64]
    unfold wrap64
    omega
  exact e
theorem valL_take (l : List UInt8) (k : Nat) (h : k < l.length) : valL (l.take (k + 1)) = valL (l.take k) * 256 + (l[k]).toNat := by
  rw [List.take_succ_eq_append_getElem h, valL_snoc]
theorem byte_list (s : ByteArray) {k : Nat} (h : k < s.size) : s[k] = s.data.toList[k]'(by rw [Array.length_toList]; exact h) := rfl
theorem or_step (n : Nat) (b : UInt8) : bits .or .i64 (wrap64 (wrap64 n * 256)) (wrap64 b.toNat) = wrap64 ((n * 256 + b.toNat : Nat) : Int) := by
  have := b.toNat_lt
  have e : wrap64 (wrap64 n * 256) = wrap64 ((n : Int) * 256) := by unfold wrap64; omega
  have e2 : wrap64 b.toNat = b.toNat := by unfold wrap64; omega
  rw [e, e2, or_byte _ _ (by omega) (by omega), Int.natCast_add, Int.natCast_mul]
  rfl
theorem meas_up {k n : Nat} (h : k < n) : n - (intOf (Value.int .i64 ((k : Int) + 1))).toNat < n - (intOf (Value.int .i64 (k : Int))).toNat := by
  simp only [intOf]
  omega
theorem of_any (s : ByteArray) (w : World) (hs : s.size < 9223372036854775807) : Calls Try.prog 41 #[.string s] w fun e w' => e = .returned (.int .i64 (numR s)) ∧ w' = w := by
  have hl : s.data.toList.length = s.size := Array.length_toList ..
  go_enter Try.func41, Try.ntmps41
  go_wp2
  go_loopw [3, 4] (fun n i wr => ∃ k : Nat, k ≤ s.size ∧ i = .int .i64 k ∧ n = .int .i64 (wrap64 (valL (s.data.toList.take k))) ∧ wr = w) (fun _ i _ => s.size - (intOf i).toNat)
  case atStart => exact ⟨0, by omega, rfl, by simp [valL, wrap64], rfl⟩
  case round =>
    obtain ⟨k, hk, rfl, rfl, rfl⟩ := hrel
    by_cases hlt : k < s.size
    · have hi : (k : Int) < s.size := by omega
      have e := (valL_take s.data.toList k (by omega)).symm
      rw [← byte_list s hlt] at e
      have hw : wrap64 ((k : Int) + 1) = k + 1 := IntWalk.wrap64_in _ ⟨by omega, by omega⟩
      go_wp2
      refine ⟨⟨k + 1, by omega, by simp, congrArg (Value.int .i64) ?_, trivial⟩, ?_⟩
      · rw [← e]
        exact or_step _ _
      · exact meas_up hlt
    · have hi : ¬ (k : Int) < s.size := by omega
      go_wp2
      go_ret
      refine ⟨?_, rfl⟩
      rw [List.take_of_length_le (by omega)]
      rfl
/-! ### A number in bytes -/
theorem shr_any (v n k : Nat) (hk : k < n) : (digs v n)[k]? = some (UInt8.ofNat (v / 256 ^ (n - 1 - k))) := by
  induction n generalizing v k with
  | zero => omega
  | succ n ih =>
    rw [digs]
    by_cases e : k = n
    · subst e
      rw [List.getElem?_append_right (by rw [digs_len]; omega), digs_len]
      simp
    · rw [List.getElem?_append_left (by rw [digs_len]; omega), ih (v / 256) k (by omega), Nat.div_div_eq_div_mul, ← Nat.pow_add_one', show n + 1 - 1 - k = n - 1 - k + 1 by omega]
def u8V (l : List UInt8) : List Value := l.map fun c => .int .u8 c.toNat
theorem row_up (D : List UInt8) (k : Nat) (h : k < D.length) :
    (u8V (D.take k) ++ List.replicate (D.length - k) (Value.int .u8 0)).set k (.int .u8 (D[k]).toNat) = u8V (D.take (k + 1)) ++ List.replicate (D.length - (k + 1)) (Value.int .u8 0) := by
  have e : D.length - k = (D.length - (k + 1)) + 1 := by omega
  have hl : (u8V (D.take k)).length = k := by simp [u8V]; omega
  rw [e, List.replicate_succ, List.set_append_right _ _ (by omega), hl, Nat.sub_self, List.set_cons_zero, List.take_succ_eq_append_getElem h]
  simp only [u8V, List.map_append, List.map_cons, List.map_nil, List.append_assoc, List.singleton_append]
theorem row_down (D : List UInt8) (k : Nat) (h : k < D.length) :
    (List.replicate (k + 1) (Value.int .u8 0) ++ u8V (D.drop (k + 1))).set k (.int .u8 (D[k]).toNat) = List.replicate k (.int .u8 0) ++ u8V (D.drop k) := by
  rw [List.replicate_succ', List.append_assoc, List.set_append_right _ _ (by simp), List.length_replicate, Nat.sub_self]
  rw [List.drop_eq_getElem_cons h]
  simp only [u8V, List.map_cons, List.singleton_append, List.set_cons_zero]
/-- A row of bytes of one's own, as a string. -/
theorem conv_own {w : World} {B g n cap : Nat} {D : List UInt8} (h : w.ownsRow B 5 1 (.slice (some ⟨g, 0, none⟩) n cap) n (u8V D)) (hn : D.length = n) :
    (convert 53 9 (.slice (some ⟨g, 0, none⟩) n cap)).run Try.prog w = .ok (.string ⟨D.toArray⟩) w := by
  have e : strOfNums (D.map fun c => (c.toNat : Int)) = ⟨D.toArray⟩ := strOf_page ⟨D.toArray⟩
  rw [← e]
  refine run_convert_bytes_arg _ _ _ Try.underlying53 Try.underlying5 g 0 n cap _ (by simpa using hn) (fun i hi => ?_) _ Try.underlying9
  rw [h.cellAt (0 + i) (by omega), Nat.zero_add]
  have hi' : i < D.length := by omega
  simp [u8V, hi']
theorem shr_in (v k n : Nat) (hv : k < n) (D : List UInt8) (hD : D = digs v n) (h : k < D.length) : (v : Int) / 2 ^ (8 * (n - 1 - k)) % 256 = ((D[k]'h).toNat : Int) := by
  have e := shr_any v n k hv
  rw [← hD, List.getElem?_eq_getElem h] at e
  have e2 : (2 : Int) ^ (8 * (n - 1 - k)) = ((256 ^ (n - 1 - k) : Nat) : Int) := by rw [Int.natCast_pow, Int.pow_mul]; rfl
  rw [Option.some.inj e, e2, UInt8.toNat_ofNat']
  omega
theorem digs_get (v k n : Nat) (hk : k < n) (D : List UInt8) (hD : D = digs v n) (h : k < D.length) : ((D[k]'h).toNat : Int) = ((v / 256 ^ (n - (k + 1)) : Nat) : Int) % 256 := by
  have e := shr_any v n k hk
  rw [← hD, List.getElem?_eq_getElem h] at e
  rw [Option.some.inj e, UInt8.toNat_ofNat', show n - 1 - k = n - (k + 1) by omega]
  omega
theorem and_byte (y : Nat) (hy : y < 9223372036854775808) : bits .and .i64 (y : Int) 255 % 256 = (y : Int) % 256 := by
  have e : IntKind.i64.wrap ((BitVec.ofInt 64 (y : Int) &&& BitVec.ofInt 64 255).toNat : Int) = (y : Int) % 256 := by
    have e1 : (BitVec.ofInt 64 (y : Int)).toNat = y := by rw [BitVec.toNat_ofInt]; omega
    have e2 : (BitVec.ofInt 64 255).toNat = 2 ^ 8 - 1 := by rw [BitVec.toNat_ofInt]; rfl
    rw [BitVec.toNat_and, e1, e2, Nat.and_two_pow_sub_one_eq_mod, IntKind.wrap_i64]
    omega
  have e' : bits .and .i64 (y : Int) 255 = (y : Int) % 256 := e
  rw [e']
  omega
theorem refbig_any (v n : Nat) (hv : v < 9223372036854775808) (hn : n ≤ 8) (w : World) : Calls Try.prog 33 #[.int .i64 v, .int .i64 n] w fun e w' => e = .returned (.string (bigB v n)) ∧ Grew w w' := by
  have hmk := run_make_row' (P := Try.prog) 53 5 (.int .u8 0) 1 Try.underlying53 (by kernel_rfl) rfl .i64 .i64 n (by omega) (by omega)
  obtain ⟨b, hb⟩ : ∃ b, b = w.heap.size := ⟨_, rfl⟩
  obtain ⟨D, hD⟩ : ∃ D, D = digs v n := ⟨_, rfl⟩
  have hl : D.length = n := by rw [hD]; exact digs_len n v
  have h0 : (w.alloc (.cells (madeCells #[Value.int .u8 0] n) 5)).ownsRow b 5 1 (.slice (some ⟨b, 0, none⟩) n n) n (List.replicate n (Value.int .u8 0) ++ u8V (D.drop n)) := by
    have := World.ownsRow_lit (e := 5) (base := b) (size := 1) w (madeCells #[Value.int .u8 0] n) n (by omega) (by have : maxLen = 9223372036854775807 := rfl; omega) (by rw [size_madeCells, Nat.mul_one])
    rw [toList_madeCells_one, ← hb] at this
    rw [List.drop_of_length_le (by omega)]
    simpa [u8V] using this
  go_enter Try.func33, Try.ntmps33
  go_wp2
  rw [← hb]
  have hG0 : Grew w (w.alloc (.cells (madeCells #[Value.int .u8 0] n) 5)) := (Grew.refl w).alloc _ _
  generalize w.alloc (.cells (madeCells #[Value.int .u8 0] n) 5) = W0 at *
  replace hb : Hid (w.heap.size ≤ b) := Nat.le_of_eq hb.symm
  replace hD : Hid (D = digs v n) := hD
  go_loopw [0, 6] (fun x i wr => ∃ k : Nat, k ≤ n ∧ i = .int .i64 ((k : Int) - 1) ∧ x = .int .i64 ((v / 256 ^ (n - k) : Nat) : Int) ∧ Grew w wr ∧ wr.ownsRow b 5 1 (.slice (some ⟨b, 0, none⟩) n n) n (List.replicate k (Value.int .u8 0) ++ u8V (D.drop k))) (fun _ i _ => ((intOf i) + 1).toNat)
  case atStart => exact ⟨n, by omega, rfl, by simp, hG0, h0⟩
  case round =>
    obtain ⟨k', hk, rfl, rfl, hG, hr⟩ := hrel
    cases k' with
    | succ k =>
      have ek : ((k + 1 : Nat) : Int) - 1 = k := by omega
      rw [ek]
      have c0 : wr.cell? ⟨b, k, none⟩ = some (.int .u8 0) := by
        rw [hr.cellAt k (by omega), List.getElem?_append_left (by simp), List.getElem?_replicate, if_pos (by omega)]
      have z0 : wr.frozen? ⟨b, k, none⟩ = false := hr.frozenAt k
      have hk' : (k : Int) < n := by omega
      have hd := digs_get v k n (by omega) D hD.out (by omega)
      have hq : v / 256 ^ (n - k) = v / 256 ^ (n - (k + 1)) / 256 := by rw [Nat.div_div_eq_div_mul, ← Nat.pow_succ, show (n - (k + 1)).succ = n - k by omega]
      have hx : v / 256 ^ (n - (k + 1)) < 9223372036854775808 := Nat.lt_of_le_of_lt (Nat.div_le_self _ _) hv
      replace hq : Hid (v / 256 ^ (n - k) = v / 256 ^ (n - (k + 1)) / 256) := hq
      generalize v / 256 ^ (n - (k + 1)) = y at *
      replace hd : Hid (((D[k]'(by omega)).toNat : Int) = (y : Int) % 256) := hd
      go_wp2
      refine ⟨⟨k, by omega, rfl, by rw [hq.out]; simp, hG.setCell hb.out _, ?_⟩, by simp only [intOf]; omega⟩
      rw [and_byte y hx, ← hd.out, ← row_down D k (by omega)]
      exact (hr.stored k _).1
    | zero =>
      have ek : ((0 : Nat) : Int) - 1 = -1 := by omega
      rw [ek]
      rw [List.replicate_zero, List.nil_append, List.drop_zero] at hr
      have hc := conv_own hr hl
      go_wp2
      go_ret
      exact ⟨by rw [hD.out]; rfl, hG⟩
end Go.Proofs.Ytjcocmoidboamaa
