/-
  The document's own Slots: a page's slots, as a new list.
-/
import Derived.Test.YtjcocmoidboamaaZIdx
import Derived.Test.YtjcocmoidboamaaUApp
import Derived.Test.YtjcocmoidboamaaTMem
namespace Go.Proofs.Ytjcocmoidboamaa
open Go Go.RowKit

def slV (s : Sl) : List Value := [.int .i64 s.key, .int .i64 s.page]
def slsV (S : List Sl) : List Value := S.flatMap slV
theorem pair_at (w : World) (A B : Value) (t : TypeId) (j : Nat) (u : Value) (hj : [A, B][j]? = some u) : (w.alloc (.cells #[A, B] t)).drew.cell? ⟨w.heap.size, 0 + j, none⟩ = some u := by
  show (w.alloc (.cells #[A, B] t)).cell? ⟨w.heap.size, 0 + j, none⟩ = some u
  rw [cell_of_row _ _ _ _ _ _ (heap_alloc_new _ _), Nat.zero_add]
  rw [← hj, List.getElem?_toArray]
theorem sls_more (S : List Sl) (s : Sl) : slsV (S ++ [s]) = slsV S ++ slV s := by simp [slsV]
theorem own_base2 {w : World} {B n k : Nat} {E : TypeId} {v : Value} {xs : List Value} (h : w.ownsRow B E k v n xs) : ∀ i, v.ownBlock = some i → B ≤ i := by
  intro i e
  rcases h.2 with ⟨q, _⟩ | ⟨g, c, cur, q, hb, _⟩
  · rw [q] at e; cases e
  · rw [q] at e
    obtain rfl : g = i := by simpa [Value.ownBlock] using e
    exact hb
/-- The k-th slot of a page. -/
def slAt (s : ByteArray) (k : Nat) : Sl := ⟨numR (s.extract (2 + 6 * k) (6 + 6 * k)), numR (s.extract (6 + 6 * k) (8 + 6 * k))⟩
def rawS (s : ByteArray) (n : Nat) : List Sl := (List.range n).map (slAt s)
theorem rawS_up (s : ByteArray) (n : Nat) : rawS s (n + 1) = rawS s n ++ [slAt s n] := by simp [rawS, List.range_succ]
theorem rawS_len (s : ByteArray) (n : Nat) : (rawS s n).length = n := by simp [rawS]
def cntS (s : ByteArray) : Nat := valL ((s.data.toList.drop 1).take 1)
def isIdx (s : ByteArray) : Bool := decide (s.size = 128) && (s.data.toList.take 1 == [73]) && decide (cntS s ≤ 21) && (idxOk (rawS s (cntS s)) && decide (txt (idxL (rawS s (cntS s))) = s))
def idxS (s : ByteArray) : List Sl := if isIdx s then rawS s (cntS s) else []
theorem slots_of {w : World} {B n : Nat} {E : TypeId} {v : Value} {S : List Sl} (h : w.ownsRow B E 2 v n (slsV S)) : ∃ a cap, v = .slice a n cap ∧ SlotsAt w a S := by
  rcases h.2 with ⟨rfl, h0⟩ | ⟨g, cap, cur, rfl, _⟩
  · refine ⟨none, 0, by rw [h0], .inl ?_⟩
    have := h.1
    rw [h0] at this
    cases S with
    | nil => rfl
    | cons s S => simp [slsV, slV] at this
  · refine ⟨_, cap, rfl, .inr ⟨g, 0, rfl, fun i hi => ?_⟩⟩
    have hl : ∀ S : List Sl, (slsV S).length = S.length * 2 := fun S => by
      induction S with
      | nil => rfl
      | cons s S ih => simp [slsV, slV] at ih ⊢; omega
    have hn : S.length = n := by have := h.1; rw [hl] at this; omega
    have e : S.getD i ⟨0, 0⟩ = S[i] := by simp [List.getD, hi]
    have at2 : ∀ (S : List Sl) (i : Nat) (hi : i < S.length), (slsV S)[i * 2]? = some (.int .i64 (S[i]).key) ∧ (slsV S)[i * 2 + 1]? = some (.int .i64 (S[i]).page) := by
      intro S
      induction S with
      | nil => intro i hi; simp at hi
      | cons s S ih =>
        intro i hi
        cases i with
        | zero => exact ⟨rfl, rfl⟩
        | succ i =>
          have := ih i (by simpa using hi)
          rw [show (i + 1) * 2 = i * 2 + 1 + 1 by omega]
          exact this
    obtain ⟨q1, q2⟩ := at2 S i hi
    rw [e]
    exact ⟨by rw [Nat.zero_add, h.cellAt _ (by omega)]; exact q1, by rw [Nat.zero_add, h.cellAt _ (by omega)]; exact q2⟩
theorem idx_cases (s : ByteArray) (h : s.size = 128) : ∃ c0 c1 : Nat, (∀ h, (s[0]'h).toNat = c0) ∧ (∀ h, (s[1]'h).toNat = c1) ∧ c0 < 256 ∧ c1 < 256 ∧ cntS s = c1 ∧ isIdx s = (decide (c0 = 73) && decide (c1 ≤ 21) && (idxOk (rawS s c1) && decide (txt (idxL (rawS s c1)) = s))) := by
  have h0 := (s[0]'(by omega)).toNat_lt
  have h1 := (s[1]'(by omega)).toNat_lt
  have e1 : cntS s = (s[1]'(by omega)).toNat := by rw [cntS, at_take (by omega), val_one]
  have e0 : s.data.toList.take 1 = [s[0]'(by omega)] := by have := at_take (s := s) (i := 0) (by omega); rwa [List.drop_zero] at this
  refine ⟨(s[0]'(by omega)).toNat, (s[1]'(by omega)).toNat, fun _ => rfl, fun _ => rfl, h0, h1, e1, ?_⟩
  have hd : decide (s.size = 128) = true := by simp [h]
  unfold isIdx
  rw [hd, e1, e0]
  have q1 : (([s[0]'(by omega)] : List UInt8) == [73]) = decide ((s[0]'(by omega)).toNat = 73) := by
    rw [Bool.eq_iff_iff]
    simp only [beq_iff_eq, List.cons.injEq, and_true, decide_eq_true_eq]
    constructor
    · intro e; rw [e]; rfl
    · intro e; exact UInt8.toNat_inj.1 e
  rw [q1]
  simp
theorem isIdx_len {s : ByteArray} (h : ¬ s.size = 128) : isIdx s = false := by
  unfold isIdx
  simp [h]
theorem info_slot : ∃ (i : TypeInfo) (z : Value), (Try.prog).info? 66 = some i ∧ i.zero = some z ∧ z.cells.size = 2 ∧ i.size = 2 ∧ i.bytes = 16 := ⟨_, _, rfl, rfl, rfl, rfl, rfl⟩
def SlotsBack (w : World) (s : ByteArray) (e : Ending) (w' : World) : Prop := ∃ v, e = .returned (.tuple #[v, .bool (isIdx s)]) ∧ w'.ownsRow w.heap.size 66 2 v (idxS s).length (slsV (idxS s)) ∧ Below w.heap.size w w'
theorem slots_none {w w' : World} {s : ByteArray} (h : isIdx s = false) (B : Below w.heap.size w w') : SlotsBack w s (.returned (.tuple #[.slice none 0 0, .bool false])) w' := by
  refine ⟨_, by rw [h], ?_, B⟩
  unfold idxS
  rw [h, if_neg (by decide)]
  exact World.ownsRow_nil _ _ _ _
set_option maxRecDepth 10000 in
set_option maxHeartbeats 4000000 in
theorem refslots_any (s : ByteArray) (w : World) : Calls Try.prog 20 #[.string s] w fun e w' => SlotsBack w s e w' := by
  by_cases h : s.size = 128
  · obtain ⟨c0, n, g0, g1, l0, l1, eC, eI⟩ := idx_cases s h
    have hi : (s.size : Int) = 128 := by omega
    by_cases n0 : c0 = 73
    · by_cases n1 : 21 < n
      · have e : isIdx s = false := by rw [eI]; simp; omega
        have hE : Hid (∀ w', Below w.heap.size w w' → SlotsBack w s (.returned (.tuple #[.slice none 0 0, .bool false])) w') := fun w' B => slots_none e B
        clear e eC eI h
        have n1' : (21 : Int) < n := by omega
        subst n0
        go_enter Try.func20, Try.ntmps20
        go_wp2
        go_ret2
        exact hE.out _ (Below.refl _ _)
      · have n1' : ¬ (21 : Int) < n := by omega
        have hn21 : n ≤ 21 := by omega
        obtain ⟨iw, zw, i1, i2, i3, i4, i5⟩ := info_slot
        have eI' : Hid (isIdx s = (idxOk (rawS s n) && decide (txt (idxL (rawS s n)) = s))) := (by rw [eI, n0]; simp; omega : isIdx s = (idxOk (rawS s n) && decide (txt (idxL (rawS s n)) = s)))
        have eC' : Hid (cntS s = n) := eC
        have h128 : Hid (s.size = 128) := h
        subst n0
        clear eC eI h
        go_enter Try.func20, Try.ntmps20
        go_wp2
        obtain ⟨b0, hb0⟩ : ∃ b0, w.heap.size = b0 := ⟨_, rfl⟩
        go_loopw [4, 5] (fun l i wr => ∃ (k : Nat) (a : Option Addr) (cp : Nat) (S : List Sl), k ≤ n ∧ i = .int .i64 k ∧ l = .slice a k cp ∧ S = rawS s k ∧ wr.ownsRow b0 66 2 (.slice a k cp) k (slsV S) ∧ Below b0 w wr) (fun _ i _ => n - (intOf i).toNat)
        case atStart => exact ⟨0, none, 0, [], by omega, rfl, rfl, rfl, World.ownsRow_nil _ _ _ _, Below.refl _ _⟩
        case round =>
          obtain ⟨k, a, cp, S, hk, rfl, rfl, hS, hr, hB⟩ := hrel
          have hBL : Hid (b0 ≤ wr.heap.size) := (by rw [← hb0]; exact hB.size : b0 ≤ wr.heap.size)
          by_cases hlt : k < n
          · have hki : (k : Int) < n := by omega
            obtain ⟨A, hA⟩ : ∃ A, numR (s.extract (2 + 6 * k) (6 + 6 * k)) = A := ⟨_, rfl⟩
            obtain ⟨B, hB0⟩ : ∃ B, numR (s.extract (6 + 6 * k) (8 + 6 * k)) = B := ⟨_, rfl⟩
            have hO1 : Hid (∀ W, Calls Try.prog 41 #[.string (s.extract (2 + 6 * k) (6 + 6 * k))] W fun e w' => e = .returned (.int .i64 A) ∧ w' = W) := fun W => by rw [← hA]; exact of_any _ W (by rw [ByteArray.size_extract]; omega)
            have hO2 : Hid (∀ W, Calls Try.prog 41 #[.string (s.extract (6 + 6 * k) (8 + 6 * k))] W fun e w' => e = .returned (.int .i64 B) ∧ w' = W) := fun W => by rw [← hB0]; exact of_any _ W (by rw [ByteArray.size_extract]; omega)
            have hup : Hid (S ++ [⟨A, B⟩] = rawS s (k + 1)) := by
              show _ = _
              rw [rawS_up, hS, ← hA, ← hB0]
              rfl
            replace hr : Hid (wr.ownsRow b0 66 2 (.slice a k cp) k (slsV S)) := hr
            replace hB : Hid (Below b0 w wr) := hB
            have HF : Hid (IntKind.i64.wrap (6 * (k : Int)) = 6 * k ∧ IntKind.i64.wrap (2 + 6 * (k : Int)) = ((2 + 6 * k : Nat) : Int) ∧ IntKind.i64.wrap (6 + 6 * (k : Int)) = ((6 + 6 * k : Nat) : Int) ∧ IntKind.i64.wrap (8 + 6 * (k : Int)) = ((8 + 6 * k : Nat) : Int) ∧ (0 : Int) ≤ 2 + 6 * (k : Int) ∧ (2 : Int) + 6 * (k : Int) ≤ 6 + 6 * k ∧ (6 : Int) + 6 * (k : Int) ≤ 128 ∧ (8 : Int) + 6 * (k : Int) ≤ 128 ∧ (0 : Int) ≤ 6 + 6 * (k : Int) ∧ (0 : Int) ≤ 8 + 6 * (k : Int) ∧ (6 : Int) + 6 * (k : Int) ≤ 8 + 6 * k ∧ (2 + 6 * (k : Int)).toNat = 2 + 6 * k ∧ (6 + 6 * (k : Int)).toNat = 6 + 6 * k ∧ (8 + 6 * (k : Int)).toNat = 8 + 6 * k) := (by simp only [IntKind.wrap_i64]; omega : IntKind.i64.wrap (6 * (k : Int)) = 6 * k ∧ IntKind.i64.wrap (2 + 6 * (k : Int)) = ((2 + 6 * k : Nat) : Int) ∧ IntKind.i64.wrap (6 + 6 * (k : Int)) = ((6 + 6 * k : Nat) : Int) ∧ IntKind.i64.wrap (8 + 6 * (k : Int)) = ((8 + 6 * k : Nat) : Int) ∧ (0 : Int) ≤ 2 + 6 * (k : Int) ∧ (2 : Int) + 6 * (k : Int) ≤ 6 + 6 * k ∧ (6 : Int) + 6 * (k : Int) ≤ 128 ∧ (8 : Int) + 6 * (k : Int) ≤ 128 ∧ (0 : Int) ≤ 6 + 6 * (k : Int) ∧ (0 : Int) ≤ 8 + 6 * (k : Int) ∧ (6 : Int) + 6 * (k : Int) ≤ 8 + 6 * k ∧ (2 + 6 * (k : Int)).toNat = 2 + 6 * k ∧ (6 + 6 * (k : Int)).toNat = 6 + 6 * k ∧ (8 + 6 * (k : Int)).toNat = 8 + 6 * k)
            clear hS hA hB0 n1' hn21 l1
            go_upto_region 7 with (fail)
            refine lat_region (A := (fun _ => True)) (S := (fun _ => True)) [] (by kernel_rfl) ?_ (fun hH0 => ?_)
            · exact ⟨trivial, trivial⟩
            refine lat_free (i := 0) (oi := { dst := some 29, op := Go.Op.move (Go.Operand.tmp 4), type := 30, pos := "disk.go:237", after := #[], guard := none }) (v := ?vsa1) rfl (by kernel_rfl) (by kernel_rfl) (by kernel_rfl) (by kernel_rfl) (fun _ _ _ h => h) (Or.inl ⟨by rfl, ?hysa1⟩) ⟨hH0.1, fun _ => hH0.2⟩ ?restsa1
            case hysa1 => (intro w hAw; obtain ⟨f1, f2, f3, f4, f5, f6, f7, f8, f9, f10, f11, f12, f13, f14⟩ := HF.out; go_simp; try (with_reducible rfl))
            simp only [Act.put, List.setIfInBounds_toArray, List.set_cons_zero, List.set_cons_succ]
            refine lat_free (i := 1) (oi := { dst := some 30, op := Go.Op.move (Go.Operand.tmp 0), type := 9, pos := "disk.go:237", after := #[], guard := none }) (v := ?vsa2) rfl (by kernel_rfl) (by kernel_rfl) (by kernel_rfl) (by kernel_rfl) (fun _ _ _ h => h) (Or.inl ⟨by rfl, ?hysa2⟩) ⟨hH0.1, fun _ => hH0.2⟩ ?restsa2
            case hysa2 => (intro w hAw; obtain ⟨f1, f2, f3, f4, f5, f6, f7, f8, f9, f10, f11, f12, f13, f14⟩ := HF.out; go_simp; try (with_reducible rfl))
            simp only [Act.put, List.setIfInBounds_toArray, List.set_cons_zero, List.set_cons_succ]
            refine lat_free (i := 2) (oi := { dst := some 31, op := Go.Op.move (Go.Operand.tmp 5), type := 3, pos := "disk.go:237", after := #[], guard := none }) (v := ?vsa3) rfl (by kernel_rfl) (by kernel_rfl) (by kernel_rfl) (by kernel_rfl) (fun _ _ _ h => h) (Or.inl ⟨by rfl, ?hysa3⟩) ⟨hH0.1, fun _ => hH0.2⟩ ?restsa3
            case hysa3 => (intro w hAw; obtain ⟨f1, f2, f3, f4, f5, f6, f7, f8, f9, f10, f11, f12, f13, f14⟩ := HF.out; go_simp; try (with_reducible rfl))
            simp only [Act.put, List.setIfInBounds_toArray, List.set_cons_zero, List.set_cons_succ]
            refine lat_free (i := 3) (oi := { dst := some 32, op := Go.Op.binOp Go.BinOp.mul 3 (Go.Operand.const (Go.Value.int Go.IntKind.i64 6)) (Go.Operand.tmp 31) 3, type := 3, pos := "disk.go:237", after := #[{ on := 2, ground := Go.Ground.data }], guard := none }) (v := ?vsa4) rfl (by kernel_rfl) (by kernel_rfl) (by kernel_rfl) (by kernel_rfl) (fun _ _ _ h => h) (Or.inl ⟨by rfl, ?hysa4⟩) ⟨hH0.1, fun _ => hH0.2⟩ ?restsa4
            case hysa4 => (intro w hAw; obtain ⟨f1, f2, f3, f4, f5, f6, f7, f8, f9, f10, f11, f12, f13, f14⟩ := HF.out; go_simp; try (with_reducible rfl))
            simp only [Act.put, List.setIfInBounds_toArray, List.set_cons_zero, List.set_cons_succ]
            refine lat_free (i := 4) (oi := { dst := some 33, op := Go.Op.binOp Go.BinOp.add 3 (Go.Operand.const (Go.Value.int Go.IntKind.i64 2)) (Go.Operand.tmp 32) 3, type := 3, pos := "disk.go:237", after := #[{ on := 3, ground := Go.Ground.data }], guard := none }) (v := ?vsa5) rfl (by kernel_rfl) (by kernel_rfl) (by kernel_rfl) (by kernel_rfl) (fun _ _ _ h => h) (Or.inl ⟨by rfl, ?hysa5⟩) ⟨hH0.1, fun _ => hH0.2⟩ ?restsa5
            case hysa5 => (intro w hAw; obtain ⟨f1, f2, f3, f4, f5, f6, f7, f8, f9, f10, f11, f12, f13, f14⟩ := HF.out; go_simp; try (with_reducible rfl))
            simp only [Act.put, List.setIfInBounds_toArray, List.set_cons_zero, List.set_cons_succ]
            refine lat_free (i := 5) (oi := { dst := some 34, op := Go.Op.move (Go.Operand.tmp 5), type := 3, pos := "disk.go:237", after := #[], guard := none }) (v := ?vsa6) rfl (by kernel_rfl) (by kernel_rfl) (by kernel_rfl) (by kernel_rfl) (fun _ _ _ h => h) (Or.inl ⟨by rfl, ?hysa6⟩) ⟨hH0.1, fun _ => hH0.2⟩ ?restsa6
            case hysa6 => (intro w hAw; obtain ⟨f1, f2, f3, f4, f5, f6, f7, f8, f9, f10, f11, f12, f13, f14⟩ := HF.out; go_simp; try (with_reducible rfl))
            simp only [Act.put, List.setIfInBounds_toArray, List.set_cons_zero, List.set_cons_succ]
            refine lat_free (i := 6) (oi := { dst := some 35, op := Go.Op.binOp Go.BinOp.mul 3 (Go.Operand.const (Go.Value.int Go.IntKind.i64 6)) (Go.Operand.tmp 34) 3, type := 3, pos := "disk.go:237", after := #[{ on := 5, ground := Go.Ground.data }], guard := none }) (v := ?vsa7) rfl (by kernel_rfl) (by kernel_rfl) (by kernel_rfl) (by kernel_rfl) (fun _ _ _ h => h) (Or.inl ⟨by rfl, ?hysa7⟩) ⟨hH0.1, fun _ => hH0.2⟩ ?restsa7
            case hysa7 => (intro w hAw; obtain ⟨f1, f2, f3, f4, f5, f6, f7, f8, f9, f10, f11, f12, f13, f14⟩ := HF.out; go_simp; try (with_reducible rfl))
            simp only [Act.put, List.setIfInBounds_toArray, List.set_cons_zero, List.set_cons_succ]
            refine lat_free (i := 7) (oi := { dst := some 36, op := Go.Op.binOp Go.BinOp.add 3 (Go.Operand.const (Go.Value.int Go.IntKind.i64 6)) (Go.Operand.tmp 35) 3, type := 3, pos := "disk.go:237", after := #[{ on := 6, ground := Go.Ground.data }], guard := none }) (v := ?vsa8) rfl (by kernel_rfl) (by kernel_rfl) (by kernel_rfl) (by kernel_rfl) (fun _ _ _ h => h) (Or.inl ⟨by rfl, ?hysa8⟩) ⟨hH0.1, fun _ => hH0.2⟩ ?restsa8
            case hysa8 => (intro w hAw; obtain ⟨f1, f2, f3, f4, f5, f6, f7, f8, f9, f10, f11, f12, f13, f14⟩ := HF.out; go_simp; try (with_reducible rfl))
            simp only [Act.put, List.setIfInBounds_toArray, List.set_cons_zero, List.set_cons_succ]
            refine lat_free (i := 8) (oi := { dst := some 37, op := Go.Op.slice 9 (Go.Operand.tmp 30) (some (Go.Operand.tmp 33)) (some (Go.Operand.tmp 36)) none, type := 9, pos := "disk.go:237", after := #[{ on := 1, ground := Go.Ground.data }, { on := 4, ground := Go.Ground.data }, { on := 7, ground := Go.Ground.data }], guard := none }) (v := ?vsa9) rfl (by kernel_rfl) (by kernel_rfl) (by kernel_rfl) (by kernel_rfl) (fun _ _ _ h => h) (Or.inl ⟨by rfl, ?hysa9⟩) ⟨hH0.1, fun _ => hH0.2⟩ ?restsa9
            case hysa9 => (intro w hAw; obtain ⟨f1, f2, f3, f4, f5, f6, f7, f8, f9, f10, f11, f12, f13, f14⟩ := HF.out; go_simp; try (with_reducible rfl))
            simp only [Act.put, List.setIfInBounds_toArray, List.set_cons_zero, List.set_cons_succ]
            refine lat_free (i := 10) (oi := { dst := some 39, op := Go.Op.move (Go.Operand.tmp 0), type := 9, pos := "disk.go:237", after := #[], guard := none }) (v := ?vsa10) rfl (by kernel_rfl) (by kernel_rfl) (by kernel_rfl) (by kernel_rfl) (fun _ _ _ h => h) (Or.inl ⟨by rfl, ?hysa10⟩) ⟨hH0.1, fun _ => hH0.2⟩ ?restsa10
            case hysa10 => (intro w hAw; obtain ⟨f1, f2, f3, f4, f5, f6, f7, f8, f9, f10, f11, f12, f13, f14⟩ := HF.out; go_simp; try (with_reducible rfl))
            simp only [Act.put, List.setIfInBounds_toArray, List.set_cons_zero, List.set_cons_succ]
            refine lat_free (i := 11) (oi := { dst := some 40, op := Go.Op.move (Go.Operand.tmp 5), type := 3, pos := "disk.go:237", after := #[], guard := none }) (v := ?vsa11) rfl (by kernel_rfl) (by kernel_rfl) (by kernel_rfl) (by kernel_rfl) (fun _ _ _ h => h) (Or.inl ⟨by rfl, ?hysa11⟩) ⟨hH0.1, fun _ => hH0.2⟩ ?restsa11
            case hysa11 => (intro w hAw; obtain ⟨f1, f2, f3, f4, f5, f6, f7, f8, f9, f10, f11, f12, f13, f14⟩ := HF.out; go_simp; try (with_reducible rfl))
            simp only [Act.put, List.setIfInBounds_toArray, List.set_cons_zero, List.set_cons_succ]
            refine lat_free (i := 12) (oi := { dst := some 41, op := Go.Op.binOp Go.BinOp.mul 3 (Go.Operand.const (Go.Value.int Go.IntKind.i64 6)) (Go.Operand.tmp 40) 3, type := 3, pos := "disk.go:237", after := #[{ on := 11, ground := Go.Ground.data }], guard := none }) (v := ?vsa12) rfl (by kernel_rfl) (by kernel_rfl) (by kernel_rfl) (by kernel_rfl) (fun _ _ _ h => h) (Or.inl ⟨by rfl, ?hysa12⟩) ⟨hH0.1, fun _ => hH0.2⟩ ?restsa12
            case hysa12 => (intro w hAw; obtain ⟨f1, f2, f3, f4, f5, f6, f7, f8, f9, f10, f11, f12, f13, f14⟩ := HF.out; go_simp; try (with_reducible rfl))
            simp only [Act.put, List.setIfInBounds_toArray, List.set_cons_zero, List.set_cons_succ]
            refine lat_free (i := 13) (oi := { dst := some 42, op := Go.Op.binOp Go.BinOp.add 3 (Go.Operand.const (Go.Value.int Go.IntKind.i64 6)) (Go.Operand.tmp 41) 3, type := 3, pos := "disk.go:237", after := #[{ on := 12, ground := Go.Ground.data }], guard := none }) (v := ?vsa13) rfl (by kernel_rfl) (by kernel_rfl) (by kernel_rfl) (by kernel_rfl) (fun _ _ _ h => h) (Or.inl ⟨by rfl, ?hysa13⟩) ⟨hH0.1, fun _ => hH0.2⟩ ?restsa13
            case hysa13 => (intro w hAw; obtain ⟨f1, f2, f3, f4, f5, f6, f7, f8, f9, f10, f11, f12, f13, f14⟩ := HF.out; go_simp; try (with_reducible rfl))
            simp only [Act.put, List.setIfInBounds_toArray, List.set_cons_zero, List.set_cons_succ]
            refine lat_free (i := 14) (oi := { dst := some 43, op := Go.Op.move (Go.Operand.tmp 5), type := 3, pos := "disk.go:237", after := #[], guard := none }) (v := ?vsa14) rfl (by kernel_rfl) (by kernel_rfl) (by kernel_rfl) (by kernel_rfl) (fun _ _ _ h => h) (Or.inl ⟨by rfl, ?hysa14⟩) ⟨hH0.1, fun _ => hH0.2⟩ ?restsa14
            case hysa14 => (intro w hAw; obtain ⟨f1, f2, f3, f4, f5, f6, f7, f8, f9, f10, f11, f12, f13, f14⟩ := HF.out; go_simp; try (with_reducible rfl))
            simp only [Act.put, List.setIfInBounds_toArray, List.set_cons_zero, List.set_cons_succ]
            refine lat_free (i := 15) (oi := { dst := some 44, op := Go.Op.binOp Go.BinOp.mul 3 (Go.Operand.const (Go.Value.int Go.IntKind.i64 6)) (Go.Operand.tmp 43) 3, type := 3, pos := "disk.go:237", after := #[{ on := 14, ground := Go.Ground.data }], guard := none }) (v := ?vsa15) rfl (by kernel_rfl) (by kernel_rfl) (by kernel_rfl) (by kernel_rfl) (fun _ _ _ h => h) (Or.inl ⟨by rfl, ?hysa15⟩) ⟨hH0.1, fun _ => hH0.2⟩ ?restsa15
            case hysa15 => (intro w hAw; obtain ⟨f1, f2, f3, f4, f5, f6, f7, f8, f9, f10, f11, f12, f13, f14⟩ := HF.out; go_simp; try (with_reducible rfl))
            simp only [Act.put, List.setIfInBounds_toArray, List.set_cons_zero, List.set_cons_succ]
            refine lat_free (i := 16) (oi := { dst := some 45, op := Go.Op.binOp Go.BinOp.add 3 (Go.Operand.const (Go.Value.int Go.IntKind.i64 8)) (Go.Operand.tmp 44) 3, type := 3, pos := "disk.go:237", after := #[{ on := 15, ground := Go.Ground.data }], guard := none }) (v := ?vsa16) rfl (by kernel_rfl) (by kernel_rfl) (by kernel_rfl) (by kernel_rfl) (fun _ _ _ h => h) (Or.inl ⟨by rfl, ?hysa16⟩) ⟨hH0.1, fun _ => hH0.2⟩ ?restsa16
            case hysa16 => (intro w hAw; obtain ⟨f1, f2, f3, f4, f5, f6, f7, f8, f9, f10, f11, f12, f13, f14⟩ := HF.out; go_simp; try (with_reducible rfl))
            simp only [Act.put, List.setIfInBounds_toArray, List.set_cons_zero, List.set_cons_succ]
            refine lat_free (i := 17) (oi := { dst := some 46, op := Go.Op.slice 9 (Go.Operand.tmp 39) (some (Go.Operand.tmp 42)) (some (Go.Operand.tmp 45)) none, type := 9, pos := "disk.go:237", after := #[{ on := 10, ground := Go.Ground.data }, { on := 13, ground := Go.Ground.data }, { on := 16, ground := Go.Ground.data }], guard := none }) (v := ?vsa17) rfl (by kernel_rfl) (by kernel_rfl) (by kernel_rfl) (by kernel_rfl) (fun _ _ _ h => h) (Or.inl ⟨by rfl, ?hysa17⟩) ⟨hH0.1, fun _ => hH0.2⟩ ?restsa17
            case hysa17 => (intro w hAw; obtain ⟨f1, f2, f3, f4, f5, f6, f7, f8, f9, f10, f11, f12, f13, f14⟩ := HF.out; go_simp; try (with_reducible rfl))
            simp only [Act.put, List.setIfInBounds_toArray, List.set_cons_zero, List.set_cons_succ]
            refine lat_one (i := 9) (by kernel_rfl) ?_
            refine lat_run (o := { dst := some 38, op := Go.Op.call { callee := Go.Callee.value (Go.Operand.func 41), args := #[Go.Operand.tmp 37], argTypes := #[9] }, type := 3, pos := "disk.go:237", after := #[{ on := 8, ground := Go.Ground.data }], guard := none }) rfl (fun K hK => ?_)
            go_simp
            go_wp2_with (first
              | (go_at_call 41; go_fit (hO1.out _); rintro e w' ⟨rfl, rfl⟩)
              | fail)
            refine hK.out _ _ (⟨trivial, trivial⟩) (fun hHsa18 => ?_)
            clear hK K
            refine lat_one (i := 18) (by kernel_rfl) ?_
            refine lat_run (o := { dst := some 47, op := Go.Op.call { callee := Go.Callee.value (Go.Operand.func 41), args := #[Go.Operand.tmp 46], argTypes := #[9] }, type := 3, pos := "disk.go:237", after := #[{ on := 17, ground := Go.Ground.data }, { on := 9, ground := Go.Ground.chain }], guard := none }) rfl (fun K hK => ?_)
            go_simp
            go_wp2_with (first
              | (go_at_call 41; go_fit (hO2.out _); rintro e w' ⟨rfl, rfl⟩)
              | fail)
            refine hK.out _ _ (⟨trivial, trivial⟩) (fun hHsa19 => ?_)
            clear hK K
            refine lat_free (i := 19) (oi := { dst := some 48, op := Go.Op.build 66 #[(0, Go.Operand.tmp 38), (1, Go.Operand.tmp 47)], type := 66, pos := "disk.go:237", after := #[{ on := 9, ground := Go.Ground.data }, { on := 18, ground := Go.Ground.data }], guard := none }) (v := ?vsa20) rfl (by kernel_rfl) (by kernel_rfl) (by kernel_rfl) (by kernel_rfl) (fun _ _ _ h => h) (Or.inl ⟨by rfl, ?hysa20⟩) ⟨hHsa19.1, fun _ => hHsa19.2⟩ ?restsa20
            case hysa20 => (intro w hAw; obtain ⟨f1, f2, f3, f4, f5, f6, f7, f8, f9, f10, f11, f12, f13, f14⟩ := HF.out; go_simp; try (with_reducible rfl))
            simp only [Act.put, List.setIfInBounds_toArray, List.set_cons_zero, List.set_cons_succ]
            refine lat_one (i := 20) (by kernel_rfl) ?_
            refine lat_run (o := { dst := some 49, op := Go.Op.buildSlice 30 1 #[(0, Go.Operand.tmp 48)], type := 30, pos := "disk.go:237", after := #[{ on := 19, ground := Go.Ground.data }], guard := none }) rfl (fun K hK => ?_)
            go_simp
            refine hK.out _ _ (⟨trivial, trivial⟩) (fun hHsa21 => ?_)
            clear hK K
            refine lat_one (i := 21) (by kernel_rfl) ?_
            refine lat_run (o := { dst := some 50, op := Go.Op.call { callee := Go.Callee.builtin Go.Builtin.append, args := #[Go.Operand.tmp 29, Go.Operand.tmp 49], argTypes := #[30, 30] }, type := 30, pos := "disk.go:237", after := #[{ on := 0, ground := Go.Ground.data }, { on := 20, ground := Go.Ground.data }, { on := 18, ground := Go.Ground.chain }], guard := none }) rfl (fun K hK => ?_)
            refine step_app _ (by rfl) (.tmp 29) (.tmp 49) 30 (by rfl) b0 66 iw zw 2 16 Try.underlying30 i1 i2 i4 i5 i3 (by decide) (.slice a k cp) k (slsV S) (by rfl) (row_grew hr.out ((Grew.refl wr).alloc _ _).drew) (some ⟨wr.heap.size, 0, none⟩) 1 1 [.int .i64 A, .int .i64 B] (by rfl) rfl (.inr ⟨_, 0, rfl, fun j u hj => pair_at wr _ _ _ j u hj⟩) (fun u hu => by simp at hu; rcases hu with rfl | rfl <;> rfl) (by unfold maxLen; omega) (by omega) (by have := hBL.out; simp; omega) ?_
            intro v4 w4 hv4 hg4 hk4 hl4
            obtain ⟨a4, c4, rfl, _⟩ := own_reads hv4
            have hB4 : Hid (Below b0 (wr.alloc (.cells #[.int .i64 A, .int .i64 B] 66)) w4) := ⟨hg4.os, hg4.tape, hg4.output, hg4.size, fun i hi => hg4.block i (by have := hBL.out; simp; omega) (fun e => by have := own_base2 hr.out i e.symm; omega)⟩
            replace hv4 := show Hid _ from hv4
            clear hg4 hk4 hl4
            simp only [Act.put, List.setIfInBounds_toArray, List.set_cons_zero, List.set_cons_succ]
            refine hK.out _ _ (⟨trivial, trivial⟩) (fun hHsa22 => ?_)
            clear hK K
            refine lat_free (i := 22) (oi := { dst := some 4, op := Go.Op.assign (Go.Operand.tmp 50), type := 30, pos := "disk.go:237", after := #[{ on := 21, ground := Go.Ground.data }, { on := 21, ground := Go.Ground.chain }, { on := 0, ground := Go.Ground.phase }, { on := 1, ground := Go.Ground.phase }, { on := 2, ground := Go.Ground.phase }, { on := 3, ground := Go.Ground.phase }, { on := 4, ground := Go.Ground.phase }, { on := 5, ground := Go.Ground.phase }, { on := 6, ground := Go.Ground.phase }, { on := 7, ground := Go.Ground.phase }, { on := 8, ground := Go.Ground.phase }, { on := 9, ground := Go.Ground.phase }, { on := 10, ground := Go.Ground.phase }, { on := 11, ground := Go.Ground.phase }, { on := 12, ground := Go.Ground.phase }, { on := 13, ground := Go.Ground.phase }, { on := 14, ground := Go.Ground.phase }, { on := 15, ground := Go.Ground.phase }, { on := 16, ground := Go.Ground.phase }, { on := 17, ground := Go.Ground.phase }, { on := 18, ground := Go.Ground.phase }, { on := 19, ground := Go.Ground.phase }, { on := 20, ground := Go.Ground.phase }, { on := 21, ground := Go.Ground.phase }], guard := none }) (v := ?vsa23) rfl (by kernel_rfl) (by kernel_rfl) (by kernel_rfl) (by kernel_rfl) (fun _ _ _ h => h) (Or.inl ⟨by rfl, ?hysa23⟩) ⟨hHsa22.1, fun _ => hHsa22.2⟩ ?restsa23
            case hysa23 => (intro w hAw; obtain ⟨f1, f2, f3, f4, f5, f6, f7, f8, f9, f10, f11, f12, f13, f14⟩ := HF.out; go_simp; try (with_reducible rfl))
            simp only [Act.put, List.setIfInBounds_toArray, List.set_cons_zero, List.set_cons_succ]
            refine lat_done (by kernel_rfl) ?_ _
            go_wp2_with (fail)
            refine ⟨⟨k + 1, a4, c4, S ++ [⟨A, B⟩], hlt, by simp, rfl, hup.out, ?_, ?_⟩, meas_up hlt⟩
            · rw [sls_more]; exact hv4.out
            · exact (hB.out.trans ((((Grew.refl wr).alloc _ _).below).mono hBL.out)).trans hB4.out
          · have hki : ¬ (k : Int) < n := by omega
            obtain rfl : k = n := by omega
            obtain ⟨a', cp', e9, hSl⟩ := slots_of hr
            obtain ⟨rfl, _, rfl⟩ : a = a' ∧ k = k ∧ cp = cp' := by simpa using e9
            have hlen : S.length = k := by rw [hS]; exact rawS_len s k
            have hX : Hid (Calls Try.prog 11 #[.slice a k cp] wr fun e w' => e = .returned (.tuple #[.string (idxV S), .bool (idxOk S)]) ∧ Grew wr w') := by
              show Calls _ _ _ _ _
              have := refindex_any S a cp wr hSl (by omega)
              rw [hlen] at this
              exact this
            replace hr : Hid (wr.ownsRow b0 66 2 (.slice a k cp) k (slsV S)) := hr
            replace hB : Hid (Below b0 w wr) := hB
            have eI2 : Hid (isIdx s = (idxOk S && decide (txt (idxL S) = s))) := by rw [hS]; exact eI'.out
            have hYes : Hid (isIdx s = true → idxS s = S) := fun h => by unfold idxS; rw [if_pos h, eC'.out, hS]
            have hNo : Hid (isIdx s = false → ∀ w', Below w.heap.size w w' → SlotsBack w s (.returned (.tuple #[.slice none 0 0, .bool false])) w') := fun h w' B => slots_none h B
            clear e9 hSl eI' eC' n1' hn21
            replace hS : Hid (S.length = k) := hlen
            clear hlen
            have hv : idxV S = if idxOk S then txt (idxL S) else ByteArray.empty := rfl
            rw [hv] at hX
            clear hv
            cases hko : idxOk S with
            | false =>
              rw [hko, if_neg (by decide)] at hX
              rw [hko] at eI2
              have hE := hNo.out (by rw [eI2.out]; rfl)
              replace hE : Hid _ := hE
              clear hko eI2 hYes hNo
              go_wp2_with (first | (go_at_call 11; go_fit hX.out; rintro e w1 ⟨rfl, G⟩) | fail)
              go_ret2
              exact hE.out _ (by rw [hb0]; exact hB.out.trans (G.below.mono hBL.out))
            | true =>
              rw [hko, if_pos rfl] at hX
              rw [hko] at eI2
              by_cases hq : txt (idxL S) = s
              · rw [hq] at hX
                have hE := hYes.out (by rw [eI2.out, hq]; simp)
                have hT : Hid (isIdx s = true) := (by rw [eI2.out, hq]; simp : isIdx s = true)
                replace hE : Hid (idxS s = S) := hE
                clear hko eI2 hYes hNo hq
                go_wp2_with (first | (go_at_call 11; go_fit hX.out; rintro e w1 ⟨rfl, G⟩) | fail)
                go_ret2
                refine ⟨_, by rw [hT.out]; rfl, ?_, by rw [hb0]; exact hB.out.trans (G.below.mono hBL.out)⟩
                rw [hE.out, hb0, hS.out]
                exact row_grew hr.out G
              · have hne := bytes_ne' hq
                have hE := hNo.out (by rw [eI2.out, decide_eq_false hq]; rfl)
                replace hE : Hid _ := hE
                clear hko eI2 hYes hNo hq
                generalize txt (idxL S) = X at *
                go_wp2_with (first | (go_at_call 11; go_fit hX.out; rintro e w1 ⟨rfl, G⟩) | fail)
                go_ret2
                exact hE.out _ (by rw [hb0]; exact hB.out.trans (G.below.mono hBL.out))
    · have e : isIdx s = false := by rw [eI]; simp [n0]
      have hE : Hid (∀ w', Below w.heap.size w w' → SlotsBack w s (.returned (.tuple #[.slice none 0 0, .bool false])) w') := fun w' B => slots_none e B
      clear e eC eI h
      have n0' : ¬ (c0 : Int) = 73 := by omega
      clear n0
      go_enter Try.func20, Try.ntmps20
      go_wp2
      go_ret2
      exact hE.out _ (Below.refl _ _)
  · have hi : ¬ (s.size : Int) = 128 := by omega
    have hE : Hid (∀ w', Below w.heap.size w w' → SlotsBack w s (.returned (.tuple #[.slice none 0 0, .bool false])) w') := fun w' B => slots_none (isIdx_len h) B
    clear h
    go_enter Try.func20, Try.ntmps20
    go_wp2
    go_ret2
    exact hE.out _ (Below.refl _ _)
end Go.Proofs.Ytjcocmoidboamaa
