/-
  Proved: maquettelaw14.CrownEnds returns true for every two ints and every byte, and leaves what it was given as it was; no condition.
-/
import Derived.Test.YtehlbcjfbofnnaaRows
import Derived.Test.YtehlbcjfbofnnaaYAlive
import Derived.Test.YtehlbcjfbofnnaaYData
import Derived.WalkKit
import Derived.Deep.QuietTactic
import Derived.BigQuiet
import Derived.WalkSpells
import Derived.Deep.CutRange
import Derived.Deep.CutBlock
import Derived.WalkLawsBesides
import Derived.ProofKit
import Derived.OpenShut
import Derived.ChangeOld
import Derived.Below
namespace Go.Proofs.Ytehlbcjfbofnnaa.crownEnds
open Go.ChangeShapes Go.WideShapes Go.ChangeAt Go.RowKit
set_option linter.unusedVariables false

theorem own : ownKnob Try.prog.godebug = none := by kernel_rfl
theorem laidOut : laidOutB Try.prog = true := by kernel_rfl

theorem ends_put {C : Cr} {k : Bool} {x : ByteArray} (hk : okC C = k) (hx : putV C = x) : Hid (∀ W, Calls Try.prog 10 #[.agg #[.int .i64 C.g, .int .i64 C.r, .int .i64 C.p]] W fun e w' => e = .returned (.tuple #[.string x, .bool k]) ∧ Below W.heap.size W w') := fun W => by
  have := put_any C W
  rw [hk, hx] at this
  exact this
def oneB (b : Nat) : ByteArray := ⟨#[UInt8.ofNat b]⟩
theorem oneB_size (b : Nat) : (oneB b).size = 1 := rfl
theorem conv_one (w : World) (q : Nat) (b : Nat) (hb : b < 256) (h : w.cell? ⟨q, 0, none⟩ = some (.int .u8 b)) : (convert 43 9 (.slice (some ⟨q, 0, none⟩) 1 1)).run Try.prog w = .ok (.string (oneB b)) w := by
  have e : strOfNums [(b : Int)] = oneB b := by simp [strOfNums, oneB]
  rw [← e]
  refine run_convert_bytes_arg _ _ _ Try.underlying43 Try.underlying5 q 0 1 1 _ rfl (fun i hi => ?_) _ Try.underlying9
  have : i = 0 := by omega
  subst this
  simpa using h
theorem ends_sizes (v k : Nat) : ¬ 9223372036854775807 < min k 128 + (oneB v).size ∧ ¬ 9223372036854775807 < min k 128 + (oneB v).size + (127 - k) := by
  rw [oneB_size]
  omega
theorem ends_sizes2 (v k : Nat) : ¬ 9223372036854775807 < min (k + 120) 128 + (oneB v).size ∧ ¬ 9223372036854775807 < min (k + 120) 128 + (oneB v).size + (7 - k) := by
  rw [oneB_size]
  omega
theorem ends_one {w V V4 : World} {cs : Array Value} {t : TypeId} (B : Below w.heap.size w V) (K : Below (V.alloc (.cells cs t)).drew.heap.size (V.alloc (.cells cs t)).drew V4) : Below w.heap.size w V4 := chain B (chain ((Grew.refl V).alloc cs t).drew.below K)
theorem ends_two {w V V4 : World} {cs : Array Value} {t u : TypeId} (B : Below w.heap.size w V) (K : Below ((V.alloc (.cells #[.int .i64 0, .int .i64 0, .int .i64 0] u)).alloc (.cells cs t)).drew.heap.size ((V.alloc (.cells #[.int .i64 0, .int .i64 0, .int .i64 0] u)).alloc (.cells cs t)).drew V4) :
    Below w.heap.size w V4 ∧ CAt V4 V.heap.size noC ∧ ∀ o, V4.frozen? ⟨V.heap.size, o, none⟩ = false :=
  ⟨chain B (chain (((Grew.refl V).alloc _ u).alloc cs t).drew.below K), ((cat_new V noC u).grew ((Grew.refl _).alloc cs t).drew).below K, fun o => below_frozen K (by simp; omega) (((Grew.refl _).alloc cs t).drew.frozen (frozen_new V _ _ o))⟩
theorem ends_three {w V V4 : World} {cs : Array Value} {t u : TypeId} (B : Below w.heap.size w V) (K : Below ((V.alloc (.cells cs t)).alloc (.cells #[.int .i64 0, .int .i64 0, .int .i64 0] u)).drew.heap.size ((V.alloc (.cells cs t)).alloc (.cells #[.int .i64 0, .int .i64 0, .int .i64 0] u)).drew V4) :
    Below w.heap.size w V4 ∧ CAt V4 (V.heap.size + 1) noC ∧ ∀ o, V4.frozen? ⟨V.heap.size + 1, o, none⟩ = false := by
  have e : (V.alloc (.cells cs t)).heap.size = V.heap.size + 1 := by simp
  rw [← e]
  exact ⟨chain B (chain (((Grew.refl V).alloc cs t).alloc _ u).drew.below K), ((cat_new (V.alloc (.cells cs t)) noC u).grew (Grew.refl _).drew).below K, fun o => below_frozen K (by simp) ((Grew.refl _).drew.frozen (frozen_new (V.alloc (.cells cs t)) _ _ o))⟩
theorem xor_ne {a n : Nat} (hn : n ≠ 0) : a ^^^ n ≠ a := by
  intro e
  apply hn
  have := congrArg (fun z => a ^^^ z) e
  simp only [← Nat.xor_assoc, Nat.xor_self, Nat.zero_xor] at this
  exact this
theorem ends_get {C : Cr} (hc : okC C = true) {k : Nat} (hk : k < 128) (hk2 : k < 8 ∨ 120 ≤ k) {n : Nat} (hn : n ≠ 0) (hn2 : n < 256) :
    ∃ a v : Nat, (∀ h, ((putB C)[k]'h).toNat = a) ∧ a < 256 ∧ v < 256 ∧ bits .xor .u8 (a : Int) (n : Int) = (v : Int) ∧
    Hid (∀ W, Calls Try.prog 12 #[.string ((putB C).extract 0 k ++ oneB v ++ (putB C).extract (k + 1) 128)] W fun e w' => e = .returned (.tuple #[.agg #[.int .i64 0, .int .i64 0, .int .i64 0], .bool false]) ∧ Below W.heap.size W w') := by
  have hl := putL_len C
  have hkl : k < (putL C).length := by omega
  have ha := ((putL C)[k]).toNat_lt
  have hx : ((putL C)[k]).toNat ^^^ n < 256 := Nat.xor_lt_two_pow (n := 8) ha hn2
  refine ⟨((putL C)[k]).toNat, ((putL C)[k]).toNat ^^^ n, fun h => rfl, ha, hx, u8_xor_nat _ _ ha hn2, fun W => ?_⟩
  have h := get_any ((putB C).extract 0 k ++ oneB (((putL C)[k]).toNat ^^^ n) ++ (putB C).extract (k + 1) 128) W
  have e : ((putB C).extract 0 k ++ oneB (((putL C)[k]).toNat ^^^ n) ++ (putB C).extract (k + 1) 128).data.toList = (putL C).take k ++ [UInt8.ofNat (((putL C)[k]).toNat ^^^ n)] ++ (putL C).drop (k + 1) := by
    simp only [ByteArray.data_append, Array.toList_append, ByteArray.data_extract, Array.toList_extract, List.extract_eq_take_drop, List.drop_zero, Nat.sub_zero]
    show (putL C).take k ++ [_] ++ ((putL C).drop (k + 1)).take (128 - (k + 1)) = _
    rw [List.take_of_length_le (l := (putL C).drop (k + 1)) (i := 128 - (k + 1)) (by rw [List.length_drop, hl]; exact Nat.le_refl _)]
  have t := turned hc hk hk2 (x := UInt8.ofNat (((putL C)[k]).toNat ^^^ n)) (fun e => xor_ne hn (a := ((putL C)[k]).toNat) (by
    have := congrArg UInt8.toNat e
    rw [UInt8.toNat_ofNat', Nat.mod_eq_of_lt hx] at this
    exact this))
  rw [e, get_no t, t] at h
  exact h

set_option maxRecDepth 100000 in
set_option maxHeartbeats 16000000 in
theorem walk (a0 : Int) (f0 : inF a0) (a1 : Int) (f1 : inF a1) (n2 : Nat) (m2 : n2 < 256) (w : World)   :
    Calls Try.prog 7 #[.int .i64 a0, .int .i64 a1, .int .u8 n2] w fun e w' => e = .returned (.bool true) ∧ Below w.heap.size w w' := by
  have hal : Hid (∀ W, Calls Try.prog 9 #[] W fun e w' => e = .returned (.bool true) ∧ Below W.heap.size W w') := alive_any
  have B0 := Below.refl w.heap.size w
  by_cases hbad : a0 < 1 ∨ 1099511627776 < a0 ∨ n2 = 0
  · go_enter Try.func7, Try.ntmps7
    by_cases h0 : a0 < 1
    · go_wp2_with (first | (go_at_call 9; go_fit (hal.out w); rintro e w1 ⟨rfl, hB⟩))
      go_ret
      exact ⟨rfl, hB⟩
    by_cases h1 : 1099511627776 < a0
    · go_wp2_with (first | (go_at_call 9; go_fit (hal.out w); rintro e w1 ⟨rfl, hB⟩))
      go_ret
      exact ⟨rfl, hB⟩
    have h2 : n2 = 0 := by omega
    subst h2
    go_wp2_with (first | (go_at_call 9; go_fit (hal.out w); rintro e w1 ⟨rfl, hB⟩))
    go_ret
    exact ⟨rfl, hB⟩
  have h0 : ¬ a0 < 1 := by omega
  have h1 : ¬ 1099511627776 < a0 := by omega
  have h2 : ¬ n2 = 0 := by omega
  clear hbad
  have hk : okC ⟨a0, 2, 9⟩ = true := by rw [okC_iff]; dsimp only; omega
  have hp := ends_put hk (x := putB ⟨a0, 2, 9⟩) (by unfold putV; rw [if_pos hk])
  obtain ⟨m, hm⟩ : ∃ m, Int.tmod a1 8 = m := ⟨_, rfl⟩
  have hm3 : -8 < m ∧ m < 8 := by rw [← hm]; have := Int.tmod_lt_of_pos a1 (show (0 : Int) < 8 by decide); have := Int.lt_tmod_of_pos a1 (show (0 : Int) < 8 by decide); omega
  have hw : wrap64 (m + 8) = m + 8 := IntWalk.wrap64_in _ ⟨by omega, by omega⟩
  have hq : (0 : Int) ≤ m + 8 := by omega
  obtain ⟨k, hk1⟩ : ∃ k : Nat, (m + 8) % 8 = (k : Int) := ⟨((m + 8) % 8).toNat, by omega⟩
  have hk8 : k < 8 := by omega
  obtain ⟨a, v, ga, la, lv, xv, hg⟩ := ends_get hk (k := k) (by omega) (.inl hk8) h2 m2
  obtain ⟨b, u, gb, lb, lu, xu, hg2⟩ := ends_get hk (k := k + 120) (by omega) (.inr (by omega)) h2 m2
  have he := same_bytes (put_ends ⟨a0, 2, 9⟩)
  have hs := putB_size ⟨a0, 2, 9⟩
  generalize putB ⟨a0, 2, 9⟩ = x at *
  have hki : (k : Int) < 8 := by omega
  have hki2 : (k : Int) ≤ 128 := by omega
  have HK : Hid ((k : Int) < 128 ∧ (k : Int) + 1 ≤ 128 ∧ (0 : Int) ≤ (k : Int) + 1 ∧ IntKind.i64.wrap ((k : Int) + 1) = ((k + 1 : Nat) : Int)) := (by rw [IntKind.wrap_i64]; omega : (k : Int) < 128 ∧ (k : Int) + 1 ≤ 128 ∧ (0 : Int) ≤ (k : Int) + 1 ∧ IntKind.i64.wrap ((k : Int) + 1) = ((k + 1 : Nat) : Int))
  have HJ : Hid ((k : Int) + 120 ≤ 128 ∧ (k : Int) + 120 < 128 ∧ (k : Int) + 120 + 1 ≤ 128 ∧ (0 : Int) ≤ (k : Int) + 120 ∧ (0 : Int) ≤ (k : Int) + 120 + 1 ∧ IntKind.i64.wrap ((k : Int) + 120 + 1) = ((k + 120 + 1 : Nat) : Int)) := (by rw [IntKind.wrap_i64]; omega : (k : Int) + 120 ≤ 128 ∧ (k : Int) + 120 < 128 ∧ (k : Int) + 120 + 1 ≤ 128 ∧ (0 : Int) ≤ (k : Int) + 120 ∧ (0 : Int) ≤ (k : Int) + 120 + 1 ∧ IntKind.i64.wrap ((k : Int) + 120 + 1) = ((k + 120 + 1 : Nat) : Int))
  have gb2 : Hid (∀ h, (x[((k : Int) + 120).toNat]'h).toNat = b) := fun h => by
    have e : ((k : Int) + 120).toNat = k + 120 := by omega
    simp only [e]
    exact gb _
  have e120 : Hid (((k : Int) + 120).toNat = k + 120) := (by omega : ((k : Int) + 120).toNat = k + 120)
  have e121 : Hid (((k : Int) + 120 + 1).toNat = k + 120 + 1) := (by omega : ((k : Int) + 120 + 1).toNat = k + 120 + 1)
  have HZ1 : Hid _ := ends_sizes v k
  have HZ2 : Hid _ := ends_sizes2 u k
  have hc := fun W q h => conv_one W q v lv h
  have hc2 := fun W q h => conv_one W q u lu h
  dsimp only at hp
  clear hk
  go_enter Try.func7, Try.ntmps7
  go_upto_region 4 with (first
    | (go_at_call 9; go_fit (hal.out w); rintro e W1 ⟨rfl, K1⟩; have B1 := chain B0 K1)
    | (go_at_call 10; go_fit (hp.out _); rintro e W2 ⟨rfl, K2⟩; have B2 := chain B1 K2; clear K1 K2 B0)
    | fail)
  have B3 := below_drewN B2
  have B3 := below_drewN B2
  have B3 := below_drewN B2
  have B3 := below_drewN B2
  have B3 := below_drewN B2
  have B3 := below_drewN B2
  have B3 := below_drewN B2
  have B3 := below_drewN B2
  go_quiet (fail)
  go_upto_region 7 with (fail)
  replace B3 := B3 nq
  generalize hV2 : W2.drewN nq = V2 at *
  clear hV2
  go_cut [9, 11] from 10 to 72 (fun j s wx => j = .int .i64 k ∧ s = .bool false ∧ Below w.heap.size w wx)
  case first =>
    refine lat_region (A := (fun _ => True)) (S := (fun _ => True)) [] (by kernel_rfl) ?_ (fun hH0 => ?_)
    · exact ⟨trivial, trivial⟩
    refine lat_free (i := 0) (oi := { dst := some 54, op := Go.Op.move (Go.Operand.tmp 7), type := 9, pos := "more2.go:42", after := #[], guard := none }) (v := ?vea1) rfl (by kernel_rfl) (by kernel_rfl) (by kernel_rfl) (by kernel_rfl) (fun _ _ _ h => h) (Or.inl ⟨by rfl, ?hyea1⟩) ⟨hH0.1, fun _ => hH0.2⟩ ?restea1
    case hyea1 => (intro w hAw; obtain ⟨k3, k4, k5, k6⟩ := HK.out; obtain ⟨z1, z2⟩ := HZ1.out; go_simp; try (with_reducible rfl))
    simp only [Act.put, List.setIfInBounds_toArray, List.set_cons_zero, List.set_cons_succ]
    refine lat_free (i := 1) (oi := { dst := some 55, op := Go.Op.move (Go.Operand.tmp 9), type := 3, pos := "more2.go:42", after := #[], guard := none }) (v := ?vea2) rfl (by kernel_rfl) (by kernel_rfl) (by kernel_rfl) (by kernel_rfl) (fun _ _ _ h => h) (Or.inl ⟨by rfl, ?hyea2⟩) ⟨hH0.1, fun _ => hH0.2⟩ ?restea2
    case hyea2 => (intro w hAw; obtain ⟨k3, k4, k5, k6⟩ := HK.out; obtain ⟨z1, z2⟩ := HZ1.out; go_simp; try (with_reducible rfl))
    simp only [Act.put, List.setIfInBounds_toArray, List.set_cons_zero, List.set_cons_succ]
    refine lat_free (i := 2) (oi := { dst := some 56, op := Go.Op.slice 9 (Go.Operand.tmp 54) none (some (Go.Operand.tmp 55)) none, type := 9, pos := "more2.go:42", after := #[{ on := 0, ground := Go.Ground.data }, { on := 1, ground := Go.Ground.data }], guard := none }) (v := ?vea3) rfl (by kernel_rfl) (by kernel_rfl) (by kernel_rfl) (by kernel_rfl) (fun _ _ _ h => h) (Or.inl ⟨by rfl, ?hyea3⟩) ⟨hH0.1, fun _ => hH0.2⟩ ?restea3
    case hyea3 => (intro w hAw; obtain ⟨k3, k4, k5, k6⟩ := HK.out; obtain ⟨z1, z2⟩ := HZ1.out; go_simp; try (with_reducible rfl))
    simp only [Act.put, List.setIfInBounds_toArray, List.set_cons_zero, List.set_cons_succ]
    refine lat_free (i := 3) (oi := { dst := some 57, op := Go.Op.move (Go.Operand.tmp 7), type := 9, pos := "more2.go:42", after := #[], guard := none }) (v := ?vea4) rfl (by kernel_rfl) (by kernel_rfl) (by kernel_rfl) (by kernel_rfl) (fun _ _ _ h => h) (Or.inl ⟨by rfl, ?hyea4⟩) ⟨hH0.1, fun _ => hH0.2⟩ ?restea4
    case hyea4 => (intro w hAw; obtain ⟨k3, k4, k5, k6⟩ := HK.out; obtain ⟨z1, z2⟩ := HZ1.out; go_simp; try (with_reducible rfl))
    simp only [Act.put, List.setIfInBounds_toArray, List.set_cons_zero, List.set_cons_succ]
    refine lat_free (i := 4) (oi := { dst := some 58, op := Go.Op.move (Go.Operand.tmp 9), type := 3, pos := "more2.go:42", after := #[], guard := none }) (v := ?vea5) rfl (by kernel_rfl) (by kernel_rfl) (by kernel_rfl) (by kernel_rfl) (fun _ _ _ h => h) (Or.inl ⟨by rfl, ?hyea5⟩) ⟨hH0.1, fun _ => hH0.2⟩ ?restea5
    case hyea5 => (intro w hAw; obtain ⟨k3, k4, k5, k6⟩ := HK.out; obtain ⟨z1, z2⟩ := HZ1.out; go_simp; try (with_reducible rfl))
    simp only [Act.put, List.setIfInBounds_toArray, List.set_cons_zero, List.set_cons_succ]
    refine lat_free (i := 5) (oi := { dst := some 59, op := Go.Op.index 9 (Go.Operand.tmp 57) (Go.Operand.tmp 58), type := 5, pos := "more2.go:42", after := #[{ on := 3, ground := Go.Ground.data }, { on := 4, ground := Go.Ground.data }], guard := none }) (v := ?vea6) rfl (by kernel_rfl) (by kernel_rfl) (by kernel_rfl) (by kernel_rfl) (fun _ _ _ h => h) (Or.inl ⟨by rfl, ?hyea6⟩) ⟨hH0.1, fun _ => hH0.2⟩ ?restea6
    case hyea6 => (intro w hAw; obtain ⟨k3, k4, k5, k6⟩ := HK.out; obtain ⟨z1, z2⟩ := HZ1.out; go_simp; try (with_reducible rfl))
    simp only [Act.put, List.setIfInBounds_toArray, List.set_cons_zero, List.set_cons_succ]
    refine lat_free (i := 6) (oi := { dst := some 60, op := Go.Op.move (Go.Operand.tmp 2), type := 5, pos := "more2.go:42", after := #[], guard := none }) (v := ?vea7) rfl (by kernel_rfl) (by kernel_rfl) (by kernel_rfl) (by kernel_rfl) (fun _ _ _ h => h) (Or.inl ⟨by rfl, ?hyea7⟩) ⟨hH0.1, fun _ => hH0.2⟩ ?restea7
    case hyea7 => (intro w hAw; obtain ⟨k3, k4, k5, k6⟩ := HK.out; obtain ⟨z1, z2⟩ := HZ1.out; go_simp; try (with_reducible rfl))
    simp only [Act.put, List.setIfInBounds_toArray, List.set_cons_zero, List.set_cons_succ]
    refine lat_free (i := 7) (oi := { dst := some 61, op := Go.Op.binOp Go.BinOp.xor 5 (Go.Operand.tmp 59) (Go.Operand.tmp 60) 5, type := 5, pos := "more2.go:42", after := #[{ on := 5, ground := Go.Ground.data }, { on := 6, ground := Go.Ground.data }], guard := none }) (v := ?vea8) rfl (by kernel_rfl) (by kernel_rfl) (by kernel_rfl) (by kernel_rfl) (fun _ _ _ h => h) (Or.inl ⟨by rfl, ?hyea8⟩) ⟨hH0.1, fun _ => hH0.2⟩ ?restea8
    case hyea8 => (intro w hAw; obtain ⟨k3, k4, k5, k6⟩ := HK.out; obtain ⟨z1, z2⟩ := HZ1.out; go_simp; try (with_reducible rfl))
    simp only [Act.put, List.setIfInBounds_toArray, List.set_cons_zero, List.set_cons_succ]
    refine lat_free (i := 11) (oi := { dst := some 65, op := Go.Op.move (Go.Operand.tmp 7), type := 9, pos := "more2.go:42", after := #[], guard := none }) (v := ?vea9) rfl (by kernel_rfl) (by kernel_rfl) (by kernel_rfl) (by kernel_rfl) (fun _ _ _ h => h) (Or.inl ⟨by rfl, ?hyea9⟩) ⟨hH0.1, fun _ => hH0.2⟩ ?restea9
    case hyea9 => (intro w hAw; obtain ⟨k3, k4, k5, k6⟩ := HK.out; obtain ⟨z1, z2⟩ := HZ1.out; go_simp; try (with_reducible rfl))
    simp only [Act.put, List.setIfInBounds_toArray, List.set_cons_zero, List.set_cons_succ]
    refine lat_free (i := 12) (oi := { dst := some 66, op := Go.Op.move (Go.Operand.tmp 9), type := 3, pos := "more2.go:42", after := #[], guard := none }) (v := ?vea10) rfl (by kernel_rfl) (by kernel_rfl) (by kernel_rfl) (by kernel_rfl) (fun _ _ _ h => h) (Or.inl ⟨by rfl, ?hyea10⟩) ⟨hH0.1, fun _ => hH0.2⟩ ?restea10
    case hyea10 => (intro w hAw; obtain ⟨k3, k4, k5, k6⟩ := HK.out; obtain ⟨z1, z2⟩ := HZ1.out; go_simp; try (with_reducible rfl))
    simp only [Act.put, List.setIfInBounds_toArray, List.set_cons_zero, List.set_cons_succ]
    refine lat_free (i := 13) (oi := { dst := some 67, op := Go.Op.binOp Go.BinOp.add 3 (Go.Operand.tmp 66) (Go.Operand.const (Go.Value.int Go.IntKind.i64 1)) 3, type := 3, pos := "more2.go:42", after := #[{ on := 12, ground := Go.Ground.data }], guard := none }) (v := ?vea11) rfl (by kernel_rfl) (by kernel_rfl) (by kernel_rfl) (by kernel_rfl) (fun _ _ _ h => h) (Or.inl ⟨by rfl, ?hyea11⟩) ⟨hH0.1, fun _ => hH0.2⟩ ?restea11
    case hyea11 => (intro w hAw; obtain ⟨k3, k4, k5, k6⟩ := HK.out; obtain ⟨z1, z2⟩ := HZ1.out; go_simp; try (with_reducible rfl))
    simp only [Act.put, List.setIfInBounds_toArray, List.set_cons_zero, List.set_cons_succ]
    refine lat_free (i := 14) (oi := { dst := some 68, op := Go.Op.slice 9 (Go.Operand.tmp 65) (some (Go.Operand.tmp 67)) none none, type := 9, pos := "more2.go:42", after := #[{ on := 11, ground := Go.Ground.data }, { on := 13, ground := Go.Ground.data }], guard := none }) (v := ?vea12) rfl (by kernel_rfl) (by kernel_rfl) (by kernel_rfl) (by kernel_rfl) (fun _ _ _ h => h) (Or.inl ⟨by rfl, ?hyea12⟩) ⟨hH0.1, fun _ => hH0.2⟩ ?restea12
    case hyea12 => (intro w hAw; obtain ⟨k3, k4, k5, k6⟩ := HK.out; obtain ⟨z1, z2⟩ := HZ1.out; go_simp; try (with_reducible rfl))
    simp only [Act.put, List.setIfInBounds_toArray, List.set_cons_zero, List.set_cons_succ]
    refine lat_two (i := 8) (k := 20) (by kernel_rfl) ?_ ?_
    · refine lat_run (o := { dst := some 62, op := Go.Op.buildSlice 43 1 #[(0, Go.Operand.tmp 61)], type := 43, pos := "more2.go:42", after := #[{ on := 7, ground := Go.Ground.data }], guard := none }) rfl (fun K hK => ?_)
      go_simp
      refine hK.out _ _ (⟨trivial, trivial⟩) (fun hHea13 => ?_)
      clear hK K
      refine lat_two (i := 9) (k := 20) (by kernel_rfl) ?_ ?_
      · refine lat_run (o := { dst := some 63, op := Go.Op.convert 43 9 (Go.Operand.tmp 62), type := 9, pos := "more2.go:42", after := #[{ on := 8, ground := Go.Ground.data }], guard := none }) rfl (fun K hK => ?_)
        go_simp
        refine hK.out _ _ (⟨trivial, trivial⟩) (fun hHea14 => ?_)
        clear hK K
        refine lat_free (i := 10) (oi := { dst := some 64, op := Go.Op.binOp Go.BinOp.add 9 (Go.Operand.tmp 56) (Go.Operand.tmp 63) 9, type := 9, pos := "more2.go:42", after := #[{ on := 2, ground := Go.Ground.data }, { on := 9, ground := Go.Ground.data }], guard := none }) (v := ?vea15) rfl (by kernel_rfl) (by kernel_rfl) (by kernel_rfl) (by kernel_rfl) (fun _ _ _ h => h) (Or.inl ⟨by rfl, ?hyea15⟩) ⟨hHea14.1, fun _ => hHea14.2⟩ ?restea15
        case hyea15 => (intro w hAw; obtain ⟨k3, k4, k5, k6⟩ := HK.out; obtain ⟨z1, z2⟩ := HZ1.out; go_simp; try (with_reducible rfl))
        simp only [Act.put, List.setIfInBounds_toArray, List.set_cons_zero, List.set_cons_succ]
        refine lat_free (i := 15) (oi := { dst := some 69, op := Go.Op.binOp Go.BinOp.add 9 (Go.Operand.tmp 64) (Go.Operand.tmp 68) 9, type := 9, pos := "more2.go:42", after := #[{ on := 10, ground := Go.Ground.data }, { on := 14, ground := Go.Ground.data }], guard := none }) (v := ?vea16) rfl (by kernel_rfl) (by kernel_rfl) (by kernel_rfl) (by kernel_rfl) (fun _ _ _ h => h) (Or.inl ⟨by rfl, ?hyea16⟩) ⟨hHea14.1, fun _ => hHea14.2⟩ ?restea16
        case hyea16 => (intro w hAw; obtain ⟨k3, k4, k5, k6⟩ := HK.out; obtain ⟨z1, z2⟩ := HZ1.out; go_simp; try (with_reducible rfl))
        simp only [Act.put, List.setIfInBounds_toArray, List.set_cons_zero, List.set_cons_succ]
        refine lat_two (i := 16) (k := 20) (by kernel_rfl) ?_ ?_
        · refine lat_run (o := { dst := some 70, op := Go.Op.call { callee := Go.Callee.value (Go.Operand.func 12), args := #[Go.Operand.tmp 69], argTypes := #[9] }, type := 29, pos := "more2.go:42", after := #[{ on := 15, ground := Go.Ground.data }], guard := none }) rfl (fun K hK => ?_)
          go_simp
          go_wp2_with (first
            | (go_at_call 12; go_fit (hg.out _); rintro e V4 ⟨rfl, K4⟩; have E4 := ends_one B3 K4)
            | fail)
          refine hK.out _ _ (⟨trivial, trivial⟩) (fun hHea17 => ?_)
          clear hK K
          refine lat_free (i := 17) (oi := { dst := some 53, op := Go.Op.move (Go.Operand.tmp 70), type := 29, pos := "more2.go:42", after := #[{ on := 16, ground := Go.Ground.data }], guard := none }) (v := ?vea18) rfl (by kernel_rfl) (by kernel_rfl) (by kernel_rfl) (by kernel_rfl) (fun _ _ _ h => h) (Or.inl ⟨by rfl, ?hyea18⟩) ⟨hHea17.1, fun _ => hHea17.2⟩ ?restea18
          case hyea18 => (intro w hAw; obtain ⟨k3, k4, k5, k6⟩ := HK.out; obtain ⟨z1, z2⟩ := HZ1.out; go_simp; try (with_reducible rfl))
          simp only [Act.put, List.setIfInBounds_toArray, List.set_cons_zero, List.set_cons_succ]
          refine lat_free (i := 18) (oi := { dst := some 71, op := Go.Op.extract (Go.Operand.tmp 53) 0, type := 23, pos := "more2.go:42", after := #[{ on := 17, ground := Go.Ground.data }], guard := none }) (v := ?vea19) rfl (by kernel_rfl) (by kernel_rfl) (by kernel_rfl) (by kernel_rfl) (fun _ _ _ h => h) (Or.inl ⟨by rfl, ?hyea19⟩) ⟨hHea17.1, fun _ => hHea17.2⟩ ?restea19
          case hyea19 => (intro w hAw; obtain ⟨k3, k4, k5, k6⟩ := HK.out; obtain ⟨z1, z2⟩ := HZ1.out; go_simp; try (with_reducible rfl))
          simp only [Act.put, List.setIfInBounds_toArray, List.set_cons_zero, List.set_cons_succ]
          refine lat_free (i := 19) (oi := { dst := some 72, op := Go.Op.extract (Go.Operand.tmp 53) 1, type := 4, pos := "more2.go:42", after := #[{ on := 17, ground := Go.Ground.data }, { on := 21, ground := Go.Ground.gcOnly Go.Departure.lateStores }], guard := none }) (v := ?vea20) rfl (by kernel_rfl) (by kernel_rfl) (by kernel_rfl) (by kernel_rfl) (fun _ _ _ h => h) (Or.inl ⟨by rfl, ?hyea20⟩) ⟨hHea17.1, fun _ => hHea17.2⟩ ?restea20
          case hyea20 => (intro w hAw; obtain ⟨k3, k4, k5, k6⟩ := HK.out; obtain ⟨z1, z2⟩ := HZ1.out; go_simp; try (with_reducible rfl))
          simp only [Act.put, List.setIfInBounds_toArray, List.set_cons_zero, List.set_cons_succ]
          refine lat_one (i := 20) (by kernel_rfl) ?_
          refine lat_run (o := { dst := some 10, op := Go.Op.alloc 23, type := 0, pos := "more2.go:42", after := #[], guard := none }) rfl (fun K hK => ?_)
          go_simp
          refine hK.out _ _ (⟨trivial, trivial⟩) (fun hHea21 => ?_)
          clear hK K
          refine lat_one (i := 21) (by kernel_rfl) ?_
          refine lat_run (o := { dst := none, op := Go.Op.store 23 (Go.Operand.tmp 10) (Go.Operand.tmp 71), type := 0, pos := "more2.go:42", after := #[{ on := 20, ground := Go.Ground.data }, { on := 18, ground := Go.Ground.data }, { on := 16, ground := Go.Ground.chain }, { on := 0, ground := Go.Ground.phase }, { on := 1, ground := Go.Ground.phase }, { on := 2, ground := Go.Ground.phase }, { on := 3, ground := Go.Ground.phase }, { on := 4, ground := Go.Ground.phase }, { on := 5, ground := Go.Ground.phase }, { on := 6, ground := Go.Ground.phase }, { on := 7, ground := Go.Ground.phase }, { on := 8, ground := Go.Ground.phase }, { on := 9, ground := Go.Ground.phase }, { on := 10, ground := Go.Ground.phase }, { on := 11, ground := Go.Ground.phase }, { on := 12, ground := Go.Ground.phase }, { on := 13, ground := Go.Ground.phase }, { on := 14, ground := Go.Ground.phase }, { on := 15, ground := Go.Ground.phase }, { on := 16, ground := Go.Ground.phase }, { on := 17, ground := Go.Ground.phase }, { on := 18, ground := Go.Ground.phase }, { on := 19, ground := Go.Ground.textOnly Go.Departure.lateStores }, { on := 20, ground := Go.Ground.phase }], guard := none }) rfl (fun K hK => ?_)
          go_simp
          refine hK.out _ _ (⟨trivial, trivial⟩) (fun hHea22 => ?_)
          clear hK K
          refine lat_free (i := 22) (oi := { dst := some 11, op := Go.Op.assign (Go.Operand.tmp 72), type := 4, pos := "more2.go:42", after := #[{ on := 19, ground := Go.Ground.data }, { on := 21, ground := Go.Ground.chain }, { on := 0, ground := Go.Ground.phase }, { on := 1, ground := Go.Ground.phase }, { on := 2, ground := Go.Ground.phase }, { on := 3, ground := Go.Ground.phase }, { on := 4, ground := Go.Ground.phase }, { on := 5, ground := Go.Ground.phase }, { on := 6, ground := Go.Ground.phase }, { on := 7, ground := Go.Ground.phase }, { on := 8, ground := Go.Ground.phase }, { on := 9, ground := Go.Ground.phase }, { on := 10, ground := Go.Ground.phase }, { on := 11, ground := Go.Ground.phase }, { on := 12, ground := Go.Ground.phase }, { on := 13, ground := Go.Ground.phase }, { on := 14, ground := Go.Ground.phase }, { on := 15, ground := Go.Ground.phase }, { on := 16, ground := Go.Ground.phase }, { on := 17, ground := Go.Ground.phase }, { on := 18, ground := Go.Ground.phase }, { on := 19, ground := Go.Ground.phase }, { on := 20, ground := Go.Ground.phase }, { on := 21, ground := Go.Ground.phase }], guard := none }) (v := ?vea23) rfl (by kernel_rfl) (by kernel_rfl) (by kernel_rfl) (by kernel_rfl) (fun _ _ _ h => h) (Or.inl ⟨by rfl, ?hyea23⟩) ⟨hHea22.1, fun _ => hHea22.2⟩ ?restea23
          case hyea23 => (intro w hAw; obtain ⟨k3, k4, k5, k6⟩ := HK.out; obtain ⟨z1, z2⟩ := HZ1.out; go_simp; try (with_reducible rfl))
          simp only [Act.put, List.setIfInBounds_toArray, List.set_cons_zero, List.set_cons_succ]
          refine lat_done (by kernel_rfl) ?_ _
          go_wp2_with (fail)
          go_meet
          exact ⟨rfl, rfl, E4.alloc E4.size _⟩
        · refine lat_run (o := { dst := some 10, op := Go.Op.alloc 23, type := 0, pos := "more2.go:42", after := #[], guard := none }) rfl (fun K hK => ?_)
          go_simp
          refine hK.out _ _ (⟨trivial, trivial⟩) (fun hHea24 => ?_)
          clear hK K
          refine lat_one (i := 16) (by kernel_rfl) ?_
          refine lat_run (o := { dst := some 70, op := Go.Op.call { callee := Go.Callee.value (Go.Operand.func 12), args := #[Go.Operand.tmp 69], argTypes := #[9] }, type := 29, pos := "more2.go:42", after := #[{ on := 15, ground := Go.Ground.data }], guard := none }) rfl (fun K hK => ?_)
          go_simp
          go_wp2_with (first
            | (go_at_call 12; go_fit (hg.out _); rintro e V4 ⟨rfl, K4⟩; obtain ⟨E4, ⟨u0, u1, u2⟩, v4⟩ := ends_three B3 K4; have v0 := v4 0; have v1 := v4 1; have v2 := v4 2; dsimp only [noC] at u0 u1 u2; clear v4)
            | fail)
          refine hK.out _ _ (⟨trivial, trivial⟩) (fun hHea25 => ?_)
          clear hK K
          refine lat_free (i := 17) (oi := { dst := some 53, op := Go.Op.move (Go.Operand.tmp 70), type := 29, pos := "more2.go:42", after := #[{ on := 16, ground := Go.Ground.data }], guard := none }) (v := ?vea26) rfl (by kernel_rfl) (by kernel_rfl) (by kernel_rfl) (by kernel_rfl) (fun _ _ _ h => h) (Or.inl ⟨by rfl, ?hyea26⟩) ⟨hHea25.1, fun _ => hHea25.2⟩ ?restea26
          case hyea26 => (intro w hAw; obtain ⟨k3, k4, k5, k6⟩ := HK.out; obtain ⟨z1, z2⟩ := HZ1.out; go_simp; try (with_reducible rfl))
          simp only [Act.put, List.setIfInBounds_toArray, List.set_cons_zero, List.set_cons_succ]
          refine lat_free (i := 18) (oi := { dst := some 71, op := Go.Op.extract (Go.Operand.tmp 53) 0, type := 23, pos := "more2.go:42", after := #[{ on := 17, ground := Go.Ground.data }], guard := none }) (v := ?vea27) rfl (by kernel_rfl) (by kernel_rfl) (by kernel_rfl) (by kernel_rfl) (fun _ _ _ h => h) (Or.inl ⟨by rfl, ?hyea27⟩) ⟨hHea25.1, fun _ => hHea25.2⟩ ?restea27
          case hyea27 => (intro w hAw; obtain ⟨k3, k4, k5, k6⟩ := HK.out; obtain ⟨z1, z2⟩ := HZ1.out; go_simp; try (with_reducible rfl))
          simp only [Act.put, List.setIfInBounds_toArray, List.set_cons_zero, List.set_cons_succ]
          refine lat_free (i := 19) (oi := { dst := some 72, op := Go.Op.extract (Go.Operand.tmp 53) 1, type := 4, pos := "more2.go:42", after := #[{ on := 17, ground := Go.Ground.data }, { on := 21, ground := Go.Ground.gcOnly Go.Departure.lateStores }], guard := none }) (v := ?vea28) rfl (by kernel_rfl) (by kernel_rfl) (by kernel_rfl) (by kernel_rfl) (fun _ _ _ h => h) (Or.inl ⟨by rfl, ?hyea28⟩) ⟨hHea25.1, fun _ => hHea25.2⟩ ?restea28
          case hyea28 => (intro w hAw; obtain ⟨k3, k4, k5, k6⟩ := HK.out; obtain ⟨z1, z2⟩ := HZ1.out; go_simp; try (with_reducible rfl))
          simp only [Act.put, List.setIfInBounds_toArray, List.set_cons_zero, List.set_cons_succ]
          refine lat_one (i := 21) (by kernel_rfl) ?_
          refine lat_run (o := { dst := none, op := Go.Op.store 23 (Go.Operand.tmp 10) (Go.Operand.tmp 71), type := 0, pos := "more2.go:42", after := #[{ on := 20, ground := Go.Ground.data }, { on := 18, ground := Go.Ground.data }, { on := 16, ground := Go.Ground.chain }, { on := 0, ground := Go.Ground.phase }, { on := 1, ground := Go.Ground.phase }, { on := 2, ground := Go.Ground.phase }, { on := 3, ground := Go.Ground.phase }, { on := 4, ground := Go.Ground.phase }, { on := 5, ground := Go.Ground.phase }, { on := 6, ground := Go.Ground.phase }, { on := 7, ground := Go.Ground.phase }, { on := 8, ground := Go.Ground.phase }, { on := 9, ground := Go.Ground.phase }, { on := 10, ground := Go.Ground.phase }, { on := 11, ground := Go.Ground.phase }, { on := 12, ground := Go.Ground.phase }, { on := 13, ground := Go.Ground.phase }, { on := 14, ground := Go.Ground.phase }, { on := 15, ground := Go.Ground.phase }, { on := 16, ground := Go.Ground.phase }, { on := 17, ground := Go.Ground.phase }, { on := 18, ground := Go.Ground.phase }, { on := 19, ground := Go.Ground.textOnly Go.Departure.lateStores }, { on := 20, ground := Go.Ground.phase }], guard := none }) rfl (fun K hK => ?_)
          go_simp
          refine hK.out _ _ (⟨trivial, trivial⟩) (fun hHea29 => ?_)
          clear hK K
          refine lat_free (i := 22) (oi := { dst := some 11, op := Go.Op.assign (Go.Operand.tmp 72), type := 4, pos := "more2.go:42", after := #[{ on := 19, ground := Go.Ground.data }, { on := 21, ground := Go.Ground.chain }, { on := 0, ground := Go.Ground.phase }, { on := 1, ground := Go.Ground.phase }, { on := 2, ground := Go.Ground.phase }, { on := 3, ground := Go.Ground.phase }, { on := 4, ground := Go.Ground.phase }, { on := 5, ground := Go.Ground.phase }, { on := 6, ground := Go.Ground.phase }, { on := 7, ground := Go.Ground.phase }, { on := 8, ground := Go.Ground.phase }, { on := 9, ground := Go.Ground.phase }, { on := 10, ground := Go.Ground.phase }, { on := 11, ground := Go.Ground.phase }, { on := 12, ground := Go.Ground.phase }, { on := 13, ground := Go.Ground.phase }, { on := 14, ground := Go.Ground.phase }, { on := 15, ground := Go.Ground.phase }, { on := 16, ground := Go.Ground.phase }, { on := 17, ground := Go.Ground.phase }, { on := 18, ground := Go.Ground.phase }, { on := 19, ground := Go.Ground.phase }, { on := 20, ground := Go.Ground.phase }, { on := 21, ground := Go.Ground.phase }], guard := none }) (v := ?vea30) rfl (by kernel_rfl) (by kernel_rfl) (by kernel_rfl) (by kernel_rfl) (fun _ _ _ h => h) (Or.inl ⟨by rfl, ?hyea30⟩) ⟨hHea29.1, fun _ => hHea29.2⟩ ?restea30
          case hyea30 => (intro w hAw; obtain ⟨k3, k4, k5, k6⟩ := HK.out; obtain ⟨z1, z2⟩ := HZ1.out; go_simp; try (with_reducible rfl))
          simp only [Act.put, List.setIfInBounds_toArray, List.set_cons_zero, List.set_cons_succ]
          refine lat_done (by kernel_rfl) ?_ _
          go_wp2_with (fail)
          go_meet
          exact ⟨rfl, rfl, ((E4.setCell (p := ⟨V2.heap.size + 1, 0, none⟩) (Nat.le_succ_of_le B3.size) _).setCell (p := ⟨V2.heap.size + 1, 1, none⟩) (Nat.le_succ_of_le B3.size) _).setCell (p := ⟨V2.heap.size + 1, 2, none⟩) (Nat.le_succ_of_le B3.size) _⟩
      · refine lat_run (o := { dst := some 10, op := Go.Op.alloc 23, type := 0, pos := "more2.go:42", after := #[], guard := none }) rfl (fun K hK => ?_)
        go_simp
        refine hK.out _ _ (⟨trivial, trivial⟩) (fun hHea31 => ?_)
        clear hK K
        refine lat_one (i := 9) (by kernel_rfl) ?_
        refine lat_run (o := { dst := some 63, op := Go.Op.convert 43 9 (Go.Operand.tmp 62), type := 9, pos := "more2.go:42", after := #[{ on := 8, ground := Go.Ground.data }], guard := none }) rfl (fun K hK => ?_)
        go_simp
        refine hK.out _ _ (⟨trivial, trivial⟩) (fun hHea32 => ?_)
        clear hK K
        refine lat_free (i := 10) (oi := { dst := some 64, op := Go.Op.binOp Go.BinOp.add 9 (Go.Operand.tmp 56) (Go.Operand.tmp 63) 9, type := 9, pos := "more2.go:42", after := #[{ on := 2, ground := Go.Ground.data }, { on := 9, ground := Go.Ground.data }], guard := none }) (v := ?vea33) rfl (by kernel_rfl) (by kernel_rfl) (by kernel_rfl) (by kernel_rfl) (fun _ _ _ h => h) (Or.inl ⟨by rfl, ?hyea33⟩) ⟨hHea32.1, fun _ => hHea32.2⟩ ?restea33
        case hyea33 => (intro w hAw; obtain ⟨k3, k4, k5, k6⟩ := HK.out; obtain ⟨z1, z2⟩ := HZ1.out; go_simp; try (with_reducible rfl))
        simp only [Act.put, List.setIfInBounds_toArray, List.set_cons_zero, List.set_cons_succ]
        refine lat_free (i := 15) (oi := { dst := some 69, op := Go.Op.binOp Go.BinOp.add 9 (Go.Operand.tmp 64) (Go.Operand.tmp 68) 9, type := 9, pos := "more2.go:42", after := #[{ on := 10, ground := Go.Ground.data }, { on := 14, ground := Go.Ground.data }], guard := none }) (v := ?vea34) rfl (by kernel_rfl) (by kernel_rfl) (by kernel_rfl) (by kernel_rfl) (fun _ _ _ h => h) (Or.inl ⟨by rfl, ?hyea34⟩) ⟨hHea32.1, fun _ => hHea32.2⟩ ?restea34
        case hyea34 => (intro w hAw; obtain ⟨k3, k4, k5, k6⟩ := HK.out; obtain ⟨z1, z2⟩ := HZ1.out; go_simp; try (with_reducible rfl))
        simp only [Act.put, List.setIfInBounds_toArray, List.set_cons_zero, List.set_cons_succ]
        refine lat_one (i := 16) (by kernel_rfl) ?_
        refine lat_run (o := { dst := some 70, op := Go.Op.call { callee := Go.Callee.value (Go.Operand.func 12), args := #[Go.Operand.tmp 69], argTypes := #[9] }, type := 29, pos := "more2.go:42", after := #[{ on := 15, ground := Go.Ground.data }], guard := none }) rfl (fun K hK => ?_)
        go_simp
        go_wp2_with (first
          | (go_at_call 12; go_fit (hg.out _); rintro e V4 ⟨rfl, K4⟩; obtain ⟨E4, ⟨u0, u1, u2⟩, v4⟩ := ends_three B3 K4; have v0 := v4 0; have v1 := v4 1; have v2 := v4 2; dsimp only [noC] at u0 u1 u2; clear v4)
          | fail)
        refine hK.out _ _ (⟨trivial, trivial⟩) (fun hHea35 => ?_)
        clear hK K
        refine lat_free (i := 17) (oi := { dst := some 53, op := Go.Op.move (Go.Operand.tmp 70), type := 29, pos := "more2.go:42", after := #[{ on := 16, ground := Go.Ground.data }], guard := none }) (v := ?vea36) rfl (by kernel_rfl) (by kernel_rfl) (by kernel_rfl) (by kernel_rfl) (fun _ _ _ h => h) (Or.inl ⟨by rfl, ?hyea36⟩) ⟨hHea35.1, fun _ => hHea35.2⟩ ?restea36
        case hyea36 => (intro w hAw; obtain ⟨k3, k4, k5, k6⟩ := HK.out; obtain ⟨z1, z2⟩ := HZ1.out; go_simp; try (with_reducible rfl))
        simp only [Act.put, List.setIfInBounds_toArray, List.set_cons_zero, List.set_cons_succ]
        refine lat_free (i := 18) (oi := { dst := some 71, op := Go.Op.extract (Go.Operand.tmp 53) 0, type := 23, pos := "more2.go:42", after := #[{ on := 17, ground := Go.Ground.data }], guard := none }) (v := ?vea37) rfl (by kernel_rfl) (by kernel_rfl) (by kernel_rfl) (by kernel_rfl) (fun _ _ _ h => h) (Or.inl ⟨by rfl, ?hyea37⟩) ⟨hHea35.1, fun _ => hHea35.2⟩ ?restea37
        case hyea37 => (intro w hAw; obtain ⟨k3, k4, k5, k6⟩ := HK.out; obtain ⟨z1, z2⟩ := HZ1.out; go_simp; try (with_reducible rfl))
        simp only [Act.put, List.setIfInBounds_toArray, List.set_cons_zero, List.set_cons_succ]
        refine lat_free (i := 19) (oi := { dst := some 72, op := Go.Op.extract (Go.Operand.tmp 53) 1, type := 4, pos := "more2.go:42", after := #[{ on := 17, ground := Go.Ground.data }, { on := 21, ground := Go.Ground.gcOnly Go.Departure.lateStores }], guard := none }) (v := ?vea38) rfl (by kernel_rfl) (by kernel_rfl) (by kernel_rfl) (by kernel_rfl) (fun _ _ _ h => h) (Or.inl ⟨by rfl, ?hyea38⟩) ⟨hHea35.1, fun _ => hHea35.2⟩ ?restea38
        case hyea38 => (intro w hAw; obtain ⟨k3, k4, k5, k6⟩ := HK.out; obtain ⟨z1, z2⟩ := HZ1.out; go_simp; try (with_reducible rfl))
        simp only [Act.put, List.setIfInBounds_toArray, List.set_cons_zero, List.set_cons_succ]
        refine lat_one (i := 21) (by kernel_rfl) ?_
        refine lat_run (o := { dst := none, op := Go.Op.store 23 (Go.Operand.tmp 10) (Go.Operand.tmp 71), type := 0, pos := "more2.go:42", after := #[{ on := 20, ground := Go.Ground.data }, { on := 18, ground := Go.Ground.data }, { on := 16, ground := Go.Ground.chain }, { on := 0, ground := Go.Ground.phase }, { on := 1, ground := Go.Ground.phase }, { on := 2, ground := Go.Ground.phase }, { on := 3, ground := Go.Ground.phase }, { on := 4, ground := Go.Ground.phase }, { on := 5, ground := Go.Ground.phase }, { on := 6, ground := Go.Ground.phase }, { on := 7, ground := Go.Ground.phase }, { on := 8, ground := Go.Ground.phase }, { on := 9, ground := Go.Ground.phase }, { on := 10, ground := Go.Ground.phase }, { on := 11, ground := Go.Ground.phase }, { on := 12, ground := Go.Ground.phase }, { on := 13, ground := Go.Ground.phase }, { on := 14, ground := Go.Ground.phase }, { on := 15, ground := Go.Ground.phase }, { on := 16, ground := Go.Ground.phase }, { on := 17, ground := Go.Ground.phase }, { on := 18, ground := Go.Ground.phase }, { on := 19, ground := Go.Ground.textOnly Go.Departure.lateStores }, { on := 20, ground := Go.Ground.phase }], guard := none }) rfl (fun K hK => ?_)
        go_simp
        refine hK.out _ _ (⟨trivial, trivial⟩) (fun hHea39 => ?_)
        clear hK K
        refine lat_free (i := 22) (oi := { dst := some 11, op := Go.Op.assign (Go.Operand.tmp 72), type := 4, pos := "more2.go:42", after := #[{ on := 19, ground := Go.Ground.data }, { on := 21, ground := Go.Ground.chain }, { on := 0, ground := Go.Ground.phase }, { on := 1, ground := Go.Ground.phase }, { on := 2, ground := Go.Ground.phase }, { on := 3, ground := Go.Ground.phase }, { on := 4, ground := Go.Ground.phase }, { on := 5, ground := Go.Ground.phase }, { on := 6, ground := Go.Ground.phase }, { on := 7, ground := Go.Ground.phase }, { on := 8, ground := Go.Ground.phase }, { on := 9, ground := Go.Ground.phase }, { on := 10, ground := Go.Ground.phase }, { on := 11, ground := Go.Ground.phase }, { on := 12, ground := Go.Ground.phase }, { on := 13, ground := Go.Ground.phase }, { on := 14, ground := Go.Ground.phase }, { on := 15, ground := Go.Ground.phase }, { on := 16, ground := Go.Ground.phase }, { on := 17, ground := Go.Ground.phase }, { on := 18, ground := Go.Ground.phase }, { on := 19, ground := Go.Ground.phase }, { on := 20, ground := Go.Ground.phase }, { on := 21, ground := Go.Ground.phase }], guard := none }) (v := ?vea40) rfl (by kernel_rfl) (by kernel_rfl) (by kernel_rfl) (by kernel_rfl) (fun _ _ _ h => h) (Or.inl ⟨by rfl, ?hyea40⟩) ⟨hHea39.1, fun _ => hHea39.2⟩ ?restea40
        case hyea40 => (intro w hAw; obtain ⟨k3, k4, k5, k6⟩ := HK.out; obtain ⟨z1, z2⟩ := HZ1.out; go_simp; try (with_reducible rfl))
        simp only [Act.put, List.setIfInBounds_toArray, List.set_cons_zero, List.set_cons_succ]
        refine lat_done (by kernel_rfl) ?_ _
        go_wp2_with (fail)
        go_meet
        exact ⟨rfl, rfl, ((E4.setCell (p := ⟨V2.heap.size + 1, 0, none⟩) (Nat.le_succ_of_le B3.size) _).setCell (p := ⟨V2.heap.size + 1, 1, none⟩) (Nat.le_succ_of_le B3.size) _).setCell (p := ⟨V2.heap.size + 1, 2, none⟩) (Nat.le_succ_of_le B3.size) _⟩
    · refine lat_run (o := { dst := some 10, op := Go.Op.alloc 23, type := 0, pos := "more2.go:42", after := #[], guard := none }) rfl (fun K hK => ?_)
      go_simp
      refine hK.out _ _ (⟨trivial, trivial⟩) (fun hHea41 => ?_)
      clear hK K
      refine lat_one (i := 8) (by kernel_rfl) ?_
      refine lat_run (o := { dst := some 62, op := Go.Op.buildSlice 43 1 #[(0, Go.Operand.tmp 61)], type := 43, pos := "more2.go:42", after := #[{ on := 7, ground := Go.Ground.data }], guard := none }) rfl (fun K hK => ?_)
      go_simp
      refine hK.out _ _ (⟨trivial, trivial⟩) (fun hHea42 => ?_)
      clear hK K
      refine lat_one (i := 9) (by kernel_rfl) ?_
      refine lat_run (o := { dst := some 63, op := Go.Op.convert 43 9 (Go.Operand.tmp 62), type := 9, pos := "more2.go:42", after := #[{ on := 8, ground := Go.Ground.data }], guard := none }) rfl (fun K hK => ?_)
      go_simp
      refine hK.out _ _ (⟨trivial, trivial⟩) (fun hHea43 => ?_)
      clear hK K
      refine lat_free (i := 10) (oi := { dst := some 64, op := Go.Op.binOp Go.BinOp.add 9 (Go.Operand.tmp 56) (Go.Operand.tmp 63) 9, type := 9, pos := "more2.go:42", after := #[{ on := 2, ground := Go.Ground.data }, { on := 9, ground := Go.Ground.data }], guard := none }) (v := ?vea44) rfl (by kernel_rfl) (by kernel_rfl) (by kernel_rfl) (by kernel_rfl) (fun _ _ _ h => h) (Or.inl ⟨by rfl, ?hyea44⟩) ⟨hHea43.1, fun _ => hHea43.2⟩ ?restea44
      case hyea44 => (intro w hAw; obtain ⟨k3, k4, k5, k6⟩ := HK.out; obtain ⟨z1, z2⟩ := HZ1.out; go_simp; try (with_reducible rfl))
      simp only [Act.put, List.setIfInBounds_toArray, List.set_cons_zero, List.set_cons_succ]
      refine lat_free (i := 15) (oi := { dst := some 69, op := Go.Op.binOp Go.BinOp.add 9 (Go.Operand.tmp 64) (Go.Operand.tmp 68) 9, type := 9, pos := "more2.go:42", after := #[{ on := 10, ground := Go.Ground.data }, { on := 14, ground := Go.Ground.data }], guard := none }) (v := ?vea45) rfl (by kernel_rfl) (by kernel_rfl) (by kernel_rfl) (by kernel_rfl) (fun _ _ _ h => h) (Or.inl ⟨by rfl, ?hyea45⟩) ⟨hHea43.1, fun _ => hHea43.2⟩ ?restea45
      case hyea45 => (intro w hAw; obtain ⟨k3, k4, k5, k6⟩ := HK.out; obtain ⟨z1, z2⟩ := HZ1.out; go_simp; try (with_reducible rfl))
      simp only [Act.put, List.setIfInBounds_toArray, List.set_cons_zero, List.set_cons_succ]
      refine lat_one (i := 16) (by kernel_rfl) ?_
      refine lat_run (o := { dst := some 70, op := Go.Op.call { callee := Go.Callee.value (Go.Operand.func 12), args := #[Go.Operand.tmp 69], argTypes := #[9] }, type := 29, pos := "more2.go:42", after := #[{ on := 15, ground := Go.Ground.data }], guard := none }) rfl (fun K hK => ?_)
      go_simp
      go_wp2_with (first
        | (go_at_call 12; go_fit (hg.out _); rintro e V4 ⟨rfl, K4⟩; obtain ⟨E4, ⟨u0, u1, u2⟩, v4⟩ := ends_two B3 K4; have v0 := v4 0; have v1 := v4 1; have v2 := v4 2; dsimp only [noC] at u0 u1 u2; clear v4)
        | fail)
      refine hK.out _ _ (⟨trivial, trivial⟩) (fun hHea46 => ?_)
      clear hK K
      refine lat_free (i := 17) (oi := { dst := some 53, op := Go.Op.move (Go.Operand.tmp 70), type := 29, pos := "more2.go:42", after := #[{ on := 16, ground := Go.Ground.data }], guard := none }) (v := ?vea47) rfl (by kernel_rfl) (by kernel_rfl) (by kernel_rfl) (by kernel_rfl) (fun _ _ _ h => h) (Or.inl ⟨by rfl, ?hyea47⟩) ⟨hHea46.1, fun _ => hHea46.2⟩ ?restea47
      case hyea47 => (intro w hAw; obtain ⟨k3, k4, k5, k6⟩ := HK.out; obtain ⟨z1, z2⟩ := HZ1.out; go_simp; try (with_reducible rfl))
      simp only [Act.put, List.setIfInBounds_toArray, List.set_cons_zero, List.set_cons_succ]
      refine lat_free (i := 18) (oi := { dst := some 71, op := Go.Op.extract (Go.Operand.tmp 53) 0, type := 23, pos := "more2.go:42", after := #[{ on := 17, ground := Go.Ground.data }], guard := none }) (v := ?vea48) rfl (by kernel_rfl) (by kernel_rfl) (by kernel_rfl) (by kernel_rfl) (fun _ _ _ h => h) (Or.inl ⟨by rfl, ?hyea48⟩) ⟨hHea46.1, fun _ => hHea46.2⟩ ?restea48
      case hyea48 => (intro w hAw; obtain ⟨k3, k4, k5, k6⟩ := HK.out; obtain ⟨z1, z2⟩ := HZ1.out; go_simp; try (with_reducible rfl))
      simp only [Act.put, List.setIfInBounds_toArray, List.set_cons_zero, List.set_cons_succ]
      refine lat_free (i := 19) (oi := { dst := some 72, op := Go.Op.extract (Go.Operand.tmp 53) 1, type := 4, pos := "more2.go:42", after := #[{ on := 17, ground := Go.Ground.data }, { on := 21, ground := Go.Ground.gcOnly Go.Departure.lateStores }], guard := none }) (v := ?vea49) rfl (by kernel_rfl) (by kernel_rfl) (by kernel_rfl) (by kernel_rfl) (fun _ _ _ h => h) (Or.inl ⟨by rfl, ?hyea49⟩) ⟨hHea46.1, fun _ => hHea46.2⟩ ?restea49
      case hyea49 => (intro w hAw; obtain ⟨k3, k4, k5, k6⟩ := HK.out; obtain ⟨z1, z2⟩ := HZ1.out; go_simp; try (with_reducible rfl))
      simp only [Act.put, List.setIfInBounds_toArray, List.set_cons_zero, List.set_cons_succ]
      refine lat_one (i := 21) (by kernel_rfl) ?_
      refine lat_run (o := { dst := none, op := Go.Op.store 23 (Go.Operand.tmp 10) (Go.Operand.tmp 71), type := 0, pos := "more2.go:42", after := #[{ on := 20, ground := Go.Ground.data }, { on := 18, ground := Go.Ground.data }, { on := 16, ground := Go.Ground.chain }, { on := 0, ground := Go.Ground.phase }, { on := 1, ground := Go.Ground.phase }, { on := 2, ground := Go.Ground.phase }, { on := 3, ground := Go.Ground.phase }, { on := 4, ground := Go.Ground.phase }, { on := 5, ground := Go.Ground.phase }, { on := 6, ground := Go.Ground.phase }, { on := 7, ground := Go.Ground.phase }, { on := 8, ground := Go.Ground.phase }, { on := 9, ground := Go.Ground.phase }, { on := 10, ground := Go.Ground.phase }, { on := 11, ground := Go.Ground.phase }, { on := 12, ground := Go.Ground.phase }, { on := 13, ground := Go.Ground.phase }, { on := 14, ground := Go.Ground.phase }, { on := 15, ground := Go.Ground.phase }, { on := 16, ground := Go.Ground.phase }, { on := 17, ground := Go.Ground.phase }, { on := 18, ground := Go.Ground.phase }, { on := 19, ground := Go.Ground.textOnly Go.Departure.lateStores }, { on := 20, ground := Go.Ground.phase }], guard := none }) rfl (fun K hK => ?_)
      go_simp
      refine hK.out _ _ (⟨trivial, trivial⟩) (fun hHea50 => ?_)
      clear hK K
      refine lat_free (i := 22) (oi := { dst := some 11, op := Go.Op.assign (Go.Operand.tmp 72), type := 4, pos := "more2.go:42", after := #[{ on := 19, ground := Go.Ground.data }, { on := 21, ground := Go.Ground.chain }, { on := 0, ground := Go.Ground.phase }, { on := 1, ground := Go.Ground.phase }, { on := 2, ground := Go.Ground.phase }, { on := 3, ground := Go.Ground.phase }, { on := 4, ground := Go.Ground.phase }, { on := 5, ground := Go.Ground.phase }, { on := 6, ground := Go.Ground.phase }, { on := 7, ground := Go.Ground.phase }, { on := 8, ground := Go.Ground.phase }, { on := 9, ground := Go.Ground.phase }, { on := 10, ground := Go.Ground.phase }, { on := 11, ground := Go.Ground.phase }, { on := 12, ground := Go.Ground.phase }, { on := 13, ground := Go.Ground.phase }, { on := 14, ground := Go.Ground.phase }, { on := 15, ground := Go.Ground.phase }, { on := 16, ground := Go.Ground.phase }, { on := 17, ground := Go.Ground.phase }, { on := 18, ground := Go.Ground.phase }, { on := 19, ground := Go.Ground.phase }, { on := 20, ground := Go.Ground.phase }, { on := 21, ground := Go.Ground.phase }], guard := none }) (v := ?vea51) rfl (by kernel_rfl) (by kernel_rfl) (by kernel_rfl) (by kernel_rfl) (fun _ _ _ h => h) (Or.inl ⟨by rfl, ?hyea51⟩) ⟨hHea50.1, fun _ => hHea50.2⟩ ?restea51
      case hyea51 => (intro w hAw; obtain ⟨k3, k4, k5, k6⟩ := HK.out; obtain ⟨z1, z2⟩ := HZ1.out; go_simp; try (with_reducible rfl))
      simp only [Act.put, List.setIfInBounds_toArray, List.set_cons_zero, List.set_cons_succ]
      refine lat_done (by kernel_rfl) ?_ _
      go_wp2_with (fail)
      go_meet
      exact ⟨rfl, rfl, ((E4.setCell (p := ⟨V2.heap.size, 0, none⟩) B3.size _).setCell (p := ⟨V2.heap.size, 1, none⟩) B3.size _).setCell (p := ⟨V2.heap.size, 2, none⟩) B3.size _⟩
  case rest =>
  obtain ⟨rfl, rfl, B5⟩ := hcut
  go_upto_region 9 with (fail)
  refine lat_region (A := (fun _ => True)) (S := (fun _ => True)) [] (by kernel_rfl) ?_ (fun hH0 => ?_)
  · exact ⟨trivial, trivial⟩
  refine lat_free (i := 0) (oi := { dst := some 76, op := Go.Op.move (Go.Operand.tmp 7), type := 9, pos := "more2.go:44", after := #[], guard := none }) (v := ?veb1) rfl (by kernel_rfl) (by kernel_rfl) (by kernel_rfl) (by kernel_rfl) (fun _ _ _ h => h) (Or.inl ⟨by rfl, ?hyeb1⟩) ⟨hH0.1, fun _ => hH0.2⟩ ?resteb1
  case hyeb1 => (intro w hAw; obtain ⟨k3, k4, k5, k7, k8, k6⟩ := HJ.out; obtain ⟨z1, z2⟩ := HZ2.out; have g2 := gb2.out; have e2 := e120.out; have e3 := e121.out; go_simp; try (with_reducible rfl))
  simp only [Act.put, List.setIfInBounds_toArray, List.set_cons_zero, List.set_cons_succ]
  refine lat_free (i := 1) (oi := { dst := some 77, op := Go.Op.move (Go.Operand.tmp 9), type := 3, pos := "more2.go:44", after := #[], guard := none }) (v := ?veb2) rfl (by kernel_rfl) (by kernel_rfl) (by kernel_rfl) (by kernel_rfl) (fun _ _ _ h => h) (Or.inl ⟨by rfl, ?hyeb2⟩) ⟨hH0.1, fun _ => hH0.2⟩ ?resteb2
  case hyeb2 => (intro w hAw; obtain ⟨k3, k4, k5, k7, k8, k6⟩ := HJ.out; obtain ⟨z1, z2⟩ := HZ2.out; have g2 := gb2.out; have e2 := e120.out; have e3 := e121.out; go_simp; try (with_reducible rfl))
  simp only [Act.put, List.setIfInBounds_toArray, List.set_cons_zero, List.set_cons_succ]
  refine lat_free (i := 2) (oi := { dst := some 78, op := Go.Op.slice 9 (Go.Operand.tmp 76) none (some (Go.Operand.tmp 77)) none, type := 9, pos := "more2.go:44", after := #[{ on := 0, ground := Go.Ground.data }, { on := 1, ground := Go.Ground.data }], guard := none }) (v := ?veb3) rfl (by kernel_rfl) (by kernel_rfl) (by kernel_rfl) (by kernel_rfl) (fun _ _ _ h => h) (Or.inl ⟨by rfl, ?hyeb3⟩) ⟨hH0.1, fun _ => hH0.2⟩ ?resteb3
  case hyeb3 => (intro w hAw; obtain ⟨k3, k4, k5, k7, k8, k6⟩ := HJ.out; obtain ⟨z1, z2⟩ := HZ2.out; have g2 := gb2.out; have e2 := e120.out; have e3 := e121.out; go_simp; try (with_reducible rfl))
  simp only [Act.put, List.setIfInBounds_toArray, List.set_cons_zero, List.set_cons_succ]
  refine lat_free (i := 3) (oi := { dst := some 79, op := Go.Op.move (Go.Operand.tmp 7), type := 9, pos := "more2.go:44", after := #[], guard := none }) (v := ?veb4) rfl (by kernel_rfl) (by kernel_rfl) (by kernel_rfl) (by kernel_rfl) (fun _ _ _ h => h) (Or.inl ⟨by rfl, ?hyeb4⟩) ⟨hH0.1, fun _ => hH0.2⟩ ?resteb4
  case hyeb4 => (intro w hAw; obtain ⟨k3, k4, k5, k7, k8, k6⟩ := HJ.out; obtain ⟨z1, z2⟩ := HZ2.out; have g2 := gb2.out; have e2 := e120.out; have e3 := e121.out; go_simp; try (with_reducible rfl))
  simp only [Act.put, List.setIfInBounds_toArray, List.set_cons_zero, List.set_cons_succ]
  refine lat_free (i := 4) (oi := { dst := some 80, op := Go.Op.move (Go.Operand.tmp 9), type := 3, pos := "more2.go:44", after := #[], guard := none }) (v := ?veb5) rfl (by kernel_rfl) (by kernel_rfl) (by kernel_rfl) (by kernel_rfl) (fun _ _ _ h => h) (Or.inl ⟨by rfl, ?hyeb5⟩) ⟨hH0.1, fun _ => hH0.2⟩ ?resteb5
  case hyeb5 => (intro w hAw; obtain ⟨k3, k4, k5, k7, k8, k6⟩ := HJ.out; obtain ⟨z1, z2⟩ := HZ2.out; have g2 := gb2.out; have e2 := e120.out; have e3 := e121.out; go_simp; try (with_reducible rfl))
  simp only [Act.put, List.setIfInBounds_toArray, List.set_cons_zero, List.set_cons_succ]
  refine lat_free (i := 5) (oi := { dst := some 81, op := Go.Op.index 9 (Go.Operand.tmp 79) (Go.Operand.tmp 80), type := 5, pos := "more2.go:44", after := #[{ on := 3, ground := Go.Ground.data }, { on := 4, ground := Go.Ground.data }], guard := none }) (v := ?veb6) rfl (by kernel_rfl) (by kernel_rfl) (by kernel_rfl) (by kernel_rfl) (fun _ _ _ h => h) (Or.inl ⟨by rfl, ?hyeb6⟩) ⟨hH0.1, fun _ => hH0.2⟩ ?resteb6
  case hyeb6 => (intro w hAw; obtain ⟨k3, k4, k5, k7, k8, k6⟩ := HJ.out; obtain ⟨z1, z2⟩ := HZ2.out; have g2 := gb2.out; have e2 := e120.out; have e3 := e121.out; go_simp; try (with_reducible rfl))
  simp only [Act.put, List.setIfInBounds_toArray, List.set_cons_zero, List.set_cons_succ]
  refine lat_free (i := 6) (oi := { dst := some 82, op := Go.Op.move (Go.Operand.tmp 2), type := 5, pos := "more2.go:44", after := #[], guard := none }) (v := ?veb7) rfl (by kernel_rfl) (by kernel_rfl) (by kernel_rfl) (by kernel_rfl) (fun _ _ _ h => h) (Or.inl ⟨by rfl, ?hyeb7⟩) ⟨hH0.1, fun _ => hH0.2⟩ ?resteb7
  case hyeb7 => (intro w hAw; obtain ⟨k3, k4, k5, k7, k8, k6⟩ := HJ.out; obtain ⟨z1, z2⟩ := HZ2.out; have g2 := gb2.out; have e2 := e120.out; have e3 := e121.out; go_simp; try (with_reducible rfl))
  simp only [Act.put, List.setIfInBounds_toArray, List.set_cons_zero, List.set_cons_succ]
  refine lat_free (i := 7) (oi := { dst := some 83, op := Go.Op.binOp Go.BinOp.xor 5 (Go.Operand.tmp 81) (Go.Operand.tmp 82) 5, type := 5, pos := "more2.go:44", after := #[{ on := 5, ground := Go.Ground.data }, { on := 6, ground := Go.Ground.data }], guard := none }) (v := ?veb8) rfl (by kernel_rfl) (by kernel_rfl) (by kernel_rfl) (by kernel_rfl) (fun _ _ _ h => h) (Or.inl ⟨by rfl, ?hyeb8⟩) ⟨hH0.1, fun _ => hH0.2⟩ ?resteb8
  case hyeb8 => (intro w hAw; obtain ⟨k3, k4, k5, k7, k8, k6⟩ := HJ.out; obtain ⟨z1, z2⟩ := HZ2.out; have g2 := gb2.out; have e2 := e120.out; have e3 := e121.out; go_simp; try (with_reducible rfl))
  simp only [Act.put, List.setIfInBounds_toArray, List.set_cons_zero, List.set_cons_succ]
  refine lat_free (i := 11) (oi := { dst := some 87, op := Go.Op.move (Go.Operand.tmp 7), type := 9, pos := "more2.go:44", after := #[], guard := none }) (v := ?veb9) rfl (by kernel_rfl) (by kernel_rfl) (by kernel_rfl) (by kernel_rfl) (fun _ _ _ h => h) (Or.inl ⟨by rfl, ?hyeb9⟩) ⟨hH0.1, fun _ => hH0.2⟩ ?resteb9
  case hyeb9 => (intro w hAw; obtain ⟨k3, k4, k5, k7, k8, k6⟩ := HJ.out; obtain ⟨z1, z2⟩ := HZ2.out; have g2 := gb2.out; have e2 := e120.out; have e3 := e121.out; go_simp; try (with_reducible rfl))
  simp only [Act.put, List.setIfInBounds_toArray, List.set_cons_zero, List.set_cons_succ]
  refine lat_free (i := 12) (oi := { dst := some 88, op := Go.Op.move (Go.Operand.tmp 9), type := 3, pos := "more2.go:44", after := #[], guard := none }) (v := ?veb10) rfl (by kernel_rfl) (by kernel_rfl) (by kernel_rfl) (by kernel_rfl) (fun _ _ _ h => h) (Or.inl ⟨by rfl, ?hyeb10⟩) ⟨hH0.1, fun _ => hH0.2⟩ ?resteb10
  case hyeb10 => (intro w hAw; obtain ⟨k3, k4, k5, k7, k8, k6⟩ := HJ.out; obtain ⟨z1, z2⟩ := HZ2.out; have g2 := gb2.out; have e2 := e120.out; have e3 := e121.out; go_simp; try (with_reducible rfl))
  simp only [Act.put, List.setIfInBounds_toArray, List.set_cons_zero, List.set_cons_succ]
  refine lat_free (i := 13) (oi := { dst := some 89, op := Go.Op.binOp Go.BinOp.add 3 (Go.Operand.tmp 88) (Go.Operand.const (Go.Value.int Go.IntKind.i64 1)) 3, type := 3, pos := "more2.go:44", after := #[{ on := 12, ground := Go.Ground.data }], guard := none }) (v := ?veb11) rfl (by kernel_rfl) (by kernel_rfl) (by kernel_rfl) (by kernel_rfl) (fun _ _ _ h => h) (Or.inl ⟨by rfl, ?hyeb11⟩) ⟨hH0.1, fun _ => hH0.2⟩ ?resteb11
  case hyeb11 => (intro w hAw; obtain ⟨k3, k4, k5, k7, k8, k6⟩ := HJ.out; obtain ⟨z1, z2⟩ := HZ2.out; have g2 := gb2.out; have e2 := e120.out; have e3 := e121.out; go_simp; try (with_reducible rfl))
  simp only [Act.put, List.setIfInBounds_toArray, List.set_cons_zero, List.set_cons_succ]
  refine lat_free (i := 14) (oi := { dst := some 90, op := Go.Op.slice 9 (Go.Operand.tmp 87) (some (Go.Operand.tmp 89)) none none, type := 9, pos := "more2.go:44", after := #[{ on := 11, ground := Go.Ground.data }, { on := 13, ground := Go.Ground.data }], guard := none }) (v := ?veb12) rfl (by kernel_rfl) (by kernel_rfl) (by kernel_rfl) (by kernel_rfl) (fun _ _ _ h => h) (Or.inl ⟨by rfl, ?hyeb12⟩) ⟨hH0.1, fun _ => hH0.2⟩ ?resteb12
  case hyeb12 => (intro w hAw; obtain ⟨k3, k4, k5, k7, k8, k6⟩ := HJ.out; obtain ⟨z1, z2⟩ := HZ2.out; have g2 := gb2.out; have e2 := e120.out; have e3 := e121.out; go_simp; try (with_reducible rfl))
  simp only [Act.put, List.setIfInBounds_toArray, List.set_cons_zero, List.set_cons_succ]
  refine lat_two (i := 8) (k := 20) (by kernel_rfl) ?_ ?_
  · refine lat_run (o := { dst := some 84, op := Go.Op.buildSlice 43 1 #[(0, Go.Operand.tmp 83)], type := 43, pos := "more2.go:44", after := #[{ on := 7, ground := Go.Ground.data }], guard := none }) rfl (fun K hK => ?_)
    go_simp
    refine hK.out _ _ (⟨trivial, trivial⟩) (fun hHeb13 => ?_)
    clear hK K
    refine lat_two (i := 9) (k := 20) (by kernel_rfl) ?_ ?_
    · refine lat_run (o := { dst := some 85, op := Go.Op.convert 43 9 (Go.Operand.tmp 84), type := 9, pos := "more2.go:44", after := #[{ on := 8, ground := Go.Ground.data }], guard := none }) rfl (fun K hK => ?_)
      go_simp
      refine hK.out _ _ (⟨trivial, trivial⟩) (fun hHeb14 => ?_)
      clear hK K
      refine lat_free (i := 10) (oi := { dst := some 86, op := Go.Op.binOp Go.BinOp.add 9 (Go.Operand.tmp 78) (Go.Operand.tmp 85) 9, type := 9, pos := "more2.go:44", after := #[{ on := 2, ground := Go.Ground.data }, { on := 9, ground := Go.Ground.data }], guard := none }) (v := ?veb15) rfl (by kernel_rfl) (by kernel_rfl) (by kernel_rfl) (by kernel_rfl) (fun _ _ _ h => h) (Or.inl ⟨by rfl, ?hyeb15⟩) ⟨hHeb14.1, fun _ => hHeb14.2⟩ ?resteb15
      case hyeb15 => (intro w hAw; obtain ⟨k3, k4, k5, k7, k8, k6⟩ := HJ.out; obtain ⟨z1, z2⟩ := HZ2.out; have g2 := gb2.out; have e2 := e120.out; have e3 := e121.out; go_simp; try (with_reducible rfl))
      simp only [Act.put, List.setIfInBounds_toArray, List.set_cons_zero, List.set_cons_succ]
      refine lat_free (i := 15) (oi := { dst := some 91, op := Go.Op.binOp Go.BinOp.add 9 (Go.Operand.tmp 86) (Go.Operand.tmp 90) 9, type := 9, pos := "more2.go:44", after := #[{ on := 10, ground := Go.Ground.data }, { on := 14, ground := Go.Ground.data }], guard := none }) (v := ?veb16) rfl (by kernel_rfl) (by kernel_rfl) (by kernel_rfl) (by kernel_rfl) (fun _ _ _ h => h) (Or.inl ⟨by rfl, ?hyeb16⟩) ⟨hHeb14.1, fun _ => hHeb14.2⟩ ?resteb16
      case hyeb16 => (intro w hAw; obtain ⟨k3, k4, k5, k7, k8, k6⟩ := HJ.out; obtain ⟨z1, z2⟩ := HZ2.out; have g2 := gb2.out; have e2 := e120.out; have e3 := e121.out; go_simp; try (with_reducible rfl))
      simp only [Act.put, List.setIfInBounds_toArray, List.set_cons_zero, List.set_cons_succ]
      refine lat_two (i := 16) (k := 20) (by kernel_rfl) ?_ ?_
      · refine lat_run (o := { dst := some 92, op := Go.Op.call { callee := Go.Callee.value (Go.Operand.func 12), args := #[Go.Operand.tmp 91], argTypes := #[9] }, type := 29, pos := "more2.go:44", after := #[{ on := 15, ground := Go.Ground.data }], guard := none }) rfl (fun K hK => ?_)
        go_simp
        go_wp2_with (first
          | (go_at_call 12; go_fit (hg2.out _); rintro e V4 ⟨rfl, K4⟩; have E4 := ends_one B5 K4)
          | fail)
        refine hK.out _ _ (⟨trivial, trivial⟩) (fun hHeb17 => ?_)
        clear hK K
        refine lat_free (i := 17) (oi := { dst := some 75, op := Go.Op.move (Go.Operand.tmp 92), type := 29, pos := "more2.go:44", after := #[{ on := 16, ground := Go.Ground.data }], guard := none }) (v := ?veb18) rfl (by kernel_rfl) (by kernel_rfl) (by kernel_rfl) (by kernel_rfl) (fun _ _ _ h => h) (Or.inl ⟨by rfl, ?hyeb18⟩) ⟨hHeb17.1, fun _ => hHeb17.2⟩ ?resteb18
        case hyeb18 => (intro w hAw; obtain ⟨k3, k4, k5, k7, k8, k6⟩ := HJ.out; obtain ⟨z1, z2⟩ := HZ2.out; have g2 := gb2.out; have e2 := e120.out; have e3 := e121.out; go_simp; try (with_reducible rfl))
        simp only [Act.put, List.setIfInBounds_toArray, List.set_cons_zero, List.set_cons_succ]
        refine lat_free (i := 18) (oi := { dst := some 93, op := Go.Op.extract (Go.Operand.tmp 75) 0, type := 23, pos := "more2.go:44", after := #[{ on := 17, ground := Go.Ground.data }], guard := none }) (v := ?veb19) rfl (by kernel_rfl) (by kernel_rfl) (by kernel_rfl) (by kernel_rfl) (fun _ _ _ h => h) (Or.inl ⟨by rfl, ?hyeb19⟩) ⟨hHeb17.1, fun _ => hHeb17.2⟩ ?resteb19
        case hyeb19 => (intro w hAw; obtain ⟨k3, k4, k5, k7, k8, k6⟩ := HJ.out; obtain ⟨z1, z2⟩ := HZ2.out; have g2 := gb2.out; have e2 := e120.out; have e3 := e121.out; go_simp; try (with_reducible rfl))
        simp only [Act.put, List.setIfInBounds_toArray, List.set_cons_zero, List.set_cons_succ]
        refine lat_free (i := 19) (oi := { dst := some 94, op := Go.Op.extract (Go.Operand.tmp 75) 1, type := 4, pos := "more2.go:44", after := #[{ on := 17, ground := Go.Ground.data }, { on := 21, ground := Go.Ground.gcOnly Go.Departure.lateStores }], guard := none }) (v := ?veb20) rfl (by kernel_rfl) (by kernel_rfl) (by kernel_rfl) (by kernel_rfl) (fun _ _ _ h => h) (Or.inl ⟨by rfl, ?hyeb20⟩) ⟨hHeb17.1, fun _ => hHeb17.2⟩ ?resteb20
        case hyeb20 => (intro w hAw; obtain ⟨k3, k4, k5, k7, k8, k6⟩ := HJ.out; obtain ⟨z1, z2⟩ := HZ2.out; have g2 := gb2.out; have e2 := e120.out; have e3 := e121.out; go_simp; try (with_reducible rfl))
        simp only [Act.put, List.setIfInBounds_toArray, List.set_cons_zero, List.set_cons_succ]
        refine lat_one (i := 20) (by kernel_rfl) ?_
        refine lat_run (o := { dst := some 12, op := Go.Op.alloc 23, type := 0, pos := "more2.go:44", after := #[], guard := none }) rfl (fun K hK => ?_)
        go_simp
        refine hK.out _ _ (⟨trivial, trivial⟩) (fun hHeb21 => ?_)
        clear hK K
        refine lat_one (i := 21) (by kernel_rfl) ?_
        refine lat_run (o := { dst := none, op := Go.Op.store 23 (Go.Operand.tmp 12) (Go.Operand.tmp 93), type := 0, pos := "more2.go:44", after := #[{ on := 20, ground := Go.Ground.data }, { on := 18, ground := Go.Ground.data }, { on := 16, ground := Go.Ground.chain }, { on := 0, ground := Go.Ground.phase }, { on := 1, ground := Go.Ground.phase }, { on := 2, ground := Go.Ground.phase }, { on := 3, ground := Go.Ground.phase }, { on := 4, ground := Go.Ground.phase }, { on := 5, ground := Go.Ground.phase }, { on := 6, ground := Go.Ground.phase }, { on := 7, ground := Go.Ground.phase }, { on := 8, ground := Go.Ground.phase }, { on := 9, ground := Go.Ground.phase }, { on := 10, ground := Go.Ground.phase }, { on := 11, ground := Go.Ground.phase }, { on := 12, ground := Go.Ground.phase }, { on := 13, ground := Go.Ground.phase }, { on := 14, ground := Go.Ground.phase }, { on := 15, ground := Go.Ground.phase }, { on := 16, ground := Go.Ground.phase }, { on := 17, ground := Go.Ground.phase }, { on := 18, ground := Go.Ground.phase }, { on := 19, ground := Go.Ground.textOnly Go.Departure.lateStores }, { on := 20, ground := Go.Ground.phase }], guard := none }) rfl (fun K hK => ?_)
        go_simp
        refine hK.out _ _ (⟨trivial, trivial⟩) (fun hHeb22 => ?_)
        clear hK K
        refine lat_free (i := 22) (oi := { dst := some 13, op := Go.Op.assign (Go.Operand.tmp 94), type := 4, pos := "more2.go:44", after := #[{ on := 19, ground := Go.Ground.data }, { on := 21, ground := Go.Ground.chain }, { on := 0, ground := Go.Ground.phase }, { on := 1, ground := Go.Ground.phase }, { on := 2, ground := Go.Ground.phase }, { on := 3, ground := Go.Ground.phase }, { on := 4, ground := Go.Ground.phase }, { on := 5, ground := Go.Ground.phase }, { on := 6, ground := Go.Ground.phase }, { on := 7, ground := Go.Ground.phase }, { on := 8, ground := Go.Ground.phase }, { on := 9, ground := Go.Ground.phase }, { on := 10, ground := Go.Ground.phase }, { on := 11, ground := Go.Ground.phase }, { on := 12, ground := Go.Ground.phase }, { on := 13, ground := Go.Ground.phase }, { on := 14, ground := Go.Ground.phase }, { on := 15, ground := Go.Ground.phase }, { on := 16, ground := Go.Ground.phase }, { on := 17, ground := Go.Ground.phase }, { on := 18, ground := Go.Ground.phase }, { on := 19, ground := Go.Ground.phase }, { on := 20, ground := Go.Ground.phase }, { on := 21, ground := Go.Ground.phase }], guard := none }) (v := ?veb23) rfl (by kernel_rfl) (by kernel_rfl) (by kernel_rfl) (by kernel_rfl) (fun _ _ _ h => h) (Or.inl ⟨by rfl, ?hyeb23⟩) ⟨hHeb22.1, fun _ => hHeb22.2⟩ ?resteb23
        case hyeb23 => (intro w hAw; obtain ⟨k3, k4, k5, k7, k8, k6⟩ := HJ.out; obtain ⟨z1, z2⟩ := HZ2.out; have g2 := gb2.out; have e2 := e120.out; have e3 := e121.out; go_simp; try (with_reducible rfl))
        simp only [Act.put, List.setIfInBounds_toArray, List.set_cons_zero, List.set_cons_succ]
        refine lat_done (by kernel_rfl) ?_ _
        go_wp2_with (fail)
        go_ret
        exact ⟨rfl, E4.alloc E4.size _⟩
      · refine lat_run (o := { dst := some 12, op := Go.Op.alloc 23, type := 0, pos := "more2.go:44", after := #[], guard := none }) rfl (fun K hK => ?_)
        go_simp
        refine hK.out _ _ (⟨trivial, trivial⟩) (fun hHeb24 => ?_)
        clear hK K
        refine lat_one (i := 16) (by kernel_rfl) ?_
        refine lat_run (o := { dst := some 92, op := Go.Op.call { callee := Go.Callee.value (Go.Operand.func 12), args := #[Go.Operand.tmp 91], argTypes := #[9] }, type := 29, pos := "more2.go:44", after := #[{ on := 15, ground := Go.Ground.data }], guard := none }) rfl (fun K hK => ?_)
        go_simp
        go_wp2_with (first
          | (go_at_call 12; go_fit (hg2.out _); rintro e V4 ⟨rfl, K4⟩; obtain ⟨E4, ⟨u0, u1, u2⟩, v4⟩ := ends_three B5 K4; have v0 := v4 0; have v1 := v4 1; have v2 := v4 2; dsimp only [noC] at u0 u1 u2; clear v4)
          | fail)
        refine hK.out _ _ (⟨trivial, trivial⟩) (fun hHeb25 => ?_)
        clear hK K
        refine lat_free (i := 17) (oi := { dst := some 75, op := Go.Op.move (Go.Operand.tmp 92), type := 29, pos := "more2.go:44", after := #[{ on := 16, ground := Go.Ground.data }], guard := none }) (v := ?veb26) rfl (by kernel_rfl) (by kernel_rfl) (by kernel_rfl) (by kernel_rfl) (fun _ _ _ h => h) (Or.inl ⟨by rfl, ?hyeb26⟩) ⟨hHeb25.1, fun _ => hHeb25.2⟩ ?resteb26
        case hyeb26 => (intro w hAw; obtain ⟨k3, k4, k5, k7, k8, k6⟩ := HJ.out; obtain ⟨z1, z2⟩ := HZ2.out; have g2 := gb2.out; have e2 := e120.out; have e3 := e121.out; go_simp; try (with_reducible rfl))
        simp only [Act.put, List.setIfInBounds_toArray, List.set_cons_zero, List.set_cons_succ]
        refine lat_free (i := 18) (oi := { dst := some 93, op := Go.Op.extract (Go.Operand.tmp 75) 0, type := 23, pos := "more2.go:44", after := #[{ on := 17, ground := Go.Ground.data }], guard := none }) (v := ?veb27) rfl (by kernel_rfl) (by kernel_rfl) (by kernel_rfl) (by kernel_rfl) (fun _ _ _ h => h) (Or.inl ⟨by rfl, ?hyeb27⟩) ⟨hHeb25.1, fun _ => hHeb25.2⟩ ?resteb27
        case hyeb27 => (intro w hAw; obtain ⟨k3, k4, k5, k7, k8, k6⟩ := HJ.out; obtain ⟨z1, z2⟩ := HZ2.out; have g2 := gb2.out; have e2 := e120.out; have e3 := e121.out; go_simp; try (with_reducible rfl))
        simp only [Act.put, List.setIfInBounds_toArray, List.set_cons_zero, List.set_cons_succ]
        refine lat_free (i := 19) (oi := { dst := some 94, op := Go.Op.extract (Go.Operand.tmp 75) 1, type := 4, pos := "more2.go:44", after := #[{ on := 17, ground := Go.Ground.data }, { on := 21, ground := Go.Ground.gcOnly Go.Departure.lateStores }], guard := none }) (v := ?veb28) rfl (by kernel_rfl) (by kernel_rfl) (by kernel_rfl) (by kernel_rfl) (fun _ _ _ h => h) (Or.inl ⟨by rfl, ?hyeb28⟩) ⟨hHeb25.1, fun _ => hHeb25.2⟩ ?resteb28
        case hyeb28 => (intro w hAw; obtain ⟨k3, k4, k5, k7, k8, k6⟩ := HJ.out; obtain ⟨z1, z2⟩ := HZ2.out; have g2 := gb2.out; have e2 := e120.out; have e3 := e121.out; go_simp; try (with_reducible rfl))
        simp only [Act.put, List.setIfInBounds_toArray, List.set_cons_zero, List.set_cons_succ]
        refine lat_one (i := 21) (by kernel_rfl) ?_
        refine lat_run (o := { dst := none, op := Go.Op.store 23 (Go.Operand.tmp 12) (Go.Operand.tmp 93), type := 0, pos := "more2.go:44", after := #[{ on := 20, ground := Go.Ground.data }, { on := 18, ground := Go.Ground.data }, { on := 16, ground := Go.Ground.chain }, { on := 0, ground := Go.Ground.phase }, { on := 1, ground := Go.Ground.phase }, { on := 2, ground := Go.Ground.phase }, { on := 3, ground := Go.Ground.phase }, { on := 4, ground := Go.Ground.phase }, { on := 5, ground := Go.Ground.phase }, { on := 6, ground := Go.Ground.phase }, { on := 7, ground := Go.Ground.phase }, { on := 8, ground := Go.Ground.phase }, { on := 9, ground := Go.Ground.phase }, { on := 10, ground := Go.Ground.phase }, { on := 11, ground := Go.Ground.phase }, { on := 12, ground := Go.Ground.phase }, { on := 13, ground := Go.Ground.phase }, { on := 14, ground := Go.Ground.phase }, { on := 15, ground := Go.Ground.phase }, { on := 16, ground := Go.Ground.phase }, { on := 17, ground := Go.Ground.phase }, { on := 18, ground := Go.Ground.phase }, { on := 19, ground := Go.Ground.textOnly Go.Departure.lateStores }, { on := 20, ground := Go.Ground.phase }], guard := none }) rfl (fun K hK => ?_)
        go_simp
        refine hK.out _ _ (⟨trivial, trivial⟩) (fun hHeb29 => ?_)
        clear hK K
        refine lat_free (i := 22) (oi := { dst := some 13, op := Go.Op.assign (Go.Operand.tmp 94), type := 4, pos := "more2.go:44", after := #[{ on := 19, ground := Go.Ground.data }, { on := 21, ground := Go.Ground.chain }, { on := 0, ground := Go.Ground.phase }, { on := 1, ground := Go.Ground.phase }, { on := 2, ground := Go.Ground.phase }, { on := 3, ground := Go.Ground.phase }, { on := 4, ground := Go.Ground.phase }, { on := 5, ground := Go.Ground.phase }, { on := 6, ground := Go.Ground.phase }, { on := 7, ground := Go.Ground.phase }, { on := 8, ground := Go.Ground.phase }, { on := 9, ground := Go.Ground.phase }, { on := 10, ground := Go.Ground.phase }, { on := 11, ground := Go.Ground.phase }, { on := 12, ground := Go.Ground.phase }, { on := 13, ground := Go.Ground.phase }, { on := 14, ground := Go.Ground.phase }, { on := 15, ground := Go.Ground.phase }, { on := 16, ground := Go.Ground.phase }, { on := 17, ground := Go.Ground.phase }, { on := 18, ground := Go.Ground.phase }, { on := 19, ground := Go.Ground.phase }, { on := 20, ground := Go.Ground.phase }, { on := 21, ground := Go.Ground.phase }], guard := none }) (v := ?veb30) rfl (by kernel_rfl) (by kernel_rfl) (by kernel_rfl) (by kernel_rfl) (fun _ _ _ h => h) (Or.inl ⟨by rfl, ?hyeb30⟩) ⟨hHeb29.1, fun _ => hHeb29.2⟩ ?resteb30
        case hyeb30 => (intro w hAw; obtain ⟨k3, k4, k5, k7, k8, k6⟩ := HJ.out; obtain ⟨z1, z2⟩ := HZ2.out; have g2 := gb2.out; have e2 := e120.out; have e3 := e121.out; go_simp; try (with_reducible rfl))
        simp only [Act.put, List.setIfInBounds_toArray, List.set_cons_zero, List.set_cons_succ]
        refine lat_done (by kernel_rfl) ?_ _
        go_wp2_with (fail)
        go_ret
        exact ⟨rfl, ((E4.setCell (p := ⟨wc.heap.size + 1, 0, none⟩) (Nat.le_succ_of_le B5.size) _).setCell (p := ⟨wc.heap.size + 1, 1, none⟩) (Nat.le_succ_of_le B5.size) _).setCell (p := ⟨wc.heap.size + 1, 2, none⟩) (Nat.le_succ_of_le B5.size) _⟩
    · refine lat_run (o := { dst := some 12, op := Go.Op.alloc 23, type := 0, pos := "more2.go:44", after := #[], guard := none }) rfl (fun K hK => ?_)
      go_simp
      refine hK.out _ _ (⟨trivial, trivial⟩) (fun hHeb31 => ?_)
      clear hK K
      refine lat_one (i := 9) (by kernel_rfl) ?_
      refine lat_run (o := { dst := some 85, op := Go.Op.convert 43 9 (Go.Operand.tmp 84), type := 9, pos := "more2.go:44", after := #[{ on := 8, ground := Go.Ground.data }], guard := none }) rfl (fun K hK => ?_)
      go_simp
      refine hK.out _ _ (⟨trivial, trivial⟩) (fun hHeb32 => ?_)
      clear hK K
      refine lat_free (i := 10) (oi := { dst := some 86, op := Go.Op.binOp Go.BinOp.add 9 (Go.Operand.tmp 78) (Go.Operand.tmp 85) 9, type := 9, pos := "more2.go:44", after := #[{ on := 2, ground := Go.Ground.data }, { on := 9, ground := Go.Ground.data }], guard := none }) (v := ?veb33) rfl (by kernel_rfl) (by kernel_rfl) (by kernel_rfl) (by kernel_rfl) (fun _ _ _ h => h) (Or.inl ⟨by rfl, ?hyeb33⟩) ⟨hHeb32.1, fun _ => hHeb32.2⟩ ?resteb33
      case hyeb33 => (intro w hAw; obtain ⟨k3, k4, k5, k7, k8, k6⟩ := HJ.out; obtain ⟨z1, z2⟩ := HZ2.out; have g2 := gb2.out; have e2 := e120.out; have e3 := e121.out; go_simp; try (with_reducible rfl))
      simp only [Act.put, List.setIfInBounds_toArray, List.set_cons_zero, List.set_cons_succ]
      refine lat_free (i := 15) (oi := { dst := some 91, op := Go.Op.binOp Go.BinOp.add 9 (Go.Operand.tmp 86) (Go.Operand.tmp 90) 9, type := 9, pos := "more2.go:44", after := #[{ on := 10, ground := Go.Ground.data }, { on := 14, ground := Go.Ground.data }], guard := none }) (v := ?veb34) rfl (by kernel_rfl) (by kernel_rfl) (by kernel_rfl) (by kernel_rfl) (fun _ _ _ h => h) (Or.inl ⟨by rfl, ?hyeb34⟩) ⟨hHeb32.1, fun _ => hHeb32.2⟩ ?resteb34
      case hyeb34 => (intro w hAw; obtain ⟨k3, k4, k5, k7, k8, k6⟩ := HJ.out; obtain ⟨z1, z2⟩ := HZ2.out; have g2 := gb2.out; have e2 := e120.out; have e3 := e121.out; go_simp; try (with_reducible rfl))
      simp only [Act.put, List.setIfInBounds_toArray, List.set_cons_zero, List.set_cons_succ]
      refine lat_one (i := 16) (by kernel_rfl) ?_
      refine lat_run (o := { dst := some 92, op := Go.Op.call { callee := Go.Callee.value (Go.Operand.func 12), args := #[Go.Operand.tmp 91], argTypes := #[9] }, type := 29, pos := "more2.go:44", after := #[{ on := 15, ground := Go.Ground.data }], guard := none }) rfl (fun K hK => ?_)
      go_simp
      go_wp2_with (first
        | (go_at_call 12; go_fit (hg2.out _); rintro e V4 ⟨rfl, K4⟩; obtain ⟨E4, ⟨u0, u1, u2⟩, v4⟩ := ends_three B5 K4; have v0 := v4 0; have v1 := v4 1; have v2 := v4 2; dsimp only [noC] at u0 u1 u2; clear v4)
        | fail)
      refine hK.out _ _ (⟨trivial, trivial⟩) (fun hHeb35 => ?_)
      clear hK K
      refine lat_free (i := 17) (oi := { dst := some 75, op := Go.Op.move (Go.Operand.tmp 92), type := 29, pos := "more2.go:44", after := #[{ on := 16, ground := Go.Ground.data }], guard := none }) (v := ?veb36) rfl (by kernel_rfl) (by kernel_rfl) (by kernel_rfl) (by kernel_rfl) (fun _ _ _ h => h) (Or.inl ⟨by rfl, ?hyeb36⟩) ⟨hHeb35.1, fun _ => hHeb35.2⟩ ?resteb36
      case hyeb36 => (intro w hAw; obtain ⟨k3, k4, k5, k7, k8, k6⟩ := HJ.out; obtain ⟨z1, z2⟩ := HZ2.out; have g2 := gb2.out; have e2 := e120.out; have e3 := e121.out; go_simp; try (with_reducible rfl))
      simp only [Act.put, List.setIfInBounds_toArray, List.set_cons_zero, List.set_cons_succ]
      refine lat_free (i := 18) (oi := { dst := some 93, op := Go.Op.extract (Go.Operand.tmp 75) 0, type := 23, pos := "more2.go:44", after := #[{ on := 17, ground := Go.Ground.data }], guard := none }) (v := ?veb37) rfl (by kernel_rfl) (by kernel_rfl) (by kernel_rfl) (by kernel_rfl) (fun _ _ _ h => h) (Or.inl ⟨by rfl, ?hyeb37⟩) ⟨hHeb35.1, fun _ => hHeb35.2⟩ ?resteb37
      case hyeb37 => (intro w hAw; obtain ⟨k3, k4, k5, k7, k8, k6⟩ := HJ.out; obtain ⟨z1, z2⟩ := HZ2.out; have g2 := gb2.out; have e2 := e120.out; have e3 := e121.out; go_simp; try (with_reducible rfl))
      simp only [Act.put, List.setIfInBounds_toArray, List.set_cons_zero, List.set_cons_succ]
      refine lat_free (i := 19) (oi := { dst := some 94, op := Go.Op.extract (Go.Operand.tmp 75) 1, type := 4, pos := "more2.go:44", after := #[{ on := 17, ground := Go.Ground.data }, { on := 21, ground := Go.Ground.gcOnly Go.Departure.lateStores }], guard := none }) (v := ?veb38) rfl (by kernel_rfl) (by kernel_rfl) (by kernel_rfl) (by kernel_rfl) (fun _ _ _ h => h) (Or.inl ⟨by rfl, ?hyeb38⟩) ⟨hHeb35.1, fun _ => hHeb35.2⟩ ?resteb38
      case hyeb38 => (intro w hAw; obtain ⟨k3, k4, k5, k7, k8, k6⟩ := HJ.out; obtain ⟨z1, z2⟩ := HZ2.out; have g2 := gb2.out; have e2 := e120.out; have e3 := e121.out; go_simp; try (with_reducible rfl))
      simp only [Act.put, List.setIfInBounds_toArray, List.set_cons_zero, List.set_cons_succ]
      refine lat_one (i := 21) (by kernel_rfl) ?_
      refine lat_run (o := { dst := none, op := Go.Op.store 23 (Go.Operand.tmp 12) (Go.Operand.tmp 93), type := 0, pos := "more2.go:44", after := #[{ on := 20, ground := Go.Ground.data }, { on := 18, ground := Go.Ground.data }, { on := 16, ground := Go.Ground.chain }, { on := 0, ground := Go.Ground.phase }, { on := 1, ground := Go.Ground.phase }, { on := 2, ground := Go.Ground.phase }, { on := 3, ground := Go.Ground.phase }, { on := 4, ground := Go.Ground.phase }, { on := 5, ground := Go.Ground.phase }, { on := 6, ground := Go.Ground.phase }, { on := 7, ground := Go.Ground.phase }, { on := 8, ground := Go.Ground.phase }, { on := 9, ground := Go.Ground.phase }, { on := 10, ground := Go.Ground.phase }, { on := 11, ground := Go.Ground.phase }, { on := 12, ground := Go.Ground.phase }, { on := 13, ground := Go.Ground.phase }, { on := 14, ground := Go.Ground.phase }, { on := 15, ground := Go.Ground.phase }, { on := 16, ground := Go.Ground.phase }, { on := 17, ground := Go.Ground.phase }, { on := 18, ground := Go.Ground.phase }, { on := 19, ground := Go.Ground.textOnly Go.Departure.lateStores }, { on := 20, ground := Go.Ground.phase }], guard := none }) rfl (fun K hK => ?_)
      go_simp
      refine hK.out _ _ (⟨trivial, trivial⟩) (fun hHeb39 => ?_)
      clear hK K
      refine lat_free (i := 22) (oi := { dst := some 13, op := Go.Op.assign (Go.Operand.tmp 94), type := 4, pos := "more2.go:44", after := #[{ on := 19, ground := Go.Ground.data }, { on := 21, ground := Go.Ground.chain }, { on := 0, ground := Go.Ground.phase }, { on := 1, ground := Go.Ground.phase }, { on := 2, ground := Go.Ground.phase }, { on := 3, ground := Go.Ground.phase }, { on := 4, ground := Go.Ground.phase }, { on := 5, ground := Go.Ground.phase }, { on := 6, ground := Go.Ground.phase }, { on := 7, ground := Go.Ground.phase }, { on := 8, ground := Go.Ground.phase }, { on := 9, ground := Go.Ground.phase }, { on := 10, ground := Go.Ground.phase }, { on := 11, ground := Go.Ground.phase }, { on := 12, ground := Go.Ground.phase }, { on := 13, ground := Go.Ground.phase }, { on := 14, ground := Go.Ground.phase }, { on := 15, ground := Go.Ground.phase }, { on := 16, ground := Go.Ground.phase }, { on := 17, ground := Go.Ground.phase }, { on := 18, ground := Go.Ground.phase }, { on := 19, ground := Go.Ground.phase }, { on := 20, ground := Go.Ground.phase }, { on := 21, ground := Go.Ground.phase }], guard := none }) (v := ?veb40) rfl (by kernel_rfl) (by kernel_rfl) (by kernel_rfl) (by kernel_rfl) (fun _ _ _ h => h) (Or.inl ⟨by rfl, ?hyeb40⟩) ⟨hHeb39.1, fun _ => hHeb39.2⟩ ?resteb40
      case hyeb40 => (intro w hAw; obtain ⟨k3, k4, k5, k7, k8, k6⟩ := HJ.out; obtain ⟨z1, z2⟩ := HZ2.out; have g2 := gb2.out; have e2 := e120.out; have e3 := e121.out; go_simp; try (with_reducible rfl))
      simp only [Act.put, List.setIfInBounds_toArray, List.set_cons_zero, List.set_cons_succ]
      refine lat_done (by kernel_rfl) ?_ _
      go_wp2_with (fail)
      go_ret
      exact ⟨rfl, ((E4.setCell (p := ⟨wc.heap.size + 1, 0, none⟩) (Nat.le_succ_of_le B5.size) _).setCell (p := ⟨wc.heap.size + 1, 1, none⟩) (Nat.le_succ_of_le B5.size) _).setCell (p := ⟨wc.heap.size + 1, 2, none⟩) (Nat.le_succ_of_le B5.size) _⟩
  · refine lat_run (o := { dst := some 12, op := Go.Op.alloc 23, type := 0, pos := "more2.go:44", after := #[], guard := none }) rfl (fun K hK => ?_)
    go_simp
    refine hK.out _ _ (⟨trivial, trivial⟩) (fun hHeb41 => ?_)
    clear hK K
    refine lat_one (i := 8) (by kernel_rfl) ?_
    refine lat_run (o := { dst := some 84, op := Go.Op.buildSlice 43 1 #[(0, Go.Operand.tmp 83)], type := 43, pos := "more2.go:44", after := #[{ on := 7, ground := Go.Ground.data }], guard := none }) rfl (fun K hK => ?_)
    go_simp
    refine hK.out _ _ (⟨trivial, trivial⟩) (fun hHeb42 => ?_)
    clear hK K
    refine lat_one (i := 9) (by kernel_rfl) ?_
    refine lat_run (o := { dst := some 85, op := Go.Op.convert 43 9 (Go.Operand.tmp 84), type := 9, pos := "more2.go:44", after := #[{ on := 8, ground := Go.Ground.data }], guard := none }) rfl (fun K hK => ?_)
    go_simp
    refine hK.out _ _ (⟨trivial, trivial⟩) (fun hHeb43 => ?_)
    clear hK K
    refine lat_free (i := 10) (oi := { dst := some 86, op := Go.Op.binOp Go.BinOp.add 9 (Go.Operand.tmp 78) (Go.Operand.tmp 85) 9, type := 9, pos := "more2.go:44", after := #[{ on := 2, ground := Go.Ground.data }, { on := 9, ground := Go.Ground.data }], guard := none }) (v := ?veb44) rfl (by kernel_rfl) (by kernel_rfl) (by kernel_rfl) (by kernel_rfl) (fun _ _ _ h => h) (Or.inl ⟨by rfl, ?hyeb44⟩) ⟨hHeb43.1, fun _ => hHeb43.2⟩ ?resteb44
    case hyeb44 => (intro w hAw; obtain ⟨k3, k4, k5, k7, k8, k6⟩ := HJ.out; obtain ⟨z1, z2⟩ := HZ2.out; have g2 := gb2.out; have e2 := e120.out; have e3 := e121.out; go_simp; try (with_reducible rfl))
    simp only [Act.put, List.setIfInBounds_toArray, List.set_cons_zero, List.set_cons_succ]
    refine lat_free (i := 15) (oi := { dst := some 91, op := Go.Op.binOp Go.BinOp.add 9 (Go.Operand.tmp 86) (Go.Operand.tmp 90) 9, type := 9, pos := "more2.go:44", after := #[{ on := 10, ground := Go.Ground.data }, { on := 14, ground := Go.Ground.data }], guard := none }) (v := ?veb45) rfl (by kernel_rfl) (by kernel_rfl) (by kernel_rfl) (by kernel_rfl) (fun _ _ _ h => h) (Or.inl ⟨by rfl, ?hyeb45⟩) ⟨hHeb43.1, fun _ => hHeb43.2⟩ ?resteb45
    case hyeb45 => (intro w hAw; obtain ⟨k3, k4, k5, k7, k8, k6⟩ := HJ.out; obtain ⟨z1, z2⟩ := HZ2.out; have g2 := gb2.out; have e2 := e120.out; have e3 := e121.out; go_simp; try (with_reducible rfl))
    simp only [Act.put, List.setIfInBounds_toArray, List.set_cons_zero, List.set_cons_succ]
    refine lat_one (i := 16) (by kernel_rfl) ?_
    refine lat_run (o := { dst := some 92, op := Go.Op.call { callee := Go.Callee.value (Go.Operand.func 12), args := #[Go.Operand.tmp 91], argTypes := #[9] }, type := 29, pos := "more2.go:44", after := #[{ on := 15, ground := Go.Ground.data }], guard := none }) rfl (fun K hK => ?_)
    go_simp
    go_wp2_with (first
      | (go_at_call 12; go_fit (hg2.out _); rintro e V4 ⟨rfl, K4⟩; obtain ⟨E4, ⟨u0, u1, u2⟩, v4⟩ := ends_two B5 K4; have v0 := v4 0; have v1 := v4 1; have v2 := v4 2; dsimp only [noC] at u0 u1 u2; clear v4)
      | fail)
    refine hK.out _ _ (⟨trivial, trivial⟩) (fun hHeb46 => ?_)
    clear hK K
    refine lat_free (i := 17) (oi := { dst := some 75, op := Go.Op.move (Go.Operand.tmp 92), type := 29, pos := "more2.go:44", after := #[{ on := 16, ground := Go.Ground.data }], guard := none }) (v := ?veb47) rfl (by kernel_rfl) (by kernel_rfl) (by kernel_rfl) (by kernel_rfl) (fun _ _ _ h => h) (Or.inl ⟨by rfl, ?hyeb47⟩) ⟨hHeb46.1, fun _ => hHeb46.2⟩ ?resteb47
    case hyeb47 => (intro w hAw; obtain ⟨k3, k4, k5, k7, k8, k6⟩ := HJ.out; obtain ⟨z1, z2⟩ := HZ2.out; have g2 := gb2.out; have e2 := e120.out; have e3 := e121.out; go_simp; try (with_reducible rfl))
    simp only [Act.put, List.setIfInBounds_toArray, List.set_cons_zero, List.set_cons_succ]
    refine lat_free (i := 18) (oi := { dst := some 93, op := Go.Op.extract (Go.Operand.tmp 75) 0, type := 23, pos := "more2.go:44", after := #[{ on := 17, ground := Go.Ground.data }], guard := none }) (v := ?veb48) rfl (by kernel_rfl) (by kernel_rfl) (by kernel_rfl) (by kernel_rfl) (fun _ _ _ h => h) (Or.inl ⟨by rfl, ?hyeb48⟩) ⟨hHeb46.1, fun _ => hHeb46.2⟩ ?resteb48
    case hyeb48 => (intro w hAw; obtain ⟨k3, k4, k5, k7, k8, k6⟩ := HJ.out; obtain ⟨z1, z2⟩ := HZ2.out; have g2 := gb2.out; have e2 := e120.out; have e3 := e121.out; go_simp; try (with_reducible rfl))
    simp only [Act.put, List.setIfInBounds_toArray, List.set_cons_zero, List.set_cons_succ]
    refine lat_free (i := 19) (oi := { dst := some 94, op := Go.Op.extract (Go.Operand.tmp 75) 1, type := 4, pos := "more2.go:44", after := #[{ on := 17, ground := Go.Ground.data }, { on := 21, ground := Go.Ground.gcOnly Go.Departure.lateStores }], guard := none }) (v := ?veb49) rfl (by kernel_rfl) (by kernel_rfl) (by kernel_rfl) (by kernel_rfl) (fun _ _ _ h => h) (Or.inl ⟨by rfl, ?hyeb49⟩) ⟨hHeb46.1, fun _ => hHeb46.2⟩ ?resteb49
    case hyeb49 => (intro w hAw; obtain ⟨k3, k4, k5, k7, k8, k6⟩ := HJ.out; obtain ⟨z1, z2⟩ := HZ2.out; have g2 := gb2.out; have e2 := e120.out; have e3 := e121.out; go_simp; try (with_reducible rfl))
    simp only [Act.put, List.setIfInBounds_toArray, List.set_cons_zero, List.set_cons_succ]
    refine lat_one (i := 21) (by kernel_rfl) ?_
    refine lat_run (o := { dst := none, op := Go.Op.store 23 (Go.Operand.tmp 12) (Go.Operand.tmp 93), type := 0, pos := "more2.go:44", after := #[{ on := 20, ground := Go.Ground.data }, { on := 18, ground := Go.Ground.data }, { on := 16, ground := Go.Ground.chain }, { on := 0, ground := Go.Ground.phase }, { on := 1, ground := Go.Ground.phase }, { on := 2, ground := Go.Ground.phase }, { on := 3, ground := Go.Ground.phase }, { on := 4, ground := Go.Ground.phase }, { on := 5, ground := Go.Ground.phase }, { on := 6, ground := Go.Ground.phase }, { on := 7, ground := Go.Ground.phase }, { on := 8, ground := Go.Ground.phase }, { on := 9, ground := Go.Ground.phase }, { on := 10, ground := Go.Ground.phase }, { on := 11, ground := Go.Ground.phase }, { on := 12, ground := Go.Ground.phase }, { on := 13, ground := Go.Ground.phase }, { on := 14, ground := Go.Ground.phase }, { on := 15, ground := Go.Ground.phase }, { on := 16, ground := Go.Ground.phase }, { on := 17, ground := Go.Ground.phase }, { on := 18, ground := Go.Ground.phase }, { on := 19, ground := Go.Ground.textOnly Go.Departure.lateStores }, { on := 20, ground := Go.Ground.phase }], guard := none }) rfl (fun K hK => ?_)
    go_simp
    refine hK.out _ _ (⟨trivial, trivial⟩) (fun hHeb50 => ?_)
    clear hK K
    refine lat_free (i := 22) (oi := { dst := some 13, op := Go.Op.assign (Go.Operand.tmp 94), type := 4, pos := "more2.go:44", after := #[{ on := 19, ground := Go.Ground.data }, { on := 21, ground := Go.Ground.chain }, { on := 0, ground := Go.Ground.phase }, { on := 1, ground := Go.Ground.phase }, { on := 2, ground := Go.Ground.phase }, { on := 3, ground := Go.Ground.phase }, { on := 4, ground := Go.Ground.phase }, { on := 5, ground := Go.Ground.phase }, { on := 6, ground := Go.Ground.phase }, { on := 7, ground := Go.Ground.phase }, { on := 8, ground := Go.Ground.phase }, { on := 9, ground := Go.Ground.phase }, { on := 10, ground := Go.Ground.phase }, { on := 11, ground := Go.Ground.phase }, { on := 12, ground := Go.Ground.phase }, { on := 13, ground := Go.Ground.phase }, { on := 14, ground := Go.Ground.phase }, { on := 15, ground := Go.Ground.phase }, { on := 16, ground := Go.Ground.phase }, { on := 17, ground := Go.Ground.phase }, { on := 18, ground := Go.Ground.phase }, { on := 19, ground := Go.Ground.phase }, { on := 20, ground := Go.Ground.phase }, { on := 21, ground := Go.Ground.phase }], guard := none }) (v := ?veb51) rfl (by kernel_rfl) (by kernel_rfl) (by kernel_rfl) (by kernel_rfl) (fun _ _ _ h => h) (Or.inl ⟨by rfl, ?hyeb51⟩) ⟨hHeb50.1, fun _ => hHeb50.2⟩ ?resteb51
    case hyeb51 => (intro w hAw; obtain ⟨k3, k4, k5, k7, k8, k6⟩ := HJ.out; obtain ⟨z1, z2⟩ := HZ2.out; have g2 := gb2.out; have e2 := e120.out; have e3 := e121.out; go_simp; try (with_reducible rfl))
    simp only [Act.put, List.setIfInBounds_toArray, List.set_cons_zero, List.set_cons_succ]
    refine lat_done (by kernel_rfl) ?_ _
    go_wp2_with (fail)
    go_ret
    exact ⟨rfl, ((E4.setCell (p := ⟨wc.heap.size, 0, none⟩) B5.size _).setCell (p := ⟨wc.heap.size, 1, none⟩) B5.size _).setCell (p := ⟨wc.heap.size, 2, none⟩) B5.size _⟩

set_option maxRecDepth 100000 in
theorem lifted (os : Os) (started : os.Started) (H : Type) (enc : TypeId × Value → H) :
    ReturnsInHanded {} Try.checked os 7 .any (Rows.crownEndsSpec.pre6 enc Try.prog Try.f7 Rows.crownEndsRow.domain false) (Rows.crownEndsSpec.post enc Try.prog Try.f7 false true false false) := by
  refine returnsInHanded_of_change (C := Try.checked) own started (by kernel_rfl) Try.func7
    (ChangeSpec.witness6 (enc := enc) (C := Try.checked) false ⟨#[], #[.int .i64 0, .int .i64 0, .int .u8 0], []⟩ 8 (by kernel_rfl) (by kernel_rfl) (by kernel_rfl) (by kernel_rfl)) ?_
  intro W base args ds gs before hval0 hW hcnd _
  have hval : ∀ (j : Nat) t v, Try.f7.params[j]? = some t → args[j]? = some v → Value.okWide Try.prog W .any base t v := hval0
  have hW' := hW
  obtain ⟨p, q, hA0, hV, rfl, hfz, hnd⟩ := hW
  have hA : DataW.TrodAll enc Try.prog W 0 (fun _ => true) true Try.f7.params.toList args.toList ds p := hA0
  rw [Try.params7] at hA hval
  obtain ⟨v0, vs0, d0, ds0, p0, q0, hargs, rfl, rfl, h0, r0⟩ := trodAll_cons hA
  obtain ⟨v1, vs1, d1, ds1, p1, q1, rfl, rfl, rfl, h1, r1⟩ := trodAll_cons r0
  obtain ⟨v2, vs2, d2, ds2, p2, q2, rfl, rfl, rfl, h2, r2⟩ := trodAll_cons r1
  obtain ⟨rfl, rfl, rfl⟩ := trodAll_nil r2
  obtain rfl : args = #[v0, v1, v2] := by cases args; simp_all
  obtain ⟨rfl, rfl⟩ := trodVars_none hV
  obtain ⟨a0, rfl, rfl, rfl, w0⟩ := open_int Try.underlying3 (hval 0 3 v0 rfl rfl) h0
  have f0 := inF_wf w0
  obtain ⟨a1, rfl, rfl, rfl, w1⟩ := open_int Try.underlying3 (hval 1 3 v1 rfl rfl) h1
  have f1 := inF_wf w1
  obtain ⟨a2, rfl, rfl, rfl, w2⟩ := open_int Try.underlying5 (hval 2 5 v2 rfl rfl) h2
  obtain ⟨n2, rfl, m2⟩ := byte_wf w2
  clear hA0 hval0
  refine (walk a0 f0 a1 f1 n2 m2 W   ).mono fun e W' ⟨he, bel⟩ => ?_
  subst he
  exact ⟨_, rfl, _, _, _, [], _, [], hW', trodAll_mk1 (shut_bool Try.underlying4 _), (trodAll_cons_mk (shut_int Try.underlying3 w0) (trodAll_cons_mk (shut_int Try.underlying3 w1) (trodAll_cons_mk (shut_int Try.underlying5 w2) trodAll_mk0))), rfl, bel.frame _, fun h => by cases h⟩

theorem over : Rows.crownEndsRow.holds Try.pinned (OpenSpec.ofChange Rows.crownEndsSpec) :=
  OpenClaim.holds_of_wide 7 Try.f7 rfl rfl rfl rfl rfl rfl rfl ⟨rfl, rfl, rfl, rfl, rfl⟩ rfl rfl rfl rfl rfl (by kernel_rfl) Try.func7 (by kernel_rfl)
    (of_decide_eq_true (by kernel_rfl)) (by unfold Func.isWrapper; first | (rw [if_pos (by decide +kernel)]; kernel_rfl) | (rw [if_neg (by decide +kernel)]; exact ⟨rfl, rfl⟩))
    (fun os started H enc _ => lifted os started H enc)

theorem proved : Rows.CrownEndsSaid :=
  over
end Go.Proofs.Ytehlbcjfbofnnaa.crownEnds

namespace Go.Proofs.Ytehlbcjfbofnnaa
theorem crownEnds_holds : Rows.CrownEndsSaid := crownEnds.proved
end Go.Proofs.Ytehlbcjfbofnnaa
