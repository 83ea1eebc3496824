/-
  Proved: maquettelaw15.SheetTurned returns true for every list of cells, every int and every byte, and leaves what it was given as it was; no condition.
-/
import Derived.Test.YtjcocmoidboamaaRows
import Derived.Test.YtjcocmoidboamaaZLaws
import Derived.Test.YtjcocmoidboamaaTCalls
import Derived.WalkKit
import Derived.Deep.QuietTactic
import Derived.BigQuiet
import Derived.WalkSpells
import Derived.Deep.CutRange
import Derived.Deep.CutBlock
import Derived.WalkLawsBesides
import Derived.ProofKit
import Derived.OpenShut
import Derived.ChangeOld
import Derived.Below
namespace Go.Proofs.Ytjcocmoidboamaa.sheetTurned
open Go.ChangeShapes Go.WideShapes Go.ChangeAt Go.RowKit
set_option linter.unusedVariables false

theorem own : ownKnob Try.prog.godebug = none := by kernel_rfl
theorem laidOut : laidOutB Try.prog = true := by kernel_rfl

def oneB (b : Nat) : ByteArray := ⟨#[UInt8.ofNat b]⟩
theorem oneB_size (b : Nat) : (oneB b).size = 1 := rfl
theorem conv_one (w : World) (q : Nat) (b : Nat) (hb : b < 256) (h : w.cell? ⟨q, 0, none⟩ = some (.int .u8 b)) : (convert 53 9 (.slice (some ⟨q, 0, none⟩) 1 1)).run Try.prog w = .ok (.string (oneB b)) w := by
  have e : strOfNums [(b : Int)] = oneB b := by simp [strOfNums, oneB]
  rw [← e]
  refine run_convert_bytes_arg _ _ _ Try.underlying53 Try.underlying5 q 0 1 1 _ rfl (fun i hi => ?_) _ Try.underlying9
  have : i = 0 := by omega
  subst this
  simpa using h
theorem turn_sizes (v k : Nat) : ¬ 9223372036854775807 < min k 128 + (oneB v).size ∧ ¬ 9223372036854775807 < min k 128 + (oneB v).size + (127 - k) := by
  rw [oneB_size]
  omega
theorem xor_ne {a n : Nat} (hn : n ≠ 0) : a ^^^ n ≠ a := by
  intro e
  apply hn
  have := congrArg (fun z => a ^^^ z) e
  simp only [← Nat.xor_assoc, Nat.xor_self, Nat.zero_xor] at this
  exact this
theorem turned_below {V V4 : World} {cs : Array Value} {t : TypeId} (K : Below (V.alloc (.cells cs t)).drew.heap.size (V.alloc (.cells cs t)).drew V4) : Below V.heap.size V V4 := on_two ((Grew.refl V).alloc cs t).drew.below K
theorem fill_full {s : ByteArray} (h : s.size = 128) : fillB s = s := by
  unfold fillB
  rw [if_neg (by omega), h]
  apply ByteArray.ext
  simp [zerosB]
/-- A page of which a byte is another one is another page. -/
theorem turned_page {s : ByteArray} (h : s.size = 128) {k : Nat} (hk : k < 128) {n : Nat} (hn : n ≠ 0) (hn2 : n < 256) :
    ∃ a v : Nat, (∀ h, (s[k]'h).toNat = a) ∧ a < 256 ∧ v < 256 ∧ bits .xor .u8 (a : Int) (n : Int) = (v : Int) ∧ s.extract 0 k ++ oneB v ++ s.extract (k + 1) 128 ≠ s ∧ (s.extract 0 k ++ oneB v ++ s.extract (k + 1) 128).size = 128 := by
  have hkl : k < s.size := by omega
  have ha := (s[k]).toNat_lt
  have hx : (s[k]).toNat ^^^ n < 256 := Nat.xor_lt_two_pow (n := 8) ha hn2
  refine ⟨(s[k]).toNat, (s[k]).toNat ^^^ n, fun h => rfl, ha, hx, u8_xor_nat _ _ ha hn2, fun e => ?_, ?_⟩
  · have hs1 : (s.extract 0 k).size = k := by rw [ByteArray.size_extract]; omega
    have e2 : (s.extract 0 k ++ oneB ((s[k]).toNat ^^^ n) ++ s.extract (k + 1) 128).data.toList[k]? = some (UInt8.ofNat ((s[k]).toNat ^^^ n)) := by
      have hl1 : (s.extract 0 k).data.toList.length = k := by rw [Array.length_toList]; exact hs1
      rw [ByteArray.data_append, ByteArray.data_append, Array.toList_append, Array.toList_append, List.append_assoc, List.getElem?_append_right (by omega), hl1, Nat.sub_self]
      rfl
    have e3 : s.data.toList[k]? = some (s[k]) := by
      rw [List.getElem?_eq_getElem (by rw [Array.length_toList]; exact hkl)]
      rfl
    rw [e, e3, Option.some.injEq] at e2
    refine xor_ne hn (a := (s[k]).toNat) ?_
    have := congrArg UInt8.toNat e2
    rw [UInt8.toNat_ofNat', Nat.mod_eq_of_lt hx] at this
    exact this.symm
  · rw [ByteArray.size_append, ByteArray.size_append, ByteArray.size_extract, ByteArray.size_extract, oneB_size]
    omega
/-- What is read of a page, laid again, is the page. -/
theorem leaf_again {s : ByteArray} (h : isLeaf s = true) : txt (leafL (cellsS s)) = s := by
  have e := isLeaf_code s
  rw [h] at e
  have e := e.symm
  rw [Bool.and_eq_true, decide_eq_true_eq] at e
  rw [cells_code h]
  exact e.2

set_option maxRecDepth 100000 in
set_option maxHeartbeats 16000000 in
theorem walk (a0 : Option Addr) (cap0 : Nat) (L0 : List Ce) (a1 : Int) (f1 : inF a1) (n2 : Nat) (m2 : n2 < 256) (w : World) (b0 : Cess w a0 L0)  :
    Calls Try.prog 4 #[.slice a0 L0.length cap0, .int .i64 a1, .int .u8 n2] w fun e w' => e = .returned (.bool true) ∧ Below w.heap.size w w' := by
  have hal : Hid (∀ W, Calls Try.prog 9 #[] W fun e w' => e = .returned (.bool true) ∧ Below W.heap.size W w') := alive15
  have HB0 : Hid (Cess w a0 L0) := b0
  clear b0
  by_cases hbig : 40 < L0.length
  · have hi : (40 : Int) < L0.length := by omega
    go_enter Try.func4, Try.ntmps4
    go_wp2_with (first | (go_at_call 9; go_fit (hal.out _); rintro e w1 ⟨rfl, hB⟩) | fail)
    go_ret
    exact ⟨rfl, hB⟩
  have hn : L0.length ≤ 40 := by omega
  have hi : ¬ (40 : Int) < L0.length := by omega
  obtain ⟨n, hN⟩ : ∃ n, L0.length = n := ⟨_, rfl⟩
  rw [hN] at hi hn ⊢
  replace hN : Hid (L0.length = n) := hN
  clear hbig
  by_cases hby : n2 = 0
  · subst hby
    go_enter Try.func4, Try.ntmps4
    go_wp2_with (first | (go_at_call 9; go_fit (hal.out _); rintro e w1 ⟨rfl, hB⟩) | fail)
    go_ret
    exact ⟨rfl, hB⟩
  have hbyi : ¬ (n2 : Int) = 0 := by omega
  have hL : Hid (∀ W, Below w.heap.size w W → Calls Try.prog 13 #[.slice a0 n cap0] W fun e w' => e = .returned (.tuple #[.string (leafV L0), .bool (leafOk L0)]) ∧ Below W.heap.size W w') := fun W h => by
    have := leaf_any L0 a0 cap0 W (HB0.out.below h).2 (by rw [hN.out]; omega)
    rw [hN.out] at this
    exact this
  cases hk2 : leafOk L0 with
  | false =>
    have hv : leafV L0 = ByteArray.empty := by unfold leafV; rw [hk2, if_neg (by decide)]
    rw [hk2, hv] at hL
    clear hk2 hv
    go_enter Try.func4, Try.ntmps4
    go_wp2_with (first
      | (go_at_call 9; go_fit (hal.out _); rintro e w1 ⟨rfl, B1⟩)
      | (go_at_call 13; go_fit (hL.out _ B1); rintro e w2 ⟨rfl, B2⟩)
      | fail)
    go_ret
    exact ⟨rfl, on_two B1 B2⟩
  | true =>
    have hv : leafV L0 = txt (leafL L0) := if_pos hk2
    rw [hk2, hv] at hL
    obtain ⟨q1, q2⟩ := leaf_back hk2
    have hz : (txt (leafL L0)).size = 128 := by rw [txt_size, leafL_len hk2]
    obtain ⟨m, hm⟩ : ∃ m, Int.tmod a1 128 = m := ⟨_, rfl⟩
    have hm3 : -128 < m ∧ m < 128 := by rw [← hm]; have := Int.tmod_lt_of_pos a1 (show (0 : Int) < 128 by decide); have := Int.lt_tmod_of_pos a1 (show (0 : Int) < 128 by decide); omega
    have hw : wrap64 (m + 128) = m + 128 := IntWalk.wrap64_in _ ⟨by omega, by omega⟩
    have hq : (0 : Int) ≤ m + 128 := by omega
    obtain ⟨k, hk1⟩ : ∃ k : Nat, (m + 128) % 128 = (k : Int) := ⟨((m + 128) % 128).toNat, by omega⟩
    have hk8 : k < 128 := by omega
    obtain ⟨a, v, ga, la, lv, xv, hne, hTs⟩ := turned_page hz hk8 hby m2
    have hfl := fill_full hz
    have hc := fun W q h => conv_one W q v lv h
    obtain ⟨K, hK⟩ : ∃ K, isLeaf ((txt (leafL L0)).extract 0 k ++ oneB v ++ (txt (leafL L0)).extract (k + 1) 128) = K := ⟨_, rfl⟩
    obtain ⟨D, hD⟩ : ∃ D, cellsS ((txt (leafL L0)).extract 0 k ++ oneB v ++ (txt (leafL L0)).extract (k + 1) 128) = D := ⟨_, rfl⟩
    have hDne : Hid (K = true → ¬ D = L0) := fun h e => by
      rw [h] at hK
      have := leaf_again hK
      rw [hD, e] at this
      exact hne this.symm
    obtain ⟨d0, hD0⟩ : ∃ d0, D.length = d0 := ⟨_, rfl⟩
    have hT : Hid (∀ W, Calls Try.prog 21 #[.string ((txt (leafL L0)).extract 0 k ++ oneB v ++ (txt (leafL L0)).extract (k + 1) 128)] W fun e w' => ∃ b c, e = .returned (.tuple #[.slice b d0 c, .bool K]) ∧ CellsAt w' b D ∧ Below W.heap.size W w') := fun W => by
      refine (cells_any _ W (by rw [hTs]; omega)).mono fun e w' ⟨v, e1, e2, e3⟩ => ?_
      rw [hK] at e1
      rw [hD, hD0] at e2
      obtain ⟨b, c, rfl, q4⟩ := cells_of e2
      exact ⟨b, c, e1, q4, e3⟩
    have hd1 : D.length ≤ 1000000 := by
      rw [← hD]
      cases e : isLeaf ((txt (leafL L0)).extract 0 k ++ oneB v ++ (txt (leafL L0)).extract (k + 1) 128) with
      | false => unfold cellsS; rw [e, if_neg (by decide)]; simp
      | true => rw [cells_code e, tot_len]; have := cnt_lt ((txt (leafL L0)).extract 0 k ++ oneB v ++ (txt (leafL L0)).extract (k + 1) 128); omega
    have hCe : Hid (∀ W, Calls Try.prog 21 #[.string (txt (leafL L0))] W fun e w' => ∃ b c, e = .returned (.tuple #[.slice b n c, .bool true]) ∧ CellsAt w' b L0 ∧ Below W.heap.size W w') := fun W => by
      have := cells_got W (by rw [hz]; omega) q1 q2
      rw [hN.out] at this
      exact this
    have hFl : Hid (∀ W, Calls Try.prog 28 #[.string (txt (leafL L0))] W fun e w' => e = .returned (.string (txt (leafL L0))) ∧ Grew W w') := fun W => by
      have := fill_any W (txt (leafL L0))
      rw [hfl] at this
      exact this
    have hSm : Hid (∀ W b c b2 c2, CellsAt W b L0 → CellsAt W b2 L0 → Calls Try.prog 26 #[.slice b n c, .slice b2 n c2] W fun e w' => e = .returned (.bool true) ∧ Below W.heap.size W w') := fun W b c b2 c2 g1 g2 => by
      have := same_cell L0 L0 b b2 c c2 W g1 g2 (by rw [hN.out]; omega) (by rw [hN.out]; omega)
      rw [hN.out] at this
      exact this.mono fun e w' ⟨q1, q2⟩ => ⟨q1.yes rfl, q2⟩
    have hSm2 : Hid (K = true → ∀ W b c b2 c2, CellsAt W b D → CellsAt W b2 L0 → Calls Try.prog 26 #[.slice b d0 c, .slice b2 n c2] W fun e w' => e = .returned (.bool false) ∧ Below W.heap.size W w') := fun hk W b c b2 c2 g1 g2 => by
      have := same_cell D L0 b b2 c c2 W g1 g2 hd1 (by rw [hN.out]; omega)
      rw [hN.out, hD0] at this
      exact this.mono fun e w' ⟨q1, q2⟩ => ⟨q1.no (hDne.out hk), q2⟩
    have hzi : ((txt (leafL L0)).size : Int) = 128 := by omega
    have HK : Hid ((k : Int) < 128 ∧ (k : Int) + 1 ≤ 128 ∧ (0 : Int) ≤ (k : Int) + 1 ∧ IntKind.i64.wrap ((k : Int) + 1) = ((k + 1 : Nat) : Int)) := (by rw [IntKind.wrap_i64]; omega : (k : Int) < 128 ∧ (k : Int) + 1 ≤ 128 ∧ (0 : Int) ≤ (k : Int) + 1 ∧ IntKind.i64.wrap ((k : Int) + 1) = ((k + 1 : Nat) : Int))
    have hki2 : (k : Int) ≤ 128 := by omega
    have HZ1 : Hid _ := turn_sizes v k
    clear hk2 hv q1 q2 hne hTs hfl hK hD hDne hd1
    generalize txt (leafL L0) = x at *
    have hs : x.size = 128 := by omega
    go_enter Try.func4, Try.ntmps4
    go_upto_region 7 with (first
      | (go_at_call 9; go_fit (hal.out _); rintro e w1 ⟨rfl, B1⟩)
      | (go_at_call 13; go_fit (hL.out _ B1); rintro e w2 ⟨rfl, B2⟩; have hCv : Hid (∀ W, Below w1.heap.size w1 W → Calls Try.prog 15 #[.slice a0 n cap0] W fun e w' => ∃ b c, e = .returned (.slice b n c) ∧ CellsAt w' b L0 ∧ Below W.heap.size W w') := (fun W h => by
          have := conv_got L0 a0 cap0 W (HB0.out.below (on_two B1 h)).2 (by rw [hN.out]; omega)
          rw [hN.out] at this
          exact this))
      | fail)
    refine lat_region (A := (fun _ => True)) (S := (fun _ => True)) [] (by kernel_rfl) ?_ (fun hH0 => ?_)
    · exact ⟨trivial, trivial⟩
    refine lat_free (i := 0) (oi := { dst := some 49, op := Go.Op.move (Go.Operand.tmp 7), type := 9, pos := "law.go:102", after := #[], guard := none }) (v := ?vta1) rfl (by kernel_rfl) (by kernel_rfl) (by kernel_rfl) (by kernel_rfl) (fun _ _ _ h => h) (Or.inl ⟨by rfl, ?hyta1⟩) ⟨hH0.1, fun _ => hH0.2⟩ ?restta1
    case hyta1 => (intro w hAw; obtain ⟨k3, k4, k5, k6⟩ := HK.out; obtain ⟨z1, z2⟩ := HZ1.out; go_simp; try (with_reducible rfl))
    simp only [Act.put, List.setIfInBounds_toArray, List.set_cons_zero, List.set_cons_succ]
    refine lat_free (i := 1) (oi := { dst := some 50, op := Go.Op.move (Go.Operand.tmp 9), type := 3, pos := "law.go:102", after := #[], guard := none }) (v := ?vta2) rfl (by kernel_rfl) (by kernel_rfl) (by kernel_rfl) (by kernel_rfl) (fun _ _ _ h => h) (Or.inl ⟨by rfl, ?hyta2⟩) ⟨hH0.1, fun _ => hH0.2⟩ ?restta2
    case hyta2 => (intro w hAw; obtain ⟨k3, k4, k5, k6⟩ := HK.out; obtain ⟨z1, z2⟩ := HZ1.out; go_simp; try (with_reducible rfl))
    simp only [Act.put, List.setIfInBounds_toArray, List.set_cons_zero, List.set_cons_succ]
    refine lat_free (i := 2) (oi := { dst := some 51, op := Go.Op.slice 9 (Go.Operand.tmp 49) none (some (Go.Operand.tmp 50)) none, type := 9, pos := "law.go:102", after := #[{ on := 0, ground := Go.Ground.data }, { on := 1, ground := Go.Ground.data }], guard := none }) (v := ?vta3) rfl (by kernel_rfl) (by kernel_rfl) (by kernel_rfl) (by kernel_rfl) (fun _ _ _ h => h) (Or.inl ⟨by rfl, ?hyta3⟩) ⟨hH0.1, fun _ => hH0.2⟩ ?restta3
    case hyta3 => (intro w hAw; obtain ⟨k3, k4, k5, k6⟩ := HK.out; obtain ⟨z1, z2⟩ := HZ1.out; go_simp; try (with_reducible rfl))
    simp only [Act.put, List.setIfInBounds_toArray, List.set_cons_zero, List.set_cons_succ]
    refine lat_free (i := 3) (oi := { dst := some 52, op := Go.Op.move (Go.Operand.tmp 7), type := 9, pos := "law.go:102", after := #[], guard := none }) (v := ?vta4) rfl (by kernel_rfl) (by kernel_rfl) (by kernel_rfl) (by kernel_rfl) (fun _ _ _ h => h) (Or.inl ⟨by rfl, ?hyta4⟩) ⟨hH0.1, fun _ => hH0.2⟩ ?restta4
    case hyta4 => (intro w hAw; obtain ⟨k3, k4, k5, k6⟩ := HK.out; obtain ⟨z1, z2⟩ := HZ1.out; go_simp; try (with_reducible rfl))
    simp only [Act.put, List.setIfInBounds_toArray, List.set_cons_zero, List.set_cons_succ]
    refine lat_free (i := 4) (oi := { dst := some 53, op := Go.Op.move (Go.Operand.tmp 9), type := 3, pos := "law.go:102", after := #[], guard := none }) (v := ?vta5) rfl (by kernel_rfl) (by kernel_rfl) (by kernel_rfl) (by kernel_rfl) (fun _ _ _ h => h) (Or.inl ⟨by rfl, ?hyta5⟩) ⟨hH0.1, fun _ => hH0.2⟩ ?restta5
    case hyta5 => (intro w hAw; obtain ⟨k3, k4, k5, k6⟩ := HK.out; obtain ⟨z1, z2⟩ := HZ1.out; go_simp; try (with_reducible rfl))
    simp only [Act.put, List.setIfInBounds_toArray, List.set_cons_zero, List.set_cons_succ]
    refine lat_free (i := 5) (oi := { dst := some 54, op := Go.Op.index 9 (Go.Operand.tmp 52) (Go.Operand.tmp 53), type := 5, pos := "law.go:102", after := #[{ on := 3, ground := Go.Ground.data }, { on := 4, ground := Go.Ground.data }], guard := none }) (v := ?vta6) rfl (by kernel_rfl) (by kernel_rfl) (by kernel_rfl) (by kernel_rfl) (fun _ _ _ h => h) (Or.inl ⟨by rfl, ?hyta6⟩) ⟨hH0.1, fun _ => hH0.2⟩ ?restta6
    case hyta6 => (intro w hAw; obtain ⟨k3, k4, k5, k6⟩ := HK.out; obtain ⟨z1, z2⟩ := HZ1.out; go_simp; try (with_reducible rfl))
    simp only [Act.put, List.setIfInBounds_toArray, List.set_cons_zero, List.set_cons_succ]
    refine lat_free (i := 6) (oi := { dst := some 55, op := Go.Op.move (Go.Operand.tmp 2), type := 5, pos := "law.go:102", after := #[], guard := none }) (v := ?vta7) rfl (by kernel_rfl) (by kernel_rfl) (by kernel_rfl) (by kernel_rfl) (fun _ _ _ h => h) (Or.inl ⟨by rfl, ?hyta7⟩) ⟨hH0.1, fun _ => hH0.2⟩ ?restta7
    case hyta7 => (intro w hAw; obtain ⟨k3, k4, k5, k6⟩ := HK.out; obtain ⟨z1, z2⟩ := HZ1.out; go_simp; try (with_reducible rfl))
    simp only [Act.put, List.setIfInBounds_toArray, List.set_cons_zero, List.set_cons_succ]
    refine lat_free (i := 7) (oi := { dst := some 56, op := Go.Op.binOp Go.BinOp.xor 5 (Go.Operand.tmp 54) (Go.Operand.tmp 55) 5, type := 5, pos := "law.go:102", after := #[{ on := 5, ground := Go.Ground.data }, { on := 6, ground := Go.Ground.data }], guard := none }) (v := ?vta8) rfl (by kernel_rfl) (by kernel_rfl) (by kernel_rfl) (by kernel_rfl) (fun _ _ _ h => h) (Or.inl ⟨by rfl, ?hyta8⟩) ⟨hH0.1, fun _ => hH0.2⟩ ?restta8
    case hyta8 => (intro w hAw; obtain ⟨k3, k4, k5, k6⟩ := HK.out; obtain ⟨z1, z2⟩ := HZ1.out; go_simp; try (with_reducible rfl))
    simp only [Act.put, List.setIfInBounds_toArray, List.set_cons_zero, List.set_cons_succ]
    refine lat_free (i := 11) (oi := { dst := some 60, op := Go.Op.move (Go.Operand.tmp 7), type := 9, pos := "law.go:102", after := #[], guard := none }) (v := ?vta9) rfl (by kernel_rfl) (by kernel_rfl) (by kernel_rfl) (by kernel_rfl) (fun _ _ _ h => h) (Or.inl ⟨by rfl, ?hyta9⟩) ⟨hH0.1, fun _ => hH0.2⟩ ?restta9
    case hyta9 => (intro w hAw; obtain ⟨k3, k4, k5, k6⟩ := HK.out; obtain ⟨z1, z2⟩ := HZ1.out; go_simp; try (with_reducible rfl))
    simp only [Act.put, List.setIfInBounds_toArray, List.set_cons_zero, List.set_cons_succ]
    refine lat_free (i := 12) (oi := { dst := some 61, op := Go.Op.move (Go.Operand.tmp 9), type := 3, pos := "law.go:102", after := #[], guard := none }) (v := ?vta10) rfl (by kernel_rfl) (by kernel_rfl) (by kernel_rfl) (by kernel_rfl) (fun _ _ _ h => h) (Or.inl ⟨by rfl, ?hyta10⟩) ⟨hH0.1, fun _ => hH0.2⟩ ?restta10
    case hyta10 => (intro w hAw; obtain ⟨k3, k4, k5, k6⟩ := HK.out; obtain ⟨z1, z2⟩ := HZ1.out; go_simp; try (with_reducible rfl))
    simp only [Act.put, List.setIfInBounds_toArray, List.set_cons_zero, List.set_cons_succ]
    refine lat_free (i := 13) (oi := { dst := some 62, op := Go.Op.binOp Go.BinOp.add 3 (Go.Operand.tmp 61) (Go.Operand.const (Go.Value.int Go.IntKind.i64 1)) 3, type := 3, pos := "law.go:102", after := #[{ on := 12, ground := Go.Ground.data }], guard := none }) (v := ?vta11) rfl (by kernel_rfl) (by kernel_rfl) (by kernel_rfl) (by kernel_rfl) (fun _ _ _ h => h) (Or.inl ⟨by rfl, ?hyta11⟩) ⟨hH0.1, fun _ => hH0.2⟩ ?restta11
    case hyta11 => (intro w hAw; obtain ⟨k3, k4, k5, k6⟩ := HK.out; obtain ⟨z1, z2⟩ := HZ1.out; go_simp; try (with_reducible rfl))
    simp only [Act.put, List.setIfInBounds_toArray, List.set_cons_zero, List.set_cons_succ]
    refine lat_free (i := 14) (oi := { dst := some 63, op := Go.Op.slice 9 (Go.Operand.tmp 60) (some (Go.Operand.tmp 62)) none none, type := 9, pos := "law.go:102", after := #[{ on := 11, ground := Go.Ground.data }, { on := 13, ground := Go.Ground.data }], guard := none }) (v := ?vta12) rfl (by kernel_rfl) (by kernel_rfl) (by kernel_rfl) (by kernel_rfl) (fun _ _ _ h => h) (Or.inl ⟨by rfl, ?hyta12⟩) ⟨hH0.1, fun _ => hH0.2⟩ ?restta12
    case hyta12 => (intro w hAw; obtain ⟨k3, k4, k5, k6⟩ := HK.out; obtain ⟨z1, z2⟩ := HZ1.out; go_simp; try (with_reducible rfl))
    simp only [Act.put, List.setIfInBounds_toArray, List.set_cons_zero, List.set_cons_succ]
    refine lat_one (i := 8) (by kernel_rfl) ?_
    refine lat_run (o := { dst := some 57, op := Go.Op.buildSlice 53 1 #[(0, Go.Operand.tmp 56)], type := 53, pos := "law.go:102", after := #[{ on := 7, ground := Go.Ground.data }], guard := none }) rfl (fun K hK => ?_)
    go_simp
    refine hK.out _ _ (⟨trivial, trivial⟩) (fun hHta13 => ?_)
    clear hK K
    refine lat_one (i := 9) (by kernel_rfl) ?_
    refine lat_run (o := { dst := some 58, op := Go.Op.convert 53 9 (Go.Operand.tmp 57), type := 9, pos := "law.go:102", after := #[{ on := 8, ground := Go.Ground.data }], guard := none }) rfl (fun K hK => ?_)
    go_simp
    refine hK.out _ _ (⟨trivial, trivial⟩) (fun hHta14 => ?_)
    clear hK K
    refine lat_free (i := 10) (oi := { dst := some 59, op := Go.Op.binOp Go.BinOp.add 9 (Go.Operand.tmp 51) (Go.Operand.tmp 58) 9, type := 9, pos := "law.go:102", after := #[{ on := 2, ground := Go.Ground.data }, { on := 9, ground := Go.Ground.data }], guard := none }) (v := ?vta15) rfl (by kernel_rfl) (by kernel_rfl) (by kernel_rfl) (by kernel_rfl) (fun _ _ _ h => h) (Or.inl ⟨by rfl, ?hyta15⟩) ⟨hHta14.1, fun _ => hHta14.2⟩ ?restta15
    case hyta15 => (intro w hAw; obtain ⟨k3, k4, k5, k6⟩ := HK.out; obtain ⟨z1, z2⟩ := HZ1.out; go_simp; try (with_reducible rfl))
    simp only [Act.put, List.setIfInBounds_toArray, List.set_cons_zero, List.set_cons_succ]
    refine lat_free (i := 15) (oi := { dst := some 64, op := Go.Op.binOp Go.BinOp.add 9 (Go.Operand.tmp 59) (Go.Operand.tmp 63) 9, type := 9, pos := "law.go:102", after := #[{ on := 10, ground := Go.Ground.data }, { on := 14, ground := Go.Ground.data }], guard := none }) (v := ?vta16) rfl (by kernel_rfl) (by kernel_rfl) (by kernel_rfl) (by kernel_rfl) (fun _ _ _ h => h) (Or.inl ⟨by rfl, ?hyta16⟩) ⟨hHta14.1, fun _ => hHta14.2⟩ ?restta16
    case hyta16 => (intro w hAw; obtain ⟨k3, k4, k5, k6⟩ := HK.out; obtain ⟨z1, z2⟩ := HZ1.out; go_simp; try (with_reducible rfl))
    simp only [Act.put, List.setIfInBounds_toArray, List.set_cons_zero, List.set_cons_succ]
    refine lat_one (i := 16) (by kernel_rfl) ?_
    refine lat_run (o := { dst := some 65, op := Go.Op.call { callee := Go.Callee.value (Go.Operand.func 21), args := #[Go.Operand.tmp 64], argTypes := #[9] }, type := 43, pos := "law.go:102", after := #[{ on := 15, ground := Go.Ground.data }], guard := none }) rfl (fun K hK => ?_)
    go_simp
    go_wp2_with (first
      | (go_at_call 21; go_fit (hT.out _); rintro e w3 ⟨b3, c3, rfl, g3, B3⟩)
      | fail)
    refine hK.out _ _ (⟨trivial, trivial⟩) (fun hHta17 => ?_)
    clear hK K
    refine lat_free (i := 17) (oi := { dst := some 48, op := Go.Op.move (Go.Operand.tmp 65), type := 43, pos := "law.go:102", after := #[{ on := 16, ground := Go.Ground.data }], guard := none }) (v := ?vta18) rfl (by kernel_rfl) (by kernel_rfl) (by kernel_rfl) (by kernel_rfl) (fun _ _ _ h => h) (Or.inl ⟨by rfl, ?hyta18⟩) ⟨hHta17.1, fun _ => hHta17.2⟩ ?restta18
    case hyta18 => (intro w hAw; obtain ⟨k3, k4, k5, k6⟩ := HK.out; obtain ⟨z1, z2⟩ := HZ1.out; go_simp; try (with_reducible rfl))
    simp only [Act.put, List.setIfInBounds_toArray, List.set_cons_zero, List.set_cons_succ]
    refine lat_free (i := 18) (oi := { dst := some 66, op := Go.Op.extract (Go.Operand.tmp 48) 0, type := 23, pos := "law.go:102", after := #[{ on := 17, ground := Go.Ground.data }], guard := none }) (v := ?vta19) rfl (by kernel_rfl) (by kernel_rfl) (by kernel_rfl) (by kernel_rfl) (fun _ _ _ h => h) (Or.inl ⟨by rfl, ?hyta19⟩) ⟨hHta17.1, fun _ => hHta17.2⟩ ?restta19
    case hyta19 => (intro w hAw; obtain ⟨k3, k4, k5, k6⟩ := HK.out; obtain ⟨z1, z2⟩ := HZ1.out; go_simp; try (with_reducible rfl))
    simp only [Act.put, List.setIfInBounds_toArray, List.set_cons_zero, List.set_cons_succ]
    refine lat_free (i := 19) (oi := { dst := some 67, op := Go.Op.extract (Go.Operand.tmp 48) 1, type := 4, pos := "law.go:102", after := #[{ on := 17, ground := Go.Ground.data }, { on := 20, ground := Go.Ground.gcOnly Go.Departure.lateStores }], guard := none }) (v := ?vta20) rfl (by kernel_rfl) (by kernel_rfl) (by kernel_rfl) (by kernel_rfl) (fun _ _ _ h => h) (Or.inl ⟨by rfl, ?hyta20⟩) ⟨hHta17.1, fun _ => hHta17.2⟩ ?restta20
    case hyta20 => (intro w hAw; obtain ⟨k3, k4, k5, k6⟩ := HK.out; obtain ⟨z1, z2⟩ := HZ1.out; go_simp; try (with_reducible rfl))
    simp only [Act.put, List.setIfInBounds_toArray, List.set_cons_zero, List.set_cons_succ]
    refine lat_free (i := 20) (oi := { dst := some 10, op := Go.Op.assign (Go.Operand.tmp 66), type := 23, pos := "law.go:102", after := #[{ on := 18, ground := Go.Ground.data }, { on := 16, ground := Go.Ground.chain }, { on := 0, ground := Go.Ground.phase }, { on := 1, ground := Go.Ground.phase }, { on := 2, ground := Go.Ground.phase }, { on := 3, ground := Go.Ground.phase }, { on := 4, ground := Go.Ground.phase }, { on := 5, ground := Go.Ground.phase }, { on := 6, ground := Go.Ground.phase }, { on := 7, ground := Go.Ground.phase }, { on := 8, ground := Go.Ground.phase }, { on := 9, ground := Go.Ground.phase }, { on := 10, ground := Go.Ground.phase }, { on := 11, ground := Go.Ground.phase }, { on := 12, ground := Go.Ground.phase }, { on := 13, ground := Go.Ground.phase }, { on := 14, ground := Go.Ground.phase }, { on := 15, ground := Go.Ground.phase }, { on := 16, ground := Go.Ground.phase }, { on := 17, ground := Go.Ground.phase }, { on := 18, ground := Go.Ground.phase }, { on := 19, ground := Go.Ground.textOnly Go.Departure.lateStores }], guard := none }) (v := ?vta21) rfl (by kernel_rfl) (by kernel_rfl) (by kernel_rfl) (by kernel_rfl) (fun _ _ _ h => h) (Or.inl ⟨by rfl, ?hyta21⟩) ⟨hHta17.1, fun _ => hHta17.2⟩ ?restta21
    case hyta21 => (intro w hAw; obtain ⟨k3, k4, k5, k6⟩ := HK.out; obtain ⟨z1, z2⟩ := HZ1.out; go_simp; try (with_reducible rfl))
    simp only [Act.put, List.setIfInBounds_toArray, List.set_cons_zero, List.set_cons_succ]
    refine lat_free (i := 21) (oi := { dst := some 11, op := Go.Op.assign (Go.Operand.tmp 67), type := 4, pos := "law.go:102", after := #[{ on := 19, ground := Go.Ground.data }, { on := 20, ground := Go.Ground.chain }, { on := 0, ground := Go.Ground.phase }, { on := 1, ground := Go.Ground.phase }, { on := 2, ground := Go.Ground.phase }, { on := 3, ground := Go.Ground.phase }, { on := 4, ground := Go.Ground.phase }, { on := 5, ground := Go.Ground.phase }, { on := 6, ground := Go.Ground.phase }, { on := 7, ground := Go.Ground.phase }, { on := 8, ground := Go.Ground.phase }, { on := 9, ground := Go.Ground.phase }, { on := 10, ground := Go.Ground.phase }, { on := 11, ground := Go.Ground.phase }, { on := 12, ground := Go.Ground.phase }, { on := 13, ground := Go.Ground.phase }, { on := 14, ground := Go.Ground.phase }, { on := 15, ground := Go.Ground.phase }, { on := 16, ground := Go.Ground.phase }, { on := 17, ground := Go.Ground.phase }, { on := 18, ground := Go.Ground.phase }, { on := 19, ground := Go.Ground.phase }, { on := 20, ground := Go.Ground.phase }], guard := none }) (v := ?vta22) rfl (by kernel_rfl) (by kernel_rfl) (by kernel_rfl) (by kernel_rfl) (fun _ _ _ h => h) (Or.inl ⟨by rfl, ?hyta22⟩) ⟨hHta17.1, fun _ => hHta17.2⟩ ?restta22
    case hyta22 => (intro w hAw; obtain ⟨k3, k4, k5, k6⟩ := HK.out; obtain ⟨z1, z2⟩ := HZ1.out; go_simp; try (with_reducible rfl))
    simp only [Act.put, List.setIfInBounds_toArray, List.set_cons_zero, List.set_cons_succ]
    refine lat_done (by kernel_rfl) ?_ _
    have B23 : Below w2.heap.size w2 w3 := turned_below B3
    have B13 := on_two B2 B23
    clear B3
    have hd0 : Hid (D.length = d0) := hD0
    clear hD0
    cases K with
    | false =>
      clear hSm2
      go_wp2_with (first
        | (go_at_call 28; go_fit (hFl.out _); rintro e w4 ⟨rfl, G4⟩; have B4 := G4.below)
        | (go_at_call 21; go_fit (hCe.out _); rintro e w5 ⟨b5, c5, rfl, g5, B5⟩; have B15 := on_three B13 B4 B5)
        | (go_at_call 15; go_fit (hCv.out _ B15); rintro e w6 ⟨b6, c6, rfl, g6, B6⟩)
        | (go_at_call 26; go_fit (hSm.out _ _ _ _ _ (g5.below B6) g6); rintro e w7 ⟨rfl, B7⟩)
        | fail)
      go_ret
      exact ⟨rfl, on_two B1 (on_three B15 B6 B7)⟩
    | true =>
      go_wp2_with (first
        | (go_at_call 28; go_fit (hFl.out _); rintro e w4 ⟨rfl, G4⟩; have B4 := G4.below)
        | (go_at_call 21; go_fit (hCe.out _); rintro e w5 ⟨b5, c5, rfl, g5, B5⟩; have B15 := on_three B13 B4 B5)
        | (go_at_call 15; go_fit (hCv.out _ B17); rintro e w8 ⟨b8, c8, rfl, g8, B8⟩)
        | (go_at_call 15; go_fit (hCv.out _ B15); rintro e w6 ⟨b6, c6, rfl, g6, B6⟩)
        | (go_at_call 26; go_fit (hSm2.out (by trivial) _ _ _ _ _ (g3.below (on_two (on_three B4 B5 B6) (on_two B7 B8))) g8); rintro e w9 ⟨rfl, B9⟩)
        | (go_at_call 26; go_fit (hSm.out _ _ _ _ _ (g5.below B6) g6); rintro e w7 ⟨rfl, B7⟩; have B17 := on_three B15 B6 B7)
        | fail)
      go_ret
      exact ⟨rfl, on_two B1 (on_three B17 B8 B9)⟩

set_option maxRecDepth 100000 in
theorem lifted (os : Os) (started : os.Started) (H : Type) (enc : TypeId × Value → H) :
    ReturnsInHanded {} Try.checked os 4 .any (Rows.sheetTurnedSpec.pre6 enc Try.prog Try.f4 Rows.sheetTurnedRow.domain false) (Rows.sheetTurnedSpec.post enc Try.prog Try.f4 false true false false) := by
  refine returnsInHanded_of_change (C := Try.checked) own started (by kernel_rfl) Try.func4
    (ChangeSpec.witness6 (enc := enc) (C := Try.checked) false ⟨#[], #[.slice none 0 0, .int .i64 0, .int .u8 0], []⟩ 8 (by kernel_rfl) (by kernel_rfl) (by kernel_rfl) (by kernel_rfl)) ?_
  intro W base args ds gs before hval0 hW hcnd _
  have hval : ∀ (j : Nat) t v, Try.f4.params[j]? = some t → args[j]? = some v → Value.okWide Try.prog W .any base t v := hval0
  have hW' := hW
  obtain ⟨p, q, hA0, hV, rfl, hfz, hnd⟩ := hW
  have hA : DataW.TrodAll enc Try.prog W 0 (fun _ => true) true Try.f4.params.toList args.toList ds p := hA0
  rw [Try.params4] at hA hval
  obtain ⟨v0, vs0, d0, ds0, p0, q0, hargs, rfl, rfl, h0, r0⟩ := trodAll_cons hA
  obtain ⟨v1, vs1, d1, ds1, p1, q1, rfl, rfl, rfl, h1, r1⟩ := trodAll_cons r0
  obtain ⟨v2, vs2, d2, ds2, p2, q2, rfl, rfl, rfl, h2, r2⟩ := trodAll_cons r1
  obtain ⟨rfl, rfl, rfl⟩ := trodAll_nil r2
  obtain rfl : args = #[v0, v1, v2] := by cases args; simp_all
  obtain ⟨rfl, rfl⟩ := trodVars_none hV
  obtain ⟨a0, len0, cap0, rfl⟩ := okWide_slice Try.underlying23 (hval 0 23 v0 rfl rfl)
  have k0 := h0
  have lt0 : ∀ x ∈ p0, x.block < W.heap.size := by obtain ⟨m, hm⟩ := k0; exact DataW.trod_lt m _ _ _ hm
  obtain ⟨L0, rfl, b0⟩ := open_cells h0
  obtain ⟨a1, rfl, rfl, rfl, w1⟩ := open_int Try.underlying3 (hval 1 3 v1 rfl rfl) h1
  have f1 := inF_wf w1
  obtain ⟨a2, rfl, rfl, rfl, w2⟩ := open_int Try.underlying5 (hval 2 5 v2 rfl rfl) h2
  obtain ⟨n2, rfl, m2⟩ := byte_wf w2
  clear hA0 hval0
  refine (walk a0 cap0 L0 a1 f1 n2 m2 W b0  ).mono fun e W' ⟨he, bel⟩ => ?_
  subst he
  exact ⟨_, rfl, _, _, _, [], _, [], hW', trodAll_mk1 (shut_bool Try.underlying4 _), (trodAll_cons_mk (Below.trod laidOut (by kernel_rfl) (of_decide_eq_true (by kernel_rfl)) k0 bel lt0) (trodAll_cons_mk (shut_int Try.underlying3 w1) (trodAll_cons_mk (shut_int Try.underlying5 w2) trodAll_mk0))), rfl, bel.frame _, fun h => by cases h⟩

theorem over : Rows.sheetTurnedRow.holds Try.pinned (OpenSpec.ofChange Rows.sheetTurnedSpec) :=
  OpenClaim.holds_of_wide 4 Try.f4 rfl rfl rfl rfl rfl rfl rfl ⟨rfl, rfl, rfl, rfl, rfl⟩ rfl rfl rfl rfl rfl (by kernel_rfl) Try.func4 (by kernel_rfl)
    (of_decide_eq_true (by kernel_rfl)) (by unfold Func.isWrapper; first | (rw [if_pos (by decide +kernel)]; kernel_rfl) | (rw [if_neg (by decide +kernel)]; exact ⟨rfl, rfl⟩))
    (fun os started H enc _ => lifted os started H enc)

theorem proved : Rows.SheetTurnedSaid :=
  over
end Go.Proofs.Ytjcocmoidboamaa.sheetTurned

namespace Go.Proofs.Ytjcocmoidboamaa
theorem sheetTurned_holds : Rows.SheetTurnedSaid := sheetTurned.proved
end Go.Proofs.Ytjcocmoidboamaa
