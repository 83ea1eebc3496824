/-
  The document's own Cells: a page's cells, as a new list.
-/
import Derived.Test.YtjcocmoidboamaaZSame
namespace Go.Proofs.Ytjcocmoidboamaa
open Go Go.RowKit

theorem share {G : Prop} (T : Prop) (h : T → G) (t : T) : G := h t
theorem run_none {s : ByteArray} {k : Nat} (h : runC s k = none) : ∀ n, k ≤ n → runC s n = none := by
  intro n
  induction n with
  | zero => intro hk; obtain rfl : k = 0 := by omega
            exact h
  | succ n ih =>
    intro hk
    by_cases e : k = n + 1
    · rw [← e]; exact h
    · rw [runC, ih (by omega)]
theorem run_no (s : ByteArray) {k : Nat} (h : runC s k = none) (hk : k ≤ cntS s) : isLeaf s = false := by
  unfold isLeaf
  rw [run_none h _ hk]
  simp
theorem run_yes (s : ByteArray) (h1 : s.size = 128) (h2 : s.data.toList.take 1 = [76]) {C : List Ce} {i : Nat} (h : runC s (cntS s) = some (C, i)) : isLeaf s = (leafOk C && decide (txt (leafL C) = s)) := by
  unfold isLeaf
  rw [h, h1, h2]
  rfl
theorem run_up {s : ByteArray} {k i : Nat} {C : List Ce} (h : runC s k = some (C, i)) (h1 : i + 6 ≤ 128 ∧ i + 6 + celN s i ≤ 128) : runC s (k + 1) = some (C ++ [celAt s i], i + 6 + celN s i) := by
  rw [runC, h]
  simp only
  rw [if_pos h1]
theorem run_out {s : ByteArray} {k i : Nat} {C : List Ce} (h : runC s k = some (C, i)) (h1 : ¬ (i + 6 ≤ 128 ∧ i + 6 + celN s i ≤ 128)) : runC s (k + 1) = none := by
  rw [runC, h]
  simp only
  rw [if_neg h1]
def CRef (w : World) (s : ByteArray) (e : Ending) (w' : World) : Prop := ∃ v, e = .returned (.tuple #[v, .bool (isLeaf s)]) ∧ w'.ownsRow w.heap.size 68 4 v (cellsS s).length (cesV (cellsS s)) ∧ Below w.heap.size w w'
theorem cref_none {w w' : World} {s : ByteArray} (h : isLeaf s = false) (B : Below w.heap.size w w') : CRef w s (.returned (.tuple #[.slice none 0 0, .bool false])) w' := by
  refine ⟨_, by rw [h], ?_, B⟩
  unfold cellsS
  rw [h, if_neg (by decide)]
  exact World.ownsRow_nil _ _ _ _
theorem leaf_cases (s : ByteArray) (h : s.size = 128) : ∃ c0 c1 : Nat, (∀ h, (s[0]'h).toNat = c0) ∧ (∀ h, (s[1]'h).toNat = c1) ∧ c0 < 256 ∧ c1 < 256 ∧ cntS s = c1 ∧ (c0 = 76 ↔ s.data.toList.take 1 = [76]) := by
  have h0 := (s[0]'(by omega)).toNat_lt
  have h1 := (s[1]'(by omega)).toNat_lt
  have e1 : cntS s = (s[1]'(by omega)).toNat := by rw [cntS, at_take (by omega), val_one]
  have e0 : s.data.toList.take 1 = [s[0]'(by omega)] := by have := at_take (s := s) (i := 0) (by omega); rwa [List.drop_zero] at this
  refine ⟨(s[0]'(by omega)).toNat, (s[1]'(by omega)).toNat, fun _ => rfl, fun _ => rfl, h0, h1, e1, ?_⟩
  rw [e0]
  simp only [List.cons.injEq, and_true]
  constructor
  · intro e; exact UInt8.toNat_inj.1 e
  · intro e; rw [e]; rfl
set_option maxRecDepth 10000 in
set_option maxHeartbeats 16000000 in
theorem refcells_any (s : ByteArray) (w : World) : Calls Try.prog 22 #[.string s] w fun e w' => CRef w s e w' := by
  by_cases h : s.size = 128
  · obtain ⟨c0, n, g0, g1, l0, l1, eC, e76⟩ := leaf_cases s h
    have hi : (s.size : Int) = 128 := by omega
    by_cases n0 : c0 = 76
    · obtain ⟨iw, zw, i1, i2, i3, i4, i5⟩ := info_rcell
      have hNo : Hid (isLeaf s = false → ∀ w', Below w.heap.size w w' → CRef w s (.returned (.tuple #[.slice none 0 0, .bool false])) w') := fun h w' B => cref_none h B
      have hRun : Hid (∀ k, k ≤ n → runC s k = none → isLeaf s = false) := fun k hk h => run_no s h (by rw [eC]; exact hk)
      have hEnd : Hid (∀ C i, runC s n = some (C, i) → isLeaf s = (leafOk C && decide (txt (leafL C) = s)) ∧ (isLeaf s = true → cellsS s = C)) := fun C i hr => by
        rw [← eC] at hr
        refine ⟨run_yes s h (e76.1 n0) hr, fun hl => ?_⟩
        rw [cells_code hl, tot_run s _ _ hr]
      have hU : Hid (∀ k C i, runC s k = some (C, i) → (i + 6 ≤ 128 ∧ i + 6 + celN s i ≤ 128) → runC s (k + 1) = some (C ++ [celAt s i], i + 6 + celN s i)) := fun k C i h h1 => run_up h h1
      have hV : Hid (∀ k C i, runC s k = some (C, i) → ¬ (i + 6 ≤ 128 ∧ i + 6 + celN s i ≤ 128) → runC s (k + 1) = none) := fun k C i h h1 => run_out h h1
      have hZr : Hid (∀ i, 0 ≤ celZ s i ∧ celZ s i ≤ 65535) := celZ_le s
      obtain ⟨b0, hb0⟩ : ∃ b0, w.heap.size = b0 := ⟨_, rfl⟩
      rw [hb0] at hNo
      replace hb0 : Hid (w.heap.size = b0) := hb0
      have h128 : Hid (s.size = 128) := h
      subst n0
      clear eC e76 h
      go_enter Try.func22, Try.ntmps22
      go_wp2
      go_loopw [4, 5, 6] (fun l ii kk wr => ∃ (k : Nat) (a : Option Addr) (cp : Nat) (C : List Ce) (i : Nat), k ≤ n ∧ kk = .int .i64 k ∧ ii = .int .i64 i ∧ l = .slice a k cp ∧ runC s k = some (C, i) ∧ i ≤ 128 ∧ wr.ownsRow b0 68 4 (.slice a k cp) k (cesV C) ∧ Below b0 w wr) (fun _ _ kk _ => n - (intOf kk).toNat)
      case atStart => exact ⟨0, none, 0, [], 2, by omega, rfl, rfl, rfl, rfl, by omega, World.ownsRow_nil _ _ _ _, Below.refl _ _⟩
      case round =>
        obtain ⟨k, a, cp, C, i, hk, rfl, rfl, rfl, hS, hi128, hr, hB⟩ := hrel
        have hBL : Hid (b0 ≤ wr.heap.size) := (by rw [← hb0.out]; exact hB.size : b0 ≤ wr.heap.size)
        replace hB : Hid (Below b0 w wr) := hB
        replace hS : Hid (runC s k = some (C, i)) := hS
        by_cases hlt : k < n
        · have hki : (k : Int) < n := by omega
          by_cases h6 : 128 < i + 6
          · have h6i : (128 : Int) < (i : Int) + 6 := by omega
            have hE : Hid _ := hNo.out (hRun.out (k + 1) (by omega) (hV.out k C i hS.out (by omega)))
            clear hU hV hNo hRun hEnd hZr
            go_wp2
            go_ret2
            exact hE.out _ hB.out
          · have h6i : ¬ (128 : Int) < (i : Int) + 6 := by omega
            have hZ2 := hZr.out i
            have hU2 : Hid _ := hU.out k C i hS.out
            have hV2 : Hid _ := hV.out k C i hS.out
            have hNx : Hid _ := hRun.out (k + 1) (by omega)
            have hcn : Hid (celN s i = if celZ s i ≤ 24 then (celZ s i).toNat else 2) := (by show _ = _; unfold celN; rfl)
            have hca : Hid (celAt s i = if celZ s i ≤ 24 then ⟨celK s i, celZ s i, 0, s.extract (i + 6) (i + 6 + celN s i)⟩ else ⟨celK s i, celZ s i, numR (s.extract (i + 6) (i + 6 + celN s i)), ByteArray.empty⟩) := (by show _ = _; unfold celAt; rfl)
            obtain ⟨K, hK⟩ : ∃ K, celK s i = K := ⟨_, rfl⟩
            obtain ⟨Z, hZ⟩ : ∃ Z, celZ s i = Z := ⟨_, rfl⟩
            have hO1 : Hid (∀ W, Calls Try.prog 41 #[.string (s.extract i (i + 4))] W fun e w' => e = .returned (.int .i64 K) ∧ w' = W) := fun W => by rw [← hK]; exact of_any _ W (by rw [ByteArray.size_extract]; omega)
            have hO2 : Hid (∀ W, Calls Try.prog 41 #[.string (s.extract (i + 4) (i + 6))] W fun e w' => e = .returned (.int .i64 Z) ∧ w' = W) := fun W => by rw [← hZ]; exact of_any _ W (by rw [ByteArray.size_extract]; omega)
            have HF : Hid (IntKind.i64.wrap ((i : Int) + 4) = ((i + 4 : Nat) : Int) ∧ IntKind.i64.wrap ((i : Int) + 6) = ((i + 6 : Nat) : Int) ∧ (i : Int) ≤ (i : Int) + 4 ∧ (i : Int) + 4 ≤ 128 ∧ (i : Int) + 4 ≤ (i : Int) + 6 ∧ (i : Int) + 6 ≤ 128 ∧ (0 : Int) ≤ (i : Int) + 4 ∧ (0 : Int) ≤ (i : Int) + 6 ∧ ((i : Int) + 4).toNat = i + 4 ∧ ((i : Int) + 6).toNat = i + 6) := (by simp only [IntKind.wrap_i64]; omega : IntKind.i64.wrap ((i : Int) + 4) = ((i + 4 : Nat) : Int) ∧ IntKind.i64.wrap ((i : Int) + 6) = ((i + 6 : Nat) : Int) ∧ (i : Int) ≤ (i : Int) + 4 ∧ (i : Int) + 4 ≤ 128 ∧ (i : Int) + 4 ≤ (i : Int) + 6 ∧ (i : Int) + 6 ≤ 128 ∧ (0 : Int) ≤ (i : Int) + 4 ∧ (0 : Int) ≤ (i : Int) + 6 ∧ ((i : Int) + 4).toNat = i + 4 ∧ ((i : Int) + 6).toNat = i + 6)
            rw [hK, hZ] at hca
            rw [hZ] at hcn hZ2
            replace hS := hS
            clear hU hV hRun hZr hK hZ hEnd
            go_upto_region 10 with (fail)
            apply share
            case h =>
              intro tail
              refine lat_region (A := (fun _ => True)) (S := (fun _ => True)) [] (by kernel_rfl) ?_ (fun hH0 => ?_)
              · exact ⟨trivial, trivial⟩
              refine lat_free (i := 0) (oi := { dst := some 31, op := Go.Op.move (Go.Operand.tmp 0), type := 9, pos := "disk.go:256", after := #[], guard := none }) (v := ?vrc1) rfl (by kernel_rfl) (by kernel_rfl) (by kernel_rfl) (by kernel_rfl) (fun _ _ _ h => h) (Or.inl ⟨by rfl, ?hyrc1⟩) ⟨hH0.1, fun _ => hH0.2⟩ ?restrc1
              case hyrc1 => (intro w hAw; obtain ⟨f1, f2, f3, f4, f5, f6, f7, f8, f9, f10⟩ := HF.out; go_simp; try (with_reducible rfl))
              simp only [Act.put, List.setIfInBounds_toArray, List.set_cons_zero, List.set_cons_succ]
              refine lat_free (i := 1) (oi := { dst := some 32, op := Go.Op.move (Go.Operand.tmp 5), type := 3, pos := "disk.go:256", after := #[], guard := none }) (v := ?vrc2) rfl (by kernel_rfl) (by kernel_rfl) (by kernel_rfl) (by kernel_rfl) (fun _ _ _ h => h) (Or.inl ⟨by rfl, ?hyrc2⟩) ⟨hH0.1, fun _ => hH0.2⟩ ?restrc2
              case hyrc2 => (intro w hAw; obtain ⟨f1, f2, f3, f4, f5, f6, f7, f8, f9, f10⟩ := HF.out; go_simp; try (with_reducible rfl))
              simp only [Act.put, List.setIfInBounds_toArray, List.set_cons_zero, List.set_cons_succ]
              refine lat_free (i := 2) (oi := { dst := some 33, op := Go.Op.move (Go.Operand.tmp 5), type := 3, pos := "disk.go:256", after := #[], guard := none }) (v := ?vrc3) rfl (by kernel_rfl) (by kernel_rfl) (by kernel_rfl) (by kernel_rfl) (fun _ _ _ h => h) (Or.inl ⟨by rfl, ?hyrc3⟩) ⟨hH0.1, fun _ => hH0.2⟩ ?restrc3
              case hyrc3 => (intro w hAw; obtain ⟨f1, f2, f3, f4, f5, f6, f7, f8, f9, f10⟩ := HF.out; go_simp; try (with_reducible rfl))
              simp only [Act.put, List.setIfInBounds_toArray, List.set_cons_zero, List.set_cons_succ]
              refine lat_free (i := 3) (oi := { dst := some 34, op := Go.Op.binOp Go.BinOp.add 3 (Go.Operand.tmp 33) (Go.Operand.const (Go.Value.int Go.IntKind.i64 4)) 3, type := 3, pos := "disk.go:256", after := #[{ on := 2, ground := Go.Ground.data }], guard := none }) (v := ?vrc4) rfl (by kernel_rfl) (by kernel_rfl) (by kernel_rfl) (by kernel_rfl) (fun _ _ _ h => h) (Or.inl ⟨by rfl, ?hyrc4⟩) ⟨hH0.1, fun _ => hH0.2⟩ ?restrc4
              case hyrc4 => (intro w hAw; obtain ⟨f1, f2, f3, f4, f5, f6, f7, f8, f9, f10⟩ := HF.out; go_simp; try (with_reducible rfl))
              simp only [Act.put, List.setIfInBounds_toArray, List.set_cons_zero, List.set_cons_succ]
              refine lat_free (i := 4) (oi := { dst := some 35, op := Go.Op.slice 9 (Go.Operand.tmp 31) (some (Go.Operand.tmp 32)) (some (Go.Operand.tmp 34)) none, type := 9, pos := "disk.go:256", after := #[{ on := 0, ground := Go.Ground.data }, { on := 1, ground := Go.Ground.data }, { on := 3, ground := Go.Ground.data }], guard := none }) (v := ?vrc5) rfl (by kernel_rfl) (by kernel_rfl) (by kernel_rfl) (by kernel_rfl) (fun _ _ _ h => h) (Or.inl ⟨by rfl, ?hyrc5⟩) ⟨hH0.1, fun _ => hH0.2⟩ ?restrc5
              case hyrc5 => (intro w hAw; obtain ⟨f1, f2, f3, f4, f5, f6, f7, f8, f9, f10⟩ := HF.out; go_simp; try (with_reducible rfl))
              simp only [Act.put, List.setIfInBounds_toArray, List.set_cons_zero, List.set_cons_succ]
              refine lat_free (i := 6) (oi := { dst := some 37, op := Go.Op.move (Go.Operand.tmp 0), type := 9, pos := "disk.go:256", after := #[], guard := none }) (v := ?vrc6) rfl (by kernel_rfl) (by kernel_rfl) (by kernel_rfl) (by kernel_rfl) (fun _ _ _ h => h) (Or.inl ⟨by rfl, ?hyrc6⟩) ⟨hH0.1, fun _ => hH0.2⟩ ?restrc6
              case hyrc6 => (intro w hAw; obtain ⟨f1, f2, f3, f4, f5, f6, f7, f8, f9, f10⟩ := HF.out; go_simp; try (with_reducible rfl))
              simp only [Act.put, List.setIfInBounds_toArray, List.set_cons_zero, List.set_cons_succ]
              refine lat_free (i := 7) (oi := { dst := some 38, op := Go.Op.move (Go.Operand.tmp 5), type := 3, pos := "disk.go:256", after := #[], guard := none }) (v := ?vrc7) rfl (by kernel_rfl) (by kernel_rfl) (by kernel_rfl) (by kernel_rfl) (fun _ _ _ h => h) (Or.inl ⟨by rfl, ?hyrc7⟩) ⟨hH0.1, fun _ => hH0.2⟩ ?restrc7
              case hyrc7 => (intro w hAw; obtain ⟨f1, f2, f3, f4, f5, f6, f7, f8, f9, f10⟩ := HF.out; go_simp; try (with_reducible rfl))
              simp only [Act.put, List.setIfInBounds_toArray, List.set_cons_zero, List.set_cons_succ]
              refine lat_free (i := 8) (oi := { dst := some 39, op := Go.Op.binOp Go.BinOp.add 3 (Go.Operand.tmp 38) (Go.Operand.const (Go.Value.int Go.IntKind.i64 4)) 3, type := 3, pos := "disk.go:256", after := #[{ on := 7, ground := Go.Ground.data }], guard := none }) (v := ?vrc8) rfl (by kernel_rfl) (by kernel_rfl) (by kernel_rfl) (by kernel_rfl) (fun _ _ _ h => h) (Or.inl ⟨by rfl, ?hyrc8⟩) ⟨hH0.1, fun _ => hH0.2⟩ ?restrc8
              case hyrc8 => (intro w hAw; obtain ⟨f1, f2, f3, f4, f5, f6, f7, f8, f9, f10⟩ := HF.out; go_simp; try (with_reducible rfl))
              simp only [Act.put, List.setIfInBounds_toArray, List.set_cons_zero, List.set_cons_succ]
              refine lat_free (i := 9) (oi := { dst := some 40, op := Go.Op.move (Go.Operand.tmp 5), type := 3, pos := "disk.go:256", after := #[], guard := none }) (v := ?vrc9) rfl (by kernel_rfl) (by kernel_rfl) (by kernel_rfl) (by kernel_rfl) (fun _ _ _ h => h) (Or.inl ⟨by rfl, ?hyrc9⟩) ⟨hH0.1, fun _ => hH0.2⟩ ?restrc9
              case hyrc9 => (intro w hAw; obtain ⟨f1, f2, f3, f4, f5, f6, f7, f8, f9, f10⟩ := HF.out; go_simp; try (with_reducible rfl))
              simp only [Act.put, List.setIfInBounds_toArray, List.set_cons_zero, List.set_cons_succ]
              refine lat_free (i := 10) (oi := { dst := some 41, op := Go.Op.binOp Go.BinOp.add 3 (Go.Operand.tmp 40) (Go.Operand.const (Go.Value.int Go.IntKind.i64 6)) 3, type := 3, pos := "disk.go:256", after := #[{ on := 9, ground := Go.Ground.data }], guard := none }) (v := ?vrc10) rfl (by kernel_rfl) (by kernel_rfl) (by kernel_rfl) (by kernel_rfl) (fun _ _ _ h => h) (Or.inl ⟨by rfl, ?hyrc10⟩) ⟨hH0.1, fun _ => hH0.2⟩ ?restrc10
              case hyrc10 => (intro w hAw; obtain ⟨f1, f2, f3, f4, f5, f6, f7, f8, f9, f10⟩ := HF.out; go_simp; try (with_reducible rfl))
              simp only [Act.put, List.setIfInBounds_toArray, List.set_cons_zero, List.set_cons_succ]
              refine lat_free (i := 11) (oi := { dst := some 42, op := Go.Op.slice 9 (Go.Operand.tmp 37) (some (Go.Operand.tmp 39)) (some (Go.Operand.tmp 41)) none, type := 9, pos := "disk.go:256", after := #[{ on := 6, ground := Go.Ground.data }, { on := 8, ground := Go.Ground.data }, { on := 10, ground := Go.Ground.data }], guard := none }) (v := ?vrc11) rfl (by kernel_rfl) (by kernel_rfl) (by kernel_rfl) (by kernel_rfl) (fun _ _ _ h => h) (Or.inl ⟨by rfl, ?hyrc11⟩) ⟨hH0.1, fun _ => hH0.2⟩ ?restrc11
              case hyrc11 => (intro w hAw; obtain ⟨f1, f2, f3, f4, f5, f6, f7, f8, f9, f10⟩ := HF.out; go_simp; try (with_reducible rfl))
              simp only [Act.put, List.setIfInBounds_toArray, List.set_cons_zero, List.set_cons_succ]
              refine lat_two (i := 5) (k := 14) (by kernel_rfl) ?_ ?_
              · refine lat_run (o := { dst := some 36, op := Go.Op.call { callee := Go.Callee.value (Go.Operand.func 41), args := #[Go.Operand.tmp 35], argTypes := #[9] }, type := 3, pos := "disk.go:256", after := #[{ on := 4, ground := Go.Ground.data }], guard := none }) rfl (fun K hK => ?_)
                go_simp
                go_at_call 41; go_fit (hO1.out _); rintro e w' ⟨rfl, rfl⟩
                refine hK.out _ _ (⟨trivial, trivial⟩) (fun hHrc12 => ?_)
                clear hK K
                refine lat_two (i := 12) (k := 14) (by kernel_rfl) ?_ ?_
                · refine lat_run (o := { dst := some 43, op := Go.Op.call { callee := Go.Callee.value (Go.Operand.func 41), args := #[Go.Operand.tmp 42], argTypes := #[9] }, type := 3, pos := "disk.go:256", after := #[{ on := 11, ground := Go.Ground.data }, { on := 5, ground := Go.Ground.chain }], guard := none }) rfl (fun K hK => ?_)
                  go_simp
                  go_at_call 41; go_fit (hO2.out _); rintro e w' ⟨rfl, rfl⟩
                  refine hK.out _ _ (⟨trivial, trivial⟩) (fun hHrc13 => ?_)
                  clear hK K
                  refine lat_free (i := 13) (oi := { dst := some 44, op := Go.Op.build 68 #[(0, Go.Operand.tmp 36), (1, Go.Operand.tmp 43)], type := 68, pos := "disk.go:256", after := #[{ on := 5, ground := Go.Ground.data }, { on := 12, ground := Go.Ground.data }], guard := none }) (v := ?vrc14) rfl (by kernel_rfl) (by kernel_rfl) (by kernel_rfl) (by kernel_rfl) (fun _ _ _ h => h) (Or.inl ⟨by rfl, ?hyrc14⟩) ⟨hHrc13.1, fun _ => hHrc13.2⟩ ?restrc14
                  case hyrc14 => (intro w hAw; obtain ⟨f1, f2, f3, f4, f5, f6, f7, f8, f9, f10⟩ := HF.out; go_simp; try (with_reducible rfl))
                  simp only [Act.put, List.setIfInBounds_toArray, List.set_cons_zero, List.set_cons_succ]
                  refine lat_one (i := 14) (by kernel_rfl) ?_
                  refine lat_run (o := { dst := some 7, op := Go.Op.alloc 68, type := 0, pos := "disk.go:256", after := #[], guard := none }) rfl (fun K hK => ?_)
                  go_simp
                  refine hK.out _ _ (⟨trivial, trivial⟩) (fun hHrc15 => ?_)
                  clear hK K
                  refine lat_one (i := 15) (by kernel_rfl) ?_
                  refine lat_run (o := { dst := none, op := Go.Op.store 68 (Go.Operand.tmp 7) (Go.Operand.tmp 44), type := 0, pos := "disk.go:256", after := #[{ on := 14, ground := Go.Ground.data }, { on := 13, ground := Go.Ground.data }, { on := 12, ground := Go.Ground.chain }, { on := 0, ground := Go.Ground.phase }, { on := 1, ground := Go.Ground.phase }, { on := 2, ground := Go.Ground.phase }, { on := 3, ground := Go.Ground.phase }, { on := 4, ground := Go.Ground.phase }, { on := 5, ground := Go.Ground.phase }, { on := 6, ground := Go.Ground.phase }, { on := 7, ground := Go.Ground.phase }, { on := 8, ground := Go.Ground.phase }, { on := 9, ground := Go.Ground.phase }, { on := 10, ground := Go.Ground.phase }, { on := 11, ground := Go.Ground.phase }, { on := 12, ground := Go.Ground.phase }, { on := 13, ground := Go.Ground.phase }, { on := 14, ground := Go.Ground.phase }], guard := none }) rfl (fun K hK => ?_)
                  go_simp
                  refine hK.out _ _ (⟨trivial, trivial⟩) (fun hHrc16 => ?_)
                  clear hK K
                  refine lat_done (by kernel_rfl) ?_ _
                  exact tail
                · refine lat_run (o := { dst := some 7, op := Go.Op.alloc 68, type := 0, pos := "disk.go:256", after := #[], guard := none }) rfl (fun K hK => ?_)
                  go_simp
                  refine hK.out _ _ (⟨trivial, trivial⟩) (fun hHrc17 => ?_)
                  clear hK K
                  refine lat_one (i := 12) (by kernel_rfl) ?_
                  refine lat_run (o := { dst := some 43, op := Go.Op.call { callee := Go.Callee.value (Go.Operand.func 41), args := #[Go.Operand.tmp 42], argTypes := #[9] }, type := 3, pos := "disk.go:256", after := #[{ on := 11, ground := Go.Ground.data }, { on := 5, ground := Go.Ground.chain }], guard := none }) rfl (fun K hK => ?_)
                  go_simp
                  go_at_call 41; go_fit (hO2.out _); rintro e w' ⟨rfl, rfl⟩
                  refine hK.out _ _ (⟨trivial, trivial⟩) (fun hHrc18 => ?_)
                  clear hK K
                  refine lat_free (i := 13) (oi := { dst := some 44, op := Go.Op.build 68 #[(0, Go.Operand.tmp 36), (1, Go.Operand.tmp 43)], type := 68, pos := "disk.go:256", after := #[{ on := 5, ground := Go.Ground.data }, { on := 12, ground := Go.Ground.data }], guard := none }) (v := ?vrc19) rfl (by kernel_rfl) (by kernel_rfl) (by kernel_rfl) (by kernel_rfl) (fun _ _ _ h => h) (Or.inl ⟨by rfl, ?hyrc19⟩) ⟨hHrc18.1, fun _ => hHrc18.2⟩ ?restrc19
                  case hyrc19 => (intro w hAw; obtain ⟨f1, f2, f3, f4, f5, f6, f7, f8, f9, f10⟩ := HF.out; go_simp; try (with_reducible rfl))
                  simp only [Act.put, List.setIfInBounds_toArray, List.set_cons_zero, List.set_cons_succ]
                  refine lat_one (i := 15) (by kernel_rfl) ?_
                  refine lat_run (o := { dst := none, op := Go.Op.store 68 (Go.Operand.tmp 7) (Go.Operand.tmp 44), type := 0, pos := "disk.go:256", after := #[{ on := 14, ground := Go.Ground.data }, { on := 13, ground := Go.Ground.data }, { on := 12, ground := Go.Ground.chain }, { on := 0, ground := Go.Ground.phase }, { on := 1, ground := Go.Ground.phase }, { on := 2, ground := Go.Ground.phase }, { on := 3, ground := Go.Ground.phase }, { on := 4, ground := Go.Ground.phase }, { on := 5, ground := Go.Ground.phase }, { on := 6, ground := Go.Ground.phase }, { on := 7, ground := Go.Ground.phase }, { on := 8, ground := Go.Ground.phase }, { on := 9, ground := Go.Ground.phase }, { on := 10, ground := Go.Ground.phase }, { on := 11, ground := Go.Ground.phase }, { on := 12, ground := Go.Ground.phase }, { on := 13, ground := Go.Ground.phase }, { on := 14, ground := Go.Ground.phase }], guard := none }) rfl (fun K hK => ?_)
                  go_simp
                  refine hK.out _ _ (⟨trivial, trivial⟩) (fun hHrc20 => ?_)
                  clear hK K
                  refine lat_done (by kernel_rfl) ?_ _
                  exact tail
              · refine lat_run (o := { dst := some 7, op := Go.Op.alloc 68, type := 0, pos := "disk.go:256", after := #[], guard := none }) rfl (fun K hK => ?_)
                go_simp
                refine hK.out _ _ (⟨trivial, trivial⟩) (fun hHrc21 => ?_)
                clear hK K
                refine lat_one (i := 5) (by kernel_rfl) ?_
                refine lat_run (o := { dst := some 36, op := Go.Op.call { callee := Go.Callee.value (Go.Operand.func 41), args := #[Go.Operand.tmp 35], argTypes := #[9] }, type := 3, pos := "disk.go:256", after := #[{ on := 4, ground := Go.Ground.data }], guard := none }) rfl (fun K hK => ?_)
                go_simp
                go_at_call 41; go_fit (hO1.out _); rintro e w' ⟨rfl, rfl⟩
                refine hK.out _ _ (⟨trivial, trivial⟩) (fun hHrc22 => ?_)
                clear hK K
                refine lat_one (i := 12) (by kernel_rfl) ?_
                refine lat_run (o := { dst := some 43, op := Go.Op.call { callee := Go.Callee.value (Go.Operand.func 41), args := #[Go.Operand.tmp 42], argTypes := #[9] }, type := 3, pos := "disk.go:256", after := #[{ on := 11, ground := Go.Ground.data }, { on := 5, ground := Go.Ground.chain }], guard := none }) rfl (fun K hK => ?_)
                go_simp
                go_at_call 41; go_fit (hO2.out _); rintro e w' ⟨rfl, rfl⟩
                refine hK.out _ _ (⟨trivial, trivial⟩) (fun hHrc23 => ?_)
                clear hK K
                refine lat_free (i := 13) (oi := { dst := some 44, op := Go.Op.build 68 #[(0, Go.Operand.tmp 36), (1, Go.Operand.tmp 43)], type := 68, pos := "disk.go:256", after := #[{ on := 5, ground := Go.Ground.data }, { on := 12, ground := Go.Ground.data }], guard := none }) (v := ?vrc24) rfl (by kernel_rfl) (by kernel_rfl) (by kernel_rfl) (by kernel_rfl) (fun _ _ _ h => h) (Or.inl ⟨by rfl, ?hyrc24⟩) ⟨hHrc23.1, fun _ => hHrc23.2⟩ ?restrc24
                case hyrc24 => (intro w hAw; obtain ⟨f1, f2, f3, f4, f5, f6, f7, f8, f9, f10⟩ := HF.out; go_simp; try (with_reducible rfl))
                simp only [Act.put, List.setIfInBounds_toArray, List.set_cons_zero, List.set_cons_succ]
                refine lat_one (i := 15) (by kernel_rfl) ?_
                refine lat_run (o := { dst := none, op := Go.Op.store 68 (Go.Operand.tmp 7) (Go.Operand.tmp 44), type := 0, pos := "disk.go:256", after := #[{ on := 14, ground := Go.Ground.data }, { on := 13, ground := Go.Ground.data }, { on := 12, ground := Go.Ground.chain }, { on := 0, ground := Go.Ground.phase }, { on := 1, ground := Go.Ground.phase }, { on := 2, ground := Go.Ground.phase }, { on := 3, ground := Go.Ground.phase }, { on := 4, ground := Go.Ground.phase }, { on := 5, ground := Go.Ground.phase }, { on := 6, ground := Go.Ground.phase }, { on := 7, ground := Go.Ground.phase }, { on := 8, ground := Go.Ground.phase }, { on := 9, ground := Go.Ground.phase }, { on := 10, ground := Go.Ground.phase }, { on := 11, ground := Go.Ground.phase }, { on := 12, ground := Go.Ground.phase }, { on := 13, ground := Go.Ground.phase }, { on := 14, ground := Go.Ground.phase }], guard := none }) rfl (fun K hK => ?_)
                go_simp
                refine hK.out _ _ (⟨trivial, trivial⟩) (fun hHrc25 => ?_)
                clear hK K
                refine lat_done (by kernel_rfl) ?_ _
                exact tail
            case t =>
              obtain ⟨q, hq⟩ : ∃ q, wr.heap.size = q := ⟨_, rfl⟩
              obtain ⟨W0, hW0⟩ : ∃ W0, (wr.alloc (.cells #[.int .i64 K, .int .i64 Z, .int .i64 0, .string ⟨#[]⟩] 68)).drew = W0 := ⟨_, rfl⟩
              have G0 : Grew wr W0 := by rw [← hW0]; exact ((Grew.refl wr).alloc _ _).drew
              have v0 : V4 W0 q (.int .i64 K) (.int .i64 Z) (.int .i64 0) (.string ⟨#[]⟩) := by rw [← hW0, ← hq]; exact (V4.new wr _ _ _ _ _).grew (Grew.refl _).drew
              have hsz : W0.heap.size = q + 1 := by rw [← hW0, ← hq]; simp [World.drew]
              rw [hW0]
              have hr0 := row_grew hr G0
              have hB0 : Hid (Below b0 w W0) := (hB.out.trans (G0.below.mono hBL.out) : Below b0 w W0)
              have hlt0 : Hid (q < W0.heap.size ∧ b0 ≤ q) := (⟨by omega, by rw [← hq]; exact hBL.out⟩ : q < W0.heap.size ∧ b0 ≤ q)
              have hoq : Hid (∀ j, (Value.slice a k cp).ownBlock = some j → ¬ j = q) := fun j e e2 => by have := (hr.lt j e).2; omega
              rw [hq]
              obtain ⟨x0, x1, x2, x3, y0, y1, y2, y3⟩ := id v0
              replace hsz : Hid (W0.heap.size = q + 1) := hsz
              obtain ⟨Zn, rfl⟩ := Int.eq_ofNat_of_zero_le hZ2.1
              have hk256 : k < 256 := by omega
              clear hq hW0 G0 hr hB hBL g0 g1 l0 l1 hO1 hO2 HF hS v0
              by_cases hz : (Zn : Int) ≤ 24
              · rw [if_pos hz, Int.toNat_natCast] at hcn
                rw [if_pos hz, hcn.out] at hca
                have hzn : Zn ≤ 24 := by omega
                by_cases ho : 128 < i + 6 + Zn
                · have hoi : (128 : Int) < (i : Int) + 6 + Zn := by omega
                  have hE : Hid _ := hNo.out (hNx.out (hV2.out (by rw [hcn.out]; omega)))
                  clear hU2 hV2 hNx hca hcn hNo
                  go_wp2
                  go_ret2
                  exact hE.out _ hB0.out
                · have hoi : ¬ (128 : Int) < (i : Int) + 6 + Zn := by omega
                  have hN : Hid _ := hU2.out (by rw [hcn.out]; omega)
                  rw [hcn.out, hca.out] at hN
                  clear hU2 hV2 hNx hca hcn hNo
                  have hle : (i : Int) + 6 + Zn ≤ 128 := by omega
                  have hrow : Hid (∀ T : Value, ((W0.setCell ⟨q, 3, none⟩ T)).ownsRow b0 68 4 (.slice a k cp) k (cesV C)) := fun T => row_but hr0 ((But.refl (fun i => i = q) W0).set (b := q) rfl 3 none T) hoq.out
                  have hT1 : Hid (((i : Int) + 6).toNat = i + 6 ∧ ((i : Int) + 6 + Zn).toNat = i + 6 + Zn) := (by omega : ((i : Int) + 6).toNat = i + 6 ∧ ((i : Int) + 6 + Zn).toNat = i + 6 + Zn)
                  go_wp2_with (first
                    | (at_builtin; refine wpList_app _ rfl (.tmp 79) (.tmp 81) 34 rfl b0 68 iw zw 4 40 Try.underlying34 i1 i2 i4 i5 i3 (by decide) (.slice a k cp) k _ rfl ((hrow.out _).alloc _) (some ⟨W0.heap.size, 0, none⟩) 1 1 [.int .i64 K, .int .i64 Zn, .int .i64 0, .string (s.extract (i + 6) (i + 6 + Zn))] rfl rfl (.inr ⟨_, 0, rfl, fun j u hj => new_at _ _ _ _ (by simp) j u hj⟩) (fun u hu => by simp at hu; rcases hu with rfl | rfl | rfl | rfl <;> rfl) (by unfold maxLen; omega) (by omega) (by have := hlt0.out; simp; omega) ?_; intro v5 w5 hv5 hg5 hk5 hl5)
                    | fail)
                  obtain ⟨a5, c5, rfl, _⟩ := own_reads hv5
                  have hlt2 := hlt0.out
                  refine ⟨⟨k + 1, a5, c5, _, i + 6 + Zn, hlt, by simp, by simp, rfl, hN.out, by omega, ?_, ?_⟩, meas_up hlt⟩
                  · rw [ces_more]
                    exact hv5
                  · exact hB0.out.trans (((((But.refl (fun j => b0 ≤ j) W0).set (b := q) hlt2.2 3 none (.string (s.extract (i + 6) (i + 6 + Zn)))).alloc _).trans ((grown_but hg5).more fun j _ e => (hr0.lt j e).1)).below (fun _ e => e) (by omega))
              · rw [if_neg hz] at hcn
                rw [if_neg hz, hcn.out] at hca
                by_cases ho : 128 < i + 6 + 2
                · have hoi : (128 : Int) < (i : Int) + 6 + 2 := by omega
                  have hE : Hid _ := hNo.out (hNx.out (hV2.out (by rw [hcn.out]; omega)))
                  clear hU2 hV2 hNx hca hcn hNo
                  go_wp2
                  go_ret2
                  exact hE.out _ hB0.out
                · have hoi : ¬ (128 : Int) < (i : Int) + 6 + 2 := by omega
                  have hN : Hid _ := hU2.out (by rw [hcn.out]; omega)
                  rw [hcn.out, hca.out] at hN
                  have hO3 : Hid (∀ W, Calls Try.prog 41 #[.string (s.extract (i + 6) (i + 6 + 2))] W fun e w' => e = .returned (.int .i64 (numR (s.extract (i + 6) (i + 6 + 2)))) ∧ W = w') := fun W => (of_any _ W (by rw [ByteArray.size_extract]; omega)).mono fun e w' ⟨h1, h2⟩ => ⟨h1, h2.symm⟩
                  clear hU2 hV2 hNx hca hcn hNo
                  have hle : (i : Int) + 6 + 2 ≤ 128 := by omega
                  have hrow : Hid (∀ T : Value, ((W0.setCell ⟨q, 2, none⟩ T)).ownsRow b0 68 4 (.slice a k cp) k (cesV C)) := fun T => row_but hr0 ((But.refl (fun i => i = q) W0).set (b := q) rfl 2 none T) hoq.out
                  have hT1 : ((i : Int) + 6).toNat = i + 6 ∧ ((i : Int) + 6 + 2).toNat = i + 6 + 2 ∧ ((i : Int) + 8).toNat = i + 6 + 2 := by omega
                  go_wp2_with (first
                    | (go_at_call 41; go_fit (hO3.out _); rintro e w4 ⟨rfl, rfl⟩)
                    | (at_builtin; refine wpList_app _ rfl (.tmp 79) (.tmp 81) 34 rfl b0 68 iw zw 4 40 Try.underlying34 i1 i2 i4 i5 i3 (by decide) (.slice a k cp) k _ rfl ((hrow.out _).alloc _) (some ⟨W0.heap.size, 0, none⟩) 1 1 [.int .i64 K, .int .i64 Zn, .int .i64 (numR (s.extract (i + 6) (i + 6 + 2))), .string ByteArray.empty] rfl rfl (.inr ⟨_, 0, rfl, fun j u hj => new_at _ _ _ _ (by simp) j u hj⟩) (fun u hu => by simp at hu; rcases hu with rfl | rfl | rfl | rfl <;> rfl) (by unfold maxLen; omega) (by omega) (by have := hlt0.out; simp; omega) ?_; intro v5 w5 hv5 hg5 hk5 hl5)
                    | fail)
                  obtain ⟨a5, c5, rfl, _⟩ := own_reads hv5
                  have hlt2 := hlt0.out
                  refine ⟨⟨k + 1, a5, c5, _, i + 6 + 2, hlt, by simp, by simp, rfl, hN.out, by omega, ?_, ?_⟩, meas_up hlt⟩
                  · rw [ces_more]
                    exact hv5
                  · exact hB0.out.trans (((((But.refl (fun j => b0 ≤ j) W0).set (b := q) hlt2.2 2 none (.int .i64 (numR (s.extract (i + 6) (i + 6 + 2))))).alloc _).trans ((grown_but hg5).more fun j _ e => (hr0.lt j e).1)).below (fun _ e => e) (by omega))
        · have hki : ¬ (k : Int) < n := by omega
          obtain rfl : k = n := by omega
          obtain ⟨a', cp', e9, hSl⟩ := cells_of hr
          obtain ⟨rfl, _, rfl⟩ : a = a' ∧ k = k ∧ cp = cp' := by simpa using e9
          have hlen : C.length = k := by have := hr.1; rw [ces_len] at this; omega
          have hX : Hid (Calls Try.prog 14 #[.slice a k cp] wr fun e w' => e = .returned (.tuple #[.string (leafV C), .bool (leafOk C)]) ∧ Grew wr w') := by
            show Calls _ _ _ _ _
            have := refleaf_any C a cp wr hSl (by omega)
            rw [hlen] at this
            exact this
          obtain ⟨eI0, hY0⟩ := hEnd.out C i hS.out
          replace eI0 : Hid (isLeaf s = (leafOk C && decide (txt (leafL C) = s))) := eI0
          replace hY0 : Hid (isLeaf s = true → cellsS s = C) := hY0
          replace hr : Hid (wr.ownsRow b0 68 4 (.slice a k cp) k (cesV C)) := hr
          replace hlen : Hid (C.length = k) := hlen
          have hv : leafV C = if leafOk C then txt (leafL C) else ByteArray.empty := rfl
          rw [hv] at hX
          clear e9 hSl hU hV hRun hZr hEnd hv hS
          cases hko : leafOk C with
          | false =>
            rw [hko, if_neg (by decide)] at hX
            rw [hko] at eI0
            have hE : Hid _ := hNo.out (by rw [eI0.out]; rfl)
            clear hko eI0 hY0 hNo
            go_wp2_with (first | (go_at_call 14; go_fit hX.out; rintro e w1 ⟨rfl, G⟩) | fail)
            go_ret2
            exact hE.out _ (hB.out.trans (G.below.mono hBL.out))
          | true =>
            rw [hko, if_pos rfl] at hX
            rw [hko] at eI0
            by_cases hq : txt (leafL C) = s
            · rw [hq] at hX
              have hE := hY0.out (by rw [eI0.out, hq]; simp)
              have hT : Hid (isLeaf s = true) := (by rw [eI0.out, hq]; simp : isLeaf s = true)
              replace hE : Hid (cellsS s = C) := hE
              clear hko eI0 hY0 hNo hq
              go_wp2_with (first | (go_at_call 14; go_fit hX.out; rintro e w1 ⟨rfl, G⟩) | fail)
              go_ret2
              refine ⟨_, by rw [hT.out]; rfl, ?_, by rw [hb0.out]; exact hB.out.trans (G.below.mono hBL.out)⟩
              rw [hE.out, hb0.out, hlen.out]
              exact row_grew hr.out G
            · have hne := bytes_ne' hq
              have hE : Hid _ := hNo.out (by rw [eI0.out, decide_eq_false hq]; rfl)
              clear hko eI0 hY0 hNo hq
              generalize txt (leafL C) = X at *
              go_wp2_with (first | (go_at_call 14; go_fit hX.out; rintro e w1 ⟨rfl, G⟩) | fail)
              go_ret2
              exact hE.out _ (hB.out.trans (G.below.mono hBL.out))
    · have hE : Hid (∀ w', Below w.heap.size w w' → CRef w s (.returned (.tuple #[.slice none 0 0, .bool false])) w') := fun w' B => cref_none (by
        cases e : isLeaf s with
        | false => rfl
        | true => exact absurd (e76.2 (head_leaf e).2) n0) B
      clear eC e76 h
      have n0' : ¬ (c0 : Int) = 76 := by omega
      clear n0
      go_enter Try.func22, Try.ntmps22
      go_wp2
      go_ret2
      exact hE.out _ (Below.refl _ _)
  · have hi : ¬ (s.size : Int) = 128 := by omega
    have hE : Hid (∀ w', Below w.heap.size w w' → CRef w s (.returned (.tuple #[.slice none 0 0, .bool false])) w') := fun w' B => cref_none (by
      cases e : isLeaf s with
      | false => rfl
      | true => exact absurd (head_leaf e).1 h) B
    clear h
    go_enter Try.func22, Try.ntmps22
    go_wp2
    go_ret2
    exact hE.out _ (Below.refl _ _)
end Go.Proofs.Ytjcocmoidboamaa
