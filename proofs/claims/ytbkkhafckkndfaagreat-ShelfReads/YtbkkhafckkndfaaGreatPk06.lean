/-
  The document's own Cells: a page's cells, as a new list. The document's own Plan (chapter 16). Package shelf's cell, leaves, countLeaves: cells of records, parted into leaves. Package shelf's countLeaves and allPages. Package shelf's rightPages: may these pages be? Maps with texts as keys and numbers as values, as they lie in memory: what a text leads to. No program in sight.
-/
import Derived.Test.YtbkkhafckkndfaaGreatPk05
import Derived.MapKept
import Derived.OwnWalk
import Derived.Below
namespace Go.Proofs.YtbkkhafckkndfaaGreat
open Go Go.RowKit

theorem share {G : Prop} (T : Prop) (h : T → G) (t : T) : G := h t
theorem run_none {s : ByteArray} {k : Nat} (h : runC s k = none) : ∀ n, k ≤ n → runC s n = none := by
  intro n
  induction n with
  | zero => intro hk; obtain rfl : k = 0 := by omega
            exact h
  | succ n ih =>
    intro hk
    by_cases e : k = n + 1
    · rw [← e]; exact h
    · rw [runC, ih (by omega)]
theorem run_no (s : ByteArray) {k : Nat} (h : runC s k = none) (hk : k ≤ cntS s) : isLeaf s = false := by
  unfold isLeaf
  rw [run_none h _ hk]
  simp
theorem run_yes (s : ByteArray) (h1 : s.size = 128) (h2 : s.data.toList.take 1 = [76]) {C : List Ce} {i : Nat} (h : runC s (cntS s) = some (C, i)) : isLeaf s = (leafOk C && decide (txt (leafL C) = s)) := by
  unfold isLeaf
  rw [h, h1, h2]
  rfl
theorem run_up {s : ByteArray} {k i : Nat} {C : List Ce} (h : runC s k = some (C, i)) (h1 : i + 6 ≤ 128 ∧ i + 6 + celN s i ≤ 128) : runC s (k + 1) = some (C ++ [celAt s i], i + 6 + celN s i) := by
  rw [runC, h]
  simp only
  rw [if_pos h1]
theorem run_out {s : ByteArray} {k i : Nat} {C : List Ce} (h : runC s k = some (C, i)) (h1 : ¬ (i + 6 ≤ 128 ∧ i + 6 + celN s i ≤ 128)) : runC s (k + 1) = none := by
  rw [runC, h]
  simp only
  rw [if_neg h1]
def CRef (w : World) (s : ByteArray) (e : Ending) (w' : World) : Prop := ∃ v, e = .returned (.tuple #[v, .bool (isLeaf s)]) ∧ w'.ownsRow w.heap.size 82 4 v (cellsS s).length (cesV (cellsS s)) ∧ Below w.heap.size w w'
theorem cref_none {w w' : World} {s : ByteArray} (h : isLeaf s = false) (B : Below w.heap.size w w') : CRef w s (.returned (.tuple #[.slice none 0 0, .bool false])) w' := by
  refine ⟨_, by rw [h], ?_, B⟩
  unfold cellsS
  rw [h, if_neg (by decide)]
  exact World.ownsRow_nil _ _ _ _
theorem leaf_cases (s : ByteArray) (h : s.size = 128) : ∃ c0 c1 : Nat, (∀ h, (s[0]'h).toNat = c0) ∧ (∀ h, (s[1]'h).toNat = c1) ∧ c0 < 256 ∧ c1 < 256 ∧ cntS s = c1 ∧ (c0 = 76 ↔ s.data.toList.take 1 = [76]) := by
  have h0 := (s[0]'(by omega)).toNat_lt
  have h1 := (s[1]'(by omega)).toNat_lt
  have e1 : cntS s = (s[1]'(by omega)).toNat := by rw [cntS, at_take (by omega), val_one]
  have e0 : s.data.toList.take 1 = [s[0]'(by omega)] := by have := at_take (s := s) (i := 0) (by omega); rwa [List.drop_zero] at this
  refine ⟨(s[0]'(by omega)).toNat, (s[1]'(by omega)).toNat, fun _ => rfl, fun _ => rfl, h0, h1, e1, ?_⟩
  rw [e0]
  simp only [List.cons.injEq, and_true]
  constructor
  · intro e; exact UInt8.toNat_inj.1 e
  · intro e; rw [e]; rfl
set_option maxRecDepth 10000 in
set_option maxHeartbeats 16000000 in
theorem refcells_any (s : ByteArray) (w : World) : Calls Tryz.prog 23 #[.string s] w fun e w' => CRef w s e w' := by
  by_cases h : s.size = 128
  · obtain ⟨c0, n, g0, g1, l0, l1, eC, e76⟩ := leaf_cases s h
    have hi : (s.size : Int) = 128 := by omega
    by_cases n0 : c0 = 76
    · obtain ⟨iw, zw, i1, i2, i3, i4, i5⟩ := info_rcell
      have hNo : Hid (isLeaf s = false → ∀ w', Below w.heap.size w w' → CRef w s (.returned (.tuple #[.slice none 0 0, .bool false])) w') := fun h w' B => cref_none h B
      have hRun : Hid (∀ k, k ≤ n → runC s k = none → isLeaf s = false) := fun k hk h => run_no s h (by rw [eC]; exact hk)
      have hEnd : Hid (∀ C i, runC s n = some (C, i) → isLeaf s = (leafOk C && decide (txt (leafL C) = s)) ∧ (isLeaf s = true → cellsS s = C)) := fun C i hr => by
        rw [← eC] at hr
        refine ⟨run_yes s h (e76.1 n0) hr, fun hl => ?_⟩
        rw [cells_code hl, tot_run s _ _ hr]
      have hU : Hid (∀ k C i, runC s k = some (C, i) → (i + 6 ≤ 128 ∧ i + 6 + celN s i ≤ 128) → runC s (k + 1) = some (C ++ [celAt s i], i + 6 + celN s i)) := fun k C i h h1 => run_up h h1
      have hV : Hid (∀ k C i, runC s k = some (C, i) → ¬ (i + 6 ≤ 128 ∧ i + 6 + celN s i ≤ 128) → runC s (k + 1) = none) := fun k C i h h1 => run_out h h1
      have hZr : Hid (∀ i, 0 ≤ celZ s i ∧ celZ s i ≤ 65535) := celZ_le s
      obtain ⟨b0, hb0⟩ : ∃ b0, w.heap.size = b0 := ⟨_, rfl⟩
      rw [hb0] at hNo
      replace hb0 : Hid (w.heap.size = b0) := hb0
      have h128 : Hid (s.size = 128) := h
      subst n0
      clear eC e76 h
      go_enter Tryz.func23, Tryz.ntmps23
      go_wp2
      go_loopw [4, 5, 6] (fun l ii kk wr => ∃ (k : Nat) (a : Option Addr) (cp : Nat) (C : List Ce) (i : Nat), k ≤ n ∧ kk = .int .i64 k ∧ ii = .int .i64 i ∧ l = .slice a k cp ∧ runC s k = some (C, i) ∧ i ≤ 128 ∧ wr.ownsRow b0 82 4 (.slice a k cp) k (cesV C) ∧ Below b0 w wr) (fun _ _ kk _ => n - (intOf kk).toNat)
      case atStart => exact ⟨0, none, 0, [], 2, by omega, rfl, rfl, rfl, rfl, by omega, World.ownsRow_nil _ _ _ _, Below.refl _ _⟩
      case round =>
        obtain ⟨k, a, cp, C, i, hk, rfl, rfl, rfl, hS, hi128, hr, hB⟩ := hrel
        have hBL : Hid (b0 ≤ wr.heap.size) := (by rw [← hb0.out]; exact hB.size : b0 ≤ wr.heap.size)
        replace hB : Hid (Below b0 w wr) := hB
        replace hS : Hid (runC s k = some (C, i)) := hS
        by_cases hlt : k < n
        · have hki : (k : Int) < n := by omega
          by_cases h6 : 128 < i + 6
          · have h6i : (128 : Int) < (i : Int) + 6 := by omega
            have hE : Hid _ := hNo.out (hRun.out (k + 1) (by omega) (hV.out k C i hS.out (by omega)))
            clear hU hV hNo hRun hEnd hZr
            go_wp2
            go_ret2
            exact hE.out _ hB.out
          · have h6i : ¬ (128 : Int) < (i : Int) + 6 := by omega
            have hZ2 := hZr.out i
            have hU2 : Hid _ := hU.out k C i hS.out
            have hV2 : Hid _ := hV.out k C i hS.out
            have hNx : Hid _ := hRun.out (k + 1) (by omega)
            have hcn : Hid (celN s i = if celZ s i ≤ 24 then (celZ s i).toNat else 2) := (by show _ = _; unfold celN; rfl)
            have hca : Hid (celAt s i = if celZ s i ≤ 24 then ⟨celK s i, celZ s i, 0, s.extract (i + 6) (i + 6 + celN s i)⟩ else ⟨celK s i, celZ s i, numR (s.extract (i + 6) (i + 6 + celN s i)), ByteArray.empty⟩) := (by show _ = _; unfold celAt; rfl)
            obtain ⟨K, hK⟩ : ∃ K, celK s i = K := ⟨_, rfl⟩
            obtain ⟨Z, hZ⟩ : ∃ Z, celZ s i = Z := ⟨_, rfl⟩
            have hO1 : Hid (∀ W, Calls Tryz.prog 39 #[.string (s.extract i (i + 4))] W fun e w' => e = .returned (.int .i64 K) ∧ w' = W) := fun W => by rw [← hK]; exact of_any _ W (by rw [ByteArray.size_extract]; omega)
            have hO2 : Hid (∀ W, Calls Tryz.prog 39 #[.string (s.extract (i + 4) (i + 6))] W fun e w' => e = .returned (.int .i64 Z) ∧ w' = W) := fun W => by rw [← hZ]; exact of_any _ W (by rw [ByteArray.size_extract]; omega)
            have HF : Hid (IntKind.i64.wrap ((i : Int) + 4) = ((i + 4 : Nat) : Int) ∧ IntKind.i64.wrap ((i : Int) + 6) = ((i + 6 : Nat) : Int) ∧ (i : Int) ≤ (i : Int) + 4 ∧ (i : Int) + 4 ≤ 128 ∧ (i : Int) + 4 ≤ (i : Int) + 6 ∧ (i : Int) + 6 ≤ 128 ∧ (0 : Int) ≤ (i : Int) + 4 ∧ (0 : Int) ≤ (i : Int) + 6 ∧ ((i : Int) + 4).toNat = i + 4 ∧ ((i : Int) + 6).toNat = i + 6) := (by simp only [IntKind.wrap_i64]; omega : IntKind.i64.wrap ((i : Int) + 4) = ((i + 4 : Nat) : Int) ∧ IntKind.i64.wrap ((i : Int) + 6) = ((i + 6 : Nat) : Int) ∧ (i : Int) ≤ (i : Int) + 4 ∧ (i : Int) + 4 ≤ 128 ∧ (i : Int) + 4 ≤ (i : Int) + 6 ∧ (i : Int) + 6 ≤ 128 ∧ (0 : Int) ≤ (i : Int) + 4 ∧ (0 : Int) ≤ (i : Int) + 6 ∧ ((i : Int) + 4).toNat = i + 4 ∧ ((i : Int) + 6).toNat = i + 6)
            rw [hK, hZ] at hca
            rw [hZ] at hcn hZ2
            replace hS := hS
            clear hU hV hRun hZr hK hZ hEnd
            go_upto_region 10 with (fail)
            apply share
            case h =>
              intro tail
              refine lat_region (A := (fun _ => True)) (S := (fun _ => True)) [] (by kernel_rfl) ?_ (fun hH0 => ?_)
              · exact ⟨trivial, trivial⟩
              refine lat_free (i := 0) (oi := { dst := some 31, op := Go.Op.move (Go.Operand.tmp 0), type := 9, pos := "disk.go:256", after := #[], guard := none }) (v := ?vrc1) rfl (by kernel_rfl) (by kernel_rfl) (by kernel_rfl) (by kernel_rfl) (fun _ _ _ h => h) (Or.inl ⟨by rfl, ?hyrc1⟩) ⟨hH0.1, fun _ => hH0.2⟩ ?restrc1
              case hyrc1 => (intro w hAw; obtain ⟨f1, f2, f3, f4, f5, f6, f7, f8, f9, f10⟩ := HF.out; go_simp; try (with_reducible rfl))
              simp only [Act.put, List.setIfInBounds_toArray, List.set_cons_zero, List.set_cons_succ]
              refine lat_free (i := 1) (oi := { dst := some 32, op := Go.Op.move (Go.Operand.tmp 5), type := 3, pos := "disk.go:256", after := #[], guard := none }) (v := ?vrc2) rfl (by kernel_rfl) (by kernel_rfl) (by kernel_rfl) (by kernel_rfl) (fun _ _ _ h => h) (Or.inl ⟨by rfl, ?hyrc2⟩) ⟨hH0.1, fun _ => hH0.2⟩ ?restrc2
              case hyrc2 => (intro w hAw; obtain ⟨f1, f2, f3, f4, f5, f6, f7, f8, f9, f10⟩ := HF.out; go_simp; try (with_reducible rfl))
              simp only [Act.put, List.setIfInBounds_toArray, List.set_cons_zero, List.set_cons_succ]
              refine lat_free (i := 2) (oi := { dst := some 33, op := Go.Op.move (Go.Operand.tmp 5), type := 3, pos := "disk.go:256", after := #[], guard := none }) (v := ?vrc3) rfl (by kernel_rfl) (by kernel_rfl) (by kernel_rfl) (by kernel_rfl) (fun _ _ _ h => h) (Or.inl ⟨by rfl, ?hyrc3⟩) ⟨hH0.1, fun _ => hH0.2⟩ ?restrc3
              case hyrc3 => (intro w hAw; obtain ⟨f1, f2, f3, f4, f5, f6, f7, f8, f9, f10⟩ := HF.out; go_simp; try (with_reducible rfl))
              simp only [Act.put, List.setIfInBounds_toArray, List.set_cons_zero, List.set_cons_succ]
              refine lat_free (i := 3) (oi := { dst := some 34, op := Go.Op.binOp Go.BinOp.add 3 (Go.Operand.tmp 33) (Go.Operand.const (Go.Value.int Go.IntKind.i64 4)) 3, type := 3, pos := "disk.go:256", after := #[{ on := 2, ground := Go.Ground.data }], guard := none }) (v := ?vrc4) rfl (by kernel_rfl) (by kernel_rfl) (by kernel_rfl) (by kernel_rfl) (fun _ _ _ h => h) (Or.inl ⟨by rfl, ?hyrc4⟩) ⟨hH0.1, fun _ => hH0.2⟩ ?restrc4
              case hyrc4 => (intro w hAw; obtain ⟨f1, f2, f3, f4, f5, f6, f7, f8, f9, f10⟩ := HF.out; go_simp; try (with_reducible rfl))
              simp only [Act.put, List.setIfInBounds_toArray, List.set_cons_zero, List.set_cons_succ]
              refine lat_free (i := 4) (oi := { dst := some 35, op := Go.Op.slice 9 (Go.Operand.tmp 31) (some (Go.Operand.tmp 32)) (some (Go.Operand.tmp 34)) none, type := 9, pos := "disk.go:256", after := #[{ on := 0, ground := Go.Ground.data }, { on := 1, ground := Go.Ground.data }, { on := 3, ground := Go.Ground.data }], guard := none }) (v := ?vrc5) rfl (by kernel_rfl) (by kernel_rfl) (by kernel_rfl) (by kernel_rfl) (fun _ _ _ h => h) (Or.inl ⟨by rfl, ?hyrc5⟩) ⟨hH0.1, fun _ => hH0.2⟩ ?restrc5
              case hyrc5 => (intro w hAw; obtain ⟨f1, f2, f3, f4, f5, f6, f7, f8, f9, f10⟩ := HF.out; go_simp; try (with_reducible rfl))
              simp only [Act.put, List.setIfInBounds_toArray, List.set_cons_zero, List.set_cons_succ]
              refine lat_free (i := 6) (oi := { dst := some 37, op := Go.Op.move (Go.Operand.tmp 0), type := 9, pos := "disk.go:256", after := #[], guard := none }) (v := ?vrc6) rfl (by kernel_rfl) (by kernel_rfl) (by kernel_rfl) (by kernel_rfl) (fun _ _ _ h => h) (Or.inl ⟨by rfl, ?hyrc6⟩) ⟨hH0.1, fun _ => hH0.2⟩ ?restrc6
              case hyrc6 => (intro w hAw; obtain ⟨f1, f2, f3, f4, f5, f6, f7, f8, f9, f10⟩ := HF.out; go_simp; try (with_reducible rfl))
              simp only [Act.put, List.setIfInBounds_toArray, List.set_cons_zero, List.set_cons_succ]
              refine lat_free (i := 7) (oi := { dst := some 38, op := Go.Op.move (Go.Operand.tmp 5), type := 3, pos := "disk.go:256", after := #[], guard := none }) (v := ?vrc7) rfl (by kernel_rfl) (by kernel_rfl) (by kernel_rfl) (by kernel_rfl) (fun _ _ _ h => h) (Or.inl ⟨by rfl, ?hyrc7⟩) ⟨hH0.1, fun _ => hH0.2⟩ ?restrc7
              case hyrc7 => (intro w hAw; obtain ⟨f1, f2, f3, f4, f5, f6, f7, f8, f9, f10⟩ := HF.out; go_simp; try (with_reducible rfl))
              simp only [Act.put, List.setIfInBounds_toArray, List.set_cons_zero, List.set_cons_succ]
              refine lat_free (i := 8) (oi := { dst := some 39, op := Go.Op.binOp Go.BinOp.add 3 (Go.Operand.tmp 38) (Go.Operand.const (Go.Value.int Go.IntKind.i64 4)) 3, type := 3, pos := "disk.go:256", after := #[{ on := 7, ground := Go.Ground.data }], guard := none }) (v := ?vrc8) rfl (by kernel_rfl) (by kernel_rfl) (by kernel_rfl) (by kernel_rfl) (fun _ _ _ h => h) (Or.inl ⟨by rfl, ?hyrc8⟩) ⟨hH0.1, fun _ => hH0.2⟩ ?restrc8
              case hyrc8 => (intro w hAw; obtain ⟨f1, f2, f3, f4, f5, f6, f7, f8, f9, f10⟩ := HF.out; go_simp; try (with_reducible rfl))
              simp only [Act.put, List.setIfInBounds_toArray, List.set_cons_zero, List.set_cons_succ]
              refine lat_free (i := 9) (oi := { dst := some 40, op := Go.Op.move (Go.Operand.tmp 5), type := 3, pos := "disk.go:256", after := #[], guard := none }) (v := ?vrc9) rfl (by kernel_rfl) (by kernel_rfl) (by kernel_rfl) (by kernel_rfl) (fun _ _ _ h => h) (Or.inl ⟨by rfl, ?hyrc9⟩) ⟨hH0.1, fun _ => hH0.2⟩ ?restrc9
              case hyrc9 => (intro w hAw; obtain ⟨f1, f2, f3, f4, f5, f6, f7, f8, f9, f10⟩ := HF.out; go_simp; try (with_reducible rfl))
              simp only [Act.put, List.setIfInBounds_toArray, List.set_cons_zero, List.set_cons_succ]
              refine lat_free (i := 10) (oi := { dst := some 41, op := Go.Op.binOp Go.BinOp.add 3 (Go.Operand.tmp 40) (Go.Operand.const (Go.Value.int Go.IntKind.i64 6)) 3, type := 3, pos := "disk.go:256", after := #[{ on := 9, ground := Go.Ground.data }], guard := none }) (v := ?vrc10) rfl (by kernel_rfl) (by kernel_rfl) (by kernel_rfl) (by kernel_rfl) (fun _ _ _ h => h) (Or.inl ⟨by rfl, ?hyrc10⟩) ⟨hH0.1, fun _ => hH0.2⟩ ?restrc10
              case hyrc10 => (intro w hAw; obtain ⟨f1, f2, f3, f4, f5, f6, f7, f8, f9, f10⟩ := HF.out; go_simp; try (with_reducible rfl))
              simp only [Act.put, List.setIfInBounds_toArray, List.set_cons_zero, List.set_cons_succ]
              refine lat_free (i := 11) (oi := { dst := some 42, op := Go.Op.slice 9 (Go.Operand.tmp 37) (some (Go.Operand.tmp 39)) (some (Go.Operand.tmp 41)) none, type := 9, pos := "disk.go:256", after := #[{ on := 6, ground := Go.Ground.data }, { on := 8, ground := Go.Ground.data }, { on := 10, ground := Go.Ground.data }], guard := none }) (v := ?vrc11) rfl (by kernel_rfl) (by kernel_rfl) (by kernel_rfl) (by kernel_rfl) (fun _ _ _ h => h) (Or.inl ⟨by rfl, ?hyrc11⟩) ⟨hH0.1, fun _ => hH0.2⟩ ?restrc11
              case hyrc11 => (intro w hAw; obtain ⟨f1, f2, f3, f4, f5, f6, f7, f8, f9, f10⟩ := HF.out; go_simp; try (with_reducible rfl))
              simp only [Act.put, List.setIfInBounds_toArray, List.set_cons_zero, List.set_cons_succ]
              refine lat_two (i := 5) (k := 14) (by kernel_rfl) ?_ ?_
              · refine lat_run (o := { dst := some 36, op := Go.Op.call { callee := Go.Callee.value (Go.Operand.func 39), args := #[Go.Operand.tmp 35], argTypes := #[9] }, type := 3, pos := "disk.go:256", after := #[{ on := 4, ground := Go.Ground.data }], guard := none }) rfl (fun K hK => ?_)
                go_simp
                go_at_call 39; go_fit (hO1.out _); rintro e w' ⟨rfl, rfl⟩
                refine hK.out _ _ (⟨trivial, trivial⟩) (fun hHrc12 => ?_)
                clear hK K
                refine lat_two (i := 12) (k := 14) (by kernel_rfl) ?_ ?_
                · refine lat_run (o := { dst := some 43, op := Go.Op.call { callee := Go.Callee.value (Go.Operand.func 39), args := #[Go.Operand.tmp 42], argTypes := #[9] }, type := 3, pos := "disk.go:256", after := #[{ on := 11, ground := Go.Ground.data }, { on := 5, ground := Go.Ground.chain }], guard := none }) rfl (fun K hK => ?_)
                  go_simp
                  go_at_call 39; go_fit (hO2.out _); rintro e w' ⟨rfl, rfl⟩
                  refine hK.out _ _ (⟨trivial, trivial⟩) (fun hHrc13 => ?_)
                  clear hK K
                  refine lat_free (i := 13) (oi := { dst := some 44, op := Go.Op.build 82 #[(0, Go.Operand.tmp 36), (1, Go.Operand.tmp 43)], type := 82, pos := "disk.go:256", after := #[{ on := 5, ground := Go.Ground.data }, { on := 12, ground := Go.Ground.data }], guard := none }) (v := ?vrc14) rfl (by kernel_rfl) (by kernel_rfl) (by kernel_rfl) (by kernel_rfl) (fun _ _ _ h => h) (Or.inl ⟨by rfl, ?hyrc14⟩) ⟨hHrc13.1, fun _ => hHrc13.2⟩ ?restrc14
                  case hyrc14 => (intro w hAw; obtain ⟨f1, f2, f3, f4, f5, f6, f7, f8, f9, f10⟩ := HF.out; go_simp; try (with_reducible rfl))
                  simp only [Act.put, List.setIfInBounds_toArray, List.set_cons_zero, List.set_cons_succ]
                  refine lat_one (i := 14) (by kernel_rfl) ?_
                  refine lat_run (o := { dst := some 7, op := Go.Op.alloc 82, type := 0, pos := "disk.go:256", after := #[], guard := none }) rfl (fun K hK => ?_)
                  go_simp
                  refine hK.out _ _ (⟨trivial, trivial⟩) (fun hHrc15 => ?_)
                  clear hK K
                  refine lat_one (i := 15) (by kernel_rfl) ?_
                  refine lat_run (o := { dst := none, op := Go.Op.store 82 (Go.Operand.tmp 7) (Go.Operand.tmp 44), type := 0, pos := "disk.go:256", after := #[{ on := 14, ground := Go.Ground.data }, { on := 13, ground := Go.Ground.data }, { on := 12, ground := Go.Ground.chain }, { on := 0, ground := Go.Ground.phase }, { on := 1, ground := Go.Ground.phase }, { on := 2, ground := Go.Ground.phase }, { on := 3, ground := Go.Ground.phase }, { on := 4, ground := Go.Ground.phase }, { on := 5, ground := Go.Ground.phase }, { on := 6, ground := Go.Ground.phase }, { on := 7, ground := Go.Ground.phase }, { on := 8, ground := Go.Ground.phase }, { on := 9, ground := Go.Ground.phase }, { on := 10, ground := Go.Ground.phase }, { on := 11, ground := Go.Ground.phase }, { on := 12, ground := Go.Ground.phase }, { on := 13, ground := Go.Ground.phase }, { on := 14, ground := Go.Ground.phase }], guard := none }) rfl (fun K hK => ?_)
                  go_simp
                  refine hK.out _ _ (⟨trivial, trivial⟩) (fun hHrc16 => ?_)
                  clear hK K
                  refine lat_done (by kernel_rfl) ?_ _
                  exact tail
                · refine lat_run (o := { dst := some 7, op := Go.Op.alloc 82, type := 0, pos := "disk.go:256", after := #[], guard := none }) rfl (fun K hK => ?_)
                  go_simp
                  refine hK.out _ _ (⟨trivial, trivial⟩) (fun hHrc17 => ?_)
                  clear hK K
                  refine lat_one (i := 12) (by kernel_rfl) ?_
                  refine lat_run (o := { dst := some 43, op := Go.Op.call { callee := Go.Callee.value (Go.Operand.func 39), args := #[Go.Operand.tmp 42], argTypes := #[9] }, type := 3, pos := "disk.go:256", after := #[{ on := 11, ground := Go.Ground.data }, { on := 5, ground := Go.Ground.chain }], guard := none }) rfl (fun K hK => ?_)
                  go_simp
                  go_at_call 39; go_fit (hO2.out _); rintro e w' ⟨rfl, rfl⟩
                  refine hK.out _ _ (⟨trivial, trivial⟩) (fun hHrc18 => ?_)
                  clear hK K
                  refine lat_free (i := 13) (oi := { dst := some 44, op := Go.Op.build 82 #[(0, Go.Operand.tmp 36), (1, Go.Operand.tmp 43)], type := 82, pos := "disk.go:256", after := #[{ on := 5, ground := Go.Ground.data }, { on := 12, ground := Go.Ground.data }], guard := none }) (v := ?vrc19) rfl (by kernel_rfl) (by kernel_rfl) (by kernel_rfl) (by kernel_rfl) (fun _ _ _ h => h) (Or.inl ⟨by rfl, ?hyrc19⟩) ⟨hHrc18.1, fun _ => hHrc18.2⟩ ?restrc19
                  case hyrc19 => (intro w hAw; obtain ⟨f1, f2, f3, f4, f5, f6, f7, f8, f9, f10⟩ := HF.out; go_simp; try (with_reducible rfl))
                  simp only [Act.put, List.setIfInBounds_toArray, List.set_cons_zero, List.set_cons_succ]
                  refine lat_one (i := 15) (by kernel_rfl) ?_
                  refine lat_run (o := { dst := none, op := Go.Op.store 82 (Go.Operand.tmp 7) (Go.Operand.tmp 44), type := 0, pos := "disk.go:256", after := #[{ on := 14, ground := Go.Ground.data }, { on := 13, ground := Go.Ground.data }, { on := 12, ground := Go.Ground.chain }, { on := 0, ground := Go.Ground.phase }, { on := 1, ground := Go.Ground.phase }, { on := 2, ground := Go.Ground.phase }, { on := 3, ground := Go.Ground.phase }, { on := 4, ground := Go.Ground.phase }, { on := 5, ground := Go.Ground.phase }, { on := 6, ground := Go.Ground.phase }, { on := 7, ground := Go.Ground.phase }, { on := 8, ground := Go.Ground.phase }, { on := 9, ground := Go.Ground.phase }, { on := 10, ground := Go.Ground.phase }, { on := 11, ground := Go.Ground.phase }, { on := 12, ground := Go.Ground.phase }, { on := 13, ground := Go.Ground.phase }, { on := 14, ground := Go.Ground.phase }], guard := none }) rfl (fun K hK => ?_)
                  go_simp
                  refine hK.out _ _ (⟨trivial, trivial⟩) (fun hHrc20 => ?_)
                  clear hK K
                  refine lat_done (by kernel_rfl) ?_ _
                  exact tail
              · refine lat_run (o := { dst := some 7, op := Go.Op.alloc 82, type := 0, pos := "disk.go:256", after := #[], guard := none }) rfl (fun K hK => ?_)
                go_simp
                refine hK.out _ _ (⟨trivial, trivial⟩) (fun hHrc21 => ?_)
                clear hK K
                refine lat_one (i := 5) (by kernel_rfl) ?_
                refine lat_run (o := { dst := some 36, op := Go.Op.call { callee := Go.Callee.value (Go.Operand.func 39), args := #[Go.Operand.tmp 35], argTypes := #[9] }, type := 3, pos := "disk.go:256", after := #[{ on := 4, ground := Go.Ground.data }], guard := none }) rfl (fun K hK => ?_)
                go_simp
                go_at_call 39; go_fit (hO1.out _); rintro e w' ⟨rfl, rfl⟩
                refine hK.out _ _ (⟨trivial, trivial⟩) (fun hHrc22 => ?_)
                clear hK K
                refine lat_one (i := 12) (by kernel_rfl) ?_
                refine lat_run (o := { dst := some 43, op := Go.Op.call { callee := Go.Callee.value (Go.Operand.func 39), args := #[Go.Operand.tmp 42], argTypes := #[9] }, type := 3, pos := "disk.go:256", after := #[{ on := 11, ground := Go.Ground.data }, { on := 5, ground := Go.Ground.chain }], guard := none }) rfl (fun K hK => ?_)
                go_simp
                go_at_call 39; go_fit (hO2.out _); rintro e w' ⟨rfl, rfl⟩
                refine hK.out _ _ (⟨trivial, trivial⟩) (fun hHrc23 => ?_)
                clear hK K
                refine lat_free (i := 13) (oi := { dst := some 44, op := Go.Op.build 82 #[(0, Go.Operand.tmp 36), (1, Go.Operand.tmp 43)], type := 82, pos := "disk.go:256", after := #[{ on := 5, ground := Go.Ground.data }, { on := 12, ground := Go.Ground.data }], guard := none }) (v := ?vrc24) rfl (by kernel_rfl) (by kernel_rfl) (by kernel_rfl) (by kernel_rfl) (fun _ _ _ h => h) (Or.inl ⟨by rfl, ?hyrc24⟩) ⟨hHrc23.1, fun _ => hHrc23.2⟩ ?restrc24
                case hyrc24 => (intro w hAw; obtain ⟨f1, f2, f3, f4, f5, f6, f7, f8, f9, f10⟩ := HF.out; go_simp; try (with_reducible rfl))
                simp only [Act.put, List.setIfInBounds_toArray, List.set_cons_zero, List.set_cons_succ]
                refine lat_one (i := 15) (by kernel_rfl) ?_
                refine lat_run (o := { dst := none, op := Go.Op.store 82 (Go.Operand.tmp 7) (Go.Operand.tmp 44), type := 0, pos := "disk.go:256", after := #[{ on := 14, ground := Go.Ground.data }, { on := 13, ground := Go.Ground.data }, { on := 12, ground := Go.Ground.chain }, { on := 0, ground := Go.Ground.phase }, { on := 1, ground := Go.Ground.phase }, { on := 2, ground := Go.Ground.phase }, { on := 3, ground := Go.Ground.phase }, { on := 4, ground := Go.Ground.phase }, { on := 5, ground := Go.Ground.phase }, { on := 6, ground := Go.Ground.phase }, { on := 7, ground := Go.Ground.phase }, { on := 8, ground := Go.Ground.phase }, { on := 9, ground := Go.Ground.phase }, { on := 10, ground := Go.Ground.phase }, { on := 11, ground := Go.Ground.phase }, { on := 12, ground := Go.Ground.phase }, { on := 13, ground := Go.Ground.phase }, { on := 14, ground := Go.Ground.phase }], guard := none }) rfl (fun K hK => ?_)
                go_simp
                refine hK.out _ _ (⟨trivial, trivial⟩) (fun hHrc25 => ?_)
                clear hK K
                refine lat_done (by kernel_rfl) ?_ _
                exact tail
            case t =>
              obtain ⟨q, hq⟩ : ∃ q, wr.heap.size = q := ⟨_, rfl⟩
              obtain ⟨W0, hW0⟩ : ∃ W0, (wr.alloc (.cells #[.int .i64 K, .int .i64 Z, .int .i64 0, .string ⟨#[]⟩] 82)).drew = W0 := ⟨_, rfl⟩
              have G0 : Grew wr W0 := by rw [← hW0]; exact ((Grew.refl wr).alloc _ _).drew
              have v0 : V4 W0 q (.int .i64 K) (.int .i64 Z) (.int .i64 0) (.string ⟨#[]⟩) := by rw [← hW0, ← hq]; exact (V4.new wr _ _ _ _ _).grew (Grew.refl _).drew
              have hsz : W0.heap.size = q + 1 := by rw [← hW0, ← hq]; simp [World.drew]
              rw [hW0]
              have hr0 := row_grew hr G0
              have hB0 : Hid (Below b0 w W0) := (hB.out.trans (G0.below.mono hBL.out) : Below b0 w W0)
              have hlt0 : Hid (q < W0.heap.size ∧ b0 ≤ q) := (⟨by omega, by rw [← hq]; exact hBL.out⟩ : q < W0.heap.size ∧ b0 ≤ q)
              have hoq : Hid (∀ j, (Value.slice a k cp).ownBlock = some j → ¬ j = q) := fun j e e2 => by have := (hr.lt j e).2; omega
              rw [hq]
              obtain ⟨x0, x1, x2, x3, y0, y1, y2, y3⟩ := id v0
              replace hsz : Hid (W0.heap.size = q + 1) := hsz
              obtain ⟨Zn, rfl⟩ := Int.eq_ofNat_of_zero_le hZ2.1
              have hk256 : k < 256 := by omega
              clear hq hW0 G0 hr hB hBL g0 g1 l0 l1 hO1 hO2 HF hS v0
              by_cases hz : (Zn : Int) ≤ 24
              · rw [if_pos hz, Int.toNat_natCast] at hcn
                rw [if_pos hz, hcn.out] at hca
                have hzn : Zn ≤ 24 := by omega
                by_cases ho : 128 < i + 6 + Zn
                · have hoi : (128 : Int) < (i : Int) + 6 + Zn := by omega
                  have hE : Hid _ := hNo.out (hNx.out (hV2.out (by rw [hcn.out]; omega)))
                  clear hU2 hV2 hNx hca hcn hNo
                  go_wp2
                  go_ret2
                  exact hE.out _ hB0.out
                · have hoi : ¬ (128 : Int) < (i : Int) + 6 + Zn := by omega
                  have hN : Hid _ := hU2.out (by rw [hcn.out]; omega)
                  rw [hcn.out, hca.out] at hN
                  clear hU2 hV2 hNx hca hcn hNo
                  have hle : (i : Int) + 6 + Zn ≤ 128 := by omega
                  have hrow : Hid (∀ T : Value, ((W0.setCell ⟨q, 3, none⟩ T)).ownsRow b0 82 4 (.slice a k cp) k (cesV C)) := fun T => row_but hr0 ((But.refl (fun i => i = q) W0).set (b := q) rfl 3 none T) hoq.out
                  have hT1 : Hid (((i : Int) + 6).toNat = i + 6 ∧ ((i : Int) + 6 + Zn).toNat = i + 6 + Zn) := (by omega : ((i : Int) + 6).toNat = i + 6 ∧ ((i : Int) + 6 + Zn).toNat = i + 6 + Zn)
                  go_wp2_with (first
                    | (at_builtin; refine wpList_app _ rfl (.tmp 79) (.tmp 81) 78 rfl b0 82 iw zw 4 40 Tryz.underlying78 i1 i2 i4 i5 i3 (by decide) (.slice a k cp) k _ rfl ((hrow.out _).alloc _) (some ⟨W0.heap.size, 0, none⟩) 1 1 [.int .i64 K, .int .i64 Zn, .int .i64 0, .string (s.extract (i + 6) (i + 6 + Zn))] rfl rfl (.inr ⟨_, 0, rfl, fun j u hj => new_at _ _ _ _ (by simp) j u hj⟩) (fun u hu => by simp at hu; rcases hu with rfl | rfl | rfl | rfl <;> rfl) (by unfold maxLen; omega) (by omega) (by have := hlt0.out; simp; omega) ?_; intro v5 w5 hv5 hg5 hk5 hl5)
                    | fail)
                  obtain ⟨a5, c5, rfl, _⟩ := own_reads hv5
                  have hlt2 := hlt0.out
                  refine ⟨⟨k + 1, a5, c5, _, i + 6 + Zn, hlt, by simp, by simp, rfl, hN.out, by omega, ?_, ?_⟩, meas_up hlt⟩
                  · rw [ces_more]
                    exact hv5
                  · exact hB0.out.trans (((((But.refl (fun j => b0 ≤ j) W0).set (b := q) hlt2.2 3 none (.string (s.extract (i + 6) (i + 6 + Zn)))).alloc _).trans ((grown_but hg5).more fun j _ e => (hr0.lt j e).1)).below (fun _ e => e) (by omega))
              · rw [if_neg hz] at hcn
                rw [if_neg hz, hcn.out] at hca
                by_cases ho : 128 < i + 6 + 2
                · have hoi : (128 : Int) < (i : Int) + 6 + 2 := by omega
                  have hE : Hid _ := hNo.out (hNx.out (hV2.out (by rw [hcn.out]; omega)))
                  clear hU2 hV2 hNx hca hcn hNo
                  go_wp2
                  go_ret2
                  exact hE.out _ hB0.out
                · have hoi : ¬ (128 : Int) < (i : Int) + 6 + 2 := by omega
                  have hN : Hid _ := hU2.out (by rw [hcn.out]; omega)
                  rw [hcn.out, hca.out] at hN
                  have hO3 : Hid (∀ W, Calls Tryz.prog 39 #[.string (s.extract (i + 6) (i + 6 + 2))] W fun e w' => e = .returned (.int .i64 (numR (s.extract (i + 6) (i + 6 + 2)))) ∧ W = w') := fun W => (of_any _ W (by rw [ByteArray.size_extract]; omega)).mono fun e w' ⟨h1, h2⟩ => ⟨h1, h2.symm⟩
                  clear hU2 hV2 hNx hca hcn hNo
                  have hle : (i : Int) + 6 + 2 ≤ 128 := by omega
                  have hrow : Hid (∀ T : Value, ((W0.setCell ⟨q, 2, none⟩ T)).ownsRow b0 82 4 (.slice a k cp) k (cesV C)) := fun T => row_but hr0 ((But.refl (fun i => i = q) W0).set (b := q) rfl 2 none T) hoq.out
                  have hT1 : ((i : Int) + 6).toNat = i + 6 ∧ ((i : Int) + 6 + 2).toNat = i + 6 + 2 ∧ ((i : Int) + 8).toNat = i + 6 + 2 := by omega
                  go_wp2_with (first
                    | (go_at_call 39; go_fit (hO3.out _); rintro e w4 ⟨rfl, rfl⟩)
                    | (at_builtin; refine wpList_app _ rfl (.tmp 79) (.tmp 81) 78 rfl b0 82 iw zw 4 40 Tryz.underlying78 i1 i2 i4 i5 i3 (by decide) (.slice a k cp) k _ rfl ((hrow.out _).alloc _) (some ⟨W0.heap.size, 0, none⟩) 1 1 [.int .i64 K, .int .i64 Zn, .int .i64 (numR (s.extract (i + 6) (i + 6 + 2))), .string ByteArray.empty] rfl rfl (.inr ⟨_, 0, rfl, fun j u hj => new_at _ _ _ _ (by simp) j u hj⟩) (fun u hu => by simp at hu; rcases hu with rfl | rfl | rfl | rfl <;> rfl) (by unfold maxLen; omega) (by omega) (by have := hlt0.out; simp; omega) ?_; intro v5 w5 hv5 hg5 hk5 hl5)
                    | fail)
                  obtain ⟨a5, c5, rfl, _⟩ := own_reads hv5
                  have hlt2 := hlt0.out
                  refine ⟨⟨k + 1, a5, c5, _, i + 6 + 2, hlt, by simp, by simp, rfl, hN.out, by omega, ?_, ?_⟩, meas_up hlt⟩
                  · rw [ces_more]
                    exact hv5
                  · exact hB0.out.trans (((((But.refl (fun j => b0 ≤ j) W0).set (b := q) hlt2.2 2 none (.int .i64 (numR (s.extract (i + 6) (i + 6 + 2))))).alloc _).trans ((grown_but hg5).more fun j _ e => (hr0.lt j e).1)).below (fun _ e => e) (by omega))
        · have hki : ¬ (k : Int) < n := by omega
          obtain rfl : k = n := by omega
          obtain ⟨a', cp', e9, hSl⟩ := cells_of hr
          obtain ⟨rfl, _, rfl⟩ : a = a' ∧ k = k ∧ cp = cp' := by simpa using e9
          have hlen : C.length = k := by have := hr.1; rw [ces_len] at this; omega
          have hX : Hid (Calls Tryz.prog 41 #[.slice a k cp] wr fun e w' => e = .returned (.tuple #[.string (leafV C), .bool (leafOk C)]) ∧ Grew wr w') := by
            show Calls _ _ _ _ _
            have := refleaf_any C a cp wr hSl (by omega)
            rw [hlen] at this
            exact this
          obtain ⟨eI0, hY0⟩ := hEnd.out C i hS.out
          replace eI0 : Hid (isLeaf s = (leafOk C && decide (txt (leafL C) = s))) := eI0
          replace hY0 : Hid (isLeaf s = true → cellsS s = C) := hY0
          replace hr : Hid (wr.ownsRow b0 82 4 (.slice a k cp) k (cesV C)) := hr
          replace hlen : Hid (C.length = k) := hlen
          have hv : leafV C = if leafOk C then txt (leafL C) else ByteArray.empty := rfl
          rw [hv] at hX
          clear e9 hSl hU hV hRun hZr hEnd hv hS
          cases hko : leafOk C with
          | false =>
            rw [hko, if_neg (by decide)] at hX
            rw [hko] at eI0
            have hE : Hid _ := hNo.out (by rw [eI0.out]; rfl)
            clear hko eI0 hY0 hNo
            go_wp2_with (first | (go_at_call 41; go_fit hX.out; rintro e w1 ⟨rfl, G⟩) | fail)
            go_ret2
            exact hE.out _ (hB.out.trans (G.below.mono hBL.out))
          | true =>
            rw [hko, if_pos rfl] at hX
            rw [hko] at eI0
            by_cases hq : txt (leafL C) = s
            · rw [hq] at hX
              have hE := hY0.out (by rw [eI0.out, hq]; simp)
              have hT : Hid (isLeaf s = true) := (by rw [eI0.out, hq]; simp : isLeaf s = true)
              replace hE : Hid (cellsS s = C) := hE
              clear hko eI0 hY0 hNo hq
              go_wp2_with (first | (go_at_call 41; go_fit hX.out; rintro e w1 ⟨rfl, G⟩) | fail)
              go_ret2
              refine ⟨_, by rw [hT.out]; rfl, ?_, by rw [hb0.out]; exact hB.out.trans (G.below.mono hBL.out)⟩
              rw [hE.out, hb0.out, hlen.out]
              exact row_grew hr.out G
            · have hne := bytes_ne' hq
              have hE : Hid _ := hNo.out (by rw [eI0.out, decide_eq_false hq]; rfl)
              clear hko eI0 hY0 hNo hq
              generalize txt (leafL C) = X at *
              go_wp2_with (first | (go_at_call 41; go_fit hX.out; rintro e w1 ⟨rfl, G⟩) | fail)
              go_ret2
              exact hE.out _ (hB.out.trans (G.below.mono hBL.out))
    · have hE : Hid (∀ w', Below w.heap.size w w' → CRef w s (.returned (.tuple #[.slice none 0 0, .bool false])) w') := fun w' B => cref_none (by
        cases e : isLeaf s with
        | false => rfl
        | true => exact absurd (e76.2 (head_leaf e).2) n0) B
      clear eC e76 h
      have n0' : ¬ (c0 : Int) = 76 := by omega
      clear n0
      go_enter Tryz.func23, Tryz.ntmps23
      go_wp2
      go_ret2
      exact hE.out _ (Below.refl _ _)
  · have hi : ¬ (s.size : Int) = 128 := by omega
    have hE : Hid (∀ w', Below w.heap.size w w' → CRef w s (.returned (.tuple #[.slice none 0 0, .bool false])) w') := fun w' B => cref_none (by
      cases e : isLeaf s with
      | false => rfl
      | true => exact absurd (head_leaf e).1 h) B
    clear h
    go_enter Tryz.func23, Tryz.ntmps23
    go_wp2
    go_ret2
    exact hE.out _ (Below.refl _ _)
end Go.Proofs.YtbkkhafckkndfaaGreat

namespace Go.Proofs.YtbkkhafckkndfaaGreat
open Go Go.RowKit

theorem Plan13.but {w0 w w' : World} {p : Nat} {H O : List Pr} {F : List Int} {full : Bool} {S : Nat → Prop} {E : TypeId} (h : Plan13 w0 w p H O F full) (g : But S w w') (hp : ¬ S p) (hB : ∀ i, S i → w0.heap.size ≤ i) (hS : ∀ i, S i → i < w.heap.size → ∃ cs r, w.heap[i]? = some (.cells cs E r)) (hE : E ≠ 86) : Plan13 w0 w' p H O F full := by
  obtain ⟨ah, ch, ao, co, af, cf, h⟩ := h
  refine ⟨ah, ch, ao, co, af, cf, h.v.but g hp, h.hv, h.fr, h.fc, row_but h.row g (fun i e hs => ?_), h.ne, h.bel.trans (g.below hB h.bel.size), h.lp⟩
  obtain ⟨cs, r, h1⟩ := hS i hs (h.row.lt i e).2
  obtain ⟨cs2, r2, h2⟩ := row_type h.row e
  rw [h1] at h2
  simp only [Option.some.injEq, Obj.cells.injEq] at h2
  exact hE h2.2.1
/-- A variable of a cell, of the document's own type. -/
structure CVar (w : World) (z : Nat) (K Z Q : Int) (T : ByteArray) : Prop where
  v : V4 w z (.int .i64 K) (.int .i64 Z) (.int .i64 Q) (.string T)
  t : ∃ cs, w.heap[z]? = some (.cells cs 82 (0, 0))
section
variable {w w' : World} {z p : Nat} {K Z Q : Int} {T : ByteArray}
theorem CVar.grew (h : CVar w z K Z Q T) (g : Grew w w') : CVar w' z K Z Q T := ⟨h.v.grew g, by obtain ⟨cs, e⟩ := h.t; exact ⟨cs, (g.heap h.v.lt).trans e⟩⟩
theorem CVar.wr (h : CVar w z K Z Q T) (g : WrOnly p w w') (hz : z ≠ p) : CVar w' z K Z Q T := by
  obtain ⟨cs, e⟩ := h.t
  have hn : ¬ (z = p ∨ ∃ cs r, w.heap[z]? = some (.cells cs 86 r)) := by
    rintro (e2 | ⟨cs2, r, e2⟩)
    · exact hz e2
    · rw [e] at e2
      simp only [Option.some.injEq, Obj.cells.injEq] at e2
      exact absurd e2.2.1 (by decide)
  exact ⟨h.v.but g hn, cs, (g.block z h.v.lt hn).trans e⟩
theorem CVar.new (w : World) (K Z Q : Int) (T : ByteArray) : CVar (w.alloc (.cells #[.int .i64 K, .int .i64 Z, .int .i64 Q, .string T] 82)) w.heap.size K Z Q T := ⟨V4.new w _ _ _ _ _, _, heap_alloc_new _ _⟩
theorem CVar.set2 (h : CVar w z K Z Q T) (x : Int) : CVar (w.setCell ⟨z, 2, none⟩ (.int .i64 x)) z K Z x T := by
  obtain ⟨cs, e⟩ := h.t
  exact ⟨h.v.set2 _, _, heap_setCell_same w z 2 _ _ _ e⟩
theorem CVar.set3 (h : CVar w z K Z Q T) (x : ByteArray) : CVar (w.setCell ⟨z, 3, none⟩ (.string x)) z K Z Q x := by
  obtain ⟨cs, e⟩ := h.t
  exact ⟨h.v.set3 _, _, heap_setCell_same w z 3 _ _ _ e⟩
/-- A store into it leaves a plan as it is. -/
theorem Plan13.cvar {w0 : World} {H O : List Pr} {F : List Int} {full : Bool} (h : Plan13 w0 w p H O F full) (c : CVar w z K Z Q T) (hz : z ≠ p) (hB : w0.heap.size ≤ z) (o : Nat) (x : Value) : Plan13 w0 (w.setCell ⟨z, o, none⟩ x) p H O F full :=
  h.but (S := fun i => i = z) (E := 82) ((But.refl (fun i => i = z) w).set (b := z) rfl o none x) (fun e => hz e.symm) (fun i e => by rw [e]; exact hB) (fun i e _ => by rw [e]; obtain ⟨cs, e⟩ := c.t; exact ⟨cs, _, e⟩) (by decide)
end
theorem put_no {w0 w' : World} {p : Nat} {H : List Pr} {s : Sp} {b : ByteArray} {full : Bool} {e : Ending} (h : putS H s b = none) (hp : Put13 w0 w' p H s.O s.F b full e) : e = .returned (.int .i64 2) ∧ Plan13 w0 w' p H s.O s.F true := by
  unfold putS at h
  unfold Put13 at hp
  cases e1 : putW H s.O s.F b with
  | none => rw [e1] at hp; exact hp
  | some x => rw [e1] at h; cases h
theorem put_yes {w0 w' : World} {p : Nat} {H : List Pr} {s s' : Sp} {b : ByteArray} {full : Bool} {e : Ending} {n : Int} (h : putS H s b = some (n, s')) (hp : Put13 w0 w' p H s.O s.F b full e) : e = .returned (.int .i64 n) ∧ Plan13 w0 w' p H s'.O s'.F full := by
  unfold putS at h
  unfold Put13 at hp
  cases e1 : putW H s.O s.F b with
  | none => rw [e1] at h; cases h
  | some x =>
    rw [e1] at h hp
    obtain ⟨n1, O1, F1⟩ := x
    simp only [Option.map_some, Option.some.injEq, Prod.mk.injEq] at h
    obtain ⟨rfl, rfl⟩ := h
    exact hp
theorem planR_of {L H : List Pr} {F : List Int} {C : List Ce} {s : Sp} (h : goR H L ([], ⟨[], F⟩) = some (C, s)) : planR L H F = (goL H C.length C ([], s)).bind fun r => (putS H r.2 (idxV r.1)).map fun x => (x.2.O, x.1) := by
  unfold planR
  rw [h]
  dsimp only
  cases goL H C.length C ([], s) with
  | none => rfl
  | some r => rfl
/-- A stretch of a list of cells in memory. -/
theorem sub_cells {w : World} {a : Option Addr} {C : List Ce} (h : CellsAt w a C) {i m : Nat} (hm : i + m ≤ C.length) (h0 : 0 < m) : ∃ b off, a = some ⟨b, off, none⟩ ∧ CellsAt w (some ⟨b, off + i * 4, none⟩) ((C.drop i).take m) ∧ ((C.drop i).take m).length = m := by
  have hl : ((C.drop i).take m).length = m := by simp; omega
  rcases h with h | ⟨b, off, e, h⟩
  · rw [h] at hm; simp at hm; omega
  · refine ⟨b, off, e, .inr ⟨b, off + i * 4, rfl, fun j hj => ?_⟩, hl⟩
    rw [hl] at hj
    have h1 := h (i + j) (by omega)
    have e1 : ((C.drop i).take m).getD j noCe = C.getD (i + j) noCe := by
      simp only [List.getD_eq_getElem?_getD, List.getElem?_take, List.getElem?_drop, if_pos hj]
    rw [e1]
    have e2 : off + i * 4 + j * 4 = off + (i + j) * 4 := by omega
    rw [e2]
    exact h1
theorem goL_cons (H : List Pr) (f : Nat) (c : Ce) (D : List Ce) (t : List Sl × Sp) : goL H (f + 1) (c :: D) t = match putS H t.2 (leafV ((c :: D).take (nxt (c :: D)))) with
    | none => none
    | some (n, s') => goL H f ((c :: D).drop (nxt (c :: D))) (t.1 ++ [⟨c.key, n⟩], s') := rfl
theorem goL_nil (H : List Pr) (f : Nat) (t : List Sl × Sp) : goL H f [] t = some t := by cases f <;> rfl
theorem goL_none {H : List Pr} {f : Nat} {C : List Ce} {i : Nat} {S : List Sl} {s : Sp} (hi : i < C.length) (h : putS H s (leafV ((C.drop i).take (nxt (C.drop i)))) = none) : goL H (f + 1) (C.drop i) (S, s) = none := by
  have e : C.drop i = C[i] :: C.drop (i + 1) := (List.drop_eq_getElem_cons hi)
  rw [e] at h ⊢
  rw [goL_cons, h]
theorem goL_some {H : List Pr} {f : Nat} {C : List Ce} {i : Nat} {S : List Sl} {s s' : Sp} {n : Int} (hi : i < C.length) (h : putS H s (leafV ((C.drop i).take (nxt (C.drop i)))) = some (n, s')) : goL H (f + 1) (C.drop i) (S, s) = goL H f (C.drop (i + nxt (C.drop i))) (S ++ [⟨(C.getD i noCe).key, n⟩], s') := by
  have e : C.drop i = C[i] :: C.drop (i + 1) := (List.drop_eq_getElem_cons hi)
  have e3 : C[i] = C.getD i noCe := by simp [List.getD, hi]
  have e4 : C.drop (i + nxt (C.drop i)) = (C.drop i).drop (nxt (C.drop i)) := by rw [List.drop_drop]
  rw [e4, ← e3]
  rw [e] at h ⊢
  rw [goL_cons, h]
theorem key_at {w : World} {B n : Nat} {E : TypeId} {bk off cp : Nat} {C : List Ce} (h : w.ownsRow B E 4 (.slice (some ⟨bk, off, none⟩) n cp) n (cesV C)) {i : Nat} (hi : i < C.length) : w.cell? ⟨bk, off + i * 4, none⟩ = some (.int .i64 (C.getD i noCe).key) := by
  obtain ⟨a, cap, e, hc⟩ := cells_of h
  simp only [Value.slice.injEq] at e
  rcases hc with hc | ⟨b, o, e2, hc⟩
  · rw [hc] at hi; simp at hi
  · rw [← e.1] at e2
    simp only [Option.some.injEq, Addr.mk.injEq] at e2
    obtain ⟨rfl, rfl, _⟩ := e2
    exact (hc i hi).1
/-- The document's own Plan's end. -/
def PlanEnd (w : World) (L H : List Pr) (F : List Int) (e : Ending) (w' : World) : Prop := ∃ O root err v, PlanIs L H F O root err ∧ e = .returned (.tuple #[v, .int .i64 root, .int .i64 err]) ∧ w'.ownsRow w.heap.size 86 2 v O.length (prsV O) ∧ Below w.heap.size w w'
theorem plan_arg {w w' : World} {L H : List Pr} {F : List Int} (h : ¬ (recsOk L = true ∧ PgsOk H F)) (B : Below w.heap.size w w') : PlanEnd w L H F (.returned (.tuple #[.slice none 0 0, .int .i64 0, .int .i64 9])) w' := ⟨[], 0, 9, _, .inl ⟨h, rfl, rfl, rfl⟩, rfl, World.ownsRow_nil _ _ _ _, B⟩
theorem plan_many {w w' : World} {L H : List Pr} {F : List Int} (h : recsOk L = true ∧ PgsOk H F) (h2 : 21 < (lvs L).1) (B : Below w.heap.size w w') : PlanEnd w L H F (.returned (.tuple #[.slice none 0 0, .int .i64 0, .int .i64 12])) w' := ⟨[], 0, 12, _, .inr (.inl ⟨h, h2, rfl, rfl, rfl⟩), rfl, World.ownsRow_nil _ _ _ _, B⟩
theorem plan_full {w w' : World} {L H : List Pr} {F : List Int} (h : recsOk L = true ∧ PgsOk H F) (h2 : ¬ 21 < (lvs L).1) (h3 : planR L H F = none) (B : Below w.heap.size w w') : PlanEnd w L H F (.returned (.tuple #[.slice none 0 0, .int .i64 0, .int .i64 8])) w' := ⟨[], 0, 8, _, .inr (.inr (.inl ⟨h, h2, h3, rfl, rfl, rfl⟩)), rfl, World.ownsRow_nil _ _ _ _, B⟩
theorem plan_done {w w' : World} {L H O : List Pr} {F : List Int} {root : Int} {v : Value} (h : recsOk L = true ∧ PgsOk H F) (h2 : ¬ 21 < (lvs L).1) (h3 : planR L H F = some (O, root)) (hv : w'.ownsRow w.heap.size 86 2 v O.length (prsV O)) (B : Below w.heap.size w w') : PlanEnd w L H F (.returned (.tuple #[v, .int .i64 root, .int .i64 0])) w' := ⟨O, root, 0, _, .inr (.inr (.inr ⟨h, h2, h3, rfl⟩)), rfl, hv, B⟩
end Go.Proofs.YtbkkhafckkndfaaGreat

namespace Go.Proofs.YtbkkhafckkndfaaGreat
open Go Go.RowKit

theorem but_below0 {w w' : World} {S : Nat → Prop} (g : But S w w') (h : ∀ i, S i → w.heap.size ≤ i) : Below w.heap.size w w' := (Below.refl _ w).trans (g.below h (Nat.le_refl _))
set_option maxHeartbeats 2000000 in
theorem kcell_any (K : Int) (T : ByteArray) (p : Int) (w : World) : Calls Tryz.prog 44 #[.agg #[.int .i64 K, .string T], .int .i64 p] w fun e w' => e = .returned (ceV (ceOf ⟨K, T⟩ p)) ∧ Below w.heap.size w w' := by
  have hI : Hid (∀ W, Calls Tryz.prog 59 #[.int .i64 (T.size : Int)] W fun e w' => e = .returned (.bool (decide ((T.size : Int) ≤ 24))) ∧ w' = W) := fun W => kinline_any _ W
  unfold ceOf ceV
  dsimp only
  by_cases hz : T.size ≤ 24
  · have hzi : (T.size : Int) ≤ 24 := by omega
    rw [if_pos hz]
    rw [decide_eq_true hzi] at hI
    dsimp only
    clear hz hzi
    go_enter Tryz.func44, Tryz.ntmps44
    go_wp2_with (first
      | (go_at_call 59; go_fit (hI.out _); rintro e w1 ⟨rfl, rfl⟩)
      | fail)
    refine bodyPost_ret (v := .agg #[.int .i64 K, .int .i64 T.size, .int .i64 0, .string T]) (by simp [results, Tryz.results44, go_sem]) rfl ?_
    exact ⟨rfl, (((Grew.refl w).alloc _ _).alloc _ _).alloc _ _ |>.below⟩
  · have hzi : ¬ (T.size : Int) ≤ 24 := by omega
    rw [if_neg hz]
    rw [decide_eq_false hzi] at hI
    dsimp only
    clear hz hzi
    go_enter Tryz.func44, Tryz.ntmps44
    go_wp2_with (first
      | (go_at_call 59; go_fit (hI.out _); rintro e w1 ⟨rfl, rfl⟩)
      | fail)
    refine bodyPost_ret (v := .agg #[.int .i64 K, .int .i64 T.size, .int .i64 p, .string ByteArray.empty]) (by simp [results, Tryz.results44, go_sem]; rfl) rfl ?_
    exact ⟨rfl, (((Grew.refl w).alloc _ _).alloc _ _).alloc _ _ |>.below⟩
/-- Stretches of cells of one list, as slices that lie in memory. -/
def PartsAt (w : World) (a0 : Option Addr) (vs : List Value) (Gs : List (List Ce)) : Prop := vs.length = Gs.length ∧ ∀ i, i < Gs.length → ∃ b o0 off c, a0 = some ⟨b, o0, none⟩ ∧ vs[i]? = some (.slice (some ⟨b, off, none⟩) (Gs.getD i []).length c) ∧ CellsAt w (some ⟨b, off, none⟩) (Gs.getD i [])
theorem PartsAt.nil (w : World) (a0 : Option Addr) : PartsAt w a0 [] [] := ⟨rfl, fun i hi => absurd hi (by simp)⟩
theorem PartsAt.below {w w' : World} {a0 : Option Addr} {vs : List Value} {Gs : List (List Ce)} (h : PartsAt w a0 vs Gs) (g : Below w.heap.size w w') : PartsAt w' a0 vs Gs :=
  ⟨h.1, fun i hi => by obtain ⟨b, o0, off, c, e0, e, hc⟩ := h.2 i hi; exact ⟨b, o0, off, c, e0, e, hc.below g⟩⟩
theorem CellsAt.keep {w w' : World} {b off : Nat} {C : List Ce} (h : CellsAt w (some ⟨b, off, none⟩) C) (g : w'.heap[b]? = w.heap[b]?) : CellsAt w' (some ⟨b, off, none⟩) C := by
  rcases h with h | ⟨b', off', e, h⟩
  · exact .inl h
  · simp only [Option.some.injEq, Addr.mk.injEq] at e
    obtain ⟨rfl, rfl, _⟩ := e
    refine .inr ⟨b, off, rfl, fun i hi => ?_⟩
    have := h i hi
    unfold CellAt at this ⊢
    simp only [World.cell?_of_block (a := ⟨b, _, none⟩) g]
    exact this
theorem PartsAt.keep {w w' : World} {a0 : Option Addr} {vs : List Value} {Gs : List (List Ce)} (h : PartsAt w a0 vs Gs) (g : ∀ b o, a0 = some ⟨b, o, none⟩ → w'.heap[b]? = w.heap[b]?) : PartsAt w' a0 vs Gs :=
  ⟨h.1, fun i hi => by obtain ⟨b, o0, off, c, e0, e, hc⟩ := h.2 i hi; exact ⟨b, o0, off, c, e0, e, hc.keep (g b o0 e0)⟩⟩
theorem PartsAt.more {w : World} {b o0 off : Nat} {vs : List Value} {Gs : List (List Ce)} {G : List Ce} {m c : Nat} (h : PartsAt w (some ⟨b, o0, none⟩) vs Gs) (hm : G.length = m) (hG : CellsAt w (some ⟨b, off, none⟩) G) : PartsAt w (some ⟨b, o0, none⟩) (vs ++ [.slice (some ⟨b, off, none⟩) m c]) (Gs ++ [G]) := by
  refine ⟨by simp [h.1], fun i hi => ?_⟩
  by_cases e : i < Gs.length
  · obtain ⟨b', o', off', c', e0, e', hc⟩ := h.2 i e
    have e2 : (Gs ++ [G]).getD i [] = Gs.getD i [] := by simp [List.getD, List.getElem?_append_left e]
    rw [e2]
    exact ⟨b', o', off', c', e0, by rw [List.getElem?_append_left (by rw [h.1]; exact e)]; exact e', hc⟩
  · have e1 : i = Gs.length := by simp at hi; omega
    subst e1
    have e2 : (Gs ++ [G]).getD Gs.length [] = G := by simp [List.getD]
    rw [e2, ← hm]
    exact ⟨b, o0, off, c, rfl, by rw [← h.1]; simp, hG⟩
set_option maxRecDepth 100000 in
theorem info_scells : ∃ (i : TypeInfo) (z : Value), (Tryz.prog).info? 105 = some i ∧ i.zero = some z ∧ z.cells.size = 1 ∧ i.size = 1 ∧ i.bytes = 24 := ⟨_, _, rfl, rfl, rfl, rfl, rfl⟩
set_option maxRecDepth 100000 in
set_option maxHeartbeats 4000000 in
theorem kleaves_any (C : List Ce) (a : Option Addr) (cap : Nat) (w : World) (hS : CellsAt w a C) (hs : single C) (hm : C.length < 1000000) (hcap : C.length ≤ cap) : Calls Tryz.prog 45 #[.slice a C.length cap] w fun e w' => ∃ v vs, e = .returned v ∧ w'.ownsRow w.heap.size 105 1 v (partsL C).length vs ∧ PartsAt w a vs (partsL C) ∧ Below w.heap.size w w' := by
  obtain ⟨ip, zp, i1, i2, i3, i4, i5⟩ := info_scells
  obtain ⟨n, hN⟩ : ∃ n, C.length = n := ⟨_, rfl⟩
  have hFit : Hid (∀ W st m m' c bk off, Below w.heap.size w W → a = some ⟨bk, off, none⟩ → m' = m → 0 < m → st + m ≤ n → Calls Tryz.prog 67 #[.slice (some ⟨bk, off + st * 4, none⟩) m' c] W fun e w' => e = .returned (.bool (leafOk ((C.drop st).take m))) ∧ Below W.heap.size W w') := fun W st m m' c bk off g e e2 h0 h1 => by
    obtain ⟨b, o, e3, h3, h4⟩ := sub_cells hS (i := st) (m := m) (by omega) h0
    rw [e] at e3
    simp only [Option.some.injEq, Addr.mk.injEq] at e3
    obtain ⟨rfl, rfl, _⟩ := e3
    have := fits_any ((C.drop st).take m) (some ⟨bk, off + st * 4, none⟩) c W (h3.below g) (by omega)
    rw [h4] at this
    rw [e2]
    exact this
  have hEnd : Hid (∀ Ps st, CutI C n Ps st → partsL C = if st < n then Ps ++ [C.drop st] else Ps) := fun Ps st h => by
    rw [← hN] at h ⊢
    exact h.done
  have hNN : Hid (C.length = n) := hN
  have hS' : Hid (CellsAt w a C) := hS
  have hs' : Hid (single C) := hs
  rw [hN]
  rw [hN] at hm hcap
  clear hN hS hs
  go_enter Tryz.func45, Tryz.ntmps45
  go_wp2
  go_loopw [3, 4, 8] (fun ps st i wr => ∃ (k s : Nat) (Ps : List (List Ce)) (vs : List Value) (v : Value), k ≤ n ∧ i = .int .i64 k ∧ st = .int .i64 s ∧ ps = v ∧ CutI C k Ps s ∧ wr.ownsRow w.heap.size 105 1 v Ps.length vs ∧ PartsAt w a vs Ps ∧ Below w.heap.size w wr) (fun _ _ i _ => n - (intOf i).toNat)
  case atStart => exact ⟨0, 0, [], [], _, by omega, rfl, rfl, rfl, CutI.zero C, World.ownsRow_nil _ _ _ _, PartsAt.nil w a, Below.refl _ _⟩
  case round =>
    obtain ⟨k, s, Ps, vs, v, hk, rfl, rfl, rfl, hI, hown, hPs, hB⟩ := hrel
    have hsk := hI.le
    by_cases hlt : k < n
    · have hki : (k : Int) < n := by omega
      obtain ⟨bk, off, rfl, hsub1, hsub2⟩ := sub_cells hS'.out (i := s) (m := k - s + 1) (by rw [hNN.out]; omega) (by omega)
      have hf := hFit.out wr s (k + 1 - s) (k + 1 - s) (cap - s) bk off hB rfl rfl (by omega) (by omega)
      cases hfo : leafOk ((C.drop s).take (k + 1 - s)) with
      | true =>
        have hI2 : Hid _ := hI.yes hfo
        rw [hfo] at hf
        replace hB : Hid (Below w.heap.size w wr) := hB
        replace hown : Hid (World.ownsRow wr _ _ _ _ _ _) := hown
        replace hPs : Hid (PartsAt _ _ _ _) := hPs
        clear hI hfo hsub1 hsub2
        go_wp2_with (first
          | (go_at_call 67; go_fit hf; rintro e w1 ⟨rfl, g1⟩)
          | fail)
        exact ⟨⟨k + 1, s, Ps, vs, _, hlt, by simp, rfl, rfl, hI2.out, row_below hown.out g1, hPs.out, hB.out.trans (g1.mono hB.out.size)⟩, meas_up hlt⟩
      | false =>
        obtain ⟨hst, hI2⟩ := hI.no (by rw [hNN.out]; exact hlt) hs'.out hfo
        obtain ⟨b2, o2, q1, q2, q3⟩ := sub_cells hS'.out (i := s) (m := k - s) (by rw [hNN.out]; omega) (by omega)
        simp only [Option.some.injEq, Addr.mk.injEq] at q1
        obtain ⟨rfl, rfl, _⟩ := q1
        have hP2 : Hid (∀ m c, m = k - s → PartsAt w (some ⟨bk, off, none⟩) (vs ++ [.slice (some ⟨bk, off + s * 4, none⟩) m c]) (Ps ++ [(C.drop s).take (k - s)])) := fun m c e => hPs.more (by rw [q3, e]) q2
        have hl : (Ps ++ [(C.drop s).take (k - s)]).length = Ps.length + 1 := by simp
        have hpl : Ps.length + 1 ≤ 1000000 := by
          have := hI2.parts_le
          have := cutG_len C C.length
          have := hNN.out
          rw [hl] at *
          omega
        obtain ⟨pn, hpn⟩ : ∃ pn, Ps.length = pn := ⟨_, rfl⟩
        rw [hpn] at hown hl hpl
        rw [hfo] at hf
        replace hI2 : Hid _ := hI2
        replace hB : Hid (Below w.heap.size w wr) := hB
        replace hown : Hid (World.ownsRow wr _ _ _ _ _ _) := hown
        replace hPs : Hid (PartsAt _ _ _ _) := hPs
        replace hpn : Hid (Ps.length = pn) := hpn
        replace hl : Hid _ := hl
        clear hI hfo hsub1 hsub2 q2 q3
        have hki2 : (s : Int) ≤ k := by omega
        go_wp2_with (first
          | (go_at_call 67; go_fit hf; rintro e w1 ⟨rfl, g1⟩)
          | (at_builtin; refine wpList_app _ rfl (.tmp 18) (.tmp 23) 117 rfl w.heap.size 105 ip zp 1 24 Tryz.underlying117 i1 i2 i4 i5 i3 (by decide) _ pn _ rfl ((row_below hown.out g1).alloc _) (some ⟨w1.heap.size, 0, none⟩) 1 1 [.slice (some ⟨bk, off + s * 4, none⟩) (k - s) (cap - s)] rfl rfl (.inr ⟨_, 0, rfl, fun j u hj => new_at _ _ _ _ (by simp) j u hj⟩) (fun u hu => by simp at hu; rcases hu with rfl; rfl) (by unfold maxLen; omega) (by omega) (by have := hB.out.size; have := g1.size; simp; omega) ?_; intro v5 w5 hv5 hg5 hk5 hl5)
          | fail)
        have r1 := (row_below hown.out g1).alloc (.cells #[.slice (some ⟨bk, off + s * 4, none⟩) (k - s) (cap - s)] 105)
        have B1 := hB.out.trans (g1.mono hB.out.size)
        have B2 := B1.trans ((((Grew.refl w1).alloc (#[.slice (some ⟨bk, off + s * 4, none⟩) (k - s) (cap - s)] : Array Value) 105).below).mono B1.size)
        have B3 := B2.trans ((grown_but hg5).below (fun i e => (r1.lt i e).1) B2.size)
        exact ⟨⟨k + 1, k, _, _, _, hlt, by simp, rfl, rfl, hI2.out, by rw [hl.out]; exact hv5, hP2.out _ _ rfl, B3⟩, meas_up hlt⟩
    · have hki : ¬ (k : Int) < n := by omega
      obtain rfl : k = n := by omega
      have hE : Hid _ := hEnd.out Ps s hI
      have hpl : Ps.length + 1 ≤ 1000001 := by
        have := hI.parts_le
        have := cutG_len C C.length
        have := hNN.out
        omega
      obtain ⟨pn, hpn⟩ : ∃ pn, Ps.length = pn := ⟨_, rfl⟩
      rw [hpn] at hown hpl
      replace hpn : Hid (Ps.length = pn) := hpn
      replace hB : Hid (Below w.heap.size w wr) := hB
      replace hown : Hid (World.ownsRow wr _ _ _ _ _ _) := hown
      replace hPs : Hid (PartsAt _ _ _ _) := hPs
      by_cases hsn : s < k
      · have hsi : (s : Int) < k := by omega
        obtain ⟨bk, off, rfl, q2, q3⟩ := sub_cells hS'.out (i := s) (m := k - s) (by rw [hNN.out]; omega) (by omega)
        have hG : (C.drop s).take (k - s) = C.drop s := List.take_of_length_le (by rw [List.length_drop, hNN.out]; exact Nat.le_refl _)
        rw [hG] at q2 q3
        have hP2 : Hid (∀ m c, m = k - s → PartsAt w (some ⟨bk, off, none⟩) (vs ++ [.slice (some ⟨bk, off + s * 4, none⟩) m c]) (Ps ++ [C.drop s])) := fun m c e => hPs.out.more (by rw [q3, e]) q2
        have hE2 : Hid (partsL C = Ps ++ [C.drop s]) := by rw [hE.out, if_pos hsn]; rfl
        have hl : Hid ((Ps ++ [C.drop s]).length = pn + 1) := by show _ = _; rw [List.length_append, hpn.out]; rfl
        clear hE hI q2 q3 hG
        go_wp2_with (first
          | (at_builtin; refine wpList_app _ rfl (.tmp 31) (.tmp 35) 117 rfl w.heap.size 105 ip zp 1 24 Tryz.underlying117 i1 i2 i4 i5 i3 (by decide) _ pn _ rfl (hown.out.alloc _) (some ⟨wr.heap.size, 0, none⟩) 1 1 [.slice (some ⟨bk, off + s * 4, none⟩) (k - s) (cap - s)] rfl rfl (.inr ⟨_, 0, rfl, fun j u hj => new_at _ _ _ _ (by simp) j u hj⟩) (fun u hu => by simp at hu; rcases hu with rfl; rfl) (by unfold maxLen; omega) (by omega) (by have := hB.out.size; simp; omega) ?_; intro v5 w5 hv5 hg5 hk5 hl5)
          | fail)
        go_ret
        have r1 := hown.out.alloc (.cells #[.slice (some ⟨bk, off + s * 4, none⟩) (k - s) (cap - s)] 105)
        have B2 := hB.out.trans ((((Grew.refl wr).alloc (#[.slice (some ⟨bk, off + s * 4, none⟩) (k - s) (cap - s)] : Array Value) 105).below).mono hB.out.size)
        have B3 := B2.trans ((grown_but hg5).below (fun i e => (r1.lt i e).1) B2.size)
        rw [hE2.out, hl.out]
        exact ⟨_, by trivial, _, hv5, hP2.out _ _ rfl, B3⟩
      · have hsi : ¬ (s : Int) < k := by omega
        have hE2 : Hid (partsL C = Ps) := by rw [hE.out, if_neg hsn]; rfl
        clear hE hI
        go_wp2_with (fail)
        go_ret
        rw [hE2.out, hpn.out]
        exact ⟨_, by trivial, _, hown.out, hPs.out, hB.out⟩
end Go.Proofs.YtbkkhafckkndfaaGreat

namespace Go.Proofs.YtbkkhafckkndfaaGreat
open Go Go.RowKit

theorem row_cap {w : World} {B n k m c : Nat} {a : Option Addr} {E : TypeId} {xs : List Value} (h : w.ownsRow B E k (.slice a m c) n xs) : m = n ∧ n ≤ c := by
  rcases h.2 with ⟨q, h0⟩ | ⟨g, cap, cur, q, h1, h2, h3, _⟩
  · simp only [Value.slice.injEq] at q
    omega
  · simp only [Value.slice.injEq] at q
    omega
def cs2 (L : List Pr) : List Ce := L.map fun x => ceOf x 2
theorem cs2_of (L : List Pr) : CellsOf L (cs2 L) := ⟨by simp [cs2], fun i hi => ⟨2, by decide, map_get L 2 hi⟩⟩
theorem cs2_up (L : List Pr) (k : Nat) (h : k < L.length) : cesV (cs2 (L.take (k + 1))) = cesV (cs2 (L.take k)) ++ ceR (ceOf (L.getD k noPr) 2) := by
  have e : L.getD k noPr = L[k] := by simp [List.getD, h]
  rw [List.take_succ_eq_append_getElem h, e, cs2, cs2, List.map_append, List.map_cons, List.map_nil, ces_more]
set_option maxRecDepth 100000 in
set_option maxHeartbeats 4000000 in
theorem kcount_any (L : List Pr) (a : Option Addr) (cap : Nat) (w : World) (hS : PrsAt w a L) (hr : recsOk L = true) (hm : L.length < 1000000) : Calls Tryz.prog 29 #[.slice a L.length cap] w fun e w' => e = .returned (.int .i64 (lvs L).1) ∧ Below w.heap.size w w' := by
  obtain ⟨ip, zp, i1, i2, i3, i4, i5⟩ := info_scell
  have hs : Hid (single (cs2 L)) := cells_single hr (cs2_of L)
  have hcnt : Hid ((partsL (cs2 L)).length = (lvs L).1) := count_is hr (cs2_of L)
  have hcl : Hid ((cs2 L).length = L.length) := (cs2_of L).1
  have hS' : Hid (PrsAt w a L) := hS
  obtain ⟨n, hN⟩ : ∃ n, L.length = n := ⟨_, rfl⟩
  rw [hN] at hcl hm
  have hNN : Hid (L.length = n) := hN
  rw [hN]
  have hTake : Hid (L.take n = L) := by rw [← hN]; exact List.take_length
  clear hN hS hr
  go_enter Tryz.func29, Tryz.ntmps29
  go_wp2
  go_loopw [3, 8] (fun cs i wr => ∃ (k : Nat), k ≤ n ∧ i = .int .i64 k ∧ wr.ownsRow w.heap.size 108 4 cs k (cesV (cs2 (L.take k))) ∧ Below w.heap.size w wr) (fun _ i _ => n - (intOf i).toNat)
  case atStart => exact ⟨0, by omega, rfl, World.ownsRow_nil _ _ _ _, Below.refl _ _⟩
  case round =>
    obtain ⟨k, hk, rfl, hown, hB⟩ := hrel
    by_cases hlt : k < n
    · have hki : (k : Int) < n := by omega
      obtain ⟨b, off, rfl, hcs⟩ := (hS'.out.below hB).resolve_left (fun e => by have := hNN.out; rw [e] at this; simp at this; omega)
      obtain ⟨e0, e1⟩ := hcs k (by rw [hNN.out]; exact hlt)
      have hup : Hid _ := cs2_up L k (by rw [hNN.out]; exact hlt)
      have hC : Hid (∀ K T W, L.getD k noPr = ⟨K, T⟩ → Calls Tryz.prog 44 #[.agg #[.int .i64 K, .string T], .int .i64 2] W fun e w' => e = .returned (ceV (ceOf (L.getD k noPr) 2)) ∧ Below W.heap.size W w') := fun K T W e => by rw [e]; exact kcell_any K T 2 W
      generalize hx : L.getD k noPr = x at *
      obtain ⟨K, T⟩ := x
      replace hC := fun W => hC.out K T W rfl
      obtain ⟨c, hc⟩ : ∃ c, ceOf ⟨K, T⟩ 2 = c := ⟨_, rfl⟩
      rw [hc] at hC hup
      obtain ⟨c1, c2, c3, c4⟩ := c
      unfold ceV at hC
      dsimp only at hC e0 e1
      replace hx : Hid _ := hx
      replace hc : Hid _ := hc
      replace hB : Hid _ := hB
      replace hown : Hid (World.ownsRow wr _ _ _ _ _ _) := hown
      replace hC : Hid (∀ W, Calls Tryz.prog 44 #[.agg #[.int .i64 K, .string T], .int .i64 2] W fun e w' => e = .returned (.agg #[.int .i64 c1, .int .i64 c2, .int .i64 c3, .string c4]) ∧ Below W.heap.size W w') := hC
      clear hcs
      go_wp2_with (first
        | (go_at_call 44; go_fit (hC.out _); rintro e w1 ⟨rfl, g1⟩)
        | (at_builtin; refine wpList_app _ rfl (.tmp 12) (.tmp 15) 105 rfl w.heap.size 108 ip zp 4 40 Tryz.underlying105 i1 i2 i4 i5 i3 (by decide) _ k _ rfl ((row_below hown.out (((Grew.refl wr).alloc _ _).below.trans (g1.mono (by simp)))).alloc _) (some ⟨w1.heap.size, 0, none⟩) 1 1 [.int .i64 c1, .int .i64 c2, .int .i64 c3, .string c4] rfl rfl (.inr ⟨_, 0, rfl, fun j u hj => new_at _ _ _ _ (by simp) j u hj⟩) (fun u hu => by simp at hu; rcases hu with rfl | rfl | rfl | rfl <;> rfl) (by unfold maxLen; omega) (by omega) (by have := hB.out.size; have := g1.size; simp at *; omega) ?_; intro v5 w5 hv5 hg5 hk5 hl5)
        | fail)
      have g2 : Below wr.heap.size wr w1 := ((Grew.refl wr).alloc _ _).below.trans (g1.mono (by simp))
      have r1 := (row_below hown.out g2).alloc (.cells #[.int .i64 c1, .int .i64 c2, .int .i64 c3, .string c4] 108)
      have B1 := hB.out.trans (g2.mono hB.out.size)
      have B2 := B1.trans ((((Grew.refl w1).alloc (#[.int .i64 c1, .int .i64 c2, .int .i64 c3, .string c4] : Array Value) 108).below).mono B1.size)
      have B3 := B2.trans ((grown_but hg5).below (fun i e => (r1.lt i e).1) B2.size)
      exact ⟨⟨k + 1, hlt, by simp, by rw [hup.out]; exact hv5, B3⟩, meas_up hlt⟩
    · have hki : ¬ (k : Int) < n := by omega
      obtain rfl : k = n := by omega
      rw [hTake.out] at hown
      obtain ⟨a1, m1, rfl, hCe⟩ := cells_of hown
      have hcap := (row_cap hown).2
      have hL : Hid (Calls Tryz.prog 45 #[.slice a1 k m1] wr fun e w' => ∃ v vs, e = .returned v ∧ w'.ownsRow wr.heap.size 105 1 v (partsL (cs2 L)).length vs ∧ PartsAt wr a1 vs (partsL (cs2 L)) ∧ Below wr.heap.size wr w') := by
        have := kleaves_any (cs2 L) a1 m1 wr hCe hs.out (by rw [hcl.out]; exact hm) (by rw [hcl.out]; exact hcap)
        rw [hcl.out] at this
        exact this
      rw [hcnt.out] at hL
      replace hB : Hid _ := hB
      clear hCe hown
      go_wp2_with (first
        | (go_at_call 45; go_fit hL.out; rintro e w1 ⟨v, vs, rfl, g1, g2, g3⟩; obtain ⟨a2, c2, rfl, _⟩ := own_reads g1)
        | fail)
      go_ret
      exact ⟨rfl, hB.out.trans (g3.mono hB.out.size)⟩
/-- The numbers from 2 on, so many. -/
def numsT (k : Nat) : List Int := (List.range k).map fun (i : Nat) => (i : Int) + 2
theorem numsT_up (k : Nat) : numsT (k + 1) = numsT k ++ [(k : Int) + 2] := by simp [numsT, List.range_succ]
theorem numsT_len (k : Nat) : (numsT k).length = k := by simp [numsT]
theorem numsT_get (k : Nat) {i : Nat} (h : i < k) : (numsT k).getD i 0 = (i : Int) + 2 := by simp [numsT, List.getD, h]
def numsV (l : List Int) : List Value := l.map (Value.int .i64)
theorem numsV_up (l : List Int) (n : Int) : numsV (l ++ [n]) = numsV l ++ [.int .i64 n] := by simp [numsV]
set_option maxRecDepth 100000 in
theorem info_kint : ∃ (i : TypeInfo) (z : Value), (Tryz.prog).info? 3 = some i ∧ i.zero = some z ∧ z.cells.size = 1 ∧ i.size = 1 ∧ i.bytes = 8 := ⟨_, _, rfl, rfl, rfl, rfl, rfl⟩
theorem nums_of {w : World} {B n : Nat} {E : TypeId} {v : Value} {l : List Int} (h : w.ownsRow B E 1 v n (numsV l)) : ∃ a cap, v = .slice a n cap ∧ NumsAt w a l ∧ n ≤ cap := by
  rcases h.2 with ⟨rfl, h0⟩ | ⟨g, cap, cur, rfl, _, _, hc, _⟩
  · refine ⟨none, 0, by rw [h0], .inl ?_, by omega⟩
    have := h.1
    simp [numsV, h0] at this
    exact this
  · refine ⟨_, cap, rfl, .inr ⟨g, 0, rfl, fun i hi => ?_⟩, hc⟩
    have hn : l.length = n := by have := h.1; simpa [numsV] using this
    rw [Nat.zero_add, h.cellAt _ (by omega)]
    simp [numsV, List.getD, hi]
set_option maxRecDepth 100000 in
set_option maxHeartbeats 2000000 in
theorem kall_any (w : World) : Calls Tryz.prog 32 #[] w fun e w' => ∃ v, e = .returned v ∧ w'.ownsRow w.heap.size 3 1 v 198 (numsV (numsT 198)) ∧ Below w.heap.size w w' := by
  obtain ⟨ip, zp, i1, i2, i3, i4, i5⟩ := info_kint
  obtain ⟨n, hn⟩ : ∃ n : Nat, 198 = n := ⟨_, rfl⟩
  rw [hn]
  go_enter Tryz.func32, Tryz.ntmps32
  go_wp2
  go_loopw [1, 2] (fun l i wr => ∃ (k : Nat), k ≤ n ∧ i = .int .i64 ((k : Int) + 2) ∧ wr.ownsRow w.heap.size 3 1 l k (numsV (numsT k)) ∧ Below w.heap.size w wr) (fun _ i _ => n + 2 - (intOf i).toNat)
  case atStart => exact ⟨0, by omega, rfl, World.ownsRow_nil _ _ _ _, Below.refl _ _⟩
  case round =>
    obtain ⟨k, hk, rfl, hown, hB⟩ := hrel
    by_cases hlt : k < n
    · have hki : (k : Int) + 2 < 200 := by omega
      replace hB : Hid _ := hB
      replace hown : Hid (World.ownsRow wr _ _ _ _ _ _) := hown
      have hn2 : n = 198 := hn.symm
      clear hn
      go_wp2_with (first
        | (at_builtin; refine wpList_app _ rfl (.tmp 7) (.tmp 9) 47 rfl w.heap.size 3 ip zp 1 8 Tryz.underlying47 i1 i2 i4 i5 i3 (by decide) _ k _ rfl (hown.out.alloc _) (some ⟨wr.heap.size, 0, none⟩) 1 1 [.int .i64 ((k : Int) + 2)] rfl rfl (.inr ⟨_, 0, rfl, fun j u hj => new_at _ _ _ _ (by simp) j u hj⟩) (fun u hu => by simp at hu; rcases hu with rfl; rfl) (by unfold maxLen; omega) (by omega) (by have := hB.out.size; simp at *; omega) ?_; intro v5 w5 hv5 hg5 hk5 hl5)
        | fail)
      have r1 := hown.out.alloc (.cells #[.int .i64 ((k : Int) + 2)] 3)
      have B2 := hB.out.trans ((((Grew.refl wr).alloc (#[.int .i64 ((k : Int) + 2)] : Array Value) 3).below).mono hB.out.size)
      have B3 := B2.trans ((grown_but hg5).below (fun i e => (r1.lt i e).1) B2.size)
      exact ⟨⟨k + 1, hlt, by simp; omega, by rw [numsT_up, numsV_up]; exact hv5, B3⟩, by simp [intOf]; omega⟩
    · have hki : ¬ (k : Int) + 2 < 200 := by omega
      obtain rfl : k = n := by omega
      go_wp2_with (fail)
      go_ret
      exact ⟨_, by trivial, hown, hB⟩
end Go.Proofs.YtbkkhafckkndfaaGreat

namespace Go.Proofs.YtbkkhafckkndfaaGreat
open Go Go.RowKit

/-- An array of 200 bools that lies at block b. -/
def BArr (w : World) (b : Nat) (S : Nat → Bool) : Prop := ∀ i, i < 200 → w.cell? ⟨b, i, none⟩ = some (.bool (S i)) ∧ w.frozen? ⟨b, i, none⟩ = false
theorem BArr.set {w : World} {b : Nat} {S : Nat → Bool} (h : BArr w b S) (m : Nat) (S' : Nat → Bool) (he : ∀ i, S' i = if i = m then true else S i) : BArr (w.setCell ⟨b, m, none⟩ (.bool true)) b S' := by
  intro i hi
  rw [he i]
  by_cases e : i = m
  · subst e
    rw [if_pos rfl]
    exact ⟨World.cell?_setCell_same' _ _ _ (by rw [(h i hi).1]; rfl), by rw [World.frozen?_setCell]; exact (h i hi).2⟩
  · rw [if_neg e]
    have := (h i hi).1
    refine ⟨?_, by rw [World.frozen?_setCell]; exact (h i hi).2⟩
    rw [← this]
    exact World.cell?_setCell_other w _ _ _ (fun q => e (by simpa using q.symm))
theorem BArr.new (w : World) (t : TypeId) : BArr (w.alloc (.cells (Array.replicate 200 (.bool false)) t)) w.heap.size fun _ => false := by
  intro i hi
  constructor
  · rw [cell_of_row _ _ _ _ _ _ (heap_alloc_new _ _)]
    simp [hi]
  · exact frozen_of_row _ _ _ _ _ (heap_alloc_new _ _)
theorem BArr.lt {w : World} {b : Nat} {S : Nat → Bool} (h : BArr w b S) : b < w.heap.size := cell_block (h 0 (by omega)).1
theorem BArr.grew {w w' : World} {b : Nat} {S : Nat → Bool} (h : BArr w b S) (g : Grew w w') : BArr w' b S := fun i hi =>
  ⟨below_cell g.below (h i hi).1, (frozen_of_heap (g.heap h.lt)).trans (h i hi).2⟩
set_option maxRecDepth 100000 in
set_option maxHeartbeats 4000000 in
theorem kpages_any (H : List Pr) (F : List Int) (a b : Option Addr) (ch cf : Nat) (w : World) (hH : PrsAt w a H) (hF : NumsAt w b F) (h1 : H.length ≤ 1000000) (h2 : F.length ≤ 1000000) :
    Calls Tryz.prog 28 #[.slice a H.length ch, .slice b F.length cf] w fun e w' => IsB e (PgsOk H F) ∧ Below w.heap.size w w' := by
  obtain ⟨n, hn⟩ : ∃ n, H.length = n := ⟨_, rfl⟩
  obtain ⟨m, hm⟩ : ∃ m, F.length = m := ⟨_, rfl⟩
  rw [hn, hm]
  rw [hn] at h1
  rw [hm] at h2
  replace hn : Hid (H.length = n) := hn
  replace hm : Hid (F.length = m) := hm
  replace hH : Hid (PrsAt w a H) := hH
  replace hF : Hid (NumsAt w b F) := hF
  have hK : Hid (∀ x W, Calls Tryz.prog 43 #[.int .i64 x] W fun e w' => e = .returned (.bool (pageB x)) ∧ w' = W) := fun x W => kpage_any x W
  obtain ⟨Z, hZ⟩ : ∃ Z : Array Value, Z = Array.replicate 200 (.bool false) := ⟨_, rfl⟩
  have hzv : ∀ W, (zeroValue 115).run Tryz.prog W = .ok (.agg Z) W := fun W => by rw [hZ]; kernel_rfl
  have hA0 : BArr (w.alloc (.cells Z 115)) w.heap.size fun _ => false := by rw [hZ]; exact BArr.new w _
  have hB0 : Below w.heap.size w (w.alloc (.cells Z 115)) := ((Grew.refl w).alloc _ _).below
  replace hZ : Hid _ := hZ
  replace hA0 : Hid (BArr (w.alloc (.cells Z 115)) w.heap.size fun _ => false) := hA0
  replace hB0 : Hid _ := hB0
  go_enter Tryz.func28, Tryz.ntmps28
  go_wp2
  try rw [show Tryz.zeroCells115 = Z by rw [hZ.out]; kernel_rfl]
  clear hzv
  replace hA0 := hA0.out
  replace hB0 := hB0.out
  generalize w.alloc (.cells Z 115) = W0 at *
  go_loopw [12] (fun i wr => ∃ k : Nat, k ≤ m ∧ i = .int .i64 k ∧ Below w.heap.size w wr ∧ BArr wr w.heap.size (fun j => decide (∃ i, i < k ∧ F.getD i 0 = (j : Int))) ∧ ∀ i, i < k → pageB (F.getD i 0) = true ∧ ∀ j, j < i → ¬ F.getD j 0 = F.getD i 0) (fun i _ => m - (intOf i).toNat)
  case atStart => exact ⟨0, by omega, rfl, hB0, by simpa using hA0, fun j hj => absurd hj (by omega)⟩
  case round =>
    clear hA0 hB0
    obtain ⟨k, hk, rfl, hB, hA, hno⟩ := hrel
    by_cases hlt : k < m
    · have hki : (k : Int) < m := by omega
      obtain ⟨bk, off, rfl, hcs⟩ := (hF.out.below hB).resolve_left (fun e => by have := hm.out; rw [e] at this; simp at this; omega)
      have e0 := hcs k (by rw [hm.out]; exact hlt)
      obtain ⟨x, hx⟩ : ∃ x, F.getD k 0 = x := ⟨_, rfl⟩
      rw [hx] at e0
      have hKx : Hid (∀ W, Calls Tryz.prog 43 #[.int .i64 x] W fun e w' => e = .returned (.bool (pageB x)) ∧ w' = W) := hK.out x
      replace hx : Hid _ := hx
      replace hB : Hid _ := hB
      clear hcs
      cases hpb : pageB x with
      | false =>
        have hE : Hid (¬ PgsOk H F) := fun g => by
          have := (g.2 k (by rw [hm.out]; exact hlt)).1
          rw [hx.out, hpb] at this
          cases this
        rw [hpb] at hKx
        replace hA : Hid _ := hA
        replace hno : Hid _ := hno
        clear hpb
        go_wp2_with (first
          | (go_at_call 43; go_fit (hKx.out _); rintro e w1 ⟨rfl, rfl⟩)
          | fail)
        go_ret
        exact ⟨⟨false, by trivial, by simp; exact hE.out⟩, hB.out⟩
      | true =>
        rw [hpb] at hKx
        have hpx := (pageB_iff _).1 hpb
        obtain ⟨p, rfl⟩ := Int.eq_ofNat_of_zero_le (show 0 ≤ x by omega)
        have hp1 : (p : Int) < 200 := by omega
        have hp2 : p < 200 := by omega
        obtain ⟨cB, zB⟩ := hA p (by omega)
        dsimp only at cB
        by_cases hin : ∃ i, i < k ∧ F.getD i 0 = (p : Int)
        · have hE : Hid (¬ PgsOk H F) := fun g => by
            obtain ⟨i, hi, e⟩ := hin
            exact (g.2 k (by rw [hm.out]; exact hlt)).2 i hi (by rw [e, hx.out])
          rw [decide_eq_true hin] at cB
          replace hA : Hid _ := hA
          replace hno : Hid _ := hno
          replace hin : Hid _ := hin
          clear hpb hpx
          go_wp2_with (first
            | (go_at_call 43; go_fit (hKx.out _); rintro e w1 ⟨rfl, rfl⟩)
            | fail)
          go_ret
          exact ⟨⟨false, by trivial, by simp; exact hE.out⟩, hB.out⟩
        · rw [decide_eq_false hin] at cB
          have hA2 : Hid (BArr (wr.setCell ⟨w.heap.size, p, none⟩ (.bool true)) w.heap.size fun j => decide (∃ i, i < k + 1 ∧ F.getD i 0 = (j : Int))) := hA.set p _ (fun j => by
            by_cases e : j = p
            · rw [if_pos e, e]
              exact decide_eq_true ⟨k, by omega, hx.out⟩
            · rw [if_neg e]
              apply decide_eq_decide.2
              constructor
              · rintro ⟨i, hi, e2⟩
                refine ⟨i, ?_, e2⟩
                by_cases ei : i = k
                · exfalso
                  rw [ei, hx.out] at e2
                  omega
                · omega
              · rintro ⟨i, hi, e2⟩
                exact ⟨i, by omega, e2⟩)
          have hno2 : Hid (∀ i, i < k + 1 → pageB (F.getD i 0) = true ∧ ∀ j, j < i → ¬ F.getD j 0 = F.getD i 0) := fun i hi => by
            by_cases e : i = k
            · rw [e, hx.out]
              exact ⟨hpb, fun j hj e2 => hin ⟨j, hj, e2⟩⟩
            · exact hno i (by omega)
          have hB2 : Hid (Below w.heap.size w (wr.setCell ⟨w.heap.size, p, none⟩ (.bool true))) := hB.out.setCell (p := ⟨w.heap.size, p, none⟩) (Nat.le_refl _) _
          replace hA : Hid _ := hA
          replace hno : Hid _ := hno
          replace hin : Hid _ := hin
          clear hpb hpx
          go_wp2_with (first
            | (go_at_call 43; go_fit (hKx.out _); rintro e w1 ⟨rfl, rfl⟩)
            | fail)
          exact ⟨⟨k + 1, hlt, by simp, hB2.out, hA2.out, hno2.out⟩, meas_up hlt⟩
    · have hki : ¬ (k : Int) < m := by omega
      obtain rfl : k = m := by omega
      replace hno : Hid _ := hno
      clear hki hlt
      go_wp2_with (fail)
      obtain ⟨W1, hW1⟩ : ∃ W1, wr = W1 := ⟨_, rfl⟩
      rw [hW1] at hA hB ⊢
      clear hW1
      go_loopw [29] (fun i wr => ∃ q : Nat, q ≤ n ∧ i = .int .i64 q ∧ Below w.heap.size w wr ∧ BArr wr w.heap.size (fun j => decide (∃ i, i < k ∧ F.getD i 0 = (j : Int))) ∧ ∀ i, i < q → pageB (H.getD i noPr).n = true ∧ ∀ j, j < k → ¬ F.getD j 0 = (H.getD i noPr).n) (fun i _ => n - (intOf i).toNat)
      case atStart => exact ⟨0, by omega, rfl, hB, hA, fun j hj => absurd hj (by omega)⟩
      case round =>
        clear hA hB
        obtain ⟨q, hq, rfl, hB, hA, hno2⟩ := hrel
        by_cases hlt : q < n
        · have hki : (q : Int) < n := by omega
          obtain ⟨bk, off, rfl, hcs⟩ := (hH.out.below hB).resolve_left (fun e => by have := hn.out; rw [e] at this; simp at this; omega)
          obtain ⟨e0, e1⟩ := hcs q (by rw [hn.out]; exact hlt)
          obtain ⟨x, hx⟩ : ∃ x, (H.getD q noPr).n = x := ⟨_, rfl⟩
          obtain ⟨T, hT⟩ : ∃ T, (H.getD q noPr).b = T := ⟨_, rfl⟩
          rw [hx] at e0
          rw [hT] at e1
          have hKx : Hid (∀ W, Calls Tryz.prog 43 #[.int .i64 x] W fun e w' => e = .returned (.bool (pageB x)) ∧ w' = W) := hK.out x
          replace hx : Hid _ := hx
          replace hB : Hid _ := hB
          clear hcs hT
          cases hpb : pageB x with
          | false =>
            have hE : Hid (¬ PgsOk H F) := fun g => by
              have := (g.1 q (by rw [hn.out]; exact hlt)).1
              rw [hx.out, hpb] at this
              cases this
            rw [hpb] at hKx
            replace hA : Hid _ := hA
            replace hno2 : Hid _ := hno2
            clear hpb
            go_wp2_with (first
              | (go_at_call 43; go_fit (hKx.out _); rintro e w1 ⟨rfl, rfl⟩)
              | fail)
            go_ret
            exact ⟨⟨false, by trivial, by simp; exact hE.out⟩, hB.out.alloc hB.out.size _⟩
          | true =>
            rw [hpb] at hKx
            have hpx := (pageB_iff _).1 hpb
            obtain ⟨p, rfl⟩ := Int.eq_ofNat_of_zero_le (show 0 ≤ x by omega)
            have hp1 : (p : Int) < 200 := by omega
            have hp2 : p < 200 := by omega
            obtain ⟨cB, zB⟩ := hA p (by omega)
            dsimp only at cB
            by_cases hin : ∃ i, i < k ∧ F.getD i 0 = (p : Int)
            · have hE : Hid (¬ PgsOk H F) := fun g => by
                obtain ⟨i, hi, e⟩ := hin
                exact (g.1 q (by rw [hn.out]; exact hlt)).2 i (by rw [hm.out]; exact hi) (by rw [e, hx.out])
              rw [decide_eq_true hin] at cB
              have cB2 : (wr.alloc (.cells #[.int .i64 (p : Int), .string T] 49)).cell? ⟨w.heap.size, p, none⟩ = some (.bool true) := below_cell ((Grew.refl wr).alloc _ _).below cB
              replace hA : Hid _ := hA
              replace hno2 : Hid _ := hno2
              replace hin : Hid _ := hin
              clear hpb hpx
              go_wp2_with (first
                | (go_at_call 43; go_fit (hKx.out _); rintro e w1 ⟨rfl, rfl⟩)
                | fail)
              go_ret
              exact ⟨⟨false, by trivial, by simp; exact hE.out⟩, hB.out.alloc hB.out.size _⟩
            · rw [decide_eq_false hin] at cB
              have hno3 : Hid (∀ i, i < q + 1 → pageB (H.getD i noPr).n = true ∧ ∀ j, j < k → ¬ F.getD j 0 = (H.getD i noPr).n) := fun i hi => by
                by_cases e : i = q
                · rw [e, hx.out]
                  exact ⟨hpb, fun j hj e2 => hin ⟨j, hj, e2⟩⟩
                · exact hno2 i (by omega)
              have cB2 : (wr.alloc (.cells #[.int .i64 (p : Int), .string T] 49)).cell? ⟨w.heap.size, p, none⟩ = some (.bool false) := below_cell ((Grew.refl wr).alloc _ _).below cB
              replace hA : Hid _ := hA
              replace hno2 : Hid _ := hno2
              replace hin : Hid _ := hin
              clear hpb hpx
              go_wp2_with (first
                | (go_at_call 43; go_fit (hKx.out _); rintro e w1 ⟨rfl, rfl⟩)
                | fail)
              exact ⟨⟨q + 1, hlt, by simp, hB.out.alloc hB.out.size _, BArr.grew (w := wr) hA.out ((Grew.refl _).alloc _ _), hno3.out⟩, meas_up hlt⟩
        · have hki : ¬ (q : Int) < n := by omega
          obtain rfl : q = n := by omega
          have hY : Hid (PgsOk H F) := ⟨by rw [hn.out, hm.out]; exact hno2, by rw [hm.out]; exact hno.out⟩
          replace hA : Hid _ := hA
          clear hno2 hno
          go_wp2_with (fail)
          go_ret
          exact ⟨⟨true, by trivial, by simp; exact hY.out⟩, hB⟩
end Go.Proofs.YtbkkhafckkndfaaGreat

namespace Go.Proofs.YtbkkhafckkndfaaGreat
open Go Go.RowKit

/-- With n laid under k. -/
def updS (f : ByteArray → Option Int) (k : ByteArray) (n : Int) : ByteArray → Option Int := fun j => if j = k then some n else f j
/-- A map that lies in memory: under these texts these numbers. -/
def SMap (w : World) (mb : Nat) (f : ByteArray → Option Int) : Prop :=
  ∃ (es : Array MapEntry) (c : Nat), w.heap[mb]? = some (.map es c) ∧ (es.toList.map (·.key)).Nodup ∧ (∀ x ∈ es.toList, ∃ k n, x.key = .string k ∧ x.val = .int .i64 n ∧ f k = some n) ∧ ∀ k n, f k = some n → ∃ x ∈ es.toList, x.key = .string k

theorem SMap.heap {w w' : World} {mb : Nat} {f : ByteArray → Option Int} (h : SMap w mb f) (g : w'.heap[mb]? = w.heap[mb]?) : SMap w' mb f := by
  obtain ⟨es, c, h1, h2⟩ := h
  exact ⟨es, c, g.trans h1, h2⟩
theorem SMap.lt {w : World} {mb : Nat} {f : ByteArray → Option Int} (h : SMap w mb f) : mb < w.heap.size := by
  obtain ⟨es, c, h1, h2⟩ := h
  exact (Array.getElem?_eq_some_iff.1 h1).1
theorem SMap.made (w : World) : SMap (w.alloc (.map #[] 0)) w.heap.size fun _ => none :=
  ⟨#[], 0, MapKept.heap_alloc w _ |>.1, by simp, by simp, by simp⟩
theorem SMap.congr {w : World} {mb : Nat} {f g : ByteArray → Option Int} (h : SMap w mb f) (e : ∀ k, f k = g k) : SMap w mb g := by
  have : f = g := funext e
  exact this ▸ h

section
variable {P : Program} {t kt et : TypeId} (hm : P.underlying t = some (.map kt et)) (hk : P.underlying kt = some .string)
include hm hk

theorem SMap.put {w : World} {mb : Nat} {f : ByteArray → Option Int} (h : SMap w mb f) (k : ByteArray) (n : Int) :
    ∃ w', (Instr.mapUpdate t (.map (some mb)) (.string k) (.int .i64 n)).run P w = .ok () w' ∧ SMap w' mb (updS f k n) ∧ w.grownBy w' (some mb) := by
  obtain ⟨es, c, hb, hn, hv, ho⟩ := h
  have hlt := (Array.getElem?_eq_some_iff.1 hb).1
  have hisk : MapKept.IsKey .string (.string k) := trivial
  have hks : ∀ x ∈ es.toList, MapKept.IsKey .string x.key := fun x hx => by
    obtain ⟨k, n, e, _⟩ := hv x hx
    rw [e]
    trivial
  rcases MapKept.findNow_spec hisk es.toList 0 hks with ⟨h1, h2⟩ | ⟨j, e, h1, h2, h3⟩
  · refine ⟨{ w with heap := w.heap.setIfInBounds mb (.map (es.push { key := .string k, val := .int .i64 n, born := c }) (c + 1)) }, ?_, ⟨es.push { key := .string k, val := .int .i64 n, born := c }, c + 1, by simp [hlt], ?_, ?_, ?_⟩, ⟨rfl, rfl, rfl, by simp, fun k _ hk => ?_⟩⟩
    · simp [Instr.mapUpdate, run_underlying hm, MapKept.run_getObj_map hb, MapKept.run_checkKey hk hisk, MapKept.run_findKey hk h1, MapKept.run_setObj_map _ hb, Result.andThen]
    · simp only [Array.toList_push, List.map_append, List.map_cons, List.map_nil]
      refine List.nodup_append.2 ⟨hn, by simp, ?_⟩
      intro a ha b hb
      simp only [List.mem_singleton] at hb
      subst hb
      obtain ⟨x, hx, rfl⟩ := List.mem_map.1 ha
      exact h2 x hx
    · intro x hx
      simp only [Array.toList_push, List.mem_append, List.mem_singleton] at hx
      rcases hx with hx | rfl
      · obtain ⟨k', n', e1, e2, e3⟩ := hv x hx
        refine ⟨k', n', e1, e2, ?_⟩
        have : ¬ k' = k := fun e => h2 x hx (by rw [e1, e])
        simp [updS, this, e3]
      · exact ⟨k, n, rfl, rfl, by simp [updS]⟩
    · intro k' n' he
      by_cases hkk : k' = k
      · exact ⟨{ key := .string k, val := .int .i64 n, born := c }, by simp, by rw [hkk]⟩
      · simp only [updS, if_neg hkk] at he
        obtain ⟨x, hx, e⟩ := ho k' n' he
        exact ⟨x, by simp [hx], e⟩
    · have : mb ≠ k := fun e => hk (by rw [e])
      simp [this]
  · have hj : es[j]? = some e := by simpa using h2
    have hjl : j < es.size := (Array.getElem?_eq_some_iff.1 hj).1
    have hkey : ∀ e', es[j]? = some e' → ({ e' with key := Value.string k, val := .int .i64 n } : MapEntry).key = e'.key := fun e' he' => by rw [hj] at he'; cases he'; exact h3.symm
    refine ⟨{ w with heap := w.heap.setIfInBounds mb (.map (es.modify j fun e => { e with key := .string k, val := .int .i64 n }) c) }, ?_, ⟨es.modify j fun e => { e with key := .string k, val := .int .i64 n }, c, by simp [hlt], ?_, ?_, ?_⟩, ⟨rfl, rfl, rfl, by simp, fun k _ hk => ?_⟩⟩
    · simp [Instr.mapUpdate, run_underlying hm, MapKept.run_getObj_map hb, MapKept.run_checkKey hk hisk, MapKept.run_findKey hk h1, hj, h3, MapKept.run_keyThatStays hisk, MapKept.run_setObj_map _ hb, Result.andThen]
    · rw [MapKept.modify_keys _ _ hkey]
      exact hn
    · intro x hx
      obtain ⟨i, hi, rfl⟩ := List.mem_iff_getElem.1 hx
      simp only [Array.length_toList, Array.size_modify] at hi
      by_cases hij : j = i
      · subst hij
        exact ⟨k, n, by simp, by simp, by simp [updS]⟩
      · have hx' : es[i] ∈ es.toList := by simp
        obtain ⟨k', n', e1, e2, e3⟩ := hv _ hx'
        refine ⟨k', n', by simp [hij, e1], by simp [hij, e2], ?_⟩
        have : ¬ k' = k := fun e => by
          refine hij ?_
          have hp := List.pairwise_iff_getElem.1 hn
          have hA : (es.toList.map (·.key))[j]'(by simpa using hjl) = (es.toList.map (·.key))[i]'(by simpa using hi) := by
            simp only [List.getElem_map, Array.getElem_toList]
            have : es[j] = _ := (Array.getElem?_eq_some_iff.1 hj).2
            rw [this, h3, e1, e]
          rcases Nat.lt_trichotomy j i with q | q | q
          · exact absurd hA (hp j i _ _ q)
          · exact q
          · exact absurd hA.symm (hp i j _ _ q)
        simp [updS, this, e3]
    · intro k' n' he
      by_cases hkk : k' = k
      · refine ⟨(es.modify j fun e => { e with key := .string k, val := .int .i64 n })[j]'(by simpa using hjl), Array.getElem_mem_toList _, by simp [Array.getElem_modify, hkk]⟩
      · simp only [updS, if_neg hkk] at he
        obtain ⟨x, hx, e⟩ := ho k' n' he
        have hx2 : x.key ∈ (es.modify j fun e => { e with key := .string k, val := .int .i64 n }).toList.map (·.key) := by
          rw [MapKept.modify_keys _ _ hkey]
          exact List.mem_map.2 ⟨x, hx, rfl⟩
        obtain ⟨y, hy, ey⟩ := List.mem_map.1 hx2
        exact ⟨y, hy, ey.trans e⟩
    · have : mb ≠ k := fun e => hk (by rw [e])
      simp [this]
theorem SMap.get {w : World} {mb : Nat} {f : ByteArray → Option Int} (h : SMap w mb f) (k : ByteArray) (hz : (zeroValue et).run P w = .ok (.int .i64 0) w) :
    (Instr.lookup t (.map (some mb)) (.string k) true).run P w = .ok (.tuple #[.int .i64 ((f k).getD 0), .bool (f k).isSome]) w := by
  obtain ⟨es, c, hb, hn, hv, ho⟩ := h
  have hisk : MapKept.IsKey .string (.string k) := trivial
  have hks : ∀ x ∈ es.toList, MapKept.IsKey .string x.key := fun x hx => by
    obtain ⟨k, n, e, _⟩ := hv x hx
    rw [e]
    trivial
  rcases MapKept.findNow_spec hisk es.toList 0 hks with ⟨h1, h2⟩ | ⟨j, e, h1, h2, h3⟩
  · have hf : f k = none := by
      cases e : f k with
      | none => rfl
      | some n =>
        obtain ⟨x, hx, he⟩ := ho k n e
        exact absurd he (h2 x hx)
    simp [Instr.lookup, run_underlying hm, MapKept.run_getObj_map hb, MapKept.run_checkKey hk hisk, MapKept.run_findKey hk h1, hz, hf, Result.andThen]
  · have hj : es[j]? = some e := by simpa using h2
    obtain ⟨k', n, e1, e2, e3⟩ := hv e (by simpa using Array.mem_of_getElem? hj)
    rw [h3] at e1
    cases e1
    simp [Instr.lookup, run_underlying hm, MapKept.run_getObj_map hb, MapKept.run_checkKey hk hisk, MapKept.run_findKey hk h1, e2, e3, Result.andThen]
end
end Go.Proofs.YtbkkhafckkndfaaGreat
