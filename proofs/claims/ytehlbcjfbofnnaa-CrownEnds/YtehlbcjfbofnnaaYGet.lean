/-
  What package crown's Get and Pick do, and the document's own CrownGet and Pick.
-/
import Derived.Test.YtehlbcjfbofnnaaYPut
import Derived.Test.YtehlbcjfbofnnaaSLate
namespace Go.Proofs.Ytehlbcjfbofnnaa
open Go Go.RowKit

theorem share {G : Prop} (T : Prop) (h : T → G) (t : T) : G := h t
theorem raw_of {s : ByteArray} (_h : s.size = 128) : rawL s.data.toList = ⟨numR (s.extract 0 8), numR ((s.extract 8 128).extract 0 2), numR ((s.extract 8 128).extract 2 4)⟩ := by
  unfold rawL numR
  simp only [ByteArray.data_extract, Array.toList_extract, List.extract_eq_take_drop, List.drop_zero, Nat.sub_zero]
  congr 3
  · rw [List.take_take]
    rfl
  · rw [List.drop_take, List.drop_drop, List.take_take]
    rfl
theorem none_is (s : ByteArray) (h : ¬ s.size = 128) : isC s.data.toList = false := by
  cases e : isC s.data.toList with
  | false => rfl
  | true => exact absurd (isC_len e) h
theorem below_frozen {w w' : World} (h : Below w.heap.size w w') {p : Addr} (hb : p.block < w.heap.size) (hz : w.frozen? p = false) : w'.frozen? p = false := by
  rw [frozen_of_heap (h.block _ hb), hz]
theorem frozen_new (w : World) (cs : Array Value) (t : TypeId) (o : Nat) : (w.alloc (.cells cs t)).frozen? ⟨w.heap.size, o, none⟩ = false := by simp [go_sem]
theorem isC_cases {s : ByteArray} {c : Cr} (hr : rawL s.data.toList = c) : (okC c = true ∧ putB c = s ∧ isC s.data.toList = true ∧ getL s.data.toList = c) ∨ (okC c = true ∧ ¬ putB c = s ∧ isC s.data.toList = false ∧ getL s.data.toList = noC) ∨ (okC c = false ∧ isC s.data.toList = false ∧ getL s.data.toList = noC) := by
  have e : (putB c = s) ↔ (putL c = s.data.toList) := by
    constructor
    · rintro rfl; rfl
    · intro h; apply ByteArray.ext; apply Array.toList_inj.1; exact h
  cases hk : okC c with
  | false =>
    have hi : isC s.data.toList = false := by unfold isC; rw [hr, hk]; rfl
    exact .inr (.inr ⟨rfl, hi, get_no hi⟩)
  | true =>
    by_cases hp : putB c = s
    · have hi : isC s.data.toList = true := by unfold isC; rw [hr, hk, e.1 hp]; simp
      exact .inl ⟨rfl, hp, hi, by unfold getL; rw [if_pos hi, hr]⟩
    · have hi : isC s.data.toList = false := by unfold isC; rw [hr, hk]; simpa using fun h => hp (e.2 h)
      exact .inr (.inl ⟨rfl, hp, hi, get_no hi⟩)
theorem bytes_ne {a b : ByteArray} (h : ¬ a = b) : (a.toList == b.toList) = false := by
  rw [ByteArray.toList_eq, ByteArray.toList_eq]
  simp only [beq_eq_false_iff_ne, ne_eq]
  exact fun e => h (ByteArray.ext (Array.toList_inj.1 e))
theorem raw_of2 {s : ByteArray} (_h : s.size = 128) : rawL s.data.toList = ⟨numR (s.extract 0 8), numR (s.extract 8 10), numR (s.extract 10 12)⟩ := by
  unfold rawL numR
  simp only [ByteArray.data_extract, Array.toList_extract, List.extract_eq_take_drop, List.drop_zero, Nat.sub_zero]
set_option maxHeartbeats 4000000 in
theorem get_any (s : ByteArray) (w : World) : Calls Try.prog 12 #[.string s] w fun e w' => e = .returned (.tuple #[(getL s.data.toList).val, .bool (isC s.data.toList)]) ∧ Below w.heap.size w w' := by
  by_cases h : s.size = 128
  · have hi : (s.size : Int) = 128 := by omega
    have L1 : ((s.extract 0 8)).size < 9223372036854775807 := by rw [ByteArray.size_extract]; omega
    have L2 : (((s.extract 8 128).extract 0 2)).size < 9223372036854775807 := by rw [ByteArray.size_extract]; omega
    have L3 : (((s.extract 8 128).extract 2 4)).size < 9223372036854775807 := by rw [ByteArray.size_extract]; omega
    have hr : rawL s.data.toList = ⟨numR ((s.extract 0 8)), numR (((s.extract 8 128).extract 0 2)), numR (((s.extract 8 128).extract 2 4))⟩ := raw_of h
    have N1 : Hid (∀ W, _) := fun W => number_any ((s.extract 0 8)) W L1
    have N2 : Hid (∀ W, _) := fun W => number_any (((s.extract 8 128).extract 0 2)) W L2
    have N3 : Hid (∀ W, _) := fun W => number_any (((s.extract 8 128).extract 2 4)) W L3
    generalize numR ((s.extract 0 8)) = g at *
    generalize numR (((s.extract 8 128).extract 0 2)) = r at *
    generalize numR (((s.extract 8 128).extract 2 4)) = p at *
    clear L1 L2 L3
    replace hr : Hid (rawL s.data.toList = ⟨g, r, p⟩) := hr
    go_enter Try.func12, Try.ntmps12
    go_upto_region 3 with (fail)
    go_region
    go_upto_region 4 with (fail)
    apply share
    case h =>
      intro tail
      refine lat_region (A := (fun _ => True)) (S := (fun _ => True)) [] (by kernel_rfl) ?_ (fun hH0 => ?_)
      · exact ⟨trivial, trivial⟩
      refine lat_free (i := 0) (oi := { dst := some 17, op := Go.Op.move (Go.Operand.tmp 4), type := 9, pos := "crown.go:43", after := #[], guard := none }) (v := ?vga1) rfl (by kernel_rfl) (by kernel_rfl) (by kernel_rfl) (by kernel_rfl) (fun _ _ _ h => h) (Or.inl ⟨by rfl, ?hyga1⟩) ⟨hH0.1, fun _ => hH0.2⟩ ?restga1
      case hyga1 => (intro w hAw; skip; go_simp; try (with_reducible rfl))
      simp only [Act.put, List.setIfInBounds_toArray, List.set_cons_zero, List.set_cons_succ]
      refine lat_free (i := 2) (oi := { dst := some 19, op := Go.Op.move (Go.Operand.tmp 5), type := 9, pos := "crown.go:43", after := #[], guard := none }) (v := ?vga2) rfl (by kernel_rfl) (by kernel_rfl) (by kernel_rfl) (by kernel_rfl) (fun _ _ _ h => h) (Or.inl ⟨by rfl, ?hyga2⟩) ⟨hH0.1, fun _ => hH0.2⟩ ?restga2
      case hyga2 => (intro w hAw; skip; go_simp; try (with_reducible rfl))
      simp only [Act.put, List.setIfInBounds_toArray, List.set_cons_zero, List.set_cons_succ]
      refine lat_free (i := 3) (oi := { dst := some 20, op := Go.Op.slice 9 (Go.Operand.tmp 19) none (some (Go.Operand.const (Go.Value.int Go.IntKind.i64 2))) none, type := 9, pos := "crown.go:43", after := #[{ on := 2, ground := Go.Ground.data }], guard := none }) (v := ?vga3) rfl (by kernel_rfl) (by kernel_rfl) (by kernel_rfl) (by kernel_rfl) (fun _ _ _ h => h) (Or.inl ⟨by rfl, ?hyga3⟩) ⟨hH0.1, fun _ => hH0.2⟩ ?restga3
      case hyga3 => (intro w hAw; skip; go_simp; try (with_reducible rfl))
      simp only [Act.put, List.setIfInBounds_toArray, List.set_cons_zero, List.set_cons_succ]
      refine lat_free (i := 5) (oi := { dst := some 22, op := Go.Op.move (Go.Operand.tmp 5), type := 9, pos := "crown.go:43", after := #[], guard := none }) (v := ?vga4) rfl (by kernel_rfl) (by kernel_rfl) (by kernel_rfl) (by kernel_rfl) (fun _ _ _ h => h) (Or.inl ⟨by rfl, ?hyga4⟩) ⟨hH0.1, fun _ => hH0.2⟩ ?restga4
      case hyga4 => (intro w hAw; skip; go_simp; try (with_reducible rfl))
      simp only [Act.put, List.setIfInBounds_toArray, List.set_cons_zero, List.set_cons_succ]
      refine lat_free (i := 6) (oi := { dst := some 23, op := Go.Op.slice 9 (Go.Operand.tmp 22) (some (Go.Operand.const (Go.Value.int Go.IntKind.i64 2))) (some (Go.Operand.const (Go.Value.int Go.IntKind.i64 4))) none, type := 9, pos := "crown.go:43", after := #[{ on := 5, ground := Go.Ground.data }], guard := none }) (v := ?vga5) rfl (by kernel_rfl) (by kernel_rfl) (by kernel_rfl) (by kernel_rfl) (fun _ _ _ h => h) (Or.inl ⟨by rfl, ?hyga5⟩) ⟨hH0.1, fun _ => hH0.2⟩ ?restga5
      case hyga5 => (intro w hAw; skip; go_simp; try (with_reducible rfl))
      simp only [Act.put, List.setIfInBounds_toArray, List.set_cons_zero, List.set_cons_succ]
      refine lat_two (i := 1) (k := 9) (by kernel_rfl) ?_ ?_
      · refine lat_run (o := { dst := some 18, op := Go.Op.call { callee := Go.Callee.value (Go.Operand.func 22), args := #[Go.Operand.tmp 17], argTypes := #[9] }, type := 3, pos := "crown.go:43", after := #[{ on := 0, ground := Go.Ground.data }], guard := none }) rfl (fun K hK => ?_)
        go_simp
        go_wp2_with (first
          | (go_at_call 22; go_fit (N1.out _); rintro e w' ⟨rfl, rfl⟩)
          | fail)
        refine hK.out _ _ (⟨trivial, trivial⟩) (fun hHga6 => ?_)
        clear hK K
        refine lat_two (i := 4) (k := 9) (by kernel_rfl) ?_ ?_
        · refine lat_run (o := { dst := some 21, op := Go.Op.call { callee := Go.Callee.value (Go.Operand.func 22), args := #[Go.Operand.tmp 20], argTypes := #[9] }, type := 3, pos := "crown.go:43", after := #[{ on := 3, ground := Go.Ground.data }, { on := 1, ground := Go.Ground.chain }], guard := none }) rfl (fun K hK => ?_)
          go_simp
          go_wp2_with (first
            | (go_at_call 22; go_fit (N2.out _); rintro e w' ⟨rfl, rfl⟩)
            | fail)
          refine hK.out _ _ (⟨trivial, trivial⟩) (fun hHga7 => ?_)
          clear hK K
          refine lat_two (i := 7) (k := 9) (by kernel_rfl) ?_ ?_
          · refine lat_run (o := { dst := some 24, op := Go.Op.call { callee := Go.Callee.value (Go.Operand.func 22), args := #[Go.Operand.tmp 23], argTypes := #[9] }, type := 3, pos := "crown.go:43", after := #[{ on := 6, ground := Go.Ground.data }, { on := 4, ground := Go.Ground.chain }], guard := none }) rfl (fun K hK => ?_)
            go_simp
            go_wp2_with (first
              | (go_at_call 22; go_fit (N3.out _); rintro e w' ⟨rfl, rfl⟩)
              | fail)
            refine hK.out _ _ (⟨trivial, trivial⟩) (fun hHga8 => ?_)
            clear hK K
            refine lat_free (i := 8) (oi := { dst := some 25, op := Go.Op.build 23 #[(0, Go.Operand.tmp 18), (1, Go.Operand.tmp 21), (2, Go.Operand.tmp 24)], type := 23, pos := "crown.go:43", after := #[{ on := 1, ground := Go.Ground.data }, { on := 4, ground := Go.Ground.data }, { on := 7, ground := Go.Ground.data }], guard := none }) (v := ?vga9) rfl (by kernel_rfl) (by kernel_rfl) (by kernel_rfl) (by kernel_rfl) (fun _ _ _ h => h) (Or.inl ⟨by rfl, ?hyga9⟩) ⟨hHga8.1, fun _ => hHga8.2⟩ ?restga9
            case hyga9 => (intro w hAw; skip; go_simp; try (with_reducible rfl))
            simp only [Act.put, List.setIfInBounds_toArray, List.set_cons_zero, List.set_cons_succ]
            refine lat_one (i := 9) (by kernel_rfl) ?_
            refine lat_run (o := { dst := some 6, op := Go.Op.alloc 23, type := 0, pos := "crown.go:43", after := #[], guard := none }) rfl (fun K hK => ?_)
            go_simp
            refine hK.out _ _ (⟨trivial, trivial⟩) (fun hHga10 => ?_)
            clear hK K
            refine lat_one (i := 10) (by kernel_rfl) ?_
            refine lat_run (o := { dst := none, op := Go.Op.store 23 (Go.Operand.tmp 6) (Go.Operand.tmp 25), type := 0, pos := "crown.go:43", after := #[{ on := 9, ground := Go.Ground.data }, { on := 8, ground := Go.Ground.data }, { on := 7, ground := Go.Ground.chain }, { on := 0, ground := Go.Ground.phase }, { on := 1, ground := Go.Ground.phase }, { on := 2, ground := Go.Ground.phase }, { on := 3, ground := Go.Ground.phase }, { on := 4, ground := Go.Ground.phase }, { on := 5, ground := Go.Ground.phase }, { on := 6, ground := Go.Ground.phase }, { on := 7, ground := Go.Ground.phase }, { on := 8, ground := Go.Ground.phase }, { on := 9, ground := Go.Ground.phase }], guard := none }) rfl (fun K hK => ?_)
            go_simp
            refine hK.out _ _ (⟨trivial, trivial⟩) (fun hHga11 => ?_)
            clear hK K
            refine lat_done (by kernel_rfl) ?_ _
            exact tail
          · refine lat_run (o := { dst := some 6, op := Go.Op.alloc 23, type := 0, pos := "crown.go:43", after := #[], guard := none }) rfl (fun K hK => ?_)
            go_simp
            refine hK.out _ _ (⟨trivial, trivial⟩) (fun hHga12 => ?_)
            clear hK K
            refine lat_one (i := 7) (by kernel_rfl) ?_
            refine lat_run (o := { dst := some 24, op := Go.Op.call { callee := Go.Callee.value (Go.Operand.func 22), args := #[Go.Operand.tmp 23], argTypes := #[9] }, type := 3, pos := "crown.go:43", after := #[{ on := 6, ground := Go.Ground.data }, { on := 4, ground := Go.Ground.chain }], guard := none }) rfl (fun K hK => ?_)
            go_simp
            go_wp2_with (first
              | (go_at_call 22; go_fit (N3.out _); rintro e w' ⟨rfl, rfl⟩)
              | fail)
            refine hK.out _ _ (⟨trivial, trivial⟩) (fun hHga13 => ?_)
            clear hK K
            refine lat_free (i := 8) (oi := { dst := some 25, op := Go.Op.build 23 #[(0, Go.Operand.tmp 18), (1, Go.Operand.tmp 21), (2, Go.Operand.tmp 24)], type := 23, pos := "crown.go:43", after := #[{ on := 1, ground := Go.Ground.data }, { on := 4, ground := Go.Ground.data }, { on := 7, ground := Go.Ground.data }], guard := none }) (v := ?vga14) rfl (by kernel_rfl) (by kernel_rfl) (by kernel_rfl) (by kernel_rfl) (fun _ _ _ h => h) (Or.inl ⟨by rfl, ?hyga14⟩) ⟨hHga13.1, fun _ => hHga13.2⟩ ?restga14
            case hyga14 => (intro w hAw; skip; go_simp; try (with_reducible rfl))
            simp only [Act.put, List.setIfInBounds_toArray, List.set_cons_zero, List.set_cons_succ]
            refine lat_one (i := 10) (by kernel_rfl) ?_
            refine lat_run (o := { dst := none, op := Go.Op.store 23 (Go.Operand.tmp 6) (Go.Operand.tmp 25), type := 0, pos := "crown.go:43", after := #[{ on := 9, ground := Go.Ground.data }, { on := 8, ground := Go.Ground.data }, { on := 7, ground := Go.Ground.chain }, { on := 0, ground := Go.Ground.phase }, { on := 1, ground := Go.Ground.phase }, { on := 2, ground := Go.Ground.phase }, { on := 3, ground := Go.Ground.phase }, { on := 4, ground := Go.Ground.phase }, { on := 5, ground := Go.Ground.phase }, { on := 6, ground := Go.Ground.phase }, { on := 7, ground := Go.Ground.phase }, { on := 8, ground := Go.Ground.phase }, { on := 9, ground := Go.Ground.phase }], guard := none }) rfl (fun K hK => ?_)
            go_simp
            refine hK.out _ _ (⟨trivial, trivial⟩) (fun hHga15 => ?_)
            clear hK K
            refine lat_done (by kernel_rfl) ?_ _
            exact tail
        · refine lat_run (o := { dst := some 6, op := Go.Op.alloc 23, type := 0, pos := "crown.go:43", after := #[], guard := none }) rfl (fun K hK => ?_)
          go_simp
          refine hK.out _ _ (⟨trivial, trivial⟩) (fun hHga16 => ?_)
          clear hK K
          refine lat_one (i := 4) (by kernel_rfl) ?_
          refine lat_run (o := { dst := some 21, op := Go.Op.call { callee := Go.Callee.value (Go.Operand.func 22), args := #[Go.Operand.tmp 20], argTypes := #[9] }, type := 3, pos := "crown.go:43", after := #[{ on := 3, ground := Go.Ground.data }, { on := 1, ground := Go.Ground.chain }], guard := none }) rfl (fun K hK => ?_)
          go_simp
          go_wp2_with (first
            | (go_at_call 22; go_fit (N2.out _); rintro e w' ⟨rfl, rfl⟩)
            | fail)
          refine hK.out _ _ (⟨trivial, trivial⟩) (fun hHga17 => ?_)
          clear hK K
          refine lat_one (i := 7) (by kernel_rfl) ?_
          refine lat_run (o := { dst := some 24, op := Go.Op.call { callee := Go.Callee.value (Go.Operand.func 22), args := #[Go.Operand.tmp 23], argTypes := #[9] }, type := 3, pos := "crown.go:43", after := #[{ on := 6, ground := Go.Ground.data }, { on := 4, ground := Go.Ground.chain }], guard := none }) rfl (fun K hK => ?_)
          go_simp
          go_wp2_with (first
            | (go_at_call 22; go_fit (N3.out _); rintro e w' ⟨rfl, rfl⟩)
            | fail)
          refine hK.out _ _ (⟨trivial, trivial⟩) (fun hHga18 => ?_)
          clear hK K
          refine lat_free (i := 8) (oi := { dst := some 25, op := Go.Op.build 23 #[(0, Go.Operand.tmp 18), (1, Go.Operand.tmp 21), (2, Go.Operand.tmp 24)], type := 23, pos := "crown.go:43", after := #[{ on := 1, ground := Go.Ground.data }, { on := 4, ground := Go.Ground.data }, { on := 7, ground := Go.Ground.data }], guard := none }) (v := ?vga19) rfl (by kernel_rfl) (by kernel_rfl) (by kernel_rfl) (by kernel_rfl) (fun _ _ _ h => h) (Or.inl ⟨by rfl, ?hyga19⟩) ⟨hHga18.1, fun _ => hHga18.2⟩ ?restga19
          case hyga19 => (intro w hAw; skip; go_simp; try (with_reducible rfl))
          simp only [Act.put, List.setIfInBounds_toArray, List.set_cons_zero, List.set_cons_succ]
          refine lat_one (i := 10) (by kernel_rfl) ?_
          refine lat_run (o := { dst := none, op := Go.Op.store 23 (Go.Operand.tmp 6) (Go.Operand.tmp 25), type := 0, pos := "crown.go:43", after := #[{ on := 9, ground := Go.Ground.data }, { on := 8, ground := Go.Ground.data }, { on := 7, ground := Go.Ground.chain }, { on := 0, ground := Go.Ground.phase }, { on := 1, ground := Go.Ground.phase }, { on := 2, ground := Go.Ground.phase }, { on := 3, ground := Go.Ground.phase }, { on := 4, ground := Go.Ground.phase }, { on := 5, ground := Go.Ground.phase }, { on := 6, ground := Go.Ground.phase }, { on := 7, ground := Go.Ground.phase }, { on := 8, ground := Go.Ground.phase }, { on := 9, ground := Go.Ground.phase }], guard := none }) rfl (fun K hK => ?_)
          go_simp
          refine hK.out _ _ (⟨trivial, trivial⟩) (fun hHga20 => ?_)
          clear hK K
          refine lat_done (by kernel_rfl) ?_ _
          exact tail
      · refine lat_run (o := { dst := some 6, op := Go.Op.alloc 23, type := 0, pos := "crown.go:43", after := #[], guard := none }) rfl (fun K hK => ?_)
        go_simp
        refine hK.out _ _ (⟨trivial, trivial⟩) (fun hHga21 => ?_)
        clear hK K
        refine lat_one (i := 1) (by kernel_rfl) ?_
        refine lat_run (o := { dst := some 18, op := Go.Op.call { callee := Go.Callee.value (Go.Operand.func 22), args := #[Go.Operand.tmp 17], argTypes := #[9] }, type := 3, pos := "crown.go:43", after := #[{ on := 0, ground := Go.Ground.data }], guard := none }) rfl (fun K hK => ?_)
        go_simp
        go_wp2_with (first
          | (go_at_call 22; go_fit (N1.out _); rintro e w' ⟨rfl, rfl⟩)
          | fail)
        refine hK.out _ _ (⟨trivial, trivial⟩) (fun hHga22 => ?_)
        clear hK K
        refine lat_one (i := 4) (by kernel_rfl) ?_
        refine lat_run (o := { dst := some 21, op := Go.Op.call { callee := Go.Callee.value (Go.Operand.func 22), args := #[Go.Operand.tmp 20], argTypes := #[9] }, type := 3, pos := "crown.go:43", after := #[{ on := 3, ground := Go.Ground.data }, { on := 1, ground := Go.Ground.chain }], guard := none }) rfl (fun K hK => ?_)
        go_simp
        go_wp2_with (first
          | (go_at_call 22; go_fit (N2.out _); rintro e w' ⟨rfl, rfl⟩)
          | fail)
        refine hK.out _ _ (⟨trivial, trivial⟩) (fun hHga23 => ?_)
        clear hK K
        refine lat_one (i := 7) (by kernel_rfl) ?_
        refine lat_run (o := { dst := some 24, op := Go.Op.call { callee := Go.Callee.value (Go.Operand.func 22), args := #[Go.Operand.tmp 23], argTypes := #[9] }, type := 3, pos := "crown.go:43", after := #[{ on := 6, ground := Go.Ground.data }, { on := 4, ground := Go.Ground.chain }], guard := none }) rfl (fun K hK => ?_)
        go_simp
        go_wp2_with (first
          | (go_at_call 22; go_fit (N3.out _); rintro e w' ⟨rfl, rfl⟩)
          | fail)
        refine hK.out _ _ (⟨trivial, trivial⟩) (fun hHga24 => ?_)
        clear hK K
        refine lat_free (i := 8) (oi := { dst := some 25, op := Go.Op.build 23 #[(0, Go.Operand.tmp 18), (1, Go.Operand.tmp 21), (2, Go.Operand.tmp 24)], type := 23, pos := "crown.go:43", after := #[{ on := 1, ground := Go.Ground.data }, { on := 4, ground := Go.Ground.data }, { on := 7, ground := Go.Ground.data }], guard := none }) (v := ?vga25) rfl (by kernel_rfl) (by kernel_rfl) (by kernel_rfl) (by kernel_rfl) (fun _ _ _ h => h) (Or.inl ⟨by rfl, ?hyga25⟩) ⟨hHga24.1, fun _ => hHga24.2⟩ ?restga25
        case hyga25 => (intro w hAw; skip; go_simp; try (with_reducible rfl))
        simp only [Act.put, List.setIfInBounds_toArray, List.set_cons_zero, List.set_cons_succ]
        refine lat_one (i := 10) (by kernel_rfl) ?_
        refine lat_run (o := { dst := none, op := Go.Op.store 23 (Go.Operand.tmp 6) (Go.Operand.tmp 25), type := 0, pos := "crown.go:43", after := #[{ on := 9, ground := Go.Ground.data }, { on := 8, ground := Go.Ground.data }, { on := 7, ground := Go.Ground.chain }, { on := 0, ground := Go.Ground.phase }, { on := 1, ground := Go.Ground.phase }, { on := 2, ground := Go.Ground.phase }, { on := 3, ground := Go.Ground.phase }, { on := 4, ground := Go.Ground.phase }, { on := 5, ground := Go.Ground.phase }, { on := 6, ground := Go.Ground.phase }, { on := 7, ground := Go.Ground.phase }, { on := 8, ground := Go.Ground.phase }, { on := 9, ground := Go.Ground.phase }], guard := none }) rfl (fun K hK => ?_)
        go_simp
        refine hK.out _ _ (⟨trivial, trivial⟩) (fun hHga26 => ?_)
        clear hK K
        refine lat_done (by kernel_rfl) ?_ _
        exact tail
    case t =>
      have C0 : CAt (((w.alloc (.cells #[.int .i64 0, .int .i64 0, .int .i64 0] 23)).alloc (.cells #[.int .i64 g, .int .i64 r, .int .i64 p] 23)).drew.drew) (w.heap.size + 1) ⟨g, r, p⟩ := by
        have := (cat_new (w.alloc (.cells #[.int .i64 0, .int .i64 0, .int .i64 0] 23)) ⟨g, r, p⟩ 23).grew ((Grew.refl _).drew.drew)
        simpa using this
      have D0 : CAt (((w.alloc (.cells #[.int .i64 0, .int .i64 0, .int .i64 0] 23)).alloc (.cells #[.int .i64 g, .int .i64 r, .int .i64 p] 23)).drew.drew) w.heap.size noC := (cat_new w noC _).grew (((Grew.refl _).alloc _ _).drew.drew)
      have Z0 : ∀ o, (((w.alloc (.cells #[.int .i64 0, .int .i64 0, .int .i64 0] 23)).alloc (.cells #[.int .i64 g, .int .i64 r, .int .i64 p] 23)).drew.drew).frozen? ⟨w.heap.size, o, none⟩ = false := fun o => (((Grew.refl _).alloc _ _).drew.drew).frozen (frozen_new w _ _ o)
      have B0 : Below w.heap.size w (((w.alloc (.cells #[.int .i64 0, .int .i64 0, .int .i64 0] 23)).alloc (.cells #[.int .i64 g, .int .i64 r, .int .i64 p] 23)).drew.drew) := ((((Grew.refl w).alloc _ _).alloc _ _).drew.drew).below
      have S0 : w.heap.size < (((w.alloc (.cells #[.int .i64 0, .int .i64 0, .int .i64 0] 23)).alloc (.cells #[.int .i64 g, .int .i64 r, .int .i64 p] 23)).drew.drew).heap.size := by simp; omega
      generalize ((w.alloc (.cells #[.int .i64 0, .int .i64 0, .int .i64 0] 23)).alloc (.cells #[.int .i64 g, .int .i64 r, .int .i64 p] 23)).drew.drew = V at C0 D0 Z0 B0 S0 ⊢
      have BL := B0.size
      have c0 := C0.g
      have c1 := C0.r
      have c2 := C0.p
      dsimp only at c0 c1 c2
      have HP : Hid (∀ W, _) := fun W => put_any ⟨g, r, p⟩ W
      rcases isC_cases hr.out with ⟨hk, hp, e1, e2⟩ | ⟨hk, hp, e1, e2⟩ | ⟨hk, e1, e2⟩
      · rw [hk, show putV ⟨g, r, p⟩ = s by unfold putV; rw [if_pos hk, hp]] at HP
        unfold Cr.val at HP
        dsimp only at HP
        clear hp
        go_wp2_with (first
          | (go_at_call 10; go_fit (HP.out _); rintro e W1 ⟨rfl, K0⟩; have K1 := K0; have C1 := C0.below K1; have D1 := D0.below K1; have x0 := C1.g; have x1 := C1.r; have x2 := C1.p; have y0 := D1.g; have y1 := D1.r; have y2 := D1.p; have v0 := below_frozen K1 S0 (Z0 0); have v1 := below_frozen K1 S0 (Z0 1); have v2 := below_frozen K1 S0 (Z0 2); have K2 := B0.trans (K1.mono BL); dsimp only [noC] at x0 x1 x2 y0 y1 y2; clear K0 K1 C1 D1)
          | fail)
        refine bodyPost_ret (v := .tuple #[.agg #[.int .i64 g, .int .i64 r, .int .i64 p], .bool true]) (by simp [results, Try.results12, go_sem, y0, y1, y2]) rfl ⟨?_, ?_⟩
        · rw [e1, e2]; rfl
        · exact ((K2.setCell (p := ⟨w.heap.size, 0, none⟩) (Nat.le_refl _) _).setCell (p := ⟨w.heap.size, 1, none⟩) (Nat.le_refl _) _).setCell (p := ⟨w.heap.size, 2, none⟩) (Nat.le_refl _) _
      · have hne : ((putB ⟨g, r, p⟩).toList == s.toList) = false := bytes_ne hp
        rw [hk, show putV ⟨g, r, p⟩ = putB ⟨g, r, p⟩ by unfold putV; rw [if_pos hk]] at HP
        generalize putB ⟨g, r, p⟩ = q at *
        unfold Cr.val at HP
        dsimp only at HP
        clear hk
        go_wp2_with (first
          | (go_at_call 10; go_fit (HP.out _); rintro e W1 ⟨rfl, K0⟩; have K1 := K0; have C1 := C0.below K1; have D1 := D0.below K1; have x0 := C1.g; have x1 := C1.r; have x2 := C1.p; have y0 := D1.g; have y1 := D1.r; have y2 := D1.p; have v0 := below_frozen K1 S0 (Z0 0); have v1 := below_frozen K1 S0 (Z0 1); have v2 := below_frozen K1 S0 (Z0 2); have K2 := B0.trans (K1.mono BL); dsimp only [noC] at x0 x1 x2 y0 y1 y2; clear K0 K1 C1 D1)
          | fail)
        refine bodyPost_ret (v := .tuple #[.agg #[.int .i64 0, .int .i64 0, .int .i64 0], .bool false]) (by simp [results, Try.results12, go_sem, y0, y1, y2]) rfl ⟨?_, ?_⟩
        · rw [e1, e2]; rfl
        · exact ((K2.setCell (p := ⟨w.heap.size, 0, none⟩) (Nat.le_refl _) _).setCell (p := ⟨w.heap.size, 1, none⟩) (Nat.le_refl _) _).setCell (p := ⟨w.heap.size, 2, none⟩) (Nat.le_refl _) _
      · rw [hk, show putV ⟨g, r, p⟩ = ByteArray.empty by unfold putV; rw [if_neg (by rw [hk]; decide)]] at HP
        unfold Cr.val at HP
        dsimp only at HP
        clear hk
        go_wp2_with (first
          | (go_at_call 10; go_fit (HP.out _); rintro e W1 ⟨rfl, K0⟩; have K1 := K0; have C1 := C0.below K1; have D1 := D0.below K1; have x0 := C1.g; have x1 := C1.r; have x2 := C1.p; have y0 := D1.g; have y1 := D1.r; have y2 := D1.p; have v0 := below_frozen K1 S0 (Z0 0); have v1 := below_frozen K1 S0 (Z0 1); have v2 := below_frozen K1 S0 (Z0 2); have K2 := B0.trans (K1.mono BL); dsimp only [noC] at x0 x1 x2 y0 y1 y2; clear K0 K1 C1 D1)
          | fail)
        refine bodyPost_ret (v := .tuple #[.agg #[.int .i64 0, .int .i64 0, .int .i64 0], .bool false]) (by simp [results, Try.results12, go_sem, y0, y1, y2]) rfl ⟨?_, ?_⟩
        · rw [e1, e2]; rfl
        · exact ((K2.setCell (p := ⟨w.heap.size, 0, none⟩) (Nat.le_refl _) _).setCell (p := ⟨w.heap.size, 1, none⟩) (Nat.le_refl _) _).setCell (p := ⟨w.heap.size, 2, none⟩) (Nat.le_refl _) _
  · have hi : ¬ (s.size : Int) = 128 := by omega
    have e := none_is s h
    rw [get_no e, e]
    unfold noC Cr.val
    dsimp only
    clear e h
    go_enter Try.func12, Try.ntmps12
    go_wp2
    refine bodyPost_ret (v := .tuple #[.agg #[.int .i64 0, .int .i64 0, .int .i64 0], .bool false]) (by simp [results, Try.results12, go_sem]) rfl ⟨rfl, ?_⟩
    exact ((Grew.refl w).alloc _ _).below
set_option maxHeartbeats 4000000 in
theorem refget_any (s : ByteArray) (w : World) : Calls Try.prog 13 #[.string s] w fun e w' => e = .returned (.tuple #[(getL s.data.toList).val, .bool (isC s.data.toList)]) ∧ Below w.heap.size w w' := by
  by_cases h : s.size = 128
  · have hi : (s.size : Int) = 128 := by omega
    have L1 : (s.extract 0 8).size < 9223372036854775807 := by rw [ByteArray.size_extract]; omega
    have L2 : (s.extract 8 10).size < 9223372036854775807 := by rw [ByteArray.size_extract]; omega
    have L3 : (s.extract 10 12).size < 9223372036854775807 := by rw [ByteArray.size_extract]; omega
    have hr : rawL s.data.toList = ⟨numR (s.extract 0 8), numR (s.extract 8 10), numR (s.extract 10 12)⟩ := raw_of2 h
    have N1 : Hid (∀ W, _) := fun W => of_any (s.extract 0 8) W L1
    have N2 : Hid (∀ W, _) := fun W => of_any (s.extract 8 10) W L2
    have N3 : Hid (∀ W, _) := fun W => of_any (s.extract 10 12) W L3
    generalize numR (s.extract 0 8) = g at *
    generalize numR (s.extract 8 10) = r at *
    generalize numR (s.extract 10 12) = p at *
    clear L1 L2 L3
    replace hr : Hid (rawL s.data.toList = ⟨g, r, p⟩) := hr
    go_enter Try.func13, Try.ntmps13
    go_upto_region 3 with (fail)
    apply share
    case h =>
      intro tail
      refine lat_region (A := (fun _ => True)) (S := (fun _ => True)) [] (by kernel_rfl) ?_ (fun hH0 => ?_)
      · exact ⟨trivial, trivial⟩
      refine lat_free (i := 0) (oi := { dst := some 11, op := Go.Op.move (Go.Operand.tmp 0), type := 9, pos := "disk.go:146", after := #[], guard := none }) (v := ?vgb1) rfl (by kernel_rfl) (by kernel_rfl) (by kernel_rfl) (by kernel_rfl) (fun _ _ _ h => h) (Or.inl ⟨by rfl, ?hygb1⟩) ⟨hH0.1, fun _ => hH0.2⟩ ?restgb1
      case hygb1 => (intro w hAw; skip; go_simp; try (with_reducible rfl))
      simp only [Act.put, List.setIfInBounds_toArray, List.set_cons_zero, List.set_cons_succ]
      refine lat_free (i := 1) (oi := { dst := some 12, op := Go.Op.slice 9 (Go.Operand.tmp 11) none (some (Go.Operand.const (Go.Value.int Go.IntKind.i64 8))) none, type := 9, pos := "disk.go:146", after := #[{ on := 0, ground := Go.Ground.data }], guard := none }) (v := ?vgb2) rfl (by kernel_rfl) (by kernel_rfl) (by kernel_rfl) (by kernel_rfl) (fun _ _ _ h => h) (Or.inl ⟨by rfl, ?hygb2⟩) ⟨hH0.1, fun _ => hH0.2⟩ ?restgb2
      case hygb2 => (intro w hAw; skip; go_simp; try (with_reducible rfl))
      simp only [Act.put, List.setIfInBounds_toArray, List.set_cons_zero, List.set_cons_succ]
      refine lat_free (i := 3) (oi := { dst := some 14, op := Go.Op.move (Go.Operand.tmp 0), type := 9, pos := "disk.go:146", after := #[], guard := none }) (v := ?vgb3) rfl (by kernel_rfl) (by kernel_rfl) (by kernel_rfl) (by kernel_rfl) (fun _ _ _ h => h) (Or.inl ⟨by rfl, ?hygb3⟩) ⟨hH0.1, fun _ => hH0.2⟩ ?restgb3
      case hygb3 => (intro w hAw; skip; go_simp; try (with_reducible rfl))
      simp only [Act.put, List.setIfInBounds_toArray, List.set_cons_zero, List.set_cons_succ]
      refine lat_free (i := 4) (oi := { dst := some 15, op := Go.Op.slice 9 (Go.Operand.tmp 14) (some (Go.Operand.const (Go.Value.int Go.IntKind.i64 8))) (some (Go.Operand.const (Go.Value.int Go.IntKind.i64 10))) none, type := 9, pos := "disk.go:146", after := #[{ on := 3, ground := Go.Ground.data }], guard := none }) (v := ?vgb4) rfl (by kernel_rfl) (by kernel_rfl) (by kernel_rfl) (by kernel_rfl) (fun _ _ _ h => h) (Or.inl ⟨by rfl, ?hygb4⟩) ⟨hH0.1, fun _ => hH0.2⟩ ?restgb4
      case hygb4 => (intro w hAw; skip; go_simp; try (with_reducible rfl))
      simp only [Act.put, List.setIfInBounds_toArray, List.set_cons_zero, List.set_cons_succ]
      refine lat_free (i := 6) (oi := { dst := some 17, op := Go.Op.move (Go.Operand.tmp 0), type := 9, pos := "disk.go:146", after := #[], guard := none }) (v := ?vgb5) rfl (by kernel_rfl) (by kernel_rfl) (by kernel_rfl) (by kernel_rfl) (fun _ _ _ h => h) (Or.inl ⟨by rfl, ?hygb5⟩) ⟨hH0.1, fun _ => hH0.2⟩ ?restgb5
      case hygb5 => (intro w hAw; skip; go_simp; try (with_reducible rfl))
      simp only [Act.put, List.setIfInBounds_toArray, List.set_cons_zero, List.set_cons_succ]
      refine lat_free (i := 7) (oi := { dst := some 18, op := Go.Op.slice 9 (Go.Operand.tmp 17) (some (Go.Operand.const (Go.Value.int Go.IntKind.i64 10))) (some (Go.Operand.const (Go.Value.int Go.IntKind.i64 12))) none, type := 9, pos := "disk.go:146", after := #[{ on := 6, ground := Go.Ground.data }], guard := none }) (v := ?vgb6) rfl (by kernel_rfl) (by kernel_rfl) (by kernel_rfl) (by kernel_rfl) (fun _ _ _ h => h) (Or.inl ⟨by rfl, ?hygb6⟩) ⟨hH0.1, fun _ => hH0.2⟩ ?restgb6
      case hygb6 => (intro w hAw; skip; go_simp; try (with_reducible rfl))
      simp only [Act.put, List.setIfInBounds_toArray, List.set_cons_zero, List.set_cons_succ]
      refine lat_two (i := 2) (k := 10) (by kernel_rfl) ?_ ?_
      · refine lat_run (o := { dst := some 13, op := Go.Op.call { callee := Go.Callee.value (Go.Operand.func 23), args := #[Go.Operand.tmp 12], argTypes := #[9] }, type := 3, pos := "disk.go:146", after := #[{ on := 1, ground := Go.Ground.data }], guard := none }) rfl (fun K hK => ?_)
        go_simp
        go_wp2_with (first
          | (go_at_call 23; go_fit (N1.out _); rintro e w' ⟨rfl, rfl⟩)
          | fail)
        refine hK.out _ _ (⟨trivial, trivial⟩) (fun hHgb7 => ?_)
        clear hK K
        refine lat_two (i := 5) (k := 10) (by kernel_rfl) ?_ ?_
        · refine lat_run (o := { dst := some 16, op := Go.Op.call { callee := Go.Callee.value (Go.Operand.func 23), args := #[Go.Operand.tmp 15], argTypes := #[9] }, type := 3, pos := "disk.go:146", after := #[{ on := 4, ground := Go.Ground.data }, { on := 2, ground := Go.Ground.chain }], guard := none }) rfl (fun K hK => ?_)
          go_simp
          go_wp2_with (first
            | (go_at_call 23; go_fit (N2.out _); rintro e w' ⟨rfl, rfl⟩)
            | fail)
          refine hK.out _ _ (⟨trivial, trivial⟩) (fun hHgb8 => ?_)
          clear hK K
          refine lat_two (i := 8) (k := 10) (by kernel_rfl) ?_ ?_
          · refine lat_run (o := { dst := some 19, op := Go.Op.call { callee := Go.Callee.value (Go.Operand.func 23), args := #[Go.Operand.tmp 18], argTypes := #[9] }, type := 3, pos := "disk.go:146", after := #[{ on := 7, ground := Go.Ground.data }, { on := 5, ground := Go.Ground.chain }], guard := none }) rfl (fun K hK => ?_)
            go_simp
            go_wp2_with (first
              | (go_at_call 23; go_fit (N3.out _); rintro e w' ⟨rfl, rfl⟩)
              | fail)
            refine hK.out _ _ (⟨trivial, trivial⟩) (fun hHgb9 => ?_)
            clear hK K
            refine lat_free (i := 9) (oi := { dst := some 20, op := Go.Op.build 28 #[(0, Go.Operand.tmp 13), (1, Go.Operand.tmp 16), (2, Go.Operand.tmp 19)], type := 28, pos := "disk.go:146", after := #[{ on := 2, ground := Go.Ground.data }, { on := 5, ground := Go.Ground.data }, { on := 8, ground := Go.Ground.data }], guard := none }) (v := ?vgb10) rfl (by kernel_rfl) (by kernel_rfl) (by kernel_rfl) (by kernel_rfl) (fun _ _ _ h => h) (Or.inl ⟨by rfl, ?hygb10⟩) ⟨hHgb9.1, fun _ => hHgb9.2⟩ ?restgb10
            case hygb10 => (intro w hAw; skip; go_simp; try (with_reducible rfl))
            simp only [Act.put, List.setIfInBounds_toArray, List.set_cons_zero, List.set_cons_succ]
            refine lat_one (i := 10) (by kernel_rfl) ?_
            refine lat_run (o := { dst := some 4, op := Go.Op.alloc 28, type := 0, pos := "disk.go:146", after := #[], guard := none }) rfl (fun K hK => ?_)
            go_simp
            refine hK.out _ _ (⟨trivial, trivial⟩) (fun hHgb11 => ?_)
            clear hK K
            refine lat_one (i := 11) (by kernel_rfl) ?_
            refine lat_run (o := { dst := none, op := Go.Op.store 28 (Go.Operand.tmp 4) (Go.Operand.tmp 20), type := 0, pos := "disk.go:146", after := #[{ on := 10, ground := Go.Ground.data }, { on := 9, ground := Go.Ground.data }, { on := 8, ground := Go.Ground.chain }, { on := 0, ground := Go.Ground.phase }, { on := 1, ground := Go.Ground.phase }, { on := 2, ground := Go.Ground.phase }, { on := 3, ground := Go.Ground.phase }, { on := 4, ground := Go.Ground.phase }, { on := 5, ground := Go.Ground.phase }, { on := 6, ground := Go.Ground.phase }, { on := 7, ground := Go.Ground.phase }, { on := 8, ground := Go.Ground.phase }, { on := 9, ground := Go.Ground.phase }, { on := 10, ground := Go.Ground.phase }], guard := none }) rfl (fun K hK => ?_)
            go_simp
            refine hK.out _ _ (⟨trivial, trivial⟩) (fun hHgb12 => ?_)
            clear hK K
            refine lat_done (by kernel_rfl) ?_ _
            exact tail
          · refine lat_run (o := { dst := some 4, op := Go.Op.alloc 28, type := 0, pos := "disk.go:146", after := #[], guard := none }) rfl (fun K hK => ?_)
            go_simp
            refine hK.out _ _ (⟨trivial, trivial⟩) (fun hHgb13 => ?_)
            clear hK K
            refine lat_one (i := 8) (by kernel_rfl) ?_
            refine lat_run (o := { dst := some 19, op := Go.Op.call { callee := Go.Callee.value (Go.Operand.func 23), args := #[Go.Operand.tmp 18], argTypes := #[9] }, type := 3, pos := "disk.go:146", after := #[{ on := 7, ground := Go.Ground.data }, { on := 5, ground := Go.Ground.chain }], guard := none }) rfl (fun K hK => ?_)
            go_simp
            go_wp2_with (first
              | (go_at_call 23; go_fit (N3.out _); rintro e w' ⟨rfl, rfl⟩)
              | fail)
            refine hK.out _ _ (⟨trivial, trivial⟩) (fun hHgb14 => ?_)
            clear hK K
            refine lat_free (i := 9) (oi := { dst := some 20, op := Go.Op.build 28 #[(0, Go.Operand.tmp 13), (1, Go.Operand.tmp 16), (2, Go.Operand.tmp 19)], type := 28, pos := "disk.go:146", after := #[{ on := 2, ground := Go.Ground.data }, { on := 5, ground := Go.Ground.data }, { on := 8, ground := Go.Ground.data }], guard := none }) (v := ?vgb15) rfl (by kernel_rfl) (by kernel_rfl) (by kernel_rfl) (by kernel_rfl) (fun _ _ _ h => h) (Or.inl ⟨by rfl, ?hygb15⟩) ⟨hHgb14.1, fun _ => hHgb14.2⟩ ?restgb15
            case hygb15 => (intro w hAw; skip; go_simp; try (with_reducible rfl))
            simp only [Act.put, List.setIfInBounds_toArray, List.set_cons_zero, List.set_cons_succ]
            refine lat_one (i := 11) (by kernel_rfl) ?_
            refine lat_run (o := { dst := none, op := Go.Op.store 28 (Go.Operand.tmp 4) (Go.Operand.tmp 20), type := 0, pos := "disk.go:146", after := #[{ on := 10, ground := Go.Ground.data }, { on := 9, ground := Go.Ground.data }, { on := 8, ground := Go.Ground.chain }, { on := 0, ground := Go.Ground.phase }, { on := 1, ground := Go.Ground.phase }, { on := 2, ground := Go.Ground.phase }, { on := 3, ground := Go.Ground.phase }, { on := 4, ground := Go.Ground.phase }, { on := 5, ground := Go.Ground.phase }, { on := 6, ground := Go.Ground.phase }, { on := 7, ground := Go.Ground.phase }, { on := 8, ground := Go.Ground.phase }, { on := 9, ground := Go.Ground.phase }, { on := 10, ground := Go.Ground.phase }], guard := none }) rfl (fun K hK => ?_)
            go_simp
            refine hK.out _ _ (⟨trivial, trivial⟩) (fun hHgb16 => ?_)
            clear hK K
            refine lat_done (by kernel_rfl) ?_ _
            exact tail
        · refine lat_run (o := { dst := some 4, op := Go.Op.alloc 28, type := 0, pos := "disk.go:146", after := #[], guard := none }) rfl (fun K hK => ?_)
          go_simp
          refine hK.out _ _ (⟨trivial, trivial⟩) (fun hHgb17 => ?_)
          clear hK K
          refine lat_one (i := 5) (by kernel_rfl) ?_
          refine lat_run (o := { dst := some 16, op := Go.Op.call { callee := Go.Callee.value (Go.Operand.func 23), args := #[Go.Operand.tmp 15], argTypes := #[9] }, type := 3, pos := "disk.go:146", after := #[{ on := 4, ground := Go.Ground.data }, { on := 2, ground := Go.Ground.chain }], guard := none }) rfl (fun K hK => ?_)
          go_simp
          go_wp2_with (first
            | (go_at_call 23; go_fit (N2.out _); rintro e w' ⟨rfl, rfl⟩)
            | fail)
          refine hK.out _ _ (⟨trivial, trivial⟩) (fun hHgb18 => ?_)
          clear hK K
          refine lat_one (i := 8) (by kernel_rfl) ?_
          refine lat_run (o := { dst := some 19, op := Go.Op.call { callee := Go.Callee.value (Go.Operand.func 23), args := #[Go.Operand.tmp 18], argTypes := #[9] }, type := 3, pos := "disk.go:146", after := #[{ on := 7, ground := Go.Ground.data }, { on := 5, ground := Go.Ground.chain }], guard := none }) rfl (fun K hK => ?_)
          go_simp
          go_wp2_with (first
            | (go_at_call 23; go_fit (N3.out _); rintro e w' ⟨rfl, rfl⟩)
            | fail)
          refine hK.out _ _ (⟨trivial, trivial⟩) (fun hHgb19 => ?_)
          clear hK K
          refine lat_free (i := 9) (oi := { dst := some 20, op := Go.Op.build 28 #[(0, Go.Operand.tmp 13), (1, Go.Operand.tmp 16), (2, Go.Operand.tmp 19)], type := 28, pos := "disk.go:146", after := #[{ on := 2, ground := Go.Ground.data }, { on := 5, ground := Go.Ground.data }, { on := 8, ground := Go.Ground.data }], guard := none }) (v := ?vgb20) rfl (by kernel_rfl) (by kernel_rfl) (by kernel_rfl) (by kernel_rfl) (fun _ _ _ h => h) (Or.inl ⟨by rfl, ?hygb20⟩) ⟨hHgb19.1, fun _ => hHgb19.2⟩ ?restgb20
          case hygb20 => (intro w hAw; skip; go_simp; try (with_reducible rfl))
          simp only [Act.put, List.setIfInBounds_toArray, List.set_cons_zero, List.set_cons_succ]
          refine lat_one (i := 11) (by kernel_rfl) ?_
          refine lat_run (o := { dst := none, op := Go.Op.store 28 (Go.Operand.tmp 4) (Go.Operand.tmp 20), type := 0, pos := "disk.go:146", after := #[{ on := 10, ground := Go.Ground.data }, { on := 9, ground := Go.Ground.data }, { on := 8, ground := Go.Ground.chain }, { on := 0, ground := Go.Ground.phase }, { on := 1, ground := Go.Ground.phase }, { on := 2, ground := Go.Ground.phase }, { on := 3, ground := Go.Ground.phase }, { on := 4, ground := Go.Ground.phase }, { on := 5, ground := Go.Ground.phase }, { on := 6, ground := Go.Ground.phase }, { on := 7, ground := Go.Ground.phase }, { on := 8, ground := Go.Ground.phase }, { on := 9, ground := Go.Ground.phase }, { on := 10, ground := Go.Ground.phase }], guard := none }) rfl (fun K hK => ?_)
          go_simp
          refine hK.out _ _ (⟨trivial, trivial⟩) (fun hHgb21 => ?_)
          clear hK K
          refine lat_done (by kernel_rfl) ?_ _
          exact tail
      · refine lat_run (o := { dst := some 4, op := Go.Op.alloc 28, type := 0, pos := "disk.go:146", after := #[], guard := none }) rfl (fun K hK => ?_)
        go_simp
        refine hK.out _ _ (⟨trivial, trivial⟩) (fun hHgb22 => ?_)
        clear hK K
        refine lat_one (i := 2) (by kernel_rfl) ?_
        refine lat_run (o := { dst := some 13, op := Go.Op.call { callee := Go.Callee.value (Go.Operand.func 23), args := #[Go.Operand.tmp 12], argTypes := #[9] }, type := 3, pos := "disk.go:146", after := #[{ on := 1, ground := Go.Ground.data }], guard := none }) rfl (fun K hK => ?_)
        go_simp
        go_wp2_with (first
          | (go_at_call 23; go_fit (N1.out _); rintro e w' ⟨rfl, rfl⟩)
          | fail)
        refine hK.out _ _ (⟨trivial, trivial⟩) (fun hHgb23 => ?_)
        clear hK K
        refine lat_one (i := 5) (by kernel_rfl) ?_
        refine lat_run (o := { dst := some 16, op := Go.Op.call { callee := Go.Callee.value (Go.Operand.func 23), args := #[Go.Operand.tmp 15], argTypes := #[9] }, type := 3, pos := "disk.go:146", after := #[{ on := 4, ground := Go.Ground.data }, { on := 2, ground := Go.Ground.chain }], guard := none }) rfl (fun K hK => ?_)
        go_simp
        go_wp2_with (first
          | (go_at_call 23; go_fit (N2.out _); rintro e w' ⟨rfl, rfl⟩)
          | fail)
        refine hK.out _ _ (⟨trivial, trivial⟩) (fun hHgb24 => ?_)
        clear hK K
        refine lat_one (i := 8) (by kernel_rfl) ?_
        refine lat_run (o := { dst := some 19, op := Go.Op.call { callee := Go.Callee.value (Go.Operand.func 23), args := #[Go.Operand.tmp 18], argTypes := #[9] }, type := 3, pos := "disk.go:146", after := #[{ on := 7, ground := Go.Ground.data }, { on := 5, ground := Go.Ground.chain }], guard := none }) rfl (fun K hK => ?_)
        go_simp
        go_wp2_with (first
          | (go_at_call 23; go_fit (N3.out _); rintro e w' ⟨rfl, rfl⟩)
          | fail)
        refine hK.out _ _ (⟨trivial, trivial⟩) (fun hHgb25 => ?_)
        clear hK K
        refine lat_free (i := 9) (oi := { dst := some 20, op := Go.Op.build 28 #[(0, Go.Operand.tmp 13), (1, Go.Operand.tmp 16), (2, Go.Operand.tmp 19)], type := 28, pos := "disk.go:146", after := #[{ on := 2, ground := Go.Ground.data }, { on := 5, ground := Go.Ground.data }, { on := 8, ground := Go.Ground.data }], guard := none }) (v := ?vgb26) rfl (by kernel_rfl) (by kernel_rfl) (by kernel_rfl) (by kernel_rfl) (fun _ _ _ h => h) (Or.inl ⟨by rfl, ?hygb26⟩) ⟨hHgb25.1, fun _ => hHgb25.2⟩ ?restgb26
        case hygb26 => (intro w hAw; skip; go_simp; try (with_reducible rfl))
        simp only [Act.put, List.setIfInBounds_toArray, List.set_cons_zero, List.set_cons_succ]
        refine lat_one (i := 11) (by kernel_rfl) ?_
        refine lat_run (o := { dst := none, op := Go.Op.store 28 (Go.Operand.tmp 4) (Go.Operand.tmp 20), type := 0, pos := "disk.go:146", after := #[{ on := 10, ground := Go.Ground.data }, { on := 9, ground := Go.Ground.data }, { on := 8, ground := Go.Ground.chain }, { on := 0, ground := Go.Ground.phase }, { on := 1, ground := Go.Ground.phase }, { on := 2, ground := Go.Ground.phase }, { on := 3, ground := Go.Ground.phase }, { on := 4, ground := Go.Ground.phase }, { on := 5, ground := Go.Ground.phase }, { on := 6, ground := Go.Ground.phase }, { on := 7, ground := Go.Ground.phase }, { on := 8, ground := Go.Ground.phase }, { on := 9, ground := Go.Ground.phase }, { on := 10, ground := Go.Ground.phase }], guard := none }) rfl (fun K hK => ?_)
        go_simp
        refine hK.out _ _ (⟨trivial, trivial⟩) (fun hHgb27 => ?_)
        clear hK K
        refine lat_done (by kernel_rfl) ?_ _
        exact tail
    case t =>
      have C0 : CAt (((w.alloc (.cells #[.int .i64 0, .int .i64 0, .int .i64 0] 28)).alloc (.cells #[.int .i64 g, .int .i64 r, .int .i64 p] 28)).drew) (w.heap.size + 1) ⟨g, r, p⟩ := by
        have := (cat_new (w.alloc (.cells #[.int .i64 0, .int .i64 0, .int .i64 0] 28)) ⟨g, r, p⟩ 28).grew ((Grew.refl _).drew)
        simpa using this
      have D0 : CAt (((w.alloc (.cells #[.int .i64 0, .int .i64 0, .int .i64 0] 28)).alloc (.cells #[.int .i64 g, .int .i64 r, .int .i64 p] 28)).drew) w.heap.size noC := (cat_new w noC _).grew (((Grew.refl _).alloc _ _).drew)
      have Z0 : ∀ o, (((w.alloc (.cells #[.int .i64 0, .int .i64 0, .int .i64 0] 28)).alloc (.cells #[.int .i64 g, .int .i64 r, .int .i64 p] 28)).drew).frozen? ⟨w.heap.size, o, none⟩ = false := fun o => (((Grew.refl _).alloc _ _).drew).frozen (frozen_new w _ _ o)
      have B0 : Below w.heap.size w (((w.alloc (.cells #[.int .i64 0, .int .i64 0, .int .i64 0] 28)).alloc (.cells #[.int .i64 g, .int .i64 r, .int .i64 p] 28)).drew) := ((((Grew.refl w).alloc _ _).alloc _ _).drew).below
      have S0 : w.heap.size < (((w.alloc (.cells #[.int .i64 0, .int .i64 0, .int .i64 0] 28)).alloc (.cells #[.int .i64 g, .int .i64 r, .int .i64 p] 28)).drew).heap.size := by simp; omega
      generalize ((w.alloc (.cells #[.int .i64 0, .int .i64 0, .int .i64 0] 28)).alloc (.cells #[.int .i64 g, .int .i64 r, .int .i64 p] 28)).drew = V at C0 D0 Z0 B0 S0 ⊢
      have BL := B0.size
      have c0 := C0.g
      have c1 := C0.r
      have c2 := C0.p
      dsimp only at c0 c1 c2
      have HP : Hid (∀ W, _) := fun W => refput_any ⟨g, r, p⟩ W
      rcases isC_cases hr.out with ⟨hk, hp, e1, e2⟩ | ⟨hk, hp, e1, e2⟩ | ⟨hk, e1, e2⟩
      · rw [hk, show putV ⟨g, r, p⟩ = s by unfold putV; rw [if_pos hk, hp]] at HP
        unfold Cr.val at HP
        dsimp only at HP
        clear hp
        go_wp2_with (first
          | (go_at_call 11; go_fit (HP.out _); rintro e W1 ⟨rfl, K0⟩; have K1 := K0.below; have C1 := C0.below K1; have D1 := D0.below K1; have x0 := C1.g; have x1 := C1.r; have x2 := C1.p; have y0 := D1.g; have y1 := D1.r; have y2 := D1.p; have v0 := below_frozen K1 S0 (Z0 0); have v1 := below_frozen K1 S0 (Z0 1); have v2 := below_frozen K1 S0 (Z0 2); have K2 := B0.trans (K1.mono BL); dsimp only [noC] at x0 x1 x2 y0 y1 y2; clear K0 K1 C1 D1)
          | fail)
        refine bodyPost_ret (v := .tuple #[.agg #[.int .i64 g, .int .i64 r, .int .i64 p], .bool true]) (by simp [results, Try.results13, go_sem, y0, y1, y2]) rfl ⟨?_, ?_⟩
        · rw [e1, e2]; rfl
        · exact ((K2.setCell (p := ⟨w.heap.size, 0, none⟩) (Nat.le_refl _) _).setCell (p := ⟨w.heap.size, 1, none⟩) (Nat.le_refl _) _).setCell (p := ⟨w.heap.size, 2, none⟩) (Nat.le_refl _) _
      · have hne : ((putB ⟨g, r, p⟩).toList == s.toList) = false := bytes_ne hp
        rw [hk, show putV ⟨g, r, p⟩ = putB ⟨g, r, p⟩ by unfold putV; rw [if_pos hk]] at HP
        generalize putB ⟨g, r, p⟩ = q at *
        unfold Cr.val at HP
        dsimp only at HP
        clear hk
        go_wp2_with (first
          | (go_at_call 11; go_fit (HP.out _); rintro e W1 ⟨rfl, K0⟩; have K1 := K0.below; have C1 := C0.below K1; have D1 := D0.below K1; have x0 := C1.g; have x1 := C1.r; have x2 := C1.p; have y0 := D1.g; have y1 := D1.r; have y2 := D1.p; have v0 := below_frozen K1 S0 (Z0 0); have v1 := below_frozen K1 S0 (Z0 1); have v2 := below_frozen K1 S0 (Z0 2); have K2 := B0.trans (K1.mono BL); dsimp only [noC] at x0 x1 x2 y0 y1 y2; clear K0 K1 C1 D1)
          | fail)
        refine bodyPost_ret (v := .tuple #[.agg #[.int .i64 0, .int .i64 0, .int .i64 0], .bool false]) (by simp [results, Try.results13, go_sem, y0, y1, y2]) rfl ⟨?_, ?_⟩
        · rw [e1, e2]; rfl
        · exact ((K2.setCell (p := ⟨w.heap.size, 0, none⟩) (Nat.le_refl _) _).setCell (p := ⟨w.heap.size, 1, none⟩) (Nat.le_refl _) _).setCell (p := ⟨w.heap.size, 2, none⟩) (Nat.le_refl _) _
      · rw [hk, show putV ⟨g, r, p⟩ = ByteArray.empty by unfold putV; rw [if_neg (by rw [hk]; decide)]] at HP
        unfold Cr.val at HP
        dsimp only at HP
        clear hk
        go_wp2_with (first
          | (go_at_call 11; go_fit (HP.out _); rintro e W1 ⟨rfl, K0⟩; have K1 := K0.below; have C1 := C0.below K1; have D1 := D0.below K1; have x0 := C1.g; have x1 := C1.r; have x2 := C1.p; have y0 := D1.g; have y1 := D1.r; have y2 := D1.p; have v0 := below_frozen K1 S0 (Z0 0); have v1 := below_frozen K1 S0 (Z0 1); have v2 := below_frozen K1 S0 (Z0 2); have K2 := B0.trans (K1.mono BL); dsimp only [noC] at x0 x1 x2 y0 y1 y2; clear K0 K1 C1 D1)
          | fail)
        refine bodyPost_ret (v := .tuple #[.agg #[.int .i64 0, .int .i64 0, .int .i64 0], .bool false]) (by simp [results, Try.results13, go_sem, y0, y1, y2]) rfl ⟨?_, ?_⟩
        · rw [e1, e2]; rfl
        · exact ((K2.setCell (p := ⟨w.heap.size, 0, none⟩) (Nat.le_refl _) _).setCell (p := ⟨w.heap.size, 1, none⟩) (Nat.le_refl _) _).setCell (p := ⟨w.heap.size, 2, none⟩) (Nat.le_refl _) _
  · have hi : ¬ (s.size : Int) = 128 := by omega
    have e := none_is s h
    rw [get_no e, e]
    unfold noC Cr.val
    dsimp only
    clear e h
    go_enter Try.func13, Try.ntmps13
    go_wp2
    refine bodyPost_ret (v := .tuple #[.agg #[.int .i64 0, .int .i64 0, .int .i64 0], .bool false]) (by simp [results, Try.results13, go_sem]) rfl ⟨rfl, ?_⟩
    exact ((Grew.refl w).alloc _ _).below
end Go.Proofs.Ytehlbcjfbofnnaa
