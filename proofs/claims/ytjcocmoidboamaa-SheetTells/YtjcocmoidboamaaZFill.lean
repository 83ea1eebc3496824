/-
  Package sheet's filled: bytes, and zeros up to a page's end; strings.Clone.
-/
import Derived.Test.YtjcocmoidboamaaZByte
import Derived.Test.YtjcocmoidboamaaZLay
import Derived.Test.YtjcocmoidboamaaSLate
namespace Go.Proofs.Ytjcocmoidboamaa
open Go Go.RowKit Go.Shelf

theorem row_below {w w' : World} {B n k : Nat} {E : TypeId} {v : Value} {xs : List Value} (h : w.ownsRow B E k v n xs) (g : Below w.heap.size w w') : w'.ownsRow B E k v n xs :=
  row_but h (Go.Proofs.Ytjcocmoidboamaa.Below.but (S := fun _ => False) g) (fun _ _ e => e)
theorem clone_num : Try.laysClone_ren.f 316 = 54 := by kernel_rfl
theorem sclone_any (s : ByteArray) (hs : s.size ≤ 281474976710656) (w : World) : Calls Try.prog 54 #[.string s] w fun e w' => e = .returned (.string s) ∧ Below w.heap.size w w' := by
  have h := Any.stringslite_Clone Try.laysClone s w hs
  rw [clone_num] at h
  exact h
theorem strclone_any (s : ByteArray) (hs : s.size ≤ 281474976710656) (w : World) : Calls Try.prog 47 #[.string s] w fun e w' => e = .returned (.string s) ∧ Below w.heap.size w w' := by
  go_enter Try.func47, Try.ntmps47
  go_wp2_with (first | (go_at_call 54; go_fit (sclone_any s hs _); rintro e w1 ⟨rfl, B⟩) | fail)
  go_ret
  exact ⟨rfl, B⟩
set_option maxHeartbeats 1000000 in
theorem filled_any (w0 w : World) (v : Value) (L : List UInt8) (h : Bt w0 w v L) (h0 : L ≠ []) (hL : L.length ≤ 128) :
    Calls Try.prog 32 #[v] w fun e w' => e = .returned (.string (txt (padL L))) ∧ Below w.heap.size w w' := by
  obtain ⟨g, cap, rfl⟩ : ∃ g cap, v = .slice (some ⟨g, 0, none⟩) L.length cap := by
    rcases h.row.2 with ⟨_, e⟩ | ⟨g, cap, cur, e, _⟩
    · exact absurd (List.eq_nil_of_length_eq_zero e) h0
    · exact ⟨g, cap, e⟩
  have hconv : Hid (∀ W, Below w.heap.size w W → (convert 53 9 (.slice (some ⟨g, 0, none⟩) L.length cap)).run Try.prog W = .ok (.string (txt L)) W) := fun W hB => conv_own (row_below h.row hB) rfl
  have hZ : Hid (∀ W, Calls Try.prog 45 #[.string ⟨#[0]⟩, .int .i64 (IntKind.i64.wrap (128 - (L.length : Int)))] W fun e w' => e = .returned (.string (txt (List.replicate (128 - L.length) 0))) ∧ Below W.heap.size W w') := fun W => by
    have := repeat_any (128 - L.length) (by omega) W
    rw [show ((128 - L.length : Nat) : Int) = IntKind.i64.wrap (128 - (L.length : Int)) by rw [IntKind.wrap_i64]; omega] at this
    exact this
  have hp : Hid (txt L ++ txt (List.replicate (128 - L.length) 0) = txt (padL L)) := txt_append _ _
  have s1 := txt_size L
  have s2 : (txt (List.replicate (128 - L.length) 0)).size = 128 - L.length := by rw [txt_size, List.length_replicate]
  have hb : ¬ 9223372036854775807 < (txt L).size + (txt (List.replicate (128 - L.length) 0)).size := by rw [s1, s2]; omega
  clear s2 s1 h h0
  generalize txt (List.replicate (128 - L.length) 0) = Z at *
  generalize txt L = X at *
  go_enter Try.func32, Try.ntmps32
  go_upto_region 1 with (fail)
  refine lat_region (A := (fun W => Below w.heap.size w W)) (S := (fun _ => True)) [] (by kernel_rfl) ?_ (fun hH0 => ?_)
  · exact ⟨(Below.refl _ w).drew, trivial⟩
  refine lat_free (i := 0) (oi := { dst := some 3, op := Go.Op.move (Go.Operand.tmp 0), type := 53, pos := "sheet.go:190", after := #[], guard := none }) (v := ?vfi1) rfl (by kernel_rfl) (by kernel_rfl) (by kernel_rfl) (by kernel_rfl) (fun _ _ _ h => h) (Or.inl ⟨by rfl, ?hyfi1⟩) ⟨hH0.1, fun _ => hH0.2⟩ ?restfi1
  case hyfi1 => (intro w hAw; have hc := hconv.out _ hAw; go_simp; try (with_reducible rfl))
  simp only [Act.put, List.setIfInBounds_toArray, List.set_cons_zero, List.set_cons_succ]
  refine lat_free (i := 1) (oi := { dst := some 4, op := Go.Op.convert 53 9 (Go.Operand.tmp 3), type := 9, pos := "sheet.go:190", after := #[{ on := 0, ground := Go.Ground.data }], guard := none }) (v := ?vfi2) rfl (by kernel_rfl) (by kernel_rfl) (by kernel_rfl) (by kernel_rfl) (fun _ _ _ h => h) (Or.inl ⟨by rfl, ?hyfi2⟩) ⟨hH0.1, fun _ => hH0.2⟩ ?restfi2
  case hyfi2 => (intro w hAw; have hc := hconv.out _ hAw; go_simp; try (with_reducible rfl))
  simp only [Act.put, List.setIfInBounds_toArray, List.set_cons_zero, List.set_cons_succ]
  refine lat_free (i := 2) (oi := { dst := some 5, op := Go.Op.move (Go.Operand.tmp 0), type := 53, pos := "sheet.go:190", after := #[], guard := none }) (v := ?vfi3) rfl (by kernel_rfl) (by kernel_rfl) (by kernel_rfl) (by kernel_rfl) (fun _ _ _ h => h) (Or.inl ⟨by rfl, ?hyfi3⟩) ⟨hH0.1, fun _ => hH0.2⟩ ?restfi3
  case hyfi3 => (intro w hAw; have hc := hconv.out _ hAw; go_simp; try (with_reducible rfl))
  simp only [Act.put, List.setIfInBounds_toArray, List.set_cons_zero, List.set_cons_succ]
  refine lat_free (i := 3) (oi := { dst := some 6, op := Go.Op.call { callee := Go.Callee.builtin Go.Builtin.len, args := #[Go.Operand.tmp 5], argTypes := #[53] }, type := 3, pos := "sheet.go:190", after := #[{ on := 2, ground := Go.Ground.data }], guard := none }) (v := ?vfi4) rfl (by kernel_rfl) (by kernel_rfl) (by kernel_rfl) (by kernel_rfl) (fun _ _ _ h => h) (Or.inl ⟨by rfl, ?hyfi4⟩) ⟨hH0.1, fun _ => hH0.2⟩ ?restfi4
  case hyfi4 => (intro w hAw; have hc := hconv.out _ hAw; go_simp; try (with_reducible rfl))
  simp only [Act.put, List.setIfInBounds_toArray, List.set_cons_zero, List.set_cons_succ]
  refine lat_free (i := 4) (oi := { dst := some 7, op := Go.Op.binOp Go.BinOp.sub 3 (Go.Operand.const (Go.Value.int Go.IntKind.i64 128)) (Go.Operand.tmp 6) 3, type := 3, pos := "sheet.go:190", after := #[{ on := 3, ground := Go.Ground.data }], guard := none }) (v := ?vfi5) rfl (by kernel_rfl) (by kernel_rfl) (by kernel_rfl) (by kernel_rfl) (fun _ _ _ h => h) (Or.inl ⟨by rfl, ?hyfi5⟩) ⟨hH0.1, fun _ => hH0.2⟩ ?restfi5
  case hyfi5 => (intro w hAw; have hc := hconv.out _ hAw; go_simp; try (with_reducible rfl))
  simp only [Act.put, List.setIfInBounds_toArray, List.set_cons_zero, List.set_cons_succ]
  refine lat_one (i := 5) (by kernel_rfl) ?_
  refine lat_run (o := { dst := some 8, op := Go.Op.call { callee := Go.Callee.value (Go.Operand.func 45), args := #[Go.Operand.const (Go.Value.string { data := #[0] }), Go.Operand.tmp 7], argTypes := #[9, 3] }, type := 9, pos := "sheet.go:190", after := #[{ on := 4, ground := Go.Ground.data }], guard := none }) rfl (fun K hK => ?_)
  go_simp
  go_wp2_with (first
    | (go_at_call 45; go_fit (hZ.out _); rintro e w5 ⟨rfl, B5⟩)
    | fail)
  refine hK.out _ _ (⟨hH0.1.trans (B5.mono hH0.1.size), trivial⟩) (fun hHfi6 => ?_)
  clear hK K
  refine lat_free (i := 6) (oi := { dst := some 9, op := Go.Op.binOp Go.BinOp.add 9 (Go.Operand.tmp 4) (Go.Operand.tmp 8) 9, type := 9, pos := "sheet.go:190", after := #[{ on := 1, ground := Go.Ground.data }, { on := 5, ground := Go.Ground.data }], guard := none }) (v := ?vfi7) rfl (by kernel_rfl) (by kernel_rfl) (by kernel_rfl) (by kernel_rfl) (fun _ _ _ h => h) (Or.inl ⟨by rfl, ?hyfi7⟩) ⟨hHfi6.1, fun _ => hHfi6.2⟩ ?restfi7
  case hyfi7 => (intro w hAw; have hc := hconv.out _ hAw; go_simp; try (with_reducible rfl))
  simp only [Act.put, List.setIfInBounds_toArray, List.set_cons_zero, List.set_cons_succ]
  refine lat_free (i := 7) (oi := { dst := some 2, op := Go.Op.assign (Go.Operand.tmp 9), type := 9, pos := "sheet.go:190", after := #[{ on := 6, ground := Go.Ground.data }, { on := 5, ground := Go.Ground.chain }, { on := 0, ground := Go.Ground.phase }, { on := 1, ground := Go.Ground.phase }, { on := 2, ground := Go.Ground.phase }, { on := 3, ground := Go.Ground.phase }, { on := 4, ground := Go.Ground.phase }, { on := 5, ground := Go.Ground.phase }, { on := 6, ground := Go.Ground.phase }], guard := none }) (v := ?vfi8) rfl (by kernel_rfl) (by kernel_rfl) (by kernel_rfl) (by kernel_rfl) (fun _ _ _ h => h) (Or.inl ⟨by rfl, ?hyfi8⟩) ⟨hHfi6.1, fun _ => hHfi6.2⟩ ?restfi8
  case hyfi8 => (intro w hAw; have hc := hconv.out _ hAw; go_simp; try (with_reducible rfl))
  simp only [Act.put, List.setIfInBounds_toArray, List.set_cons_zero, List.set_cons_succ]
  refine lat_done (by kernel_rfl) ?_ _
  have BE := hHfi6.1
  go_wp2_with (fail)
  go_ret
  exact ⟨by rw [hp.out]; rfl, BE⟩
end Go.Proofs.Ytjcocmoidboamaa
