/-
  strings.Builder as package shelf uses it: what is written is held, one behind the other; what else was there stays.
-/
import Derived.Test.YtbkkhafckkndfaaGreatPk03
import Derived.Test.YtbkkhafckkndfaaGreatPk07
import Derived.Shelf.Strings.BuilderK
namespace Go.Proofs.YtbkkhafckkndfaaGreat
open Go Go.RowKit Go.Shelf

theorem bld_write : Lays.n166 Tryz.prog Tryz.laysRepeat_ren := { Tryz.laysRepeat with }
theorem bld_string : Lays.n169 Tryz.prog Tryz.laysRepeat_ren := { Tryz.laysRepeat with }
theorem bld_num1 : Tryz.laysRepeat_ren.f 166 = 61 := by kernel_rfl
theorem bld_num2 : Tryz.laysRepeat_ren.f 169 = 62 := by kernel_rfl
theorem bld_ty1 : Tryz.laysRepeat_ren.t 72 = 137 := by kernel_rfl
theorem bld_ty2 : Tryz.laysRepeat_ren.t 5 = 5 := by kernel_rfl
/-- A builder at block b that holds a text. -/
def BldAt (w : World) (b : Nat) (s : ByteArray) : Prop := Lib.IsBuilderF 137 5 b b (Lib.byteCells s.data.toList) w
def OfU (w : World) (i : Nat) : Prop := ∃ c fz, w.heap[i]? = some (.cells c 5 fz)
def SetB (b : Nat) (w : World) (i : Nat) : Prop := b ≤ i ∧ (i = b ∨ OfU w i)
theorem BldAt.lt {w : World} {b : Nat} {s : ByteArray} (h : BldAt w b s) : b < w.heap.size := by
  rcases h with h | h <;> exact Lib.BuilderAtF.lt h
theorem BldAt.new (w : World) : BldAt (w.alloc (.cells #[.pointer none, .slice none 0 0] 137)) w.heap.size ByteArray.empty := Lib.IsBuilderF.of (Lib.fresh_isBuilder 137 5 w)
theorem rowF_but {S : Nat → Prop} {w w' : World} {B n k : Nat} {E : TypeId} {v : Value} {xs : List Value} (h : w.ownsRowF B E k v n xs) (g : But S w w') (hS : ∀ i, v.ownBlock = some i → ¬ S i) : w'.ownsRowF B E k v n xs := by
  refine ⟨h.1, ?_⟩
  rcases h.2 with hn | ⟨g0, cap, cur, fz, rfl, hb, hgg, rest⟩
  · exact .inl hn
  · refine .inr ⟨g0, cap, cur, fz, rfl, hb, ?_, rest⟩
    rw [g.block g0 (Array.getElem?_eq_some_iff.1 hgg).1 (hS g0 (by simp [Value.ownBlock]))]
    exact hgg
theorem rowF_u {w : World} {B n : Nat} {v : Value} {xs : List Value} (h : w.ownsRowF B 5 1 v n xs) {i : Nat} (e : v.ownBlock = some i) : OfU w i := by
  rcases h.2 with ⟨rfl, _⟩ | ⟨g0, cap, cur, fz, rfl, hb, hgg, _⟩
  · simp [Value.ownBlock] at e
  · simp [Value.ownBlock] at e
    subst e
    exact ⟨_, _, hgg⟩
theorem BldAt.but {S : Nat → Prop} {w w' : World} {b : Nat} {s : ByteArray} (h : BldAt w b s) (g : But S w w') (hS : ∀ i, S i → i ≠ b ∧ ¬ OfU w i) : BldAt w' b s := by
  have hlt := h.lt
  have go : ∀ p, Lib.BuilderAtF 137 5 b b p (Lib.byteCells s.data.toList) w → Lib.BuilderAtF 137 5 b b p (Lib.byteCells s.data.toList) w' := fun p h => by
    obtain ⟨h1, v, h2, h3, h4⟩ := h
    refine ⟨h1, v, ?_, rowF_but h3 g fun i e hs => (hS i hs).2 (rowF_u h3 e), h4⟩
    rw [g.block b hlt fun e => (hS b e).1 rfl]
    exact h2
  rcases h with h | h
  · exact .inl (go _ h)
  · exact .inr (go _ h)
theorem kept_but {b : Nat} {w w' : World} (hB : Below b w w') (ho : Lib.OthersKept 5 (some b) w w') : But (SetB b w) w w' := by
  refine ⟨hB.os, hB.tape, hB.output, hB.size, fun i hi hn => ?_⟩
  by_cases hlt : i < b
  · exact hB.block i hlt
  · have e : w.heap[i]? = some w.heap[i] := Array.getElem?_eq_getElem hi
    rw [e]
    refine ho i _ e (fun h => hn ⟨by omega, .inl (by simpa using h)⟩) fun c fz h => hn ⟨by omega, .inr ⟨c, fz, by rw [e, h]⟩⟩
theorem cells_app (s t : ByteArray) : Lib.byteCells s.data.toList ++ Lib.strCells t = Lib.byteCells (s ++ t).data.toList := by
  have e : Lib.strCells t = Lib.byteCells t.data.toList := rfl
  rw [e]
  simp [Lib.byteCells]
theorem bwrite_any {w : World} {b : Nat} {s : ByteArray} (t : ByteArray) (h : BldAt w b s) (hs : s.size + t.size ≤ 1000000000) :
    Calls Tryz.prog 61 #[.pointer (some ⟨b, 0, none⟩), .string t] w fun e w' => e = .returned (.tuple #[.int .i64 t.size, .nilIface]) ∧ BldAt w' b (s ++ t) ∧ But (SetB b w) w w' := by
  have hb := h.lt
  have h2 := Any.Builder_WriteString_k bld_write rep_extra b b (Lib.byteCells s.data.toList) t w (by rw [bld_ty1, bld_ty2]; exact h) (by simp [Lib.byteCells]; omega) (by omega)
  rw [bld_num1, bld_ty1, bld_ty2] at h2
  refine h2.mono ?_
  rintro e w' ⟨rfl, h3, hB, ho⟩
  refine ⟨rfl, .inr ?_, kept_but hB ho⟩
  rw [cells_app] at h3
  exact h3
theorem bstring_any {w : World} {b : Nat} {s : ByteArray} (h : BldAt w b s) :
    Calls Tryz.prog 62 #[.pointer (some ⟨b, 0, none⟩)] w fun e w' => e = .returned (.string s) ∧ But (SetB b w) w w' := by
  have hb := h.lt
  have h2 := Any.Builder_String_any_k bld_string rep_extra b b s.data.toList w (by rw [bld_ty1, bld_ty2]; exact h) (by omega)
  rw [bld_num2, bld_ty1, bld_ty2] at h2
  refine h2.mono ?_
  rintro e w' ⟨rfl, h3, hB, ho⟩
  exact ⟨rfl, kept_but hB ho⟩
end Go.Proofs.YtbkkhafckkndfaaGreat
