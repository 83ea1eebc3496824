/-
  Package platter's calls at one platter that a law made (One), each by its end: what is answered, what it is then.
-/
import Derived.Test.YtbkkhafckkndfaaGreatPxTFail
import Derived.Test.YtbkkhafckkndfaaGreatPxTNew
import Derived.Test.YtbkkhafckkndfaaGreatPxTTwin
namespace Go.Proofs.YtbkkhafckkndfaaGreat
open Go Go.RowKit

section
variable {w : World} {base b g1 c1 g2 c2 c3 : Nat} {a3 : Option Addr} {P : Pl}
theorem store_any (h : PAt w base b g1 c1 g2 c2 a3 c3 P) (n : Int) (x : ByteArray) (hm : P.float.length < 1000000) :
    Calls Tryz.prog 8 #[.pointer (some ⟨b, 0, none⟩), .int .i64 n, .string x] w fun e w' => e = .returned (.int .i64 (storeP P n x).1) ∧ Stored w base b g1 c1 g2 c2 a3 (storeP P n x).2 w' := by
  by_cases hc : P.dead = true ∨ ¬ (0 ≤ n ∧ n < P.now.length) ∨ ¬ x.size = 128 ∨ P.left = 0
  · exact store_no h n x hc
  · have h1 : P.dead = false := by
      cases hd : P.dead with
      | false => rfl
      | true => exact absurd (.inl hd) hc
    have h2 : 0 ≤ n ∧ n < P.now.length := Classical.byContradiction fun e => hc (.inr (.inl e))
    have h3 : x.size = 128 := Classical.byContradiction fun e => hc (.inr (.inr (.inl e)))
    have h4 : P.left ≠ 0 := fun e => hc (.inr (.inr (.inr e)))
    obtain ⟨k, rfl⟩ := Int.eq_ofNat_of_zero_le h2.1
    exact store_yes h k x h1 (by omega) h3 h4 hm (by have := h.bg b (.inl rfl); omega)
end

/-- A platter at b that was made behind w0; W0 is as it was. Its blocks are among F. -/
def Has (w0 w : World) (b : Nat) (F : Nat → Prop) (P : Pl) : Prop :=
  (∃ g1 c1 g2 c2 a3 c3, PAt w w0.heap.size b g1 c1 g2 c2 a3 c3 P ∧ ∀ i, foot b g1 g2 a3 i → F i) ∧ ∀ i, F i → w0.heap.size ≤ i ∧ i < w.heap.size
theorem Has.but {w0 w w' : World} {b : Nat} {F G : Nat → Prop} {P : Pl} (h : Has w0 w b F P) (g : But G w w') (hd : ∀ i, F i → ¬ G i) : Has w0 w' b F P := by
  obtain ⟨⟨g1, c1, g2, c2, a3, c3, hP, hF⟩, hl⟩ := h
  exact ⟨⟨g1, c1, g2, c2, a3, c3, hP.but g (fun i e => hd i (hF i e)), hF⟩, fun i e => ⟨(hl i e).1, Nat.lt_of_lt_of_le (hl i e).2 g.size⟩⟩
/-- What a call leaves of the platter that it writes. -/
def Did (w0 w : World) (b : Nat) (F : Nat → Prop) (P' : Pl) (w' : World) : Prop := ∃ F', Has w0 w' b F' P' ∧ But F w w' ∧ ∀ i, F' i → F i ∨ w.heap.size ≤ i
theorem did_of {w0 w w' : World} {b g1 c1 g2 c2 : Nat} {a3 : Option Addr} {F : Nat → Prop} {P' : Pl} (hF : ∀ i, foot b g1 g2 a3 i → F i) (_hl : ∀ i, F i → w0.heap.size ≤ i ∧ i < w.heap.size) (h : Stored w w0.heap.size b g1 c1 g2 c2 a3 P' w') : Did w0 w b F P' w' := by
  obtain ⟨a4, c4, hP, hB, ho⟩ := h
  refine ⟨foot b g1 g2 a4, ⟨⟨g1, c1, g2, c2, a4, c4, hP, fun _ e => e⟩, hP.bg⟩, hB.more fun i _ e => hF i e, ?_⟩
  rintro i (e | e | e | e)
  · exact .inl (hF i (.inl e))
  · exact .inl (hF i (.inr (.inl e)))
  · exact .inl (hF i (.inr (.inr (.inl e))))
  · rcases ho i e with e | e
    · exact .inl (hF i (.inr (.inr (.inr e))))
    · exact .inr e

section
variable {w0 w : World} {b : Nat} {F : Nat → Prop} {P P' : Pl}
theorem Has.ok (h : Has w0 w b F P) : P.ok := by
  obtain ⟨⟨_, _, _, _, _, _, hP, _⟩, _⟩ := h
  exact hP.ok
theorem has_store (h : Has w0 w b F P) {n : Int} {x : ByteArray} {r : Int} (s : storeP P n x = (r, P')) (hm : P.float.length < 1000000) :
    Calls Tryz.prog 8 #[.pointer (some ⟨b, 0, none⟩), .int .i64 n, .string x] w fun e w' => e = .returned (.int .i64 r) ∧ Did w0 w b F P' w' := by
  obtain ⟨⟨g1, c1, g2, c2, a3, c3, hP, hF⟩, hl⟩ := h
  refine (store_any hP n x hm).mono fun e w' ⟨e1, e2⟩ => ?_
  rw [s] at e1 e2
  exact ⟨e1, did_of hF hl e2⟩
theorem has_load (h : Has w0 w b F P) {n : Int} {x : ByteArray} {r : Int} (s : loadP P n = (x, r)) :
    Calls Tryz.prog 11 #[.pointer (some ⟨b, 0, none⟩), .int .i64 n] w fun e w' => e = .returned (.tuple #[.string x, .int .i64 r]) ∧ w' = w := by
  obtain ⟨⟨g1, c1, g2, c2, a3, c3, hP, hF⟩, hl⟩ := h
  refine (load_any hP n).mono fun e w' ⟨e1, e2⟩ => ?_
  rw [s] at e1
  exact ⟨e1, e2⟩
theorem has_halted (h : Has w0 w b F P) {d : Bool} (s : P.dead = d) :
    Calls Tryz.prog 18 #[.pointer (some ⟨b, 0, none⟩)] w fun e w' => e = .returned (.bool d) ∧ w' = w := by
  obtain ⟨⟨g1, c1, g2, c2, a3, c3, hP, hF⟩, hl⟩ := h
  subst s
  exact halted_any hP
/-- A new platter, in blocks of its own. -/
def Made (w0 w : World) (P : Pl) (e : Ending) (w' : World) : Prop := ∃ b F, e = .returned (.pointer (some ⟨b, 0, none⟩)) ∧ Has w0 w' b F P ∧ Below w.heap.size w w' ∧ ∀ i, F i → w.heap.size ≤ i
theorem has_new (hw : w0.heap.size ≤ w.heap.size) {k : Nat} (h0 : 0 < k) (h1 : k ≤ 200) : Calls Tryz.prog 5 #[.int .i64 (k : Int)] w fun e w' => Made w0 w (newP k) e w' := by
  refine (new_any w k h0 h1).mono fun e w' ⟨b, g1, g2, e1, hP, hG⟩ => ?_
  refine ⟨b, foot b g1 g2 none, e1, ⟨⟨g1, k, g2, k, none, 0, ⟨Nat.le_trans hw hP.lb, hP.blk, row_base hP.r1 hw, row_base hP.r2 hw, row_base hP.r3 hw, hP.ap, hP.ok⟩, fun _ e => e⟩, fun i e => ⟨Nat.le_trans hw (hP.bg i e).1, (hP.bg i e).2⟩⟩, hG.below, fun i e => (hP.bg i e).1⟩
end

/-! ### One platter -/
def One (w0 w : World) (b : Nat) (P : Pl) : Prop := (∃ F, Has w0 w b F P) ∧ Below w0.heap.size w0 w
section
variable {w0 w w' : World} {b : Nat} {F : Nat → Prop} {P P' : Pl}
theorem One.ok (h : One w0 w b P) : P.ok := by
  obtain ⟨⟨F, hF⟩, _⟩ := h
  exact hF.ok
theorem Did.one (h : Did w0 w b F P' w') (hH : Has w0 w b F P) (hB : Below w0.heap.size w0 w) : One w0 w' b P' := by
  obtain ⟨F', h1, h2, _⟩ := h
  exact ⟨⟨F', h1⟩, hB.trans (h2.below (fun i e => (hH.2 i e).1) hB.size)⟩
theorem One.grew (h : One w0 w b P) (g : Grew w w') : One w0 w' b P := by
  obtain ⟨⟨F, hF⟩, hB⟩ := h
  exact ⟨⟨F, hF.but (G := fun _ => False) (Grew.but g) (fun _ _ e => e)⟩, hB.trans (g.below.mono hB.size)⟩
theorem one_store (h : One w0 w b P) {n : Int} {x : ByteArray} {r : Int} (s : storeP P n x = (r, P')) (hm : P.float.length < 1000000) :
    Calls Tryz.prog 8 #[.pointer (some ⟨b, 0, none⟩), .int .i64 n, .string x] w fun e w' => e = .returned (.int .i64 r) ∧ One w0 w' b P' := by
  obtain ⟨⟨F, hF⟩, hB⟩ := h
  exact (has_store hF s hm).mono fun e w' ⟨e1, e2⟩ => ⟨e1, e2.one hF hB⟩
theorem cuts_new (w : World) (cuts : List Int) (hi : ∀ x ∈ cuts, inF x) (cs : Array Value) (hcs : cs = (cuts.map (Value.int .i64)).toArray) : Cuts (w.alloc (.cells cs 3)) (some ⟨w.heap.size, 0, none⟩) cuts := by
  subst hcs
  refine ⟨hi, .inr ⟨_, 0, rfl, fun i hi => ?_⟩⟩
  rw [cell_of_row _ _ _ _ _ _ (heap_alloc_new w _), Nat.zero_add]
  simp [hi, List.getD]
theorem one_load (h : One w0 w b P) {n : Int} {x : ByteArray} {r : Int} (s : loadP P n = (x, r)) :
    Calls Tryz.prog 11 #[.pointer (some ⟨b, 0, none⟩), .int .i64 n] w fun e w' => e = .returned (.tuple #[.string x, .int .i64 r]) ∧ w' = w := by
  obtain ⟨⟨F, hF⟩, hB⟩ := h
  exact has_load hF s
theorem one_halted (h : One w0 w b P) {d : Bool} (s : P.dead = d) :
    Calls Tryz.prog 18 #[.pointer (some ⟨b, 0, none⟩)] w fun e w' => e = .returned (.bool d) ∧ w' = w := by
  obtain ⟨⟨F, hF⟩, hB⟩ := h
  exact has_halted hF s
theorem one_new (hB : Below w0.heap.size w0 w) {k : Nat} (h0 : 0 < k) (h1 : k ≤ 200) : Calls Tryz.prog 5 #[.int .i64 (k : Int)] w fun e w' => ∃ b, e = .returned (.pointer (some ⟨b, 0, none⟩)) ∧ One w0 w' b (newP k) := by
  refine (has_new (w0 := w0) hB.size h0 h1).mono fun e w' ⟨b, F, e1, e2, e3, e4⟩ => ⟨b, e1, ⟨F, e2⟩, hB.trans (e3.mono hB.size)⟩
end
end Go.Proofs.YtbkkhafckkndfaaGreat
