/-
  A platter and, in a block of its own, the cuts that a law puts together; what Fail leaves where each store comes wholly, or not at all.
-/
import Derived.Test.YtjmblichomchpabTAlive
import Derived.Test.YtjmblichomchpabTData
namespace Go.Proofs.Ytjmblichomchpab
open Go Go.RowKit

/-- A platter, and a slice of ints that the law owns, in no block of the platter's. -/
def Kp (w0 w : World) (b : Nat) (P : Pl) (v : Value) (n : Nat) (xs : List Value) : Prop :=
  ∃ F : Nat → Prop, Has w0 w b F P ∧ w.ownsRow w0.heap.size 3 1 v n xs ∧ (∀ i, v.ownBlock = some i → ¬ F i) ∧ Below w0.heap.size w0 w
section
variable {w0 w w' : World} {b n : Nat} {P P' : Pl} {v : Value} {xs : List Value}
theorem kp_below (h : Kp w0 w b P v n xs) : Below w0.heap.size w0 w := by
  obtain ⟨F, h1, h2, h3, h4⟩ := h
  exact h4
theorem kp_row (h : Kp w0 w b P v n xs) : w.ownsRow w0.heap.size 3 1 v n xs := by
  obtain ⟨F, h1, h2, h3, h4⟩ := h
  exact h2
theorem kp_new (h : One w0 w b P) : Kp w0 w b P (.slice none 0 0) 0 [] := by
  obtain ⟨⟨F, hF⟩, hB⟩ := h
  exact ⟨F, hF, World.ownsRow_nil _ _ _ _, (fun i e => by cases e), hB⟩
theorem kp_grew (h : Kp w0 w b P v n xs) (g : Grew w w') : Kp w0 w' b P v n xs := by
  obtain ⟨F, h1, h2, h3, h4⟩ := h
  exact ⟨F, h1.but (G := fun _ => False) (Grew.but g) (fun _ _ e => e), row_grew h2 g, h3, h4.trans (g.below.mono h4.size)⟩
theorem kp_store (h : Kp w0 w b P v n xs) {m : Int} {x : ByteArray} {r : Int} (s : storeP P m x = (r, P')) (hm : P.float.length < 1000000) :
    Calls Try.prog 8 #[.pointer (some ⟨b, 0, none⟩), .int .i64 m, .string x] w fun e w' => e = .returned (.int .i64 r) ∧ Kp w0 w' b P' v n xs := by
  obtain ⟨F, h1, h2, h3, h4⟩ := h
  refine (has_store h1 s hm).mono fun e w' ⟨e1, F', k1, k2, k3⟩ => ⟨e1, F', k1, row_but h2 k2 h3, fun i e f => ?_, h4.trans (k2.below (fun i e => (h1.2 i e).1) h4.size)⟩
  rcases k3 i f with f | f
  · exact h3 i e f
  · exact absurd (h2.lt i e).2 (Nat.not_lt.2 f)
theorem kp_app {v' : Value} {m : Nat} {ys : List Value} (h : Kp w0 w b P v n xs) (h2 : w'.ownsRow w0.heap.size 3 1 v' m ys) (hg : w.grownBy w' v.ownBlock) (ho : v'.ownBlock = v.ownBlock ∨ v'.ownBlock = some w.heap.size) : Kp w0 w' b P v' m ys := by
  obtain ⟨F, h1, h2', h3, h4⟩ := h
  have hB : But (fun i => v.ownBlock = some i) w w' := ⟨hg.os, hg.tape, hg.output, hg.size, fun i hi hn => hg.block i hi (fun e => hn e.symm)⟩
  refine ⟨F, h1.but hB (fun i f e => h3 i e f), h2, fun i e f => ?_, h4.trans (hB.below (fun i e => (h2'.lt i e).1) h4.size)⟩
  rcases ho with ho | ho
  · exact h3 i (ho ▸ e) f
  · rw [ho] at e
    cases e
    exact absurd (h1.2 _ f).2 (Nat.lt_irrefl _)
theorem kp_fail {a : Option Addr} {c : Nat} {l : List Int} (h : Kp w0 w b P (.slice a n c) n (l.map (Value.int .i64))) {r : Int} (s : failP P l = (r, P')) (hi : ∀ x ∈ l, inF x) :
    Calls Try.prog 10 #[.pointer (some ⟨b, 0, none⟩), .slice a n c] w fun e w' => e = .returned (.int .i64 r) ∧ One w0 w' b P' := by
  obtain ⟨F, h1, h2, h3, h4⟩ := h
  have hn : l.length = n := by simpa using h2.1
  have hc : Cuts w a l := by
    refine ⟨hi, ?_⟩
    rcases h2.2 with ⟨e, e0⟩ | ⟨g, cap, cur, e, _⟩
    · left; rw [e0] at hn; exact List.eq_nil_of_length_eq_zero hn
    · right
      cases e
      refine ⟨g, 0, rfl, fun i hi => ?_⟩
      rw [Nat.zero_add, h2.cellAt i (by omega)]
      simp [List.getD, hi]
  exact (has_fail h1 s hc hn (fun z off e f => h3 z (by rw [e]; rfl) f)).mono fun e w' ⟨e1, e2⟩ => ⟨e1, e2.one h1 h4⟩
end

/-! ### Each store wholly, or not at all -/
def cutV (k : Bool) : Int := if k = true then 1000 else -5
theorem cutV_in (L : List Bool) : ∀ x ∈ L.map cutV, inF x := by
  intro x hx
  obtain ⟨k, _, rfl⟩ := List.mem_map.1 hx
  cases k <;> exact ⟨by decide, by decide⟩
def cnt : List Bool → Nat
  | [] => 0
  | k :: r => (if k = true then 1 else 0) + cnt r
theorem cnt_append (l r : List Bool) : cnt (l ++ r) = cnt l + cnt r := by
  induction l with
  | nil => simp [cnt]
  | cons k l ih => rw [List.cons_append, cnt, cnt, ih]; omega
theorem cnt_le (l : List Bool) : cnt l ≤ l.length := by
  induction l with
  | nil => simp [cnt]
  | cons k l ih => rw [cnt, List.length_cons]; split <;> omega
theorem cnt_take (L : List Bool) (k : Nat) (h : k < L.length) : cnt (L.take (k + 1)) = cnt (L.take k) + (if L.getD k false = true then 1 else 0) := by
  rw [List.take_add_one, List.getElem?_eq_getElem h, cnt_append]
  simp [cnt, List.getD, List.getElem?_eq_getElem h]
theorem cutN_keep (L : List Bool) (k : Nat) (h : k < L.length) : cutN (L.map cutV) k = if L.getD k false = true then 128 else 0 := by
  unfold cutN
  rw [List.length_map, if_pos h]
  simp only [List.getD, List.getElem?_map, List.getElem?_eq_getElem h, Option.map_some, Option.getD_some]
  cases L[k] <;> rfl
theorem tear_whole {old new : ByteArray} (h : old.size = 128) (g : new.size = 128) : tear old new 128 = new := by
  have h' : old.data.toList.length = 128 := h
  have g' : new.data.toList.length = 128 := g
  unfold tear
  rw [List.take_of_length_le (Nat.le_of_eq g'), List.drop_of_length_le (Nat.le_of_eq h'), List.append_nil]
theorem tear_zero (old new : ByteArray) : tear old new 0 = old := by
  unfold tear
  rw [List.take_zero, List.drop_zero, List.nil_append]
theorem pg_set (L : List ByteArray) (i j : Nat) (x : ByteArray) (hi : i < L.length) : pg (L.set i x) j = if j = i then x else pg L j := by
  unfold pg List.getD
  rw [List.getElem?_set]
  by_cases e : i = j
  · subst e; simp [hi]
  · have : ¬ j = i := fun q => e q.symm
    simp [e, this]
theorem keep_fail (X : ByteArray) (hX : X.size = 128) (L : List Bool) (hL : L.length ≤ 20) : ∀ (d i n : Nat) (Ls : List ByteArray), i + d = L.length → Ls.length = 20 → (∀ j, i ≤ j → j < 20 → pg Ls j = zerosB 128) →
    ∃ R, failL (L.map cutV) i ((List.range' i d).map fun j => ⟨j, X⟩) ((n : Int), Ls) = (((n + cnt (L.drop i) : Nat) : Int), R) ∧ R.length = 20 ∧ ∀ j, j < L.length → pg R j = if j < i then pg Ls j else if L.getD j false = true then X else zerosB 128
  | 0, i, n, Ls, hd, hl, _ => ⟨Ls, by rw [List.drop_of_length_le (by omega)]; rfl, hl, fun j hj => by rw [if_pos (by omega)]⟩
  | d + 1, i, n, Ls, hd, hl, hz => by
    have hi : i < L.length := by omega
    have hzi : (zerosB 128).size = 128 := zerosB_size _
    obtain ⟨T, hT⟩ : ∃ T, T = tear (pg Ls i) X (cutN (L.map cutV) i) := ⟨_, rfl⟩
    have hT2 : T = if L.getD i false = true then X else zerosB 128 := by
      rw [hT, cutN_keep L i hi, hz i (Nat.le_refl _) (by omega)]
      split
      · exact tear_whole hzi hX
      · exact tear_zero _ _
    obtain ⟨R, e1, e2, e3⟩ := keep_fail X hX L hL d (i + 1) (if L.getD i false = true then n + 1 else n) (Ls.set i T) (by omega) (by simpa using hl) (fun j h1 h2 => by rw [pg_set _ _ _ _ (by omega), if_neg (by omega)]; exact hz j (by omega) h2)
    refine ⟨R, ?_, e2, fun j hj => ?_⟩
    · rw [List.range'_succ, List.map_cons, failL]
      have hn : (if 0 < cutN (L.map cutV) i then (n : Int) + 1 else (n : Int)) = ((if L.getD i false = true then n + 1 else n : Nat) : Int) := by
        rw [cutN_keep L i hi]
        split <;> simp
      show failL (L.map cutV) (i + 1) _ (if 0 < cutN (L.map cutV) i then (n : Int) + 1 else (n : Int), Ls.set i (tear (pg Ls i) X (cutN (L.map cutV) i))) = _
      rw [hn, ← hT, e1, List.drop_eq_getElem_cons hi, cnt]
      congr 2
      have : L.getD i false = L[i] := by simp [List.getD, hi]
      rw [this]
      split <;> omega
    · rw [e3 j hj]
      by_cases h1 : j < i
      · rw [if_pos (by omega), if_pos h1, pg_set _ _ _ _ (by omega), if_neg (by omega)]
      · rw [if_neg h1]
        by_cases h2 : j = i
        · subst h2
          rw [if_pos (by omega), pg_set _ _ _ _ (by omega), if_pos rfl, hT2]
        · rw [if_neg (by omega)]
end Go.Proofs.Ytjmblichomchpab
