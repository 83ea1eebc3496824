/-
  The statements' own first look ('alive' of stage 9's laws): it returns true; what was there stays.
-/
import Derived.Test.YtflffgjldoipfaaPSame
namespace Go.Proofs.Ytflffgjldoipfaa
open Go.RowKit

theorem own_ints {w : World} {B n : Nat} {E : TypeId} {v : Value} {l : List Int} (h : w.ownsRow B E 1 v n (l.map (Value.int .i64))) : ∃ a cap, v = .slice a n cap ∧ IntsAt w a l := by
  have hl : l.length = n := by have := h.1; simpa using this
  rcases h.2 with ⟨rfl, h0⟩ | ⟨g, cap, cur, rfl, hb, hg, _⟩
  · exact ⟨none, 0, by rw [h0], .inl (List.eq_nil_of_length_eq_zero (by omega))⟩
  · refine ⟨_, cap, rfl, .inr ⟨g, 0, rfl, fun i hi => ?_⟩⟩
    rw [Nat.zero_add, h.cellAt i (by omega)]
    simp [List.getD, hi]
theorem own_pairs {w : World} {B n : Nat} {E : TypeId} {v : Value} {F : List (Nat × Nat)} (h : w.ownsRow B E 2 v n (F.flatMap encP)) (hl : F.length = n) : ∃ a cap, v = .slice a n cap ∧ PairsAt w a (F.map toI) := by
  rcases h.2 with ⟨rfl, h0⟩ | ⟨g, cap, cur, rfl, hb, hg, _⟩
  · exact ⟨none, 0, by rw [h0], .inl (by rw [List.eq_nil_of_length_eq_zero (by omega : F.length = 0)]; rfl)⟩
  · refine ⟨_, cap, rfl, .inr ⟨g, 0, rfl, fun i hi => ?_⟩⟩
    have hi : i < F.length := by simpa using hi
    have e : ∀ c, c < 2 → (F.flatMap encP)[i * 2 + c]? = (encP F[i])[c]? := by
      intro c hc
      rw [← flat_pairs, Array.getElem?_toList]
      have lt : i * 2 + c < F.toArray.size * 2 := by simp; omega
      rw [Array.getElem?_eq_getElem (by simp; omega)]
      have h1 := Go.Sort.get_flatK encP 2 F.toArray (i * 2 + c) lt
      rw [getElem!_pos _ _ (by simp; omega)] at h1
      rw [h1, show (i * 2 + c) / 2 = i by omega, show (i * 2 + c) % 2 = c by omega]
      match c, hc with
      | 0, _ => simp [encP, hi]
      | 1, _ => simp [encP, hi]
    have e0 := e 0 (by omega)
    have e1 := e 1 (by omega)
    refine ⟨?_, ?_⟩
    · rw [Nat.zero_add, h.cellAt (i * 2) (by omega)]
      rw [Nat.add_zero] at e0
      rw [e0]
      simp [encP, List.getD, hi, toI]
    · rw [Nat.zero_add, h.cellAt (i * 2 + 1) (by omega), e1]
      simp [encP, List.getD, hi, toI]

theorem flat_get {α : Type} (f : α → List Value) (k : Nat) (hk : ∀ x, (f x).length = k) : ∀ (L : List α) (i : Nat) (hi : i < L.length) (c : Nat), c < k → (L.flatMap f)[i * k + c]? = (f L[i])[c]?
  | x :: L, 0, _, c, hc => by
    rw [List.flatMap_cons, List.getElem?_append_left (by rw [hk]; omega)]
    simp
  | x :: L, i + 1, hi, c, hc => by
    have hi' : i < L.length := by simpa using hi
    have e : (i + 1) * k + c = k + (i * k + c) := by rw [Nat.add_mul]; omega
    rw [List.flatMap_cons, List.getElem?_append_right (by rw [hk, e]; omega), hk, e, Nat.add_sub_cancel_left, flat_get f k hk L i hi' c hc]
    simp
theorem own_boxes {w : World} {B n : Nat} {E : TypeId} {v : Value} {L : List Bx} (h : w.ownsRow B E 4 v n (L.flatMap Bx.row)) (hl : L.length = n) (hok : ∀ x ∈ L, x.ok) : ∃ a cap, v = .slice a n cap ∧ Boxes w a L := by
  rcases h.2 with ⟨rfl, h0⟩ | ⟨g, cap, cur, rfl, hb, hg, _⟩
  · exact ⟨none, 0, by rw [h0], hok, .inl (List.eq_nil_of_length_eq_zero (by omega))⟩
  · refine ⟨_, cap, rfl, hok, .inr ⟨g, 0, rfl, fun i hi => ?_⟩⟩
    have e : ∀ c, c < 4 → w.cell? ⟨g, i * 4 + c, none⟩ = (L[i].row)[c]? := fun c hc => by
      rw [h.cellAt (i * 4 + c) (by omega), flat_get Bx.row 4 (fun _ => rfl) L i hi c hc]
    have hb : bx L i = L[i] := by simp [bx, List.getD, hi]
    rw [Nat.zero_add, hb]
    exact ⟨e 0 (by omega), e 1 (by omega), e 2 (by omega), e 3 (by omega)⟩

theorem IsSorted.eq {L : List Bx} {S T : List Nat} (h : IsSorted L S) (g : IsSorted L T) : S = T := by
  refine List.Perm.eq_of_pairwise (le := ltS L) ?_ h.sorted g.sorted (h.perm.trans g.perm.symm)
  intro a b _ _ h1 h2
  unfold ltS at *
  omega

theorem albox_any (l h : Int) (w : World) :
    Calls Try.prog 16 #[.int .i64 l, .int .i64 h] w fun e w' => e = .returned (.agg #[.int .i64 l, .int .i64 0, .int .i64 h, .int .i64 0]) ∧ Ext w w' := by
  go_enter Try.func16, Try.ntmps16
  go_wp2
  simp [bodyPost, results, Try.results16, go_sem]
  exact (Ext.refl w).alloc _

def L3 : List Bx := [⟨0, 0, 2, 0⟩, ⟨1, 0, 3, 0⟩, ⟨5, 0, 6, 0⟩]
def L2 : List Bx := [⟨3, 0, 4, 0⟩, ⟨1, 0, 2, 0⟩]
theorem prs3 : prs L3 = [(0, 1)] := by decide
theorem srt2 : IsSorted L2 [1, 0] := ⟨by decide, by
  simp [List.pairwise_cons]
  unfold ltS
  decide⟩
theorem inF_small {x : Int} (h : 0 ≤ x ∧ x ≤ 100) : inF x := ⟨by omega, by omega⟩

theorem L3_ok : ∀ x ∈ L3, x.ok := by
  intro x hx
  simp [L3] at hx
  rcases hx with rfl | rfl | rfl <;> constructor <;> exact ⟨by decide, by decide⟩
theorem L2_ok : ∀ x ∈ L2, x.ok := by
  intro x hx
  simp [L2] at hx
  rcases hx with rfl | rfl <;> constructor <;> exact ⟨by decide, by decide⟩
theorem boxes3 (V : World) : Boxes (V.alloc (.cells #[.int .i64 0, .int .i64 0, .int .i64 2, .int .i64 0, .int .i64 1, .int .i64 0, .int .i64 3, .int .i64 0, .int .i64 5, .int .i64 0, .int .i64 6, .int .i64 0] 28)) (some ⟨V.heap.size, 0, none⟩) L3 := by
  obtain ⟨a, cap, e, h⟩ := own_boxes (L := L3) (World.ownsRow_lit (base := 0) (e := 28) (size := 4) V #[.int .i64 0, .int .i64 0, .int .i64 2, .int .i64 0, .int .i64 1, .int .i64 0, .int .i64 3, .int .i64 0, .int .i64 5, .int .i64 0, .int .i64 6, .int .i64 0] 3 (by omega) (by decide) rfl) rfl L3_ok
  cases e
  exact h
theorem boxes2 (V : World) : Boxes (V.alloc (.cells #[.int .i64 3, .int .i64 0, .int .i64 4, .int .i64 0, .int .i64 1, .int .i64 0, .int .i64 2, .int .i64 0] 28)) (some ⟨V.heap.size, 0, none⟩) L2 := by
  obtain ⟨a, cap, e, h⟩ := own_boxes (L := L2) (World.ownsRow_lit (base := 0) (e := 28) (size := 4) V #[.int .i64 3, .int .i64 0, .int .i64 4, .int .i64 0, .int .i64 1, .int .i64 0, .int .i64 2, .int .i64 0] 2 (by omega) (by decide) rfl) rfl L2_ok
  cases e
  exact h
theorem one_pair {w : World} {B : Nat} {E : TypeId} {v : Value} (h : w.ownsRow B E 2 v (prs L3).length ((prs L3).flatMap encP)) : ∃ g cap, v = .slice (some ⟨g, 0, none⟩) 1 cap ∧ w.cell? ⟨g, 0, none⟩ = some (.int .i64 0) ∧ w.cell? ⟨g, 1, none⟩ = some (.int .i64 1) := by
  rw [prs3] at h
  rcases h.2 with ⟨_, h0⟩ | ⟨g, cap, cur, rfl, _⟩
  · simp at h0
  · exact ⟨g, cap, rfl, h.cellAt 0 (by decide), h.cellAt 1 (by decide)⟩
theorem two_ints {w : World} {B : Nat} {E : TypeId} {v : Value} {S : List Nat} (hS : IsSorted L2 S) (h : w.ownsRow B E 1 v L2.length (S.map natV)) : ∃ a cap, v = .slice a L2.length cap ∧ IntsAt w a [1, 0] := by
  rw [hS.eq srt2] at h
  exact own_ints (l := [1, 0]) h
theorem on_trans {a b c : World} (h : Below a.heap.size a b) (g : Below b.heap.size b c) : Below a.heap.size a c := h.trans (g.mono h.size)
theorem below1 (w : World) (o : Obj) : Below w.heap.size w (w.alloc o) := (Below.refl _ w).alloc (Nat.le_refl _) o
theorem lit2 (w : World) : IntsAt (w.alloc (.cells #[.int .i64 1, .int .i64 0] 3)) (some ⟨w.heap.size, 0, none⟩) [1, 0] :=
  .inr ⟨w.heap.size, 0, rfl, fun i hi => by
    match i, hi with
    | 0, _ => simp [go_sem]
    | 1, _ => simp [go_sem]⟩

set_option maxRecDepth 10000 in
set_option maxHeartbeats 2000000 in
theorem alive_any (w : World) :
    Calls Try.prog 8 #[] w fun e w' => e = .returned (.bool true) ∧ Below w.heap.size w w' := by
  have hee := fun w => same_pair 0 1 w
  have G := Below.refl w.heap.size w
  go_enter Try.func8, Try.ntmps8
  go_wp2_with (first
    | (go_at_call 16; go_fit (albox_any _ _ _); rintro e V ⟨rfl, E⟩; have G := on_trans G E.below)
    | (go_at_call 9; go_fit (pairs_any L3 (some ⟨V.heap.size, 0, none⟩) 3 _ (boxes3 V) (by decide)); rintro e P ⟨⟨v, rfl, hv⟩, hP⟩; obtain ⟨g, cap, rfl, c0, c1⟩ := one_pair hv; have G := on_trans (on_trans G (below1 _ _)) hP; clear hP hv)
    | (go_at_call 10; go_fit (sorted_any L2 (some ⟨V.heap.size, 0, none⟩) 2 _ (boxes2 V) (by decide)); rintro e Q ⟨⟨g2, S, rfl, hS, hQ⟩, hB⟩; obtain ⟨a2, k2, e2, hI⟩ := two_ints hS hQ; cases e2; have G := on_trans (on_trans G (below1 _ _)) hB; clear hB hQ hS)
    | (go_at_call 17; go_fit (sameints_any _ _ _ _ [1, 0] [1, 0] _ (hI.below (below1 _ _)) (lit2 _) (by decide)); rintro e R ⟨rfl, nR, rfl⟩))
  go_ret
  exact ⟨rfl, below_drewN (on_trans G (below1 _ _)) _⟩
end Go.Proofs.Ytflffgjldoipfaa
