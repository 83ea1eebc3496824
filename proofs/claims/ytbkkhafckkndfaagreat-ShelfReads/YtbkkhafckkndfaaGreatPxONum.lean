/-
  Stage 16's Read as plain lists: what is read of a root, and which pages were seen. No program in sight.
-/
import Derived.Test.YtbkkhafckkndfaaGreatPk05
import Derived.Test.YtbkkhafckkndfaaGreatPk03
import Derived.Test.YtbkkhafckkndfaaGreatPk04
import Derived.Test.YtbkkhafckkndfaaGreatPk02
namespace Go.Proofs.YtbkkhafckkndfaaGreat
open Go Go.RowKit

abbrev Ld := Int → ByteArray × Int
/-- Where a page stands, or would, in a list whose pages rise. -/
def RiseP (L : List Pr) : Prop := ∀ i j, i < j → j < L.length → (L.getD i noPr).n < (L.getD j noPr).n
def Spot (L : List Pr) (n : Int) (i : Nat) : Prop := i ≤ L.length ∧ (∀ k, k < i → (L.getD k noPr).n < n) ∧ ∀ k, i ≤ k → k < L.length → ¬ (L.getD k noPr).n < n
/-- It stands there. -/
def isAt (L : List Pr) (n : Int) (i : Nat) : Bool := decide (i < L.length) && decide ((L.getD i noPr).n = n)
/-! ### The pages that were seen -/
def seenP (ld : Ld) (T : List Int) (k : Nat) : Option Pr := if T.contains (k : Int) = true then some ⟨(k : Int), (ld k).1⟩ else none
def canon (ld : Ld) (T : List Int) : List Pr := (List.range 200).filterMap (seenP ld T)
theorem seen_n {ld : Ld} {T : List Int} {k : Nat} {x : Pr} (h : seenP ld T k = some x) : x = ⟨(k : Int), (ld k).1⟩ ∧ (k : Int) ∈ T := by
  unfold seenP at h
  split at h
  · rename_i e
    simp only [Option.some.injEq] at h
    exact ⟨h.symm, by simpa using e⟩
  · cases h
theorem canon_pair (ld : Ld) (T : List Int) : (canon ld T).Pairwise fun a b => a.n < b.n := by
  unfold canon
  rw [List.pairwise_filterMap]
  refine List.Pairwise.imp ?_ (List.pairwise_lt_range (n := 200))
  intro a b hab x hx y hy
  rw [(seen_n hx).1, (seen_n hy).1]
  exact Int.ofNat_lt.2 hab
theorem canon_rise (ld : Ld) (T : List Int) : RiseP (canon ld T) := by
  intro i j hij hj
  have := (List.pairwise_iff_getElem.1 (canon_pair ld T)) i j (by omega) hj hij
  simpa [List.getD, hj, show i < (canon ld T).length by omega] using this
theorem canon_len (ld : Ld) (T : List Int) : (canon ld T).length ≤ 200 := by
  unfold canon
  refine Nat.le_trans (List.length_filterMap_le _ _) (by simp)
theorem canon_mem (ld : Ld) (T : List Int) (x : Pr) : x ∈ canon ld T ↔ x.n ∈ T ∧ 0 ≤ x.n ∧ x.n < 200 ∧ x.b = (ld x.n).1 := by
  unfold canon
  rw [List.mem_filterMap]
  constructor
  · rintro ⟨k, hk, h⟩
    obtain ⟨rfl, h2⟩ := seen_n h
    have := List.mem_range.1 hk
    exact ⟨h2, by dsimp only; omega, by dsimp only; omega, rfl⟩
  · rintro ⟨h1, h2, h3, h4⟩
    refine ⟨x.n.toNat, List.mem_range.2 (by omega), ?_⟩
    have e : ((x.n.toNat : Nat) : Int) = x.n := by omega
    unfold seenP
    rw [e, if_pos (by simpa using h1), ← h4]
theorem pr_get {L : List Pr} {x : Pr} (h : x ∈ L) : ∃ k, k < L.length ∧ L.getD k noPr = x := by
  obtain ⟨k, hk, e⟩ := List.getElem_of_mem h
  exact ⟨k, hk, by simp [List.getD, hk, e]⟩
theorem get_mem {L : List Pr} {k : Nat} (h : k < L.length) : L.getD k noPr ∈ L := by
  simp [List.getD, h]
/-- What stands there was seen. -/
theorem canon_at {ld : Ld} {T : List Int} {n : Int} {i : Nat} (h : isAt (canon ld T) n i = true) : i < (canon ld T).length ∧ (canon ld T).getD i noPr = ⟨n, (ld n).1⟩ ∧ n ∈ T ∧ 0 ≤ n ∧ n < 200 := by
  unfold isAt at h
  simp only [Bool.and_eq_true, decide_eq_true_eq] at h
  obtain ⟨h1, h2⟩ := h
  have hm := (canon_mem ld T _).1 (get_mem h1)
  generalize (canon ld T).getD i noPr = x at hm h2
  obtain ⟨xn, xb⟩ := x
  dsimp only at hm h2
  subst h2
  exact ⟨h1, by rw [hm.2.2.2], hm.1, hm.2.1, hm.2.2.1⟩
/-- What was seen stands there. -/
theorem canon_seen {ld : Ld} {T : List Int} {n : Int} {i : Nat} (hs : Spot (canon ld T) n i) (h : n ∈ T) (h0 : 0 ≤ n) (h1 : n < 200) : isAt (canon ld T) n i = true := by
  have hm : (⟨n, (ld n).1⟩ : Pr) ∈ canon ld T := (canon_mem ld T _).2 ⟨h, h0, h1, rfl⟩
  obtain ⟨k, hk, e⟩ := pr_get hm
  obtain ⟨s1, s2, s3⟩ := hs
  have hik : i ≤ k := by
    apply Nat.le_of_not_lt
    intro hlt
    have := s2 k hlt
    rw [e] at this
    simp at this
  have hki : k ≤ i := by
    apply Nat.le_of_not_lt
    intro hlt
    have h3 := s3 i (Nat.le_refl _) (by omega)
    have h4 := canon_rise ld T i k hlt hk
    rw [e] at h4
    dsimp only at h4
    omega
  obtain rfl : i = k := by omega
  unfold isAt
  rw [decide_eq_true hk, e]
  simp
theorem pair_ext : ∀ {A B : List Pr}, A.Pairwise (fun a b => a.n < b.n) → B.Pairwise (fun a b => a.n < b.n) → (∀ x, x ∈ A ↔ x ∈ B) → A = B := by
  intro A
  induction A with
  | nil =>
    intro B _ _ h
    cases B with
    | nil => rfl
    | cons b B => exact absurd ((h b).2 List.mem_cons_self) (by simp)
  | cons a A ih =>
    intro B hA hB h
    cases B with
    | nil => exact absurd ((h a).1 List.mem_cons_self) (by simp)
    | cons b B =>
      rw [List.pairwise_cons] at hA hB
      have hab : a = b := by
        rcases List.mem_cons.1 ((h a).1 List.mem_cons_self) with e | e
        · exact e
        · rcases List.mem_cons.1 ((h b).2 List.mem_cons_self) with e2 | e2
          · exact e2.symm
          · have h1 := hA.1 b e2
            have h2 := hB.1 a e
            omega
      subst hab
      rw [ih hA.2 hB.2 fun x => ?_]
      constructor
      · intro hx
        rcases List.mem_cons.1 ((h x).1 (List.mem_cons_of_mem _ hx)) with e | e
        · subst e; have := hA.1 x hx; omega
        · exact e
      · intro hx
        rcases List.mem_cons.1 ((h x).2 (List.mem_cons_of_mem _ hx)) with e | e
        · subst e; have := hB.1 x hx; omega
        · exact e
theorem getD_take {L : List Pr} {i k : Nat} (h : k < i) : (L.take i).getD k noPr = L.getD k noPr := by
  simp [List.getD, h]
theorem getD_drop {L : List Pr} {i k : Nat} : (L.drop i).getD k noPr = L.getD (i + k) noPr := by
  simp [List.getD, List.getElem?_drop]
/-- Put in where it would stand. -/
theorem canon_ins {ld : Ld} {T : List Int} {n : Int} {i : Nat} (hs : Spot (canon ld T) n i) (h : isAt (canon ld T) n i = false) (h0 : 0 ≤ n) (h1 : n < 200) :
    (canon ld T).take i ++ ⟨n, (ld n).1⟩ :: (canon ld T).drop i = canon ld (n :: T) := by
  have hT : n ∉ T := fun e => by rw [canon_seen hs e h0 h1] at h; cases h
  obtain ⟨s1, s2, s3⟩ := hs
  have hlow : ∀ x ∈ (canon ld T).take i, x.n < n := fun x hx => by
    obtain ⟨k, hk, e⟩ := pr_get hx
    rw [List.length_take] at hk
    rw [getD_take (by omega)] at e
    have := s2 k (by omega)
    rw [e] at this
    exact this
  have hup : ∀ x ∈ (canon ld T).drop i, n < x.n := fun x hx => by
    obtain ⟨k, hk, e⟩ := pr_get hx
    rw [List.length_drop] at hk
    rw [getD_drop] at e
    have h3 := s3 (i + k) (by omega) (by omega)
    rw [e] at h3
    have hm := (canon_mem ld T x).1 (List.mem_of_mem_drop hx)
    have hne : x.n ≠ n := fun e => hT (e ▸ hm.1)
    omega
  have hp := canon_pair ld T
  have hp' := hp
  rw [← List.take_append_drop i (canon ld T), List.pairwise_append] at hp'
  refine pair_ext ?_ (canon_pair ld (n :: T)) fun x => ?_
  · rw [List.pairwise_append, List.pairwise_cons]
    refine ⟨hp'.1, ⟨fun x hx => hup x hx, hp'.2.1⟩, fun a ha b hb => ?_⟩
    rcases List.mem_cons.1 hb with rfl | hb
    · exact hlow a ha
    · exact hp'.2.2 a ha b hb
  · rw [canon_mem, List.mem_append, List.mem_cons, List.mem_cons]
    have hx : x ∈ canon ld T ↔ x ∈ (canon ld T).take i ∨ x ∈ (canon ld T).drop i := by
      conv => lhs; rw [← List.take_append_drop i (canon ld T)]
      exact List.mem_append
    constructor
    · rintro (h | h | h)
      · have := (canon_mem ld T x).1 (hx.2 (.inl h))
        exact ⟨.inr this.1, this.2⟩
      · subst h
        exact ⟨.inl rfl, h0, h1, rfl⟩
      · have := (canon_mem ld T x).1 (hx.2 (.inr h))
        exact ⟨.inr this.1, this.2⟩
    · rintro ⟨h | h, h2⟩
      · obtain ⟨xn, xb⟩ := x
        dsimp only at h h2
        subst h
        exact .inr (.inl (by rw [h2.2.2]))
      · rcases hx.1 ((canon_mem ld T x).2 ⟨h, h2⟩) with e | e
        · exact .inl e
        · exact .inr (.inr e)
/-- What was seen already changes nothing. -/
theorem canon_dup {ld : Ld} {T : List Int} {n : Int} (h : n ∈ T) : canon ld (n :: T) = canon ld T :=
  pair_ext (canon_pair _ _) (canon_pair _ _) fun x => by
    rw [canon_mem, canon_mem, List.mem_cons]
    constructor
    · rintro ⟨h1 | h1, h2⟩
      · exact ⟨h1 ▸ h, h2⟩
      · exact ⟨h1, h2⟩
    · rintro ⟨h1, h2⟩
      exact ⟨.inr h1, h2⟩
/-! ### What is read -/
def linkB (b : ByteArray) (size : Nat) : Bool := isLink b.data.toList && decide ((linkV b).2.size = size)
def txM (ld : Ld) : Nat → Nat → Int → ByteArray → List Int → Int × ByteArray × List Int
  | 0, _, next, acc, T => (if next = 0 then 0 else 5, acc, T)
  | f + 1, left, next, acc, T => if left = 0 then (if next = 0 then 0 else 5, acc, T) else if next = 0 then (5, acc, T) else if (ld next).2 ≠ 0 then ((ld next).2, acc, T) else
    if linkB (ld next).1 (min left 120) = true then txM ld f (left - 120) (linkV (ld next).1).1 (acc ++ (linkV (ld next).1).2) (next :: T) else (5, acc, next :: T)
theorem tx_more (ld : Ld) : ∀ f left next acc T, left ≤ f → txM ld f left next acc T = txM ld left left next acc T := by
  intro f
  induction f using Nat.strongRecOn with
  | ind f ih =>
    intro left next acc T h
    cases f with
    | zero => obtain rfl : left = 0 := by omega
              rfl
    | succ f =>
      cases left with
      | zero => simp only [txM, if_true]
      | succ l =>
        rw [txM, txM]
        rw [ih f (by omega) (l + 1 - 120) _ _ _ (by omega), ih l (by omega) (l + 1 - 120) _ _ _ (by omega)]
def txR (ld : Ld) (left : Nat) (next : Int) (acc : ByteArray) (T : List Int) : Int × ByteArray × List Int := txM ld left left next acc T
theorem tx_end (ld : Ld) (next : Int) (acc : ByteArray) (T : List Int) : txR ld 0 next acc T = (if next = 0 then 0 else 5, acc, T) := rfl
theorem tx_zero (ld : Ld) {left : Nat} (h : 0 < left) (acc : ByteArray) (T : List Int) : txR ld left 0 acc T = (5, acc, T) := by
  cases left with
  | zero => omega
  | succ l => unfold txR; rw [txM, if_neg (by omega), if_pos rfl]
theorem tx_err {ld : Ld} {left : Nat} {next : Int} (h : 0 < left) (h0 : ¬ next = 0) (he : ¬ (ld next).2 = 0) (acc : ByteArray) (T : List Int) : txR ld left next acc T = ((ld next).2, acc, T) := by
  cases left with
  | zero => omega
  | succ l => unfold txR; rw [txM, if_neg (by omega), if_neg h0, if_pos he]
theorem tx_bad {ld : Ld} {left : Nat} {next : Int} (h : 0 < left) (h0 : ¬ next = 0) (he : (ld next).2 = 0) (hl : linkB (ld next).1 (min left 120) = false) (acc : ByteArray) (T : List Int) : txR ld left next acc T = (5, acc, next :: T) := by
  cases left with
  | zero => omega
  | succ l => unfold txR; rw [txM, if_neg (by omega), if_neg h0, if_neg (by simp [he]), hl, if_neg (by simp)]
theorem tx_step {ld : Ld} {left : Nat} {next : Int} (h : 0 < left) (h0 : ¬ next = 0) (he : (ld next).2 = 0) (hl : linkB (ld next).1 (min left 120) = true) (acc : ByteArray) (T : List Int) :
    txR ld left next acc T = txR ld (left - 120) (linkV (ld next).1).1 (acc ++ (linkV (ld next).1).2) (next :: T) := by
  cases left with
  | zero => omega
  | succ l =>
    unfold txR
    rw [txM, if_neg (by omega), if_neg h0, if_neg (by simp [he]), if_pos hl]
    exact tx_more ld l _ _ _ _ (by omega)
def textR (ld : Ld) (c : Ce) (T : List Int) : Int × ByteArray × List Int := if c.size ≤ 24 then (0, c.bytes, T) else txR ld c.size.toNat c.page ByteArray.empty T
def celM (ld : Ld) : List Ce → List Pr → List Int → Int × List Pr × List Int
  | [], out, T => (0, out, T)
  | c :: C, out, T => if (textR ld c T).1 = 0 then celM ld C (out ++ [⟨c.key, (textR ld c T).2.1⟩]) (textR ld c T).2.2 else ((textR ld c T).1, out, (textR ld c T).2.2)
def lastK (out : List Pr) : Int := match out.getLast? with
  | none => -1
  | some x => x.n
theorem lastK_more (out : List Pr) (x : Pr) : lastK (out ++ [x]) = x.n := by simp [lastK]
def leafAt (b : ByteArray) (k last : Int) : Bool := isLeaf b && (match cellsS b with
  | [] => false
  | c :: _ => decide (c.key = k)) && decide (last < k)
def sltM (ld : Ld) : List Sl → List Pr → List Int → Int × List Pr × List Int
  | [], out, T => (0, out, T)
  | s :: S, out, T => if (ld s.page).2 ≠ 0 then ((ld s.page).2, out, T) else if leafAt (ld s.page).1 s.key (lastK out) = true then
      (if (celM ld (cellsS (ld s.page).1) out (s.page :: T)).1 = 0 then sltM ld S (celM ld (cellsS (ld s.page).1) out (s.page :: T)).2.1 (celM ld (cellsS (ld s.page).1) out (s.page :: T)).2.2 else celM ld (cellsS (ld s.page).1) out (s.page :: T))
    else (5, out, s.page :: T)
def rdM (ld : Ld) (root : Int) : Int × List Pr × List Int := if (ld root).2 ≠ 0 then ((ld root).2, [], []) else if isIdx (ld root).1 = true then sltM ld (idxS (ld root).1) [] [root] else (5, [], [root])
end Go.Proofs.YtbkkhafckkndfaaGreat
