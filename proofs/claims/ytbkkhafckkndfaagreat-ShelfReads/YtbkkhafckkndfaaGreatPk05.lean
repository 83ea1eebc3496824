/-
  A number and a text (a record, a write of chapter 16), and lists of them in memory. Chapter 16 in plain lists: which records, which pages may be; how many leaves. No program in sight. Package sheet's Cells: a page's cells as a new list. Package sheet's Chain, Link and Kind. The statements' own first look ('alive' of stage 15's laws): it returns true; what was there stays. The statements' own slots, cells (a list as the document's), sameSlots, sameCells. The document's own RecordsRight, pages and leaves (chapter 16). Package shelf's small calls: isPage, inline, Right. Chapter 16's Plan in plain lists. No program in sight. Chapter 16's leaves as lists of cells: parted as many in each as have room. No program in sight. The document's own plan.page (chapter 16): where bytes are, or come. The document's own pages (chapter 16): may these pages be?
-/
import Derived.Test.YtbkkhafckkndfaaGreatPk04
namespace Go.Proofs.YtbkkhafckkndfaaGreat
open Go Go.RowKit

structure Pr where
  n : Int
  b : ByteArray
def noPr : Pr := ⟨0, ByteArray.empty⟩
def prV (x : Pr) : List Value := [.int .i64 x.n, .string x.b]
def prsV (L : List Pr) : List Value := L.flatMap prV
theorem prs_more (L : List Pr) (x : Pr) : prsV (L ++ [x]) = prsV L ++ prV x := by simp [prsV]
theorem prs_len : ∀ L : List Pr, (prsV L).length = L.length * 2 := by
  intro L
  induction L with
  | nil => rfl
  | cons s L ih => simp [prsV, prV] at ih ⊢; omega
def PrAt (w : World) (b o : Nat) (x : Pr) : Prop := w.cell? ⟨b, o, none⟩ = some (.int .i64 x.n) ∧ w.cell? ⟨b, o + 1, none⟩ = some (.string x.b)
def PrsAt (w : World) (a : Option Addr) (L : List Pr) : Prop := L = [] ∨ ∃ b off, a = some ⟨b, off, none⟩ ∧ ∀ i, i < L.length → PrAt w b (off + i * 2) (L.getD i noPr)
theorem PrsAt.below {w w' : World} {a : Option Addr} {L : List Pr} (h : PrsAt w a L) (g : Below w.heap.size w w') : PrsAt w' a L := by
  rcases h with h | ⟨b, off, e, h⟩
  · exact .inl h
  · exact .inr ⟨b, off, e, fun i hi => ⟨below_cell g (h i hi).1, below_cell g (h i hi).2⟩⟩
theorem prs_of {w : World} {B n : Nat} {E : TypeId} {v : Value} {L : List Pr} (h : w.ownsRow B E 2 v n (prsV L)) : ∃ a cap, v = .slice a n cap ∧ PrsAt w a L := by
  rcases h.2 with ⟨rfl, h0⟩ | ⟨g, cap, cur, rfl, _⟩
  · refine ⟨none, 0, by rw [h0], .inl ?_⟩
    have := h.1
    rw [h0, prs_len] at this
    exact List.eq_nil_of_length_eq_zero (by omega)
  · refine ⟨_, cap, rfl, .inr ⟨g, 0, rfl, fun i hi => ?_⟩⟩
    have hn : L.length = n := by have := h.1; rw [prs_len] at this; omega
    have e : L.getD i noPr = L[i] := by simp [List.getD, hi]
    have at2 : ∀ (L : List Pr) (i : Nat) (hi : i < L.length), (prsV L)[i * 2]? = some (.int .i64 (L[i]).n) ∧ (prsV L)[i * 2 + 1]? = some (.string (L[i]).b) := by
      intro L
      induction L with
      | nil => intro i hi; simp at hi
      | cons s L ih =>
        intro i hi
        cases i with
        | zero => exact ⟨rfl, rfl⟩
        | succ i =>
          have := ih i (by simpa using hi)
          rw [show (i + 1) * 2 = i * 2 + 1 + 1 by omega]
          exact this
    obtain ⟨q1, q2⟩ := at2 L i hi
    rw [e]
    exact ⟨by rw [Nat.zero_add, h.cellAt _ (by omega)]; exact q1, by rw [Nat.zero_add, h.cellAt _ (by omega)]; exact q2⟩
end Go.Proofs.YtbkkhafckkndfaaGreat

namespace Go.Proofs.YtbkkhafckkndfaaGreat
open Go Go.RowKit

/-! ### Records that may be -/
def reOk (L : List Pr) (i : Nat) : Bool := keyB (L.getD i noPr).n && decide ((L.getD i noPr).b.size ≤ 900) && (decide (i = 0) || decide ((L.getD (i - 1) noPr).n < (L.getD i noPr).n))
def recsOk (L : List Pr) : Bool := (List.range L.length).all (reOk L)
theorem recs_no {L : List Pr} {k : Nat} (hk : k < L.length) (h : reOk L k = false) : recsOk L = false := by
  cases e : recsOk L with
  | false => rfl
  | true =>
    simp only [recsOk, List.all_eq_true] at e
    have := e k (List.mem_range.2 hk)
    rw [h] at this
    cases this
theorem recs_yes {L : List Pr} (h : ∀ k, k < L.length → reOk L k = true) : recsOk L = true := by
  simp only [recsOk, List.all_eq_true]
  exact fun k hk => h k (List.mem_range.1 hk)
theorem recs_at {L : List Pr} (h : recsOk L = true) {k : Nat} (hk : k < L.length) : reOk L k = true := by
  simp only [recsOk, List.all_eq_true] at h
  exact h k (List.mem_range.2 hk)
theorem reOk_zero (L : List Pr) : reOk L 0 = (keyB (L.getD 0 noPr).n && decide ((L.getD 0 noPr).b.size ≤ 900)) := by simp [reOk]
theorem reOk_succ (L : List Pr) (k : Nat) : reOk L (k + 1) = (keyB (L.getD (k + 1) noPr).n && decide ((L.getD (k + 1) noPr).b.size ≤ 900) && decide ((L.getD k noPr).n < (L.getD (k + 1) noPr).n)) := by simp [reOk]

/-! ### Pages that may be -/
def PgsOk (H : List Pr) (F : List Int) : Prop := (∀ i, i < H.length → pageB (H.getD i noPr).n = true ∧ ∀ k, k < F.length → ¬ F.getD k 0 = (H.getD i noPr).n) ∧ ∀ i, i < F.length → pageB (F.getD i 0) = true ∧ ∀ k, k < i → ¬ F.getD k 0 = F.getD i 0

/-! ### Leaves -/
/-- How many bytes a record's cell takes. -/
def cz (x : Pr) : Nat := if x.b.size ≤ 24 then 6 + x.b.size else 8
/-- So many leaves, so much room in the last one. -/
def lvStep (s : Nat × Int) (x : Pr) : Nat × Int := if s.2 < cz x then (s.1 + 1, 126 - cz x) else (s.1, s.2 - cz x)
def lvs (L : List Pr) : Nat × Int := L.foldl lvStep (0, 0)
theorem lvs_up (L : List Pr) (k : Nat) (h : k < L.length) : lvs (L.take (k + 1)) = lvStep (lvs (L.take k)) (L.getD k noPr) := by
  have e : L.getD k noPr = L[k] := by simp [List.getD, h]
  rw [e, lvs, List.take_succ_eq_append_getElem h, List.foldl_append]
  rfl
theorem cz_le (x : Pr) : 6 ≤ cz x ∧ cz x ≤ 30 := by unfold cz; split <;> omega
theorem lvs_in (L : List Pr) : ∀ k, k ≤ L.length → (lvs (L.take k)).1 ≤ k ∧ 0 ≤ (lvs (L.take k)).2 ∧ (lvs (L.take k)).2 ≤ 126 := by
  intro k
  induction k with
  | zero => intro _; simp [lvs]
  | succ k ih =>
    intro h
    have h1 := ih (by omega)
    have h2 := cz_le (L.getD k noPr)
    rw [lvs_up L k (by omega)]
    unfold lvStep
    split
    · dsimp only; omega
    · dsimp only; omega

/-! ### What is planned -/
/-- A text's page among these. -/
def findW (L : List Pr) (b : ByteArray) : Option Int := (L.find? fun x => decide (x.b = b)).map (·.n)
/-- A page for a text: one that is there, one that is to be written, or the first that is free. -/
def putW (H O : List Pr) (F : List Int) (b : ByteArray) : Option (Int × List Pr × List Int) :=
  match findW H b with
  | some n => some (n, O, F)
  | none => match findW O b with
    | some n => some (n, O, F)
    | none => match F with
      | [] => none
      | n :: F' => some (n, O ++ [⟨n, b⟩], F')
theorem find_none {L : List Pr} {b : ByteArray} (h : ∀ j, j < L.length → ¬ (L.getD j noPr).b = b) : findW L b = none := by
  unfold findW
  rw [Option.map_eq_none_iff, List.find?_eq_none]
  intro x hx
  obtain ⟨j, hj, rfl⟩ := List.mem_iff_getElem.1 hx
  have := h j hj
  simp only [List.getD, List.getElem?_eq_getElem hj, Option.getD_some] at this
  simpa using this
theorem find_some {L : List Pr} {b : ByteArray} {k : Nat} (hk : k < L.length) (h : ∀ j, j < k → ¬ (L.getD j noPr).b = b) (e : (L.getD k noPr).b = b) : findW L b = some (L.getD k noPr).n := by
  unfold findW
  have hg : L.getD k noPr = L[k] := by simp [List.getD, hk]
  have : L.find? (fun x => decide (x.b = b)) = some L[k] := by
    rw [List.find?_eq_some_iff_getElem]
    refine ⟨by rw [← hg]; simpa using e, k, hk, rfl, fun j hj => ?_⟩
    have := h j hj
    simp only [List.getD, List.getElem?_eq_getElem (show j < L.length by omega), Option.getD_some] at this
    simpa using this
  rw [this, hg]
  rfl
end Go.Proofs.YtbkkhafckkndfaaGreat

namespace Go.Proofs.YtbkkhafckkndfaaGreat
open Go Go.RowKit

def ceR (c : Ce) : List Value := [.int .i64 c.key, .int .i64 c.size, .int .i64 c.page, .string c.bytes]
def cesV (C : List Ce) : List Value := C.flatMap ceR
theorem ces_more (C : List Ce) (c : Ce) : cesV (C ++ [c]) = cesV C ++ ceR c := by simp [cesV]
theorem ces_len : ∀ C : List Ce, (cesV C).length = C.length * 4 := by
  intro C
  induction C with
  | nil => rfl
  | cons s S ih => simp [cesV, ceR] at ih ⊢; omega
theorem cells_of {w : World} {B n : Nat} {E : TypeId} {v : Value} {C : List Ce} (h : w.ownsRow B E 4 v n (cesV C)) : ∃ a cap, v = .slice a n cap ∧ CellsAt w a C := by
  rcases h.2 with ⟨rfl, h0⟩ | ⟨g, cap, cur, rfl, _⟩
  · refine ⟨none, 0, by rw [h0], .inl ?_⟩
    have := h.1
    rw [h0, ces_len] at this
    exact List.eq_nil_of_length_eq_zero (by omega)
  · refine ⟨_, cap, rfl, .inr ⟨g, 0, rfl, fun i hi => ?_⟩⟩
    have hn : C.length = n := by have := h.1; rw [ces_len] at this; omega
    have e : C.getD i noCe = C[i] := by simp [List.getD, hi]
    have at4 : ∀ (C : List Ce) (i : Nat) (hi : i < C.length), (cesV C)[i * 4]? = some (.int .i64 (C[i]).key) ∧ (cesV C)[i * 4 + 1]? = some (.int .i64 (C[i]).size) ∧ (cesV C)[i * 4 + 2]? = some (.int .i64 (C[i]).page) ∧ (cesV C)[i * 4 + 3]? = some (.string (C[i]).bytes) := by
      intro C
      induction C with
      | nil => intro i hi; simp at hi
      | cons s S ih =>
        intro i hi
        cases i with
        | zero => exact ⟨rfl, rfl, rfl, rfl⟩
        | succ i =>
          have := ih i (by simpa using hi)
          rw [show (i + 1) * 4 = i * 4 + 1 + 1 + 1 + 1 by omega]
          exact this
    obtain ⟨q1, q2, q3, q4⟩ := at4 C i hi
    rw [e]
    exact ⟨by rw [Nat.zero_add, h.cellAt _ (by omega)]; exact q1, by rw [Nat.zero_add, h.cellAt _ (by omega)]; exact q2, by rw [Nat.zero_add, h.cellAt _ (by omega)]; exact q3, by rw [Nat.zero_add, h.cellAt _ (by omega)]; exact q4⟩
set_option maxRecDepth 100000 in
theorem info_scell : ∃ (i : TypeInfo) (z : Value), (Tryz.prog).info? 108 = some i ∧ i.zero = some z ∧ z.cells.size = 4 ∧ i.size = 4 ∧ i.bytes = 40 := ⟨_, _, rfl, rfl, rfl, rfl, rfl⟩
theorem four_at (w : World) (A B C D : Value) (t : TypeId) (j : Nat) (u : Value) (hj : [A, B, C, D][j]? = some u) : (w.alloc (.cells #[A, B, C, D] t)).cell? ⟨w.heap.size, 0 + j, none⟩ = some u := by
  rw [cell_of_row _ _ _ _ _ _ (heap_alloc_new _ _), Nat.zero_add]
  rw [← hj, List.getElem?_toArray]
def CBack (w : World) (s : ByteArray) (e : Ending) (w' : World) : Prop := ∃ v, e = .returned (.tuple #[v, .bool (isLeaf s)]) ∧ w'.ownsRow w.heap.size 108 4 v (cellsS s).length (cesV (cellsS s)) ∧ Below w.heap.size w w'
theorem cback_none {w w' : World} {s : ByteArray} (h : isLeaf s = false) (B : Below w.heap.size w w') : CBack w s (.returned (.tuple #[.slice none 0 0, .bool false])) w' := by
  refine ⟨_, by rw [h], ?_, B⟩
  unfold cellsS
  rw [h, if_neg (by decide)]
  exact World.ownsRow_nil _ _ _ _
set_option maxRecDepth 10000 in
set_option maxHeartbeats 4000000 in
theorem cells_any (s : ByteArray) (w : World) (hs : s.size ≤ 1000000000) : Calls Tryz.prog 58 #[.string s] w fun e w' => CBack w s e w' := by
  obtain ⟨iw, zw, i1, i2, i3, i4, i5⟩ := info_scell
  obtain ⟨n, hn⟩ : ∃ n, cntS s = n := ⟨_, rfl⟩
  have hn256 : n < 256 := by rw [← hn]; exact cnt_lt s
  have eI := isLeaf_code s
  have hsl : s.data.toList.length = s.size := Array.length_toList ..
  have eC : numR (txt ((s.data.toList.drop 1).take 1)) = n := by
    show wrap64 (valL ((s.data.toList.drop 1).take 1)) = n
    have : valL ((s.data.toList.drop 1).take 1) = n := hn
    rw [this, wrap_small (by omega)]
  rw [hn] at eI
  have hYes : Hid (isLeaf s = true → cellsS s = (totC s n).1) := fun h => by rw [cells_code h, hn]
  have hNo : Hid (isLeaf s = false → ∀ w', Below w.heap.size w w' → CBack w s (.returned (.tuple #[.slice none 0 0, .bool false])) w') := fun h w' B => cback_none h B
  obtain ⟨p, hp⟩ : ∃ p, w.heap.size = p := ⟨_, rfl⟩
  obtain ⟨X, hX⟩ : ∃ X, s.data.toList = X := ⟨_, rfl⟩
  have hXl : X.length ≤ 1000000000 := by rw [← hX]; omega
  have hP0 : Hid (PcAt (w.alloc (.cells #[.string s] 130)) p X) := by rw [← hp, ← hX]; exact pc_new w s _
  have hT0 : Hid (Calls Tryz.prog 56 #[.pointer (some ⟨p, 0, none⟩), .int .i64 1] (w.alloc (.cells #[.string s] 130)) fun e w' => e = .returned (.string (txt (X.take 1))) ∧ PcAt w' p (X.drop 1) ∧ But (fun i => i = p) (w.alloc (.cells #[.string s] 130)) w') := take_any p 1 X _ hP0.out hXl (by omega)
  have hT1 : Hid (∀ W, PcAt W p (X.drop 1) → Calls Tryz.prog 57 #[.pointer (some ⟨p, 0, none⟩), .int .i64 1] W fun e w' => e = .returned (.int .i64 n) ∧ PcAt w' p (X.drop 2) ∧ But (fun i => i = p) W w') := fun W h => by
    have := pnumber_any p 1 (X.drop 1) W h (by rw [List.length_drop]; omega) (by omega)
    rw [← hX, List.drop_drop, eC, hX] at this
    exact this
  have hNa : Hid (∀ k W, PcAt W p (X.drop (totC s k).2) → Calls Tryz.prog 83 #[.pointer (some ⟨p, 0, none⟩)] W fun e w' => e = .returned (ceV (celAt s (totC s k).2)) ∧ PcAt w' p (X.drop (totC s (k + 1)).2) ∧ But (fun i => i = p) W w') := fun k W h => by
    rw [← hX] at h ⊢
    exact cell_any p (totC s k).2 s W h hs
  have hBw : Hid (Below p w (w.alloc (.cells #[.string s] 130))) := (by rw [← hp]; exact (Below.refl _ w).alloc (Nat.le_refl _) _ : Below p w (w.alloc (.cells #[.string s] 130)))
  have hn0 : (0 : Int) ≤ n := by omega
  clear eC hsl hn hXl hX
  go_enter Tryz.func58, Tryz.ntmps58
  rw [hp] at hNo
  go_wp2_with (first
    | (go_at_call 56; go_fit hT0.out; rintro e w1 ⟨rfl, h1, B1⟩)
    | (go_at_call 57; go_fit (hT1.out _ h1); rintro e w2 ⟨rfl, h2, B2⟩)
    | fail)
  have hpp : ∀ i, i = p → p ≤ i := fun i e => Nat.le_of_eq e.symm
  have hB2 : Hid (Below p w w2) := (hBw.out.trans (B1.below hpp (Nat.le_of_lt hP0.out.lt))).trans (B2.below hpp (Nat.le_of_lt h1.lt))
  clear hT0 hT1 hP0 hBw h1 B1 B2
  go_loopw [5, 11] (fun l i wr => ∃ (k : Nat) (a : Option Addr) (cp : Nat), k ≤ n ∧ i = .int .i64 k ∧ l = .slice a k cp ∧ wr.ownsRow p 108 4 (.slice a k cp) k (cesV (totC s k).1) ∧ PcAt wr p (X.drop (totC s k).2) ∧ Below p w wr ∧ (Value.slice a k cp).ownBlock ≠ some p) (fun _ i _ => n - (intOf i).toNat)
  case atStart => exact ⟨0, none, 0, by omega, rfl, rfl, World.ownsRow_nil _ _ _ _, h2, hB2.out, fun e => by cases e⟩
  case round =>
    clear hB2 h2
    obtain ⟨k, a, cp, hk, rfl, rfl, hr, hP, hB, ho⟩ := hrel
    have hpl := hP.lt
    by_cases hlt : k < n
    · have hki : (k : Int) < n := by omega
      have hup : Hid (cesV (totC s (k + 1)).1 = cesV (totC s k).1 ++ ceR (celAt s (totC s k).2)) := by
        show _ = _
        rw [totC, ces_more]
      have hA : Hid (∀ W, PcAt W p (X.drop (totC s k).2) → Calls Tryz.prog 83 #[.pointer (some ⟨p, 0, none⟩)] W fun e w' => e = .returned (ceV (celAt s (totC s k).2)) ∧ PcAt w' p (X.drop (totC s (k + 1)).2) ∧ But (fun i => i = p) W w') := hNa.out k
      obtain ⟨c, hc⟩ : ∃ c, celAt s (totC s k).2 = c := ⟨_, rfl⟩
      rw [hc] at hA hup
      obtain ⟨K, Z, Q, T⟩ := c
      unfold ceV at hA
      unfold ceR at hup
      dsimp only at hA hup
      clear hc hNa hYes hNo eI
      go_wp2_with (first
        | (go_at_call 83; go_fit (hA.out _ hP); rintro e w4 ⟨rfl, h4, B4⟩; have r4 := row_but hr B4 (fun i e e2 => ho (by rw [e, e2])); have hB4 := hB.trans (B4.below hpp (Nat.le_of_lt hpl)); have hl4 := h4.lt)
        | (at_builtin; refine wpList_app _ rfl (.tmp 13) (.tmp 15) 105 rfl p 108 iw zw 4 40 Tryz.underlying105 i1 i2 i4 i5 i3 (by decide) (.slice a k cp) k _ rfl (r4.alloc _) (some ⟨w4.heap.size, 0, none⟩) 1 1 [.int .i64 K, .int .i64 Z, .int .i64 Q, .string T] rfl rfl (.inr ⟨_, 0, rfl, fun j u hj => four_at w4 _ _ _ _ _ j u hj⟩) (fun u hu => by simp at hu; rcases hu with rfl | rfl | rfl | rfl <;> rfl) (by unfold maxLen; omega) (by omega) (by simp; omega) ?_; intro v5 w5 hv5 hg5 hk5 hl5)
        | fail)
      obtain ⟨a5, c5, rfl, _⟩ := own_reads hv5
      have G4 : Grew w4 (w4.alloc (.cells #[.int .i64 K, .int .i64 Z, .int .i64 Q, .string T] 108)) := (Grew.refl w4).alloc _ _
      have hs4 := G4.size
      refine ⟨⟨k + 1, a5, c5, hlt, by simp, rfl, ?_, (h4.grew G4).but (grown_but hg5) ho, ((hB4.trans (G4.below.mono (Nat.le_of_lt hl4)))).trans ((grown_but hg5).below (fun i e => (hr.lt i e).1) (by omega)), own_ne hl5 ho (by omega)⟩, meas_up hlt⟩
      rw [hup.out]
      exact hv5
    · have hki : ¬ (k : Int) < n := by omega
      obtain rfl : k = n := by omega
      obtain ⟨a', cp', e9, hSl⟩ := cells_of hr
      obtain ⟨rfl, _, rfl⟩ : a = a' ∧ k = k ∧ cp = cp' := by simpa using e9
      have hlen : (totC s k).1.length = k := tot_len s k
      have hX : Hid (Calls Tryz.prog 48 #[.slice a k cp] wr fun e w' => e = .returned (.tuple #[.string (leafV (totC s k).1), .bool (leafOk (totC s k).1)]) ∧ Below wr.heap.size wr w') := by
        show Calls _ _ _ _ _
        have := leaf_any (totC s k).1 a cp wr hSl (by omega)
        rw [hlen] at this
        exact this
      replace hr : Hid (wr.ownsRow p 108 4 (.slice a k cp) k (cesV (totC s k).1)) := hr
      replace hB : Hid (Below p w wr) := hB
      replace hYes : Hid (isLeaf s = true → cellsS s = (totC s k).1) := hYes
      replace eI : Hid (isLeaf s = (leafOk (totC s k).1 && decide (txt (leafL (totC s k).1) = s))) := eI
      replace hlen : Hid ((totC s k).1.length = k) := hlen
      have hv : leafV (totC s k).1 = if leafOk (totC s k).1 then txt (leafL (totC s k).1) else ByteArray.empty := rfl
      rw [hv] at hX
      clear e9 hSl hNa hv hP ho
      generalize (totC s k).1 = T at *
      cases hko : leafOk T with
      | false =>
        rw [hko, if_neg (by decide)] at hX
        rw [hko] at eI
        have hE : Hid _ := hNo.out (by rw [eI.out]; rfl)
        clear hko eI hYes hNo
        go_wp2_with (first | (go_at_call 48; go_fit hX.out; rintro e w1 ⟨rfl, G⟩) | fail)
        go_ret2
        exact hE.out _ (hB.out.trans (G.mono (Nat.le_of_lt hpl)))
      | true =>
        rw [hko, if_pos rfl] at hX
        rw [hko] at eI
        by_cases hq : txt (leafL T) = s
        · rw [hq] at hX
          have hE := hYes.out (by rw [eI.out, hq]; simp)
          have hT : Hid (isLeaf s = true) := (by rw [eI.out, hq]; simp : isLeaf s = true)
          replace hE : Hid (cellsS s = T) := hE
          clear hko eI hYes hNo hq
          go_wp2_with (first | (go_at_call 48; go_fit hX.out; rintro e w1 ⟨rfl, G⟩) | fail)
          go_ret2
          refine ⟨_, by rw [hT.out]; rfl, ?_, by rw [hp]; exact hB.out.trans (G.mono (Nat.le_of_lt hpl))⟩
          rw [hE.out, hp, hlen.out]
          exact row_below hr.out G
        · have hne := bytes_ne' hq
          have hE : Hid _ := hNo.out (by rw [eI.out, decide_eq_false hq]; rfl)
          clear hko eI hYes hNo hq
          generalize txt (leafL T) = Z at *
          go_wp2_with (first | (go_at_call 48; go_fit hX.out; rintro e w1 ⟨rfl, G⟩) | fail)
          go_ret2
          exact hE.out _ (hB.out.trans (G.mono (Nat.le_of_lt hpl)))
end Go.Proofs.YtbkkhafckkndfaaGreat

namespace Go.Proofs.YtbkkhafckkndfaaGreat
open Go Go.RowKit
open Go.Lib (strCells)

theorem on_two {a b c : World} (h : Below a.heap.size a b) (g : Below b.heap.size b c) : Below a.heap.size a c := h.trans (g.mono h.size)
theorem on_three {a b c d : World} (h : Below a.heap.size a b) (g : Below b.heap.size b c) (f : Below c.heap.size c d) : Below a.heap.size a d := on_two (on_two h g) f
theorem bt_lit1 (w : World) (x : UInt8) : Bt w (w.alloc (.cells #[.int .u8 x.toNat] 5)) (.slice (some ⟨w.heap.size, 0, none⟩) 1 1) [x] := by
  refine ⟨?_, (Below.refl _ w).alloc (Nat.le_refl _) _⟩
  exact World.ownsRow_lit (e := 5) (base := w.heap.size) (size := 1) w #[.int .u8 x.toNat] 1 (by omega) (by have : maxLen = 9223372036854775807 := rfl; omega) rfl
theorem isPage_at (n : Int) (W : World) (k : Bool) (h : pageB n = k) : Calls Tryz.prog 77 #[.int .i64 n] W fun e w' => e = .returned (.bool k) ∧ W = w' := by
  rw [← h]
  exact (isPage_any n W).mono fun e w' ⟨h1, h2⟩ => ⟨h1, h2.symm⟩
set_option maxRecDepth 10000 in
set_option maxHeartbeats 1000000 in
theorem schain_any (next : Int) (t : List UInt8) (w : World) : Calls Tryz.prog 72 #[.int .i64 next, .string (txt t)] w fun e w' => e = .returned (.tuple #[.string (chainV next t), .bool (chainOk next t)]) ∧ Below w.heap.size w w' := by
  have st := txt_size t
  have hp : Hid (∀ W, Calls Tryz.prog 77 #[.int .i64 next] W fun e w' => e = .returned (.bool (pageB next)) ∧ w' = W) := fun W => isPage_any next W
  cases hk : chainOk next t with
  | false =>
    unfold chainV
    rw [hk]
    have hn : (next = 0 ∨ 2 ≤ next ∧ next < 200) ∧ 1 ≤ t.length ∧ t.length ≤ 120 → False := fun e => by rw [(chainOk_iff next t).2 e] at hk; cases hk
    rw [← st] at hn
    generalize hq : pageB next = q at hp
    have hq' : q = true ↔ 2 ≤ next ∧ next < 200 := by rw [← hq]; exact pageB_iff next
    clear hk hq st
    generalize txt t = X at *
    replace hn : Hid _ := hn
    cases q with
    | true =>
      have hq2 : Hid _ := hq'.1 rfl
      clear hq'
      go_enter Tryz.func72, Tryz.ntmps72
      go_wp2_with (first | (go_at_call 77; go_fit (hp.out _); rintro e w1 ⟨rfl, rfl⟩) | fail)
      all_goals
        first
          | (go_ret2; exact ⟨rfl, Below.refl _ _⟩)
          | (exfalso; have hq2 := hq2.out; exact hn.out ⟨by omega, by omega, by omega⟩)
    | false =>
      have hq2 : Hid (¬ (2 ≤ next ∧ next < 200)) := (fun e => absurd (hq'.2 e) (by decide) : ¬ (2 ≤ next ∧ next < 200))
      clear hq'
      go_enter Tryz.func72, Tryz.ntmps72
      go_wp2_with (first | (go_at_call 77; go_fit (hp.out _); rintro e w1 ⟨rfl, rfl⟩) | fail)
      all_goals
        first
          | (go_ret2; exact ⟨rfl, Below.refl _ _⟩)
          | (exfalso; have hq2 := hq2.out; exact hn.out ⟨by omega, by omega, by omega⟩)
  | true =>
    have hh := (chainOk_iff next t).1 hk
    obtain ⟨i0, hi0, hy0, hy1, hy2⟩ := byte_parts
    have hv : chainV next t = txt (chainL next t) := if_pos hk
    rw [hv]
    obtain ⟨N, rfl⟩ := Int.eq_ofNat_of_zero_le (show 0 ≤ next by omega)
    have hpB : (N : Int) ≠ 0 → pageB N = true := fun e => (pageB_iff _).2 (by omega)
    have hN : N < 200 := by omega
    have hch : Hid ([67] ++ digs N 2 ++ digs t.length 1 ++ t = chainH N t) := by
      show _ = _
      simp [chainH]
    have hL : Hid (chainL N t = padL (chainH N t)) := rfl
    have hlen : Hid ((chainH N t).length ≤ 128) := (by rw [chainH_len]; omega : (chainH N t).length ≤ 128)
    have hne : Hid (chainH N t ≠ []) := (fun e => by have := chainH_len N t; rw [e, List.length_nil] at this; omega : chainH N t ≠ [])
    have ht : t.length ≤ 120 ∧ 1 ≤ t.length := ⟨hh.2.2, hh.2.1⟩
    have n1 : ¬ ((txt t).size : Int) < 1 := by rw [st]; omega
    have n2 : ¬ (120 : Int) < (txt t).size := by rw [st]; omega
    have hs : (txt t).size ≤ 120 := by rw [st]; omega
    have hB0 := bt_lit1 w 67
    have hd1 : ∀ c : Int, c = ((txt t).size : Int) → u8V (digs t.length 1) = [.int .u8 c] := fun c e => by
      rw [e, st]
      simp [u8V, digs]
      omega
    replace hd1 : Hid (∀ c : Int, c = ((txt t).size : Int) → u8V (digs t.length 1) = [.int .u8 c]) := hd1
    have hst : Hid (strCells (txt t) = u8V t) := rfl
    replace st : Hid ((txt t).size = t.length) := st
    clear hv hh hk
    generalize hX : txt t = X at *
    by_cases h0 : N = 0
    · subst h0
      have hA0 : Hid (Calls Tryz.prog 78 #[.slice (some ⟨w.heap.size, 0, none⟩) 1 1, .int .i64 0, .int .i64 2] (w.alloc (.cells #[.int .u8 67] 5)) fun e w' => ∃ v', e = .returned v' ∧ Bt w w' v' ([67] ++ digs 0 2) ∧ Onto (.slice (some ⟨w.heap.size, 0, none⟩) 1 1) v' (w.alloc (.cells #[.int .u8 67] 5)) w') := abig_any w _ _ _ 0 2 (by omega) (by omega) (by simp) hB0
      clear hp hpB hB0
      go_enter Tryz.func72, Tryz.ntmps72
      go_wp2_with (first
        | (go_at_call 78; go_fit (hA0.out); rintro e w1 ⟨v1, rfl, hb1, ho1⟩; obtain ⟨a1, m1, c1, rfl, hm1, hr1⟩ := hb1.slot; have hl1 : m1 ≤ 10 := (by rw [hm1.out]; simp [digs_len]); have hbl := hb1.bel.size)
        | (at_builtin; refine wpList_app _ rfl (.tmp 25) (.tmp 29) 60 rfl w.heap.size 5 i0 (.int .u8 0) 1 1 Tryz.underlying60 hi0 hy0 hy1 hy2 rfl (by decide) _ _ _ rfl (hr1.alloc _) (some ⟨w1.heap.size, 0, none⟩) 1 1 [.int .u8 X.size] rfl rfl (.inr ⟨_, 0, rfl, fun j u hj => by match j, hj with | 0, hj => (simp at hj; subst hj; simp [go_sem])⟩) (fun u hu => by simp at hu; subst hu; rfl) (by unfold maxLen; omega) (by omega) (by simp; omega) ?_; intro v2 w2 hv2 hg2 hk2 ho2; obtain ⟨hb2, _⟩ := (hb1.grew ((Grew.refl w1).alloc _ _)).onto (w' := w2) (v' := v2) (X := digs t.length 1) (by rw [hd1.out _ rfl, digs_len, ← hm1.out]; exact hv2) hg2 ho2; obtain ⟨a2, m2, c2, rfl, hm2, hr2⟩ := hb2.slot; have hl2 : m2 ≤ 20 := (by rw [hm2.out]; simp [digs_len]); have hbl2 := hb2.bel.size)
        | (at_builtin; refine wpList_app_str rfl (.tmp 31) (.tmp 32) 60 9 rfl w.heap.size 5 i0 Tryz.underlying60 Tryz.underlying9 hi0 hy0 hy1 hy2 _ _ _ rfl hr2 X rfl (by unfold maxLen; omega) (by omega) hbl2 ?_; intro v3 w3 hv3 hg3 ho3; obtain ⟨hb3, _⟩ := hb2.onto (w' := w3) (v' := v3) (X := t) (by rw [hst.out, st.out, hm2.out] at hv3; exact hv3) hg3 ho3; rw [hch.out] at hb3)
        | (go_at_call 76; go_fit (filled_any w _ _ _ hb3 hne.out hlen.out); rintro e w4 ⟨rfl, B4⟩)
        | fail)
      go_ret2
      exact ⟨by rw [hL.out]; rfl, hb3.bel.trans (B4.mono hb3.bel.size)⟩
    · have hp2 : Hid (∀ W, Calls Tryz.prog 77 #[.int .i64 N] W fun e w' => e = .returned (.bool true) ∧ W = w') := fun W => isPage_at _ W true (hpB (by omega))
      have hN0 : ¬ (N : Int) = 0 := by omega
      clear hp hpB
      go_enter Tryz.func72, Tryz.ntmps72
      go_wp2_with (first
        | (go_at_call 77; go_fit (hp2.out _); rintro e w1 ⟨rfl, rfl⟩)
        | (go_at_call 78; go_fit (abig_any w _ _ _ N 2 (by omega) (by omega) (by simp) hB0); rintro e w1 ⟨v1, rfl, hb1, ho1⟩; obtain ⟨a1, m1, c1, rfl, hm1, hr1⟩ := hb1.slot; have hl1 : m1 ≤ 10 := (by rw [hm1.out]; simp [digs_len]); have hbl := hb1.bel.size)
        | (at_builtin; refine wpList_app _ rfl (.tmp 25) (.tmp 29) 60 rfl w.heap.size 5 i0 (.int .u8 0) 1 1 Tryz.underlying60 hi0 hy0 hy1 hy2 rfl (by decide) _ _ _ rfl (hr1.alloc _) (some ⟨w1.heap.size, 0, none⟩) 1 1 [.int .u8 X.size] rfl rfl (.inr ⟨_, 0, rfl, fun j u hj => by match j, hj with | 0, hj => (simp at hj; subst hj; simp [go_sem])⟩) (fun u hu => by simp at hu; subst hu; rfl) (by unfold maxLen; omega) (by omega) (by simp; omega) ?_; intro v2 w2 hv2 hg2 hk2 ho2; obtain ⟨hb2, _⟩ := (hb1.grew ((Grew.refl w1).alloc _ _)).onto (w' := w2) (v' := v2) (X := digs t.length 1) (by rw [hd1.out _ rfl, digs_len, ← hm1.out]; exact hv2) hg2 ho2; obtain ⟨a2, m2, c2, rfl, hm2, hr2⟩ := hb2.slot; have hl2 : m2 ≤ 20 := (by rw [hm2.out]; simp [digs_len]); have hbl2 := hb2.bel.size)
        | (at_builtin; refine wpList_app_str rfl (.tmp 31) (.tmp 32) 60 9 rfl w.heap.size 5 i0 Tryz.underlying60 Tryz.underlying9 hi0 hy0 hy1 hy2 _ _ _ rfl hr2 X rfl (by unfold maxLen; omega) (by omega) hbl2 ?_; intro v3 w3 hv3 hg3 ho3; obtain ⟨hb3, _⟩ := hb2.onto (w' := w3) (v' := v3) (X := t) (by rw [hst.out, st.out, hm2.out] at hv3; exact hv3) hg3 ho3; rw [hch.out] at hb3)
        | (go_at_call 76; go_fit (filled_any w _ _ _ hb3 hne.out hlen.out); rintro e w4 ⟨rfl, B4⟩)
        | fail)
      go_ret2
      exact ⟨by rw [hL.out]; rfl, hb3.bel.trans (B4.mono hb3.bel.size)⟩
set_option maxRecDepth 10000 in
set_option maxHeartbeats 1000000 in
theorem link_any (s : ByteArray) (w : World) (hs : s.size ≤ 1000000000) : Calls Tryz.prog 84 #[.string s] w fun e w' => e = .returned (.tuple #[.int .i64 (linkV s).1, .string (linkV s).2, .bool (isLink s.data.toList)]) ∧ Below w.heap.size w w' := by
  have eI := isLink_code s.data.toList
  have hsl : s.data.toList.length = s.size := Array.length_toList ..
  obtain ⟨p, hp⟩ : ∃ p, w.heap.size = p := ⟨_, rfl⟩
  obtain ⟨X, hX⟩ : ∃ X, s.data.toList = X := ⟨_, rfl⟩
  have hXs : txt X = s := by rw [← hX]; exact txt_list s
  have hXl : X.length ≤ 1000000000 := by rw [← hX]; omega
  unfold linkV
  rw [hX] at eI ⊢
  have hP0 : Hid (PcAt (w.alloc (.cells #[.string s] 130)) p X) := by rw [← hp, ← hX]; exact pc_new w s _
  have hT0 : Hid (Calls Tryz.prog 56 #[.pointer (some ⟨p, 0, none⟩), .int .i64 1] (w.alloc (.cells #[.string s] 130)) fun e w' => e = .returned (.string (txt (X.take 1))) ∧ PcAt w' p (X.drop 1) ∧ But (fun i => i = p) (w.alloc (.cells #[.string s] 130)) w') := take_any p 1 X _ hP0.out hXl (by omega)
  have hT1 : Hid (∀ W, PcAt W p (X.drop 1) → Calls Tryz.prog 57 #[.pointer (some ⟨p, 0, none⟩), .int .i64 2] W fun e w' => e = .returned (.int .i64 (linkN X)) ∧ PcAt w' p (X.drop 3) ∧ But (fun i => i = p) W w') := fun W h => by
    have := pnumber_any p 2 (X.drop 1) W h (by rw [List.length_drop]; omega) (by omega)
    rw [List.drop_drop] at this
    exact this
  obtain ⟨m, hm⟩ : ∃ m, valL ((X.drop 3).take 1) = m := ⟨_, rfl⟩
  have hm256 : m < 256 := by
    obtain ⟨l, hl⟩ : ∃ l, (X.drop 3).take 1 = l := ⟨_, rfl⟩
    have hlen : l.length ≤ 1 := by rw [← hl, List.length_take]; omega
    rw [hl] at hm
    have := valL_lt l.length l rfl
    have e : l.length = 0 ∨ l.length = 1 := by omega
    rcases e with e | e <;> rw [e] at this <;> simp at this <;> omega
  have hT2 : Hid (∀ W, PcAt W p (X.drop 3) → Calls Tryz.prog 57 #[.pointer (some ⟨p, 0, none⟩), .int .i64 1] W fun e w' => e = .returned (.int .i64 m) ∧ PcAt w' p (X.drop 4) ∧ But (fun i => i = p) W w') := fun W h => by
    have := pnumber_any p 1 (X.drop 3) W h (by rw [List.length_drop]; omega) (by omega)
    have e : numR (txt ((X.drop 3).take 1)) = m := by
      show wrap64 (valL ((X.drop 3).take 1)) = m
      rw [hm, wrap_small (by omega)]
    rw [List.drop_drop, e] at this
    exact this
  have hT3 : Hid (∀ W, PcAt W p (X.drop 4) → Calls Tryz.prog 92 #[.pointer (some ⟨p, 0, none⟩), .int .i64 m] W fun e w' => e = .returned (.string (txt (linkT X))) ∧ PcAt w' p ((X.drop 4).drop m) ∧ But (fun i => i = p) W w') := fun W h => by
    have := ptext_any p m (X.drop 4) W h (by rw [List.length_drop]; omega) (by omega)
    have e : (X.drop 4).take m = linkT X := by rw [← hm]; rfl
    rw [e] at this
    exact this
  have hBw : Hid (Below p w (w.alloc (.cells #[.string s] 130))) := (by rw [← hp]; exact (Below.refl _ w).alloc (Nat.le_refl _) _ : Below p w (w.alloc (.cells #[.string s] 130)))
  have hCh : Hid (∀ W, Calls Tryz.prog 72 #[.int .i64 (linkN X), .string (txt (linkT X))] W fun e w' => e = .returned (.tuple #[.string (chainV (linkN X) (linkT X)), .bool (chainOk (linkN X) (linkT X))]) ∧ Below W.heap.size W w') := fun W => schain_any _ _ W
  have hv : chainV (linkN X) (linkT X) = if chainOk (linkN X) (linkT X) then txt (chainL (linkN X) (linkT X)) else ByteArray.empty := rfl
  rw [hv] at hCh
  have eI' : isLink X = (chainOk (linkN X) (linkT X) && decide (txt (chainL (linkN X) (linkT X)) = s)) := by
    rw [eI, Bool.eq_iff_iff]
    simp only [Bool.and_eq_true, decide_eq_true_eq]
    constructor
    · rintro ⟨h1, h2⟩; exact ⟨h1, by rw [h2]; exact hXs⟩
    · rintro ⟨h1, h2⟩; exact ⟨h1, txt_inj (h2.trans hXs.symm)⟩
  have hpp : ∀ i, i = p → p ≤ i := fun i e => Nat.le_of_eq e.symm
  rw [eI']
  clear eI eI' hsl hX hXs hXl hv hm
  generalize linkN X = L at *
  generalize txt (linkT X) = T at *
  generalize txt (chainL L (linkT X)) = C at *
  generalize chainOk L (linkT X) = k at *
  have hcl : Hid (∀ w1 w2 w3 w4, PcAt w1 p (X.drop 1) → PcAt w2 p (X.drop 3) → PcAt w3 p (X.drop 4) → But (fun i => i = p) (w.alloc (.cells #[.string s] 130)) w1 → But (fun i => i = p) w1 w2 → But (fun i => i = p) w2 w3 → But (fun i => i = p) w3 w4 → Below p w w4 ∧ p ≤ w4.heap.size) := fun w1 w2 w3 w4 h1 h2 h3 b1 b2 b3 b4 =>
    ⟨(((hBw.out.trans (b1.below hpp (Nat.le_of_lt hP0.out.lt))).trans (b2.below hpp (Nat.le_of_lt h1.lt))).trans (b3.below hpp (Nat.le_of_lt h2.lt))).trans (b4.below hpp (Nat.le_of_lt h3.lt)), by have := h3.lt; have := b4.size; omega⟩
  cases k with
  | false =>
    rw [if_neg (by decide)] at hCh
    go_enter Tryz.func84, Tryz.ntmps84
    go_wp2_with (first
      | (go_at_call 56; go_fit hT0.out; rintro e w1 ⟨rfl, h1, b1⟩)
      | (go_at_call 57; go_fit (hT1.out _ h1); rintro e w2 ⟨rfl, h2, b2⟩)
      | (go_at_call 57; go_fit (hT2.out _ h2); rintro e w3 ⟨rfl, h3, b3⟩)
      | (go_at_call 92; go_fit (hT3.out _ h3); rintro e w4 ⟨rfl, h4, b4⟩)
      | (go_at_call 72; go_fit (hCh.out _); rintro e w5 ⟨rfl, b5⟩)
      | fail)
    go_ret3
    obtain ⟨q1, q2⟩ := hcl.out _ _ _ _ h1 h2 h3 b1 b2 b3 b4
    exact ⟨rfl, by first | exact q1.trans (b5.mono q2) | (rw [hp]; exact q1.trans (b5.mono q2))⟩
  | true =>
    rw [if_pos rfl] at hCh
    by_cases hC : C = s
    · subst hC
      simp only [decide_true, Bool.and_self, if_true]
      go_enter Tryz.func84, Tryz.ntmps84
      go_wp2_with (first
        | (go_at_call 56; go_fit hT0.out; rintro e w1 ⟨rfl, h1, b1⟩)
        | (go_at_call 57; go_fit (hT1.out _ h1); rintro e w2 ⟨rfl, h2, b2⟩)
        | (go_at_call 57; go_fit (hT2.out _ h2); rintro e w3 ⟨rfl, h3, b3⟩)
        | (go_at_call 92; go_fit (hT3.out _ h3); rintro e w4 ⟨rfl, h4, b4⟩)
        | (go_at_call 72; go_fit (hCh.out _); rintro e w5 ⟨rfl, b5⟩)
        | fail)
      go_ret3
      obtain ⟨q1, q2⟩ := hcl.out _ _ _ _ h1 h2 h3 b1 b2 b3 b4
      exact ⟨rfl, by first | exact q1.trans (b5.mono q2) | (rw [hp]; exact q1.trans (b5.mono q2))⟩
    · have hne := bytes_ne' hC
      rw [decide_eq_false hC]
      clear hC
      go_enter Tryz.func84, Tryz.ntmps84
      go_wp2_with (first
        | (go_at_call 56; go_fit hT0.out; rintro e w1 ⟨rfl, h1, b1⟩)
        | (go_at_call 57; go_fit (hT1.out _ h1); rintro e w2 ⟨rfl, h2, b2⟩)
        | (go_at_call 57; go_fit (hT2.out _ h2); rintro e w3 ⟨rfl, h3, b3⟩)
        | (go_at_call 92; go_fit (hT3.out _ h3); rintro e w4 ⟨rfl, h4, b4⟩)
        | (go_at_call 72; go_fit (hCh.out _); rintro e w5 ⟨rfl, b5⟩)
        | fail)
      go_ret3
      obtain ⟨q1, q2⟩ := hcl.out _ _ _ _ h1 h2 h3 b1 b2 b3 b4
      exact ⟨rfl, by first | exact q1.trans (b5.mono q2) | (rw [hp]; exact q1.trans (b5.mono q2))⟩
/-! ### Kinds -/
def kindV (s : ByteArray) : Nat := if isIdx s then 73 else if isLeaf s then 76 else if isLink s.data.toList then 67 else 0
theorem head_idx {s : ByteArray} (h : isIdx s = true) : s.size = 128 ∧ s.data.toList.take 1 = [73] := by
  simp only [isIdx, Bool.and_eq_true, decide_eq_true_eq, beq_iff_eq] at h
  exact h.1.1
theorem head_leaf {s : ByteArray} (h : isLeaf s = true) : s.size = 128 ∧ s.data.toList.take 1 = [76] := by
  simp only [isLeaf, Bool.and_eq_true, decide_eq_true_eq, beq_iff_eq] at h
  exact h.1
theorem head_link {s : ByteArray} (h : isLink s.data.toList = true) : s.size = 128 ∧ s.data.toList.take 1 = [67] := by
  simp only [isLink, Bool.and_eq_true, decide_eq_true_eq, beq_iff_eq] at h
  exact ⟨h.1.1.1, h.1.1.2⟩
theorem head_byte {s : ByteArray} {c : UInt8} (h : s.size = 128 ∧ s.data.toList.take 1 = [c]) : ∀ hb, (s[0]'hb).toNat = c.toNat := fun hb => by
  have e0 := at_take (s := s) (i := 0) hb
  rw [List.drop_zero, h.2] at e0
  simp at e0
  rw [e0]
/-- A page is of one kind, or of none. -/
theorem one_kind (s : ByteArray) : (isIdx s = true → isLeaf s = false ∧ isLink s.data.toList = false) ∧ (isLeaf s = true → isLink s.data.toList = false) := by
  refine ⟨fun h => ⟨?_, ?_⟩, fun h => ?_⟩
  · cases e : isLeaf s with
    | false => rfl
    | true =>
      have := (head_idx h).2.symm.trans (head_leaf e).2
      simp at this
  · cases e : isLink s.data.toList with
    | false => rfl
    | true =>
      have := (head_idx h).2.symm.trans (head_link e).2
      simp at this
  · cases e : isLink s.data.toList with
    | false => rfl
    | true =>
      have := (head_leaf h).2.symm.trans (head_link e).2
      simp at this
theorem kind_at (s : ByteArray) (h : (isIdx s || isLeaf s || isLink s.data.toList) = true) : s.size = 128 ∧ ∀ hb, (s[0]'hb).toNat = kindV s := by
  unfold kindV
  cases h1 : isIdx s with
  | true => exact ⟨(head_idx h1).1, head_byte (head_idx h1)⟩
  | false =>
    cases h2 : isLeaf s with
    | true => exact ⟨(head_leaf h2).1, head_byte (head_leaf h2)⟩
    | false =>
      cases h3 : isLink s.data.toList with
      | true => exact ⟨(head_link h3).1, head_byte (head_link h3)⟩
      | false => rw [h1, h2, h3] at h; cases h
theorem kind_no (s : ByteArray) (h : (isIdx s || isLeaf s || isLink s.data.toList) = false) : kindV s = 0 := by
  unfold kindV
  cases h1 : isIdx s with
  | true => rw [h1] at h; cases h
  | false =>
    cases h2 : isLeaf s with
    | true => rw [h1, h2] at h; cases h
    | false =>
      cases h3 : isLink s.data.toList with
      | true => rw [h1, h2, h3] at h; cases h
      | false => rfl
end Go.Proofs.YtbkkhafckkndfaaGreat

namespace Go.Proofs.YtbkkhafckkndfaaGreat
open Go Go.RowKit

def abB : ByteArray := ⟨#[97, 98]⟩
def C0 : List Ce := [⟨7, 2, 0, abB⟩, ⟨9, 100, 5, ByteArray.empty⟩]
theorem C0_ok : leafOk C0 = true := by decide +kernel
theorem C0_page : (txt (leafL C0)).extract 0 10 = ⟨#[76, 2, 0, 0, 0, 7, 0, 2, 97, 98]⟩ := by decide +kernel
theorem leaf_kind {s : ByteArray} (h : isLeaf s = true) : kindV s = 76 := by
  unfold kindV
  cases e : isIdx s with
  | true => rw [((one_kind s).1 e).1] at h; cases h
  | false => rw [h]; rfl
theorem leafL_len {C : List Ce} (h : leafOk C = true) : (leafL C).length = 128 := by
  simp only [leafOk, Bool.and_eq_true, decide_eq_true_eq] at h
  exact padL_len h.2
end Go.Proofs.YtbkkhafckkndfaaGreat

namespace Go.Proofs.YtbkkhafckkndfaaGreat
open Go Go.RowKit

/-- A bool is returned that tells whether P. -/
def IsB (e : Ending) (P : Prop) : Prop := ∃ r : Bool, e = .returned (.bool r) ∧ (r = true ↔ P)
theorem IsB.yes {e : Ending} {P : Prop} (h : IsB e P) (hp : P) : e = .returned (.bool true) := by
  obtain ⟨r, h1, h2⟩ := h
  rw [h1, h2.2 hp]
theorem IsB.no {e : Ending} {P : Prop} (h : IsB e P) (hp : ¬ P) : e = .returned (.bool false) := by
  obtain ⟨r, h1, h2⟩ := h
  cases r with
  | false => exact h1
  | true => exact absurd (h2.1 rfl) hp
theorem take_same {α : Type} (d : α) (A B : List α) {k : Nat} (h1 : k < A.length) (h2 : k < B.length) (ht : A.take k = B.take k) (e : A.getD k d = B.getD k d) : A.take (k + 1) = B.take (k + 1) := by
  rw [List.take_succ_eq_append_getElem h1, List.take_succ_eq_append_getElem h2, ht]
  congr 2
  simpa [List.getD, h1, h2] using e
theorem new_at (w : World) (cs : List Value) (t : TypeId) (q : Nat) (hq : q = w.heap.size) (j : Nat) (u : Value) (hj : cs[j]? = some u) : (w.alloc (.cells cs.toArray t)).cell? ⟨q, 0 + j, none⟩ = some u := by
  rw [hq, cell_of_row _ _ _ _ _ _ (heap_alloc_new _ _), Nat.zero_add]
  rw [← hj, List.getElem?_toArray]
theorem SlotsAt.below {w w' : World} {a : Option Addr} {C : List Sl} (h : SlotsAt w a C) (g : Below w.heap.size w w') : SlotsAt w' a C := by
  rcases h with h | ⟨b, off, e, h⟩
  · exact .inl h
  · exact .inr ⟨b, off, e, fun i hi => ⟨below_cell g (h i hi).1, below_cell g (h i hi).2⟩⟩
theorem CellsAt.below {w w' : World} {a : Option Addr} {C : List Ce} (h : CellsAt w a C) (g : Below w.heap.size w w') : CellsAt w' a C := by
  rcases h with h | ⟨b, off, e, h⟩
  · exact .inl h
  · exact .inr ⟨b, off, e, fun i hi => ⟨below_cell g (h i hi).1, below_cell g (h i hi).2.1, below_cell g (h i hi).2.2.1, below_cell g (h i hi).2.2.2⟩⟩

set_option maxRecDepth 100000 in
theorem info_rslot : ∃ (i : TypeInfo) (z : Value), (Tryz.prog).info? 77 = some i ∧ i.zero = some z ∧ z.cells.size = 2 ∧ i.size = 2 ∧ i.bytes = 16 := ⟨_, _, rfl, rfl, rfl, rfl, rfl⟩
theorem eq_slot (K Q L P : Int) (w : World) : (binOp .neq 77 (.agg #[.int .i64 K, .int .i64 Q]) (.agg #[.int .i64 L, .int .i64 P])).run Tryz.prog w = .ok (.bool (!(K == L && Q == P))) w := by
  have hu := run_underlying Tryz.underlying77 w
  have hd : ∀ t x y, Op.equal t x y = Op.equalIn (9997 + 1 + 1 + 1) t x y := fun _ _ _ => rfl
  simp only [binOp, hd]
  rw [Op.equalIn]
  simp [go_sem, hu]
  by_cases h1 : K = L <;> by_cases h2 : Q = P <;> simp [h1, h2]
set_option maxRecDepth 100000 in
theorem info_rcell : ∃ (i : TypeInfo) (z : Value), (Tryz.prog).info? 82 = some i ∧ i.zero = some z ∧ z.cells.size = 4 ∧ i.size = 4 ∧ i.bytes = 40 := ⟨_, _, rfl, rfl, rfl, rfl, rfl⟩
theorem eq_cell (K Z Q L X P : Int) (T U : ByteArray) (w : World) : (binOp .neq 82 (.agg #[.int .i64 K, .int .i64 Z, .int .i64 Q, .string T]) (.agg #[.int .i64 L, .int .i64 X, .int .i64 P, .string U])).run Tryz.prog w = .ok (.bool (!(K == L && Z == X && Q == P && T.toList == U.toList))) w := by
  have hu := run_underlying Tryz.underlying82 w
  have hd : ∀ t x y, Op.equal t x y = Op.equalIn (9997 + 1 + 1 + 1) t x y := fun _ _ _ => rfl
  simp only [binOp, hd]
  rw [Op.equalIn]
  simp [go_sem, hu]
  by_cases h1 : K = L <;> by_cases h2 : Z = X <;> by_cases h3 : Q = P <;> by_cases h4 : T.toList = U.toList <;> simp [h1, h2, h3, h4]
end Go.Proofs.YtbkkhafckkndfaaGreat

namespace Go.Proofs.YtbkkhafckkndfaaGreat
open Go Go.RowKit

theorem prs_grew {w w' : World} {a : Option Addr} {L : List Pr} (h : PrsAt w a L) (g : Grew w w') : PrsAt w' a L := h.below g.below
theorem emeas {p n : Nat} (h : p < n) (i : Int) (e : i = (p : Int) + 1) : n - (intOf (Value.int .i64 i)).toNat < n - (intOf (Value.int .i64 (p : Int))).toNat := by
  simp only [intOf, e]
  omega
end Go.Proofs.YtbkkhafckkndfaaGreat

namespace Go.Proofs.YtbkkhafckkndfaaGreat
open Go Go.RowKit

set_option maxHeartbeats 1000000 in
theorem kpage_any (n : Int) (w : World) : Calls Tryz.prog 43 #[.int .i64 n] w fun e w' => e = .returned (.bool (pageB n)) ∧ w' = w := by
  have hp : pageB n = (decide (2 ≤ n) && decide (n < 200)) := by unfold pageB; rw [Bool.decide_and]
  rw [hp]
  go_enter Tryz.func43, Tryz.ntmps43
  by_cases h1 : 2 ≤ n <;> by_cases h2 : n < 200 <;> simp only [h1, h2, decide_true, decide_false, Bool.and_true, Bool.and_false] <;> go_wp2 <;> go_ret <;> exact ⟨rfl, rfl⟩
set_option maxHeartbeats 1000000 in
theorem kinline_any (size : Int) (w : World) : Calls Tryz.prog 59 #[.int .i64 size] w fun e w' => e = .returned (.bool (decide (size ≤ 24))) ∧ w' = w := by
  go_enter Tryz.func59, Tryz.ntmps59
  go_wp2
  go_ret
  exact ⟨rfl, rfl⟩
/-- The last key of the first k records. -/
def lastR (L : List Pr) : Nat → Int
  | 0 => -1
  | k + 1 => (L.getD k noPr).n
theorem reOk_last {L : List Pr} {k : Nat} (h : ∀ j, j < k → reOk L j = true) : reOk L k = (decide (lastR L k < (L.getD k noPr).n) && decide ((L.getD k noPr).n ≤ 2147483647) && decide ((L.getD k noPr).b.size ≤ 900)) := by
  cases k with
  | zero =>
    rw [reOk_zero, lastR]
    unfold keyB
    congr 1
    rw [← Bool.decide_and]
    apply decide_eq_decide.2
    omega
  | succ k =>
    rw [reOk_succ, lastR]
    have h0 := h k (by omega)
    have hk : 0 ≤ (L.getD k noPr).n := by
      unfold reOk keyB at h0
      simp only [Bool.and_eq_true, decide_eq_true_eq] at h0
      omega
    generalize (L.getD (k + 1) noPr).n = a at *
    generalize (L.getD k noPr).n = b at *
    generalize (L.getD (k + 1) noPr).b.size = c at *
    unfold keyB
    by_cases h1 : b < a <;> by_cases h2 : a ≤ 2147483647 <;> by_cases h3 : c ≤ 900 <;> simp [h1, h2, h3] <;> omega
set_option maxRecDepth 100000 in
set_option maxHeartbeats 4000000 in
theorem kright_any (L : List Pr) (a : Option Addr) (cap : Nat) (w : World) (hS : PrsAt w a L) (hm : L.length < 1000000) : Calls Tryz.prog 27 #[.slice a L.length cap] w fun e w' => e = .returned (.bool (recsOk L)) ∧ Grew w w' := by
  obtain ⟨n, hN⟩ : ∃ n, L.length = n := ⟨_, rfl⟩
  have hAll : Hid ((∀ k, k < n → reOk L k = true) → recsOk L = true) := fun h => recs_yes (fun k hk => h k (by omega))
  have hNone : Hid (∀ k, k < n → reOk L k = false → Ending.returned (.bool false) = Ending.returned (.bool (recsOk L))) := fun k hk h => by rw [recs_no (by omega) h]
  rw [hN]
  have hNN : Hid (L.length = n) := hN
  have hnm : n < 1000000 := by omega
  clear hN hm
  go_enter Tryz.func27, Tryz.ntmps27
  go_wp2
  go_loopw [3, 8] (fun ls i wr => ∃ k : Nat, k ≤ n ∧ i = .int .i64 k ∧ ls = .int .i64 (lastR L k) ∧ (∀ j, j < k → reOk L j = true) ∧ Grew w wr) (fun _ i _ => n - (intOf i).toNat)
  case atStart => exact ⟨0, by omega, rfl, rfl, fun j hj => absurd hj (by omega), Grew.refl _⟩
  case round =>
    obtain ⟨k, hk, rfl, rfl, hok, hG⟩ := hrel
    by_cases hlt : k < n
    · have hki : (k : Int) < n := by omega
      obtain ⟨b, off, rfl, hcs⟩ := (prs_grew hS hG).resolve_left (fun e => by have := hNN.out; rw [e] at this; simp at this; omega)
      obtain ⟨e0, e1⟩ := hcs k (by rw [hNN.out]; exact hlt)
      have hl := reOk_last hok
      have hup : lastR L (k + 1) = (L.getD k noPr).n := rfl
      obtain ⟨K, hK0⟩ : ∃ K, (L.getD k noPr).n = K := ⟨_, rfl⟩
      obtain ⟨T, hT0⟩ : ∃ T, (L.getD k noPr).b = T := ⟨_, rfl⟩
      obtain ⟨M, hM0⟩ : ∃ M, lastR L k = M := ⟨_, rfl⟩
      rw [hK0] at e0 hl hup
      rw [hT0] at e1 hl
      rw [hM0] at hl
      rw [hM0]
      replace hG : Hid (Grew w wr) := hG
      replace hup : Hid (lastR L (k + 1) = K) := hup
      clear hcs hK0 hT0 hM0
      cases hb : reOk L k with
      | false =>
        have HF : Hid _ := hNone.out k hlt hb
        rw [hb] at hl
        clear hok hb
        have hl' : ¬ ((M < K ∧ K ≤ 2147483647) ∧ T.size ≤ 900) := fun e => by
          rw [decide_eq_true e.1.1, decide_eq_true e.1.2, decide_eq_true e.2] at hl
          cases hl
        clear hl
        by_cases h1 : K ≤ M
        · clear hl'
          go_wp2
          go_ret
          exact ⟨HF.out, hG.out.alloc _ _⟩
        · by_cases h2 : 2147483647 < K
          · clear hl'
            go_wp2
            go_ret
            exact ⟨HF.out, hG.out.alloc _ _⟩
          · have h3 : (900 : Int) < T.size := by
              have : ¬ T.size ≤ 900 := fun e => hl' ⟨⟨by omega, by omega⟩, e⟩
              omega
            clear hl'
            go_wp2
            go_ret
            exact ⟨HF.out, hG.out.alloc _ _⟩
      | true =>
        have hcur : Hid (∀ j, j < k + 1 → reOk L j = true) := fun j hj => by
          by_cases e : j = k
          · rw [e]; exact hb
          · exact hok j (by omega)
        rw [hb] at hl
        replace hl := hl.symm
        simp only [Bool.and_eq_true, decide_eq_true_eq] at hl
        obtain ⟨⟨l1, l2⟩, l3⟩ := hl
        have l1' : ¬ K ≤ M := by omega
        have l2' : ¬ (2147483647 < K) := by omega
        have l3' : ¬ ((900 : Int) < T.size) := by omega
        clear hok hb l1 l2 l3
        go_wp2
        exact ⟨⟨k + 1, hlt, by simp, by rw [hup.out], hcur.out, hG.out.alloc _ _⟩, meas_up hlt⟩
    · have hki : ¬ (k : Int) < n := by omega
      obtain rfl : k = n := by omega
      have v : Hid (recsOk L = true) := hAll.out hok
      clear hok hAll
      go_wp2_with (fail)
      go_ret
      exact ⟨by rw [v.out]; rfl, hG⟩
end Go.Proofs.YtbkkhafckkndfaaGreat

namespace Go.Proofs.YtbkkhafckkndfaaGreat
open Go Go.RowKit

/-- What is to be written, and what is left free. -/
structure Sp where
  O : List Pr
  F : List Int
def putS (H : List Pr) (s : Sp) (b : ByteArray) : Option (Int × Sp) := (putW H s.O s.F b).map fun x => (x.1, ⟨x.2.1, x.2.2⟩)
def Sp.len (s : Sp) : Nat := s.O.length + s.F.length
theorem putW_len {H O : List Pr} {F : List Int} {b : ByteArray} {n : Int} {O' : List Pr} {F' : List Int} (h : putW H O F b = some (n, O', F')) : O'.length + F'.length = O.length + F.length := by
  unfold putW at h
  split at h
  · simp only [Option.some.injEq, Prod.mk.injEq] at h
    obtain ⟨_, rfl, rfl⟩ := h
    rfl
  · split at h
    · simp only [Option.some.injEq, Prod.mk.injEq] at h
      obtain ⟨_, rfl, rfl⟩ := h
      rfl
    · split at h
      · cases h
      · simp only [Option.some.injEq, Prod.mk.injEq] at h
        obtain ⟨_, rfl, rfl⟩ := h
        simp
        omega
theorem putS_len {H : List Pr} {s s' : Sp} {b : ByteArray} {n : Int} (h : putS H s b = some (n, s')) : s'.len = s.len := by
  unfold putS at h
  cases e : putW H s.O s.F b with
  | none => rw [e] at h; cases h
  | some x =>
    rw [e] at h
    simp only [Option.map_some, Option.some.injEq, Prod.mk.injEq] at h
    obtain ⟨_, rfl⟩ := h
    exact putW_len e
/-! ### A record's pieces -/
def pieceL (b : ByteArray) (k : Nat) : List UInt8 := (b.extract (k * 120) (min ((k + 1) * 120) b.size)).data.toList
def npc (b : ByteArray) : Nat := (b.size - 1) / 120 + 1
def goC (H : List Pr) (b : ByteArray) : Nat → Int → Sp → Option (Int × Sp)
  | 0, next, s => some (next, s)
  | k + 1, next, s => match putS H s (chainV next (pieceL b k)) with
    | none => none
    | some (n, s') => goC H b k n s'
theorem goC_no {H : List Pr} {b : ByteArray} {k : Nat} {next : Int} {s : Sp} (h : putS H s (chainV next (pieceL b k)) = none) : goC H b (k + 1) next s = none := by
  rw [goC, h]
theorem goC_up {H : List Pr} {b : ByteArray} {k : Nat} {next n : Int} {s s' : Sp} (h : putS H s (chainV next (pieceL b k)) = some (n, s')) : goC H b (k + 1) next s = goC H b k n s' := by
  rw [goC, h]
/-! ### The records, one by one -/
def stepR (H : List Pr) (s : List Ce × Sp) (x : Pr) : Option (List Ce × Sp) :=
  if x.b.size ≤ 24 then some (s.1 ++ [⟨x.n, x.b.size, 0, x.b⟩], s.2) else (goC H x.b (npc x.b) 0 s.2).map fun r => (s.1 ++ [⟨x.n, x.b.size, r.1, ByteArray.empty⟩], r.2)
def goR (H : List Pr) : List Pr → List Ce × Sp → Option (List Ce × Sp)
  | [], s => some s
  | x :: L, s => (stepR H s x).bind (goR H L)
theorem goR_append (H : List Pr) (A B : List Pr) : ∀ s, goR H (A ++ B) s = (goR H A s).bind (goR H B) := by
  induction A with
  | nil => intro s; rfl
  | cons x A ih =>
    intro s
    rw [List.cons_append, goR, goR]
    cases stepR H s x with
    | none => rfl
    | some r => simp only [Option.bind_some]; exact ih r
theorem goR_take (H L : List Pr) (k : Nat) (h : k < L.length) (s : List Ce × Sp) : goR H (L.take (k + 1)) s = (goR H (L.take k) s).bind fun r => stepR H r (L.getD k noPr) := by
  have e : L.getD k noPr = L[k] := by simp [List.getD, h]
  rw [List.take_succ_eq_append_getElem h, goR_append, e]
  congr 1
  funext r
  rw [goR]
  cases stepR H r L[k] <;> rfl
theorem goR_out (H L : List Pr) (k : Nat) (s : List Ce × Sp) (h : goR H (L.take k) s = none) : goR H L s = none := by
  have e : L = L.take k ++ L.drop k := (List.take_append_drop k L).symm
  rw [e, goR_append, h]
  rfl
/-! ### The leaves -/
def growG (D : List Ce) : Nat → Nat → Nat
  | 0, k => k
  | f + 1, k => if k < D.length ∧ leafOk (D.take (k + 1)) = true then growG D f (k + 1) else k
/-- How many of these cells stand in the first leaf. -/
def nxt (D : List Ce) : Nat := growG D D.length 1
def goL (H : List Pr) : Nat → List Ce → List Sl × Sp → Option (List Sl × Sp)
  | 0, _, s => some s
  | f + 1, D, s => match D with
    | [] => some s
    | c :: _ => match putS H s.2 (leafV (D.take (nxt D))) with
      | none => none
      | some (n, s') => goL H f (D.drop (nxt D)) (s.1 ++ [⟨c.key, n⟩], s')
theorem growG_ge (D : List Ce) : ∀ f k, k ≤ growG D f k := by
  intro f
  induction f with
  | zero => intro k; exact Nat.le_refl _
  | succ f ih =>
    intro k
    rw [growG]
    split
    · have := ih (k + 1); omega
    · exact Nat.le_refl _
theorem growG_le (D : List Ce) : ∀ f k, k ≤ D.length → growG D f k ≤ D.length := by
  intro f
  induction f with
  | zero => intro k h; exact h
  | succ f ih =>
    intro k h
    rw [growG]
    split
    · exact ih (k + 1) (by omega)
    · exact h
theorem growG_end (D : List Ce) : ∀ f k, D.length ≤ k + f → ¬ (growG D f k < D.length ∧ leafOk (D.take (growG D f k + 1)) = true) := by
  intro f
  induction f with
  | zero => intro k h; rw [growG]; omega
  | succ f ih =>
    intro k h
    rw [growG]
    split
    · exact ih (k + 1) (by omega)
    · assumption
theorem growG_mid (D : List Ce) : ∀ f k j, k ≤ j → j < growG D f k → leafOk (D.take (j + 1)) = true ∧ j < D.length := by
  intro f
  induction f with
  | zero => intro k j h1 h2; rw [growG] at h2; omega
  | succ f ih =>
    intro k j h1 h2
    rw [growG] at h2
    split at h2
    · rename_i hc
      by_cases e : j = k
      · rw [e]; exact ⟨hc.2, hc.1⟩
      · exact ih (k + 1) j (by omega) h2
    · omega
/-- It is the first place where one cell more has no room. -/
theorem nxt_is (D : List Ce) {k : Nat} (h1 : 1 ≤ k) (h : ∀ j, 1 ≤ j → j < k → leafOk (D.take (j + 1)) = true ∧ j < D.length) (hk : ¬ (k < D.length ∧ leafOk (D.take (k + 1)) = true)) : nxt D = k := by
  have g1 := growG_ge D D.length 1
  have g2 := growG_end D D.length 1 (by omega)
  have g3 := growG_mid D D.length 1
  unfold nxt
  rcases Nat.lt_trichotomy (growG D D.length 1) k with e | e | e
  · have := h _ g1 e
    exact absurd ⟨this.2, this.1⟩ g2
  · exact e
  · have := g3 k h1 e
    exact absurd ⟨this.2, this.1⟩ hk
/-! ### The whole -/
def planR (L H : List Pr) (F : List Int) : Option (List Pr × Int) :=
  match goR H L ([], ⟨[], F⟩) with
  | none => none
  | some (C, s) => match goL H C.length C ([], s) with
    | none => none
    | some (S, s') => (putS H s' (idxV S)).map fun x => (x.2.O, x.1)
/-- What Plan answers. -/
def PlanIs (L H : List Pr) (F : List Int) (O : List Pr) (root err : Int) : Prop :=
  (¬ (recsOk L = true ∧ PgsOk H F) ∧ O = [] ∧ root = 0 ∧ err = 9) ∨ ((recsOk L = true ∧ PgsOk H F) ∧ 21 < (lvs L).1 ∧ O = [] ∧ root = 0 ∧ err = 12) ∨
  ((recsOk L = true ∧ PgsOk H F) ∧ ¬ 21 < (lvs L).1 ∧ planR L H F = none ∧ O = [] ∧ root = 0 ∧ err = 8) ∨ ((recsOk L = true ∧ PgsOk H F) ∧ ¬ 21 < (lvs L).1 ∧ planR L H F = some (O, root) ∧ err = 0)
end Go.Proofs.YtbkkhafckkndfaaGreat

namespace Go.Proofs.YtbkkhafckkndfaaGreat
open Go Go.RowKit

/-! ### Cells in parts -/
def cutG : Nat → List Ce → List (List Ce)
  | 0, _ => []
  | f + 1, D => match D with
    | [] => []
    | _ :: _ => D.take (nxt D) :: cutG f (D.drop (nxt D))
theorem nxt_pos (D : List Ce) : 1 ≤ nxt D := growG_ge D _ 1
theorem cutG_nil (f : Nat) : cutG f [] = [] := by cases f <;> rfl
theorem cutG_more (D : List Ce) : ∀ f, D.length ≤ f → cutG f D = cutG D.length D := by
  intro f
  induction f using Nat.strongRecOn generalizing D with
  | _ f ih =>
    intro h
    cases D with
    | nil => rw [cutG_nil]; rfl
    | cons c D =>
      cases f with
      | zero => simp at h
      | succ f =>
        have h1 := nxt_pos (c :: D)
        have h2 : ((c :: D).drop (nxt (c :: D))).length ≤ D.length := by simp; omega
        rw [List.length_cons, cutG, cutG]
        rw [ih f (by omega) _ (by simp at h; omega)]
        have := ih D.length (by simp at h; omega) _ h2
        rw [this]
/-- One part more. -/
theorem cutG_cons {D : List Ce} {k : Nat} (h : 0 < D.length) (hk : nxt D = k) : cutG D.length D = D.take k :: cutG (D.drop k).length (D.drop k) := by
  cases D with
  | nil => simp at h
  | cons c D =>
    subst hk
    have h1 := nxt_pos (c :: D)
    rw [List.length_cons, cutG]
    rw [cutG_more _ D.length (by simp; omega)]
theorem cutG_sub (D : List Ce) : ∀ f G, G ∈ cutG f D → 0 < G.length ∧ G.length ≤ D.length := by
  intro f
  induction f generalizing D with
  | zero => intro G h; cases h
  | succ f ih =>
    intro G h
    cases D with
    | nil => cases h
    | cons c D =>
      rw [cutG] at h
      have h1 := nxt_pos (c :: D)
      rcases List.mem_cons.1 h with rfl | h
      · simp; omega
      · have := ih _ _ h
        simp at this ⊢
        omega
/-- The leaves by their parts. -/
def goP (H : List Pr) : List (List Ce) → List Sl × Sp → Option (List Sl × Sp)
  | [], s => some s
  | G :: Gs, s => match putS H s.2 (leafV G) with
    | none => none
    | some (n, s') => goP H Gs (s.1 ++ [⟨(G.getD 0 noCe).key, n⟩], s')
theorem goL_parts (H : List Pr) : ∀ f D s, goL H f D s = goP H (cutG f D) s := by
  intro f
  induction f with
  | zero => intro D s; rfl
  | succ f ih =>
    intro D s
    cases D with
    | nil => rfl
    | cons c D =>
      have h1 := nxt_pos (c :: D)
      rw [goL, cutG]
      rw [goP]
      cases putS H s.2 (leafV ((c :: D).take (nxt (c :: D)))) with
      | none => rfl
      | some x =>
        obtain ⟨n, s'⟩ := x
        dsimp only
        rw [ih]
        congr 4
        obtain ⟨m, hm⟩ : ∃ m, nxt (c :: D) = m + 1 := ⟨nxt (c :: D) - 1, by omega⟩
        rw [hm]
        rfl
theorem goP_append (H : List Pr) (A B : List (List Ce)) : ∀ s, goP H (A ++ B) s = (goP H A s).bind (goP H B) := by
  induction A with
  | nil => intro s; rfl
  | cons G A ih =>
    intro s
    rw [List.cons_append, goP, goP]
    cases putS H s.2 (leafV G) with
    | none => rfl
    | some x => exact ih _
theorem goP_take (H : List Pr) (Gs : List (List Ce)) (k : Nat) (h : k < Gs.length) (s : List Sl × Sp) : goP H (Gs.take (k + 1)) s = (goP H (Gs.take k) s).bind fun r => match putS H r.2 (leafV (Gs.getD k [])) with
    | none => none
    | some (n, s') => some (r.1 ++ [⟨((Gs.getD k []).getD 0 noCe).key, n⟩], s') := by
  have e : Gs.getD k [] = Gs[k] := by simp [List.getD, h]
  rw [List.take_succ_eq_append_getElem h, goP_append, e]
  rfl
theorem goP_out (H : List Pr) (Gs : List (List Ce)) (k : Nat) (s : List Sl × Sp) (h : goP H (Gs.take k) s = none) : goP H Gs s = none := by
  have e : Gs = Gs.take k ++ Gs.drop k := (List.take_append_drop k Gs).symm
  rw [e, goP_append, h]
  rfl
/-- The leaves. -/
def partsL (C : List Ce) : List (List Ce) := cutG C.length C
/-! ### The walk over the cells: what is parted so far, and where the last part starts -/
def single (C : List Ce) : Prop := ∀ i, i < C.length → leafOk ((C.drop i).take 1) = true
structure CutI (C : List Ce) (k : Nat) (Ps : List (List Ce)) (st : Nat) : Prop where
  le : st ≤ k
  lt : 0 < k → st < k
  ps : cutG C.length C = Ps ++ cutG (C.drop st).length (C.drop st)
  ok : ∀ j, 1 ≤ j → j < k - st → leafOk ((C.drop st).take (j + 1)) = true
theorem CutI.zero (C : List Ce) : CutI C 0 [] 0 := ⟨by omega, by omega, rfl, fun j _ _ => by omega⟩
theorem CutI.yes {C : List Ce} {k st : Nat} {Ps : List (List Ce)} (h : CutI C k Ps st) (hf : leafOk ((C.drop st).take (k + 1 - st)) = true) : CutI C (k + 1) Ps st := by
  have := h.le
  refine ⟨by omega, fun _ => by omega, h.ps, fun j h1 h2 => ?_⟩
  by_cases e : j + 1 = k + 1 - st
  · rw [e]; exact hf
  · exact h.ok j h1 (by omega)
theorem CutI.no {C : List Ce} {k st : Nat} {Ps : List (List Ce)} (h : CutI C k Ps st) (hk : k < C.length) (hs : single C) (hf : leafOk ((C.drop st).take (k + 1 - st)) = false) : st < k ∧ CutI C (k + 1) (Ps ++ [(C.drop st).take (k - st)]) k := by
  have h1 := h.le
  have h0 : st < k := by
    by_cases e : st = k
    · exfalso
      subst e
      have := hs st hk
      rw [show st + 1 - st = 1 by omega, this] at hf
      cases hf
    · omega
  refine ⟨h0, by omega, fun _ => by omega, ?_, fun j _ _ => by omega⟩
  have hn : nxt (C.drop st) = k - st := nxt_is _ (by omega) (fun j a b => ⟨h.ok j a b, by simp; omega⟩) (fun e => by
    have := e.2
    rw [show k - st + 1 = k + 1 - st by omega, hf] at this
    cases this)
  rw [h.ps, cutG_cons (by simp; omega) hn, List.drop_drop, show st + (k - st) = k by omega]
  simp
theorem CutI.done {C : List Ce} {Ps : List (List Ce)} {st : Nat} (h : CutI C C.length Ps st) : cutG C.length C = if st < C.length then Ps ++ [C.drop st] else Ps := by
  by_cases e : st < C.length
  · rw [if_pos e, h.ps]
    have hn : nxt (C.drop st) = C.length - st := nxt_is _ (by omega) (fun j a b => ⟨h.ok j a b, by simp; omega⟩) (fun e => by simp at e)
    have ht : (C.drop st).take (C.length - st) = C.drop st := List.take_of_length_le (by simp)
    rw [cutG_cons (by simp; omega) hn, List.drop_drop, show st + (C.length - st) = C.length by omega, ht]
    simp [cutG]
  · rw [if_neg e, h.ps]
    rw [List.drop_of_length_le (by omega)]
    simp [cutG]
theorem CutI.parts_le {C : List Ce} {k st : Nat} {Ps : List (List Ce)} (h : CutI C k Ps st) : Ps.length ≤ (cutG C.length C).length := by
  rw [h.ps]; simp
theorem cutG_len (D : List Ce) : ∀ f, (cutG f D).length ≤ D.length := by
  intro f
  induction f generalizing D with
  | zero => simp [cutG]
  | succ f ih =>
    cases D with
    | nil => simp [cutG]
    | cons c D =>
      have h1 := nxt_pos (c :: D)
      rw [cutG]
      have := ih ((c :: D).drop (nxt (c :: D)))
      simp at this ⊢
      omega
/-! ### Right records' cells -/
/-- A record's cell, its chain at this page. -/
def ceOf (x : Pr) (p : Int) : Ce := if x.b.size ≤ 24 then ⟨x.n, x.b.size, 0, x.b⟩ else ⟨x.n, x.b.size, p, ByteArray.empty⟩
theorem ceOf_good {x : Pr} {p : Int} (hk : keyB x.n = true) (hb : x.b.size ≤ 900) (hp : pageB p = true) : ceGood (ceOf x p) = true := by
  unfold ceOf
  split
  · rename_i h
    exact good_in hk (by simp) (by simp; omega) rfl rfl
  · rename_i h
    exact good_out hk (by simp; omega) (by simp; omega) hp rfl
theorem ceOf_len (x : Pr) (p : Int) (h : x.b.size ≤ 900) : (ceB (ceOf x p)).length = cz x := by
  unfold ceOf cz ceB
  split
  · rename_i h
    have h1 : x.b.data.size = x.b.size := rfl
    have h2 : (x.b.size : Int) ≤ 24 := by omega
    simp [digs_len, h2]
    omega
  · rename_i h
    have h1 : ¬ ((x.b.size : Int) ≤ 24) := by omega
    simp [digs_len, h1]
theorem stretch_ok {C : List Ce} (hg : ∀ i, i < C.length → ceOk C i = true) (i m : Nat) (him : i + m ≤ C.length) (h2 : ((C.drop i).take m).length ≤ 200) : leafOk ((C.drop i).take m) = decide ((leafH ((C.drop i).take m) ((C.drop i).take m).length).length ≤ 128) := by
  have hl : ((C.drop i).take m).length = m := by simp; omega
  have hget : ∀ k, k < m → ((C.drop i).take m).getD k noCe = C.getD (i + k) noCe := fun k hk => by simp only [List.getD_eq_getElem?_getD, List.getElem?_take, List.getElem?_drop, if_pos hk]
  refine leaf_end h2 fun k hk => ?_
  rw [hl] at hk
  cases k with
  | zero =>
    rw [ceOk_zero, hget 0 hk]
    have := hg i (by omega)
    unfold ceOk at this
    simp only [Bool.and_eq_true] at this
    exact this.1
  | succ k =>
    rw [ceOk_succ, hget (k + 1) hk, hget k (by omega)]
    have := hg (i + k + 1) (by omega)
    rw [ceOk_succ] at this
    exact this
theorem leafH_all (G : List Ce) : (leafH G G.length).length = 2 + (G.flatMap ceB).length := by
  rw [leafH, List.take_length]
  simp [digs_len]
  omega
theorem flat_ge (G : List Ce) : 6 * G.length ≤ (G.flatMap ceB).length := by
  induction G with
  | nil => simp
  | cons c G ih =>
    have := ceB_ge c
    simp only [List.flatMap_cons, List.length_append, List.length_cons]
    omega
theorem map_get (L : List Pr) (p : Int) {i : Nat} (hi : i < L.length) : (L.map fun x => ceOf x p).getD i noCe = ceOf (L.getD i noPr) p := by
  simp [List.getD, hi]
theorem recs_size {L : List Pr} (h : recsOk L = true) {i : Nat} (hi : i < L.length) : keyB (L.getD i noPr).n = true ∧ (L.getD i noPr).b.size ≤ 900 := by
  have := recs_at h hi
  unfold reOk at this
  simp only [Bool.and_eq_true, decide_eq_true_eq] at this
  exact this.1
theorem ceOf_key (x : Pr) (p : Int) : (ceOf x p).key = x.n := by unfold ceOf; split <;> rfl
/-- Cells of right records, their pages in `P`. -/
def CellsOf (L : List Pr) (C : List Ce) : Prop := C.length = L.length ∧ ∀ i, i < L.length → ∃ p, pageB p = true ∧ C.getD i noCe = ceOf (L.getD i noPr) p
theorem cells_ok {L : List Pr} {C : List Ce} (h : recsOk L = true) (hc : CellsOf L C) : ∀ i, i < C.length → ceOk C i = true := by
  intro i hi
  rw [hc.1] at hi
  obtain ⟨h1, h2⟩ := recs_size h hi
  obtain ⟨p, hp, e⟩ := hc.2 i hi
  cases i with
  | zero =>
    rw [ceOk_zero, e]
    exact ceOf_good h1 h2 hp
  | succ i =>
    obtain ⟨q, hq, e2⟩ := hc.2 i (by omega)
    have := recs_at h hi
    rw [reOk_succ] at this
    simp only [Bool.and_eq_true, decide_eq_true_eq] at this
    rw [ceOk_succ, e, e2, ceOf_good h1 h2 hp, ceOf_key, ceOf_key]
    simpa using this.2
theorem cells_single {L : List Pr} {C : List Ce} (h : recsOk L = true) (hc : CellsOf L C) : single C := by
  intro i hi
  have hl : ((C.drop i).take 1).length = 1 := by simp; omega
  rw [stretch_ok (cells_ok h hc) i 1 (by omega) (by omega), leafH_all, decide_eq_true_eq]
  have e : (C.drop i).take 1 = [C.getD i noCe] := by
    rw [List.drop_eq_getElem_cons hi, List.take_succ_cons, List.take_zero]
    simp [List.getD, hi]
  rw [hc.1] at hi
  obtain ⟨p, hp, e2⟩ := hc.2 i hi
  rw [e, e2]
  have h1 := ceOf_len (L.getD i noPr) p (recs_size h hi).2
  have := cz_le (L.getD i noPr)
  rw [List.flatMap_cons, List.flatMap_nil, List.append_nil, h1]
  omega
theorem count_go {L : List Pr} {C : List Ce} (h : recsOk L = true) (hc : CellsOf L C) : ∀ k, k ≤ L.length → ∃ Ps st, CutI C k Ps st ∧ (0 < k → (((C.drop st).take (k - st)).flatMap ceB).length ≤ 126) ∧
    lvs (L.take k) = if k = 0 then (0, 0) else (Ps.length + 1, 126 - ((((C.drop st).take (k - st)).flatMap ceB).length : Int)) := by
  intro k
  induction k with
  | zero => intro _; exact ⟨[], 0, CutI.zero C, by omega, rfl⟩
  | succ k ih =>
    intro hk
    obtain ⟨Ps, st, hI, hle, hv⟩ := ih (by omega)
    have hkC : k < C.length := by rw [hc.1]; omega
    obtain ⟨p, hp, e2⟩ := hc.2 k hk
    have hz := ceOf_len (L.getD k noPr) p (recs_size h hk).2
    have hz2 := cz_le (L.getD k noPr)
    have h1 := hI.le
    rw [lvs_up L k (by omega), hv]
    have hup : ∀ s, s ≤ k → ((C.drop s).take (k + 1 - s)).flatMap ceB = ((C.drop s).take (k - s)).flatMap ceB ++ ceB (C.getD k noCe) := fun s hs => by
      rw [show k + 1 - s = (k - s) + 1 by omega, List.take_succ_eq_append_getElem (by simp; omega), List.flatMap_append]
      have : (C.drop s)[k - s]'(by simp; omega) = C.getD k noCe := by
        rw [List.getElem_drop]
        simp only [show s + (k - s) = k by omega]
        simp [List.getD, hkC]
      rw [this]
      simp
    have hlen : (((C.drop st).take (k + 1 - st)).flatMap ceB).length = (((C.drop st).take (k - st)).flatMap ceB).length + cz (L.getD k noPr) := by rw [hup st h1, List.length_append, e2, hz]
    have hself : (((C.drop k).take (k + 1 - k)).flatMap ceB).length = cz (L.getD k noPr) := by
      rw [hup k (Nat.le_refl _), List.length_append, e2, hz]
      simp
    have hst : ((C.drop st).take (k + 1 - st)).length = k + 1 - st := by simp; omega
    have hfl := flat_ge ((C.drop st).take (k - st))
    have hst2 : ((C.drop st).take (k - st)).length = k - st := by simp; omega
    have h22 : k - st ≤ 21 := by
      by_cases e : k = 0
      · omega
      · have := hle (by omega)
        omega
    have hok := stretch_ok (cells_ok h hc) st (k + 1 - st) (by omega) (by rw [hst]; omega)
    rw [leafH_all, hlen] at hok
    generalize hS : (((C.drop st).take (k - st)).flatMap ceB).length = S at *
    by_cases e : k = 0
    · subst e
      obtain rfl : st = 0 := by omega
      have hS0 : S = 0 := by rw [← hS]; simp
      refine ⟨Ps, 0, hI.yes (by rw [hok, decide_eq_true_eq]; omega), fun _ => by rw [hlen]; omega, ?_⟩
      have hP : Ps = [] := by
        cases Ps with
        | nil => rfl
        | cons G Ps =>
          have := hI.ps
          simp only [List.drop_zero] at this
          have h3 := congrArg List.length this
          simp at h3
          omega
      rw [if_pos rfl, if_neg (by omega), hlen, hP, hS0, lvStep, if_pos (by dsimp only; omega)]
      simp
    · rw [if_neg e, lvStep]
      have := hle (by omega)
      by_cases hf : 2 + (S + cz (L.getD k noPr)) ≤ 128
      · refine ⟨Ps, st, hI.yes (by rw [hok, decide_eq_true hf]), fun _ => by rw [hlen]; omega, ?_⟩
        rw [hlen, if_neg (by dsimp only; omega), if_neg (by omega)]
        simp
        omega
      · obtain ⟨h4, h5⟩ := hI.no hkC (cells_single h hc) (by rw [hok, decide_eq_false hf])
        refine ⟨_, k, h5, fun _ => by rw [hself]; omega, ?_⟩
        rw [hself, if_pos (by dsimp only; omega), if_neg (by omega)]
        simp
/-- As many leaves as the document counts. -/
theorem count_is {L : List Pr} {C : List Ce} (h : recsOk L = true) (hc : CellsOf L C) : (cutG C.length C).length = (lvs L).1 := by
  obtain ⟨Ps, st, hI, _, hv⟩ := count_go h hc L.length (Nat.le_refl _)
  rw [List.take_length] at hv
  rw [hv]
  rw [← hc.1] at hI
  rw [hI.done]
  by_cases e : L.length = 0
  · rw [if_pos e]
    have := hI.parts_le
    have := cutG_len C C.length
    have : ¬ st < C.length := by rw [hc.1, e]; omega
    rw [if_neg this]
    rw [hc.1] at *
    simp
    exact List.eq_nil_of_length_eq_zero (by omega)
  · have := hI.lt (by rw [hc.1]; omega)
    rw [if_neg e, if_pos this]
    simp
end Go.Proofs.YtbkkhafckkndfaaGreat

namespace Go.Proofs.YtbkkhafckkndfaaGreat
open Go Go.RowKit

/-- Ints that lie in memory. -/
def NumsAt (w : World) (a : Option Addr) (l : List Int) : Prop := l = [] ∨ ∃ b off, a = some ⟨b, off, none⟩ ∧ ∀ i, i < l.length → w.cell? ⟨b, off + i, none⟩ = some (.int .i64 (l.getD i 0))
theorem NumsAt.below {w w' : World} {a : Option Addr} {l : List Int} (h : NumsAt w a l) (g : Below w.heap.size w w') : NumsAt w' a l := by
  rcases h with h | ⟨b, off, e, h⟩
  · exact .inl h
  · exact .inr ⟨b, off, e, fun i hi => below_cell g (h i hi)⟩
theorem NumsAt.tail {w : World} {b off : Nat} {n : Int} {l : List Int} (h : NumsAt w (some ⟨b, off, none⟩) (n :: l)) : NumsAt w (some ⟨b, off + 1, none⟩) l := by
  rcases h with h | ⟨b', off', e, h⟩
  · cases h
  · cases e
    refine .inr ⟨b, off + 1, rfl, fun i hi => ?_⟩
    have := h (i + 1) (by simpa using hi)
    rw [show off + 1 + i = off + (i + 1) by omega, this]
    simp [List.getD]
theorem V4.set1 {w : World} {b : Nat} {a0 a1 a2 a3 : Value} (h : V4 w b a0 a1 a2 a3) (x : Value) : V4 (w.setCell ⟨b, 1, none⟩ x) b a0 x a2 a3 := by
  obtain ⟨c0, c1, c2, c3, z0, z1, z2, z3⟩ := h
  constructor <;> simp [c0, c1, c2, c3, z0, z1, z2, z3, go_sem]
/-- A plan that lies at block p: what was handed in lies ahead of w0's end, what is to be written is its own. -/
structure PlAt (w0 w : World) (p : Nat) (ah : Option Addr) (ch : Nat) (ao : Option Addr) (co : Nat) (af : Option Addr) (cf : Nat) (H O : List Pr) (F : List Int) (full : Bool) : Prop where
  v : V4 w p (.slice ah H.length ch) (.slice ao O.length co) (.slice af F.length cf) (.bool full)
  hv : PrsAt w0 ah H
  fr : NumsAt w0 af F
  fc : F.length ≤ cf
  row : w.ownsRow w0.heap.size 86 2 (.slice ao O.length co) O.length (prsV O)
  ne : (Value.slice ao O.length co).ownBlock ≠ some p
  bel : Below w0.heap.size w0 w
  lp : w0.heap.size ≤ p
def Plan13 (w0 w : World) (p : Nat) (H O : List Pr) (F : List Int) (full : Bool) : Prop := ∃ ah ch ao co af cf, PlAt w0 w p ah ch ao co af cf H O F full
theorem PlAt.below {w0 w w' : World} {p : Nat} {ah : Option Addr} {ch : Nat} {ao : Option Addr} {co : Nat} {af : Option Addr} {cf : Nat} {H O : List Pr} {F : List Int} {full : Bool} (h : PlAt w0 w p ah ch ao co af cf H O F full) (g : Below w.heap.size w w') : PlAt w0 w' p ah ch ao co af cf H O F full :=
  ⟨h.v.but (S := fun _ => False) (Go.Proofs.YtbkkhafckkndfaaGreat.Below.but g) (fun e => e), h.hv, h.fr, h.fc, row_below h.row g, h.ne, h.bel.trans (g.mono h.bel.size), h.lp⟩
theorem Plan13.below {w0 w w' : World} {p : Nat} {H O : List Pr} {F : List Int} {full : Bool} (h : Plan13 w0 w p H O F full) (g : Below w.heap.size w w') : Plan13 w0 w' p H O F full := by
  obtain ⟨ah, ch, ao, co, af, cf, h⟩ := h
  exact ⟨ah, ch, ao, co, af, cf, h.below g⟩
/-- What page leaves. -/
def Put13 (w0 w' : World) (p : Nat) (H O : List Pr) (F : List Int) (b : ByteArray) (full : Bool) (e : Ending) : Prop :=
  match putW H O F b with
  | some (n, O', F') => e = .returned (.int .i64 n) ∧ Plan13 w0 w' p H O' F' full
  | none => e = .returned (.int .i64 2) ∧ Plan13 w0 w' p H O F true
/-- Block p alone was written, and blocks of Writes. -/
def WrOnly (p : Nat) (w w' : World) : Prop := But (fun i => i = p ∨ ∃ cs r, w.heap[i]? = some (.cells cs 86 r)) w w'
theorem row_type {w : World} {B n k : Nat} {E : TypeId} {v : Value} {xs : List Value} (h : w.ownsRow B E k v n xs) {i : Nat} (e : v.ownBlock = some i) : ∃ cs r, w.heap[i]? = some (.cells cs E r) := by
  rcases h.2 with ⟨q, _⟩ | ⟨g, c, cur, q, _, hg, _⟩
  · rw [q] at e; cases e
  · rw [q] at e
    obtain rfl : g = i := by simpa [Value.ownBlock] using e
    exact ⟨_, _, hg⟩
/-- A row of another type stays. -/
theorem WrOnly.row {p : Nat} {w w' : World} {B n k : Nat} {E : TypeId} {v : Value} {xs : List Value} (g : WrOnly p w w') (h : w.ownsRow B E k v n xs) (hE : E ≠ 86) (hp : v.ownBlock ≠ some p) : w'.ownsRow B E k v n xs :=
  row_but h g fun i e hs => by
    rcases hs with hs | ⟨cs, r, hs⟩
    · exact hp (by rw [e, hs])
    · obtain ⟨cs2, r2, h2⟩ := row_type h e
      rw [hs] at h2
      simp only [Option.some.injEq, Obj.cells.injEq] at h2
      exact hE h2.2.1.symm
theorem put_have {w0 w' : World} {p : Nat} {H O : List Pr} {F : List Int} {b : ByteArray} {full : Bool} {n : Int} (h : findW H b = some n) (g : Plan13 w0 w' p H O F full) : Put13 w0 w' p H O F b full (.returned (.int .i64 n)) := by
  unfold Put13 putW
  rw [h]
  exact ⟨rfl, g⟩
theorem put_out {w0 w' : World} {p : Nat} {H O : List Pr} {F : List Int} {b : ByteArray} {full : Bool} {n : Int} (h1 : findW H b = none) (h : findW O b = some n) (g : Plan13 w0 w' p H O F full) : Put13 w0 w' p H O F b full (.returned (.int .i64 n)) := by
  unfold Put13 putW
  rw [h1, h]
  exact ⟨rfl, g⟩
theorem put_full {w0 w' : World} {p : Nat} {H O : List Pr} {b : ByteArray} {full : Bool} (h1 : findW H b = none) (h : findW O b = none) (g : Plan13 w0 w' p H O [] true) : Put13 w0 w' p H O [] b full (.returned (.int .i64 2)) := by
  unfold Put13 putW
  rw [h1, h]
  exact ⟨rfl, g⟩
theorem put_new {w0 w' : World} {p : Nat} {H O : List Pr} {n : Int} {F : List Int} {b : ByteArray} {full : Bool} (h1 : findW H b = none) (h : findW O b = none) (g : Plan13 w0 w' p H (O ++ [⟨n, b⟩]) F full) : Put13 w0 w' p H O (n :: F) b full (.returned (.int .i64 n)) := by
  unfold Put13 putW
  rw [h1, h]
  exact ⟨rfl, g⟩
set_option maxRecDepth 100000 in
theorem info_rwrite : ∃ (i : TypeInfo) (z : Value), (Tryz.prog).info? 86 = some i ∧ i.zero = some z ∧ z.cells.size = 2 ∧ i.size = 2 ∧ i.bytes = 24 := ⟨_, _, rfl, rfl, rfl, rfl, rfl⟩
end Go.Proofs.YtbkkhafckkndfaaGreat

namespace Go.Proofs.YtbkkhafckkndfaaGreat
open Go Go.RowKit

theorem nums_grew {w w' : World} {a : Option Addr} {L : List Int} (h : NumsAt w a L) (g : Grew w w') : NumsAt w' a L := h.below g.below
end Go.Proofs.YtbkkhafckkndfaaGreat
