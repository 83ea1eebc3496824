/-
  Package sheet's Cells: a page's cells as a new list.
-/
import Derived.Test.YtjcocmoidboamaaZRead
namespace Go.Proofs.Ytjcocmoidboamaa
open Go Go.RowKit

def ceR (c : Ce) : List Value := [.int .i64 c.key, .int .i64 c.size, .int .i64 c.page, .string c.bytes]
def cesV (C : List Ce) : List Value := C.flatMap ceR
theorem ces_more (C : List Ce) (c : Ce) : cesV (C ++ [c]) = cesV C ++ ceR c := by simp [cesV]
theorem ces_len : ∀ C : List Ce, (cesV C).length = C.length * 4 := by
  intro C
  induction C with
  | nil => rfl
  | cons s S ih => simp [cesV, ceR] at ih ⊢; omega
theorem cells_of {w : World} {B n : Nat} {E : TypeId} {v : Value} {C : List Ce} (h : w.ownsRow B E 4 v n (cesV C)) : ∃ a cap, v = .slice a n cap ∧ CellsAt w a C := by
  rcases h.2 with ⟨rfl, h0⟩ | ⟨g, cap, cur, rfl, _⟩
  · refine ⟨none, 0, by rw [h0], .inl ?_⟩
    have := h.1
    rw [h0, ces_len] at this
    exact List.eq_nil_of_length_eq_zero (by omega)
  · refine ⟨_, cap, rfl, .inr ⟨g, 0, rfl, fun i hi => ?_⟩⟩
    have hn : C.length = n := by have := h.1; rw [ces_len] at this; omega
    have e : C.getD i noCe = C[i] := by simp [List.getD, hi]
    have at4 : ∀ (C : List Ce) (i : Nat) (hi : i < C.length), (cesV C)[i * 4]? = some (.int .i64 (C[i]).key) ∧ (cesV C)[i * 4 + 1]? = some (.int .i64 (C[i]).size) ∧ (cesV C)[i * 4 + 2]? = some (.int .i64 (C[i]).page) ∧ (cesV C)[i * 4 + 3]? = some (.string (C[i]).bytes) := by
      intro C
      induction C with
      | nil => intro i hi; simp at hi
      | cons s S ih =>
        intro i hi
        cases i with
        | zero => exact ⟨rfl, rfl, rfl, rfl⟩
        | succ i =>
          have := ih i (by simpa using hi)
          rw [show (i + 1) * 4 = i * 4 + 1 + 1 + 1 + 1 by omega]
          exact this
    obtain ⟨q1, q2, q3, q4⟩ := at4 C i hi
    rw [e]
    exact ⟨by rw [Nat.zero_add, h.cellAt _ (by omega)]; exact q1, by rw [Nat.zero_add, h.cellAt _ (by omega)]; exact q2, by rw [Nat.zero_add, h.cellAt _ (by omega)]; exact q3, by rw [Nat.zero_add, h.cellAt _ (by omega)]; exact q4⟩
theorem info_scell : ∃ (i : TypeInfo) (z : Value), (Try.prog).info? 26 = some i ∧ i.zero = some z ∧ z.cells.size = 4 ∧ i.size = 4 ∧ i.bytes = 40 := ⟨_, _, rfl, rfl, rfl, rfl, rfl⟩
theorem four_at (w : World) (A B C D : Value) (t : TypeId) (j : Nat) (u : Value) (hj : [A, B, C, D][j]? = some u) : (w.alloc (.cells #[A, B, C, D] t)).cell? ⟨w.heap.size, 0 + j, none⟩ = some u := by
  rw [cell_of_row _ _ _ _ _ _ (heap_alloc_new _ _), Nat.zero_add]
  rw [← hj, List.getElem?_toArray]
def CBack (w : World) (s : ByteArray) (e : Ending) (w' : World) : Prop := ∃ v, e = .returned (.tuple #[v, .bool (isLeaf s)]) ∧ w'.ownsRow w.heap.size 26 4 v (cellsS s).length (cesV (cellsS s)) ∧ Below w.heap.size w w'
theorem cback_none {w w' : World} {s : ByteArray} (h : isLeaf s = false) (B : Below w.heap.size w w') : CBack w s (.returned (.tuple #[.slice none 0 0, .bool false])) w' := by
  refine ⟨_, by rw [h], ?_, B⟩
  unfold cellsS
  rw [h, if_neg (by decide)]
  exact World.ownsRow_nil _ _ _ _
set_option maxRecDepth 10000 in
set_option maxHeartbeats 4000000 in
theorem cells_any (s : ByteArray) (w : World) (hs : s.size ≤ 1000000000) : Calls Try.prog 21 #[.string s] w fun e w' => CBack w s e w' := by
  obtain ⟨iw, zw, i1, i2, i3, i4, i5⟩ := info_scell
  obtain ⟨n, hn⟩ : ∃ n, cntS s = n := ⟨_, rfl⟩
  have hn256 : n < 256 := by rw [← hn]; exact cnt_lt s
  have eI := isLeaf_code s
  have hsl : s.data.toList.length = s.size := Array.length_toList ..
  have eC : numR (txt ((s.data.toList.drop 1).take 1)) = n := by
    show wrap64 (valL ((s.data.toList.drop 1).take 1)) = n
    have : valL ((s.data.toList.drop 1).take 1) = n := hn
    rw [this, wrap_small (by omega)]
  rw [hn] at eI
  have hYes : Hid (isLeaf s = true → cellsS s = (totC s n).1) := fun h => by rw [cells_code h, hn]
  have hNo : Hid (isLeaf s = false → ∀ w', Below w.heap.size w w' → CBack w s (.returned (.tuple #[.slice none 0 0, .bool false])) w') := fun h w' B => cback_none h B
  obtain ⟨p, hp⟩ : ∃ p, w.heap.size = p := ⟨_, rfl⟩
  obtain ⟨X, hX⟩ : ∃ X, s.data.toList = X := ⟨_, rfl⟩
  have hXl : X.length ≤ 1000000000 := by rw [← hX]; omega
  have hP0 : Hid (PcAt (w.alloc (.cells #[.string s] 69)) p X) := by rw [← hp, ← hX]; exact pc_new w s _
  have hT0 : Hid (Calls Try.prog 39 #[.pointer (some ⟨p, 0, none⟩), .int .i64 1] (w.alloc (.cells #[.string s] 69)) fun e w' => e = .returned (.string (txt (X.take 1))) ∧ PcAt w' p (X.drop 1) ∧ But (fun i => i = p) (w.alloc (.cells #[.string s] 69)) w') := take_any p 1 X _ hP0.out hXl (by omega)
  have hT1 : Hid (∀ W, PcAt W p (X.drop 1) → Calls Try.prog 40 #[.pointer (some ⟨p, 0, none⟩), .int .i64 1] W fun e w' => e = .returned (.int .i64 n) ∧ PcAt w' p (X.drop 2) ∧ But (fun i => i = p) W w') := fun W h => by
    have := pnumber_any p 1 (X.drop 1) W h (by rw [List.length_drop]; omega) (by omega)
    rw [← hX, List.drop_drop, eC, hX] at this
    exact this
  have hNa : Hid (∀ k W, PcAt W p (X.drop (totC s k).2) → Calls Try.prog 42 #[.pointer (some ⟨p, 0, none⟩)] W fun e w' => e = .returned (ceV (celAt s (totC s k).2)) ∧ PcAt w' p (X.drop (totC s (k + 1)).2) ∧ But (fun i => i = p) W w') := fun k W h => by
    rw [← hX] at h ⊢
    exact cell_any p (totC s k).2 s W h hs
  have hBw : Hid (Below p w (w.alloc (.cells #[.string s] 69))) := (by rw [← hp]; exact (Below.refl _ w).alloc (Nat.le_refl _) _ : Below p w (w.alloc (.cells #[.string s] 69)))
  have hn0 : (0 : Int) ≤ n := by omega
  clear eC hsl hn hXl hX
  go_enter Try.func21, Try.ntmps21
  rw [hp] at hNo
  go_wp2_with (first
    | (go_at_call 39; go_fit hT0.out; rintro e w1 ⟨rfl, h1, B1⟩)
    | (go_at_call 40; go_fit (hT1.out _ h1); rintro e w2 ⟨rfl, h2, B2⟩)
    | fail)
  have hpp : ∀ i, i = p → p ≤ i := fun i e => Nat.le_of_eq e.symm
  have hB2 : Hid (Below p w w2) := (hBw.out.trans (B1.below hpp (Nat.le_of_lt hP0.out.lt))).trans (B2.below hpp (Nat.le_of_lt h1.lt))
  clear hT0 hT1 hP0 hBw h1 B1 B2
  go_loopw [5, 11] (fun l i wr => ∃ (k : Nat) (a : Option Addr) (cp : Nat), k ≤ n ∧ i = .int .i64 k ∧ l = .slice a k cp ∧ wr.ownsRow p 26 4 (.slice a k cp) k (cesV (totC s k).1) ∧ PcAt wr p (X.drop (totC s k).2) ∧ Below p w wr ∧ (Value.slice a k cp).ownBlock ≠ some p) (fun _ i _ => n - (intOf i).toNat)
  case atStart => exact ⟨0, none, 0, by omega, rfl, rfl, World.ownsRow_nil _ _ _ _, h2, hB2.out, fun e => by cases e⟩
  case round =>
    clear hB2 h2
    obtain ⟨k, a, cp, hk, rfl, rfl, hr, hP, hB, ho⟩ := hrel
    have hpl := hP.lt
    by_cases hlt : k < n
    · have hki : (k : Int) < n := by omega
      have hup : Hid (cesV (totC s (k + 1)).1 = cesV (totC s k).1 ++ ceR (celAt s (totC s k).2)) := by
        show _ = _
        rw [totC, ces_more]
      have hA : Hid (∀ W, PcAt W p (X.drop (totC s k).2) → Calls Try.prog 42 #[.pointer (some ⟨p, 0, none⟩)] W fun e w' => e = .returned (ceV (celAt s (totC s k).2)) ∧ PcAt w' p (X.drop (totC s (k + 1)).2) ∧ But (fun i => i = p) W w') := hNa.out k
      obtain ⟨c, hc⟩ : ∃ c, celAt s (totC s k).2 = c := ⟨_, rfl⟩
      rw [hc] at hA hup
      obtain ⟨K, Z, Q, T⟩ := c
      unfold ceV at hA
      unfold ceR at hup
      dsimp only at hA hup
      clear hc hNa hYes hNo eI
      go_wp2_with (first
        | (go_at_call 42; go_fit (hA.out _ hP); rintro e w4 ⟨rfl, h4, B4⟩; have r4 := row_but hr B4 (fun i e e2 => ho (by rw [e, e2])); have hB4 := hB.trans (B4.below hpp (Nat.le_of_lt hpl)); have hl4 := h4.lt)
        | (at_builtin; refine wpList_app _ rfl (.tmp 13) (.tmp 15) 23 rfl p 26 iw zw 4 40 Try.underlying23 i1 i2 i4 i5 i3 (by decide) (.slice a k cp) k _ rfl (r4.alloc _) (some ⟨w4.heap.size, 0, none⟩) 1 1 [.int .i64 K, .int .i64 Z, .int .i64 Q, .string T] rfl rfl (.inr ⟨_, 0, rfl, fun j u hj => four_at w4 _ _ _ _ _ j u hj⟩) (fun u hu => by simp at hu; rcases hu with rfl | rfl | rfl | rfl <;> rfl) (by unfold maxLen; omega) (by omega) (by simp; omega) ?_; intro v5 w5 hv5 hg5 hk5 hl5)
        | fail)
      obtain ⟨a5, c5, rfl, _⟩ := own_reads hv5
      have G4 : Grew w4 (w4.alloc (.cells #[.int .i64 K, .int .i64 Z, .int .i64 Q, .string T] 26)) := (Grew.refl w4).alloc _ _
      have hs4 := G4.size
      refine ⟨⟨k + 1, a5, c5, hlt, by simp, rfl, ?_, (h4.grew G4).but (grown_but hg5) ho, ((hB4.trans (G4.below.mono (Nat.le_of_lt hl4)))).trans ((grown_but hg5).below (fun i e => (hr.lt i e).1) (by omega)), own_ne hl5 ho (by omega)⟩, meas_up hlt⟩
      rw [hup.out]
      exact hv5
    · have hki : ¬ (k : Int) < n := by omega
      obtain rfl : k = n := by omega
      obtain ⟨a', cp', e9, hSl⟩ := cells_of hr
      obtain ⟨rfl, _, rfl⟩ : a = a' ∧ k = k ∧ cp = cp' := by simpa using e9
      have hlen : (totC s k).1.length = k := tot_len s k
      have hX : Hid (Calls Try.prog 13 #[.slice a k cp] wr fun e w' => e = .returned (.tuple #[.string (leafV (totC s k).1), .bool (leafOk (totC s k).1)]) ∧ Below wr.heap.size wr w') := by
        show Calls _ _ _ _ _
        have := leaf_any (totC s k).1 a cp wr hSl (by omega)
        rw [hlen] at this
        exact this
      replace hr : Hid (wr.ownsRow p 26 4 (.slice a k cp) k (cesV (totC s k).1)) := hr
      replace hB : Hid (Below p w wr) := hB
      replace hYes : Hid (isLeaf s = true → cellsS s = (totC s k).1) := hYes
      replace eI : Hid (isLeaf s = (leafOk (totC s k).1 && decide (txt (leafL (totC s k).1) = s))) := eI
      replace hlen : Hid ((totC s k).1.length = k) := hlen
      have hv : leafV (totC s k).1 = if leafOk (totC s k).1 then txt (leafL (totC s k).1) else ByteArray.empty := rfl
      rw [hv] at hX
      clear e9 hSl hNa hv hP ho
      generalize (totC s k).1 = T at *
      cases hko : leafOk T with
      | false =>
        rw [hko, if_neg (by decide)] at hX
        rw [hko] at eI
        have hE : Hid _ := hNo.out (by rw [eI.out]; rfl)
        clear hko eI hYes hNo
        go_wp2_with (first | (go_at_call 13; go_fit hX.out; rintro e w1 ⟨rfl, G⟩) | fail)
        go_ret2
        exact hE.out _ (hB.out.trans (G.mono (Nat.le_of_lt hpl)))
      | true =>
        rw [hko, if_pos rfl] at hX
        rw [hko] at eI
        by_cases hq : txt (leafL T) = s
        · rw [hq] at hX
          have hE := hYes.out (by rw [eI.out, hq]; simp)
          have hT : Hid (isLeaf s = true) := (by rw [eI.out, hq]; simp : isLeaf s = true)
          replace hE : Hid (cellsS s = T) := hE
          clear hko eI hYes hNo hq
          go_wp2_with (first | (go_at_call 13; go_fit hX.out; rintro e w1 ⟨rfl, G⟩) | fail)
          go_ret2
          refine ⟨_, by rw [hT.out]; rfl, ?_, by rw [hp]; exact hB.out.trans (G.mono (Nat.le_of_lt hpl))⟩
          rw [hE.out, hp, hlen.out]
          exact row_below hr.out G
        · have hne := bytes_ne' hq
          have hE : Hid _ := hNo.out (by rw [eI.out, decide_eq_false hq]; rfl)
          clear hko eI hYes hNo hq
          generalize txt (leafL T) = Z at *
          go_wp2_with (first | (go_at_call 13; go_fit hX.out; rintro e w1 ⟨rfl, G⟩) | fail)
          go_ret2
          exact hE.out _ (hB.out.trans (G.mono (Nat.le_of_lt hpl)))
end Go.Proofs.Ytjcocmoidboamaa
