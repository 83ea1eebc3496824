/-
  Package sheet's Slots, Chain and Link: a page's slots as a new list; a piece as a page, and back.
-/
import Derived.Test.YtjcocmoidboamaaZCel
namespace Go.Proofs.Ytjcocmoidboamaa
open Go Go.RowKit

/-! ### What is read is what was laid -/
theorem cnt_lt (s : ByteArray) : cntS s < 256 := by
  unfold cntS
  obtain ⟨l, hl⟩ : ∃ l, (s.data.toList.drop 1).take 1 = l := ⟨_, rfl⟩
  have hlen : l.length ≤ 1 := by rw [← hl, List.length_take]; omega
  rw [hl]
  have := valL_lt l.length l rfl
  have e : l.length = 0 ∨ l.length = 1 := by omega
  rcases e with e | e <;> rw [e] at this <;> simp at this <;> omega
theorem isIdx_code (s : ByteArray) : isIdx s = (idxOk (rawS s (cntS s)) && decide (txt (idxL (rawS s (cntS s))) = s)) := by
  rw [Bool.eq_iff_iff]
  constructor
  · intro h
    unfold isIdx at h
    rw [Bool.and_eq_true] at h
    exact h.2
  · intro h
    rw [Bool.and_eq_true, decide_eq_true_eq] at h
    have := (idx_back h.1).1
    rw [h.2] at this
    exact this
/-- The first k cells of a page, whatever is there, and where the next one begins. -/
def totC (s : ByteArray) : Nat → List Ce × Nat
  | 0 => ([], 2)
  | k + 1 => ((totC s k).1 ++ [celAt s (totC s k).2], (totC s k).2 + 6 + celN s (totC s k).2)
theorem tot_len (s : ByteArray) : ∀ k, (totC s k).1.length = k := by
  intro k
  induction k with
  | zero => rfl
  | succ k ih => simp [totC, ih]
theorem tot_run (s : ByteArray) : ∀ k r, runC s k = some r → totC s k = r := by
  intro k
  induction k with
  | zero => intro r h; simpa [runC, totC] using h
  | succ k ih =>
    intro r h
    rw [runC] at h
    cases e : runC s k with
    | none => rw [e] at h; cases h
    | some x =>
      obtain ⟨C, i⟩ := x
      rw [e] at h
      simp only at h
      split at h
      · rw [totC, ih _ e]
        simpa using h
      · cases h
theorem isLeaf_code (s : ByteArray) : isLeaf s = (leafOk (totC s (cntS s)).1 && decide (txt (leafL (totC s (cntS s)).1) = s)) := by
  rw [Bool.eq_iff_iff]
  constructor
  · intro h
    unfold isLeaf at h
    rw [Bool.and_eq_true] at h
    have h2 := h.2
    cases e : runC s (cntS s) with
    | none => rw [e] at h2; cases h2
    | some x =>
      obtain ⟨C, i⟩ := x
      rw [e] at h2
      rw [tot_run s _ _ e]
      exact h2
  · intro h
    rw [Bool.and_eq_true, decide_eq_true_eq] at h
    have := (leaf_back h.1).1
    rw [h.2] at this
    exact this
theorem cells_code {s : ByteArray} (h : isLeaf s = true) : cellsS s = (totC s (cntS s)).1 := by
  unfold cellsS
  rw [if_pos h]
  have h' := h
  unfold isLeaf at h'
  rw [Bool.and_eq_true] at h'
  have h2 := h'.2
  cases e : runC s (cntS s) with
  | none => rw [e] at h2; cases h2
  | some x =>
    obtain ⟨C, i⟩ := x
    rw [tot_run s _ _ e]
theorem isLink_code (l : List UInt8) : isLink l = (chainOk (linkN l) (linkT l) && decide (chainL (linkN l) (linkT l) = l)) := by
  rw [Bool.eq_iff_iff]
  constructor
  · intro h
    obtain ⟨h1, h2⟩ := link_is h
    rw [h1, decide_eq_true h2]
    rfl
  · intro h
    rw [Bool.and_eq_true, decide_eq_true_eq] at h
    exact (isLink_iff l).2 ⟨_, _, h.1, h.2⟩

/-! ### Slots -/
theorem info_sslot : ∃ (i : TypeInfo) (z : Value), (Try.prog).info? 59 = some i ∧ i.zero = some z ∧ z.cells.size = 2 ∧ i.size = 2 ∧ i.bytes = 16 := ⟨_, _, rfl, rfl, rfl, rfl, rfl⟩
theorem grown_but {w w' : World} {v : Value} (hg : w.grownBy w' v.ownBlock) : But (fun i => v.ownBlock = some i) w w' := ⟨hg.os, hg.tape, hg.output, hg.size, fun i hi hn => hg.block i hi (fun e => hn e.symm)⟩
theorem own_ne {w : World} {v v' : Value} {p : Nat} (ho : v'.ownBlock = v.ownBlock ∨ v'.ownBlock = some w.heap.size) (hp : v.ownBlock ≠ some p) (hl : p < w.heap.size) : v'.ownBlock ≠ some p := by
  rcases ho with ho | ho
  · rw [ho]; exact hp
  · rw [ho]
    intro e
    cases e
    exact absurd hl (Nat.lt_irrefl _)
theorem pc_new (w : World) (s : ByteArray) (t : TypeId) : PcAt (w.alloc (.cells #[.string s] t)) w.heap.size s.data.toList := by
  refine ⟨?_, frozen_of_row _ _ _ _ _ (heap_alloc_new w _)⟩
  rw [cell_of_row _ _ _ _ _ _ (heap_alloc_new _ _), txt_list]
  rfl
def SBack (w : World) (s : ByteArray) (e : Ending) (w' : World) : Prop := ∃ v, e = .returned (.tuple #[v, .bool (isIdx s)]) ∧ w'.ownsRow w.heap.size 59 2 v (idxS s).length (slsV (idxS s)) ∧ Below w.heap.size w w'
theorem sback_none {w w' : World} {s : ByteArray} (h : isIdx s = false) (B : Below w.heap.size w w') : SBack w s (.returned (.tuple #[.slice none 0 0, .bool false])) w' := by
  refine ⟨_, by rw [h], ?_, B⟩
  unfold idxS
  rw [h, if_neg (by decide)]
  exact World.ownsRow_nil _ _ _ _
set_option maxRecDepth 10000 in
set_option maxHeartbeats 4000000 in
theorem slots_any (s : ByteArray) (w : World) (hs : s.size ≤ 1000000000) : Calls Try.prog 19 #[.string s] w fun e w' => SBack w s e w' := by
  obtain ⟨iw, zw, i1, i2, i3, i4, i5⟩ := info_sslot
  obtain ⟨n, hn⟩ : ∃ n, cntS s = n := ⟨_, rfl⟩
  have hn256 : n < 256 := by rw [← hn]; exact cnt_lt s
  have eI := isIdx_code s
  have hsl : s.data.toList.length = s.size := Array.length_toList ..
  have eC : numR (txt ((s.data.toList.drop 1).take 1)) = n := by
    show wrap64 (valL ((s.data.toList.drop 1).take 1)) = n
    have : valL ((s.data.toList.drop 1).take 1) = n := hn
    rw [this, wrap_small (by omega)]
  rw [hn] at eI
  have hYes : Hid (isIdx s = true → idxS s = rawS s n) := fun h => by unfold idxS; rw [if_pos h, hn]
  have hNo : Hid (isIdx s = false → ∀ w', Below w.heap.size w w' → SBack w s (.returned (.tuple #[.slice none 0 0, .bool false])) w') := fun h w' B => sback_none h B
  obtain ⟨p, hp⟩ : ∃ p, w.heap.size = p := ⟨_, rfl⟩
  obtain ⟨X, hX⟩ : ∃ X, s.data.toList = X := ⟨_, rfl⟩
  have hXl : X.length ≤ 1000000000 := by rw [← hX]; omega
  have hP0 : Hid (PcAt (w.alloc (.cells #[.string s] 69)) p X) := by rw [← hp, ← hX]; exact pc_new w s _
  have hT0 : Hid (Calls Try.prog 39 #[.pointer (some ⟨p, 0, none⟩), .int .i64 1] (w.alloc (.cells #[.string s] 69)) fun e w' => e = .returned (.string (txt (X.take 1))) ∧ PcAt w' p (X.drop 1) ∧ But (fun i => i = p) (w.alloc (.cells #[.string s] 69)) w') := take_any p 1 X _ hP0.out hXl (by omega)
  have hT1 : Hid (∀ W, PcAt W p (X.drop 1) → Calls Try.prog 40 #[.pointer (some ⟨p, 0, none⟩), .int .i64 1] W fun e w' => e = .returned (.int .i64 n) ∧ PcAt w' p (X.drop 2) ∧ But (fun i => i = p) W w') := fun W h => by
    have := pnumber_any p 1 (X.drop 1) W h (by rw [List.length_drop]; omega) (by omega)
    rw [← hX, List.drop_drop, eC, hX] at this
    exact this
  have hNa : Hid (∀ k W, PcAt W p (X.drop (2 + 6 * k)) → Calls Try.prog 40 #[.pointer (some ⟨p, 0, none⟩), .int .i64 4] W fun e w' => e = .returned (.int .i64 (slAt s k).key) ∧ PcAt w' p ((X.drop (2 + 6 * k)).drop 4) ∧ But (fun i => i = p) W w') := fun k W h => by
    have := pnumber_any p 4 (X.drop (2 + 6 * k)) W h (by rw [List.length_drop]; omega) (by omega)
    have e : numR (txt ((X.drop (2 + 6 * k)).take 4)) = (slAt s k).key := by
      show _ = numR (s.extract (2 + 6 * k) (6 + 6 * k))
      rw [← hX, numR_drop, show 2 + 6 * k + 4 = 6 + 6 * k by omega]
    rw [e] at this
    exact this
  have hNb : Hid (∀ k W, PcAt W p ((X.drop (2 + 6 * k)).drop 4) → Calls Try.prog 40 #[.pointer (some ⟨p, 0, none⟩), .int .i64 2] W fun e w' => e = .returned (.int .i64 (slAt s k).page) ∧ PcAt w' p (X.drop (2 + 6 * (k + 1))) ∧ But (fun i => i = p) W w') := fun k W h => by
    have := pnumber_any p 2 ((X.drop (2 + 6 * k)).drop 4) W h (by rw [List.length_drop, List.length_drop]; omega) (by omega)
    have e : numR (txt (((X.drop (2 + 6 * k)).drop 4).take 2)) = (slAt s k).page := by
      show _ = numR (s.extract (6 + 6 * k) (8 + 6 * k))
      rw [← hX, List.drop_drop, numR_drop, show 2 + 6 * k + 4 = 6 + 6 * k by omega, show 6 + 6 * k + 2 = 8 + 6 * k by omega]
    rw [e, List.drop_drop, List.drop_drop, show 2 + 6 * k + 4 + 2 = 2 + 6 * (k + 1) by omega] at this
    exact this
  have hBw : Hid (Below p w (w.alloc (.cells #[.string s] 69))) := (by rw [← hp]; exact (Below.refl _ w).alloc (Nat.le_refl _) _ : Below p w (w.alloc (.cells #[.string s] 69)))
  have hn0 : (0 : Int) ≤ n := by omega
  clear eC hsl hn hXl hX
  go_enter Try.func19, Try.ntmps19
  rw [hp] at hNo
  go_wp2_with (first
    | (go_at_call 39; go_fit hT0.out; rintro e w1 ⟨rfl, h1, B1⟩)
    | (go_at_call 40; go_fit (hT1.out _ h1); rintro e w2 ⟨rfl, h2, B2⟩)
    | fail)
  have hpp : ∀ i, i = p → p ≤ i := fun i e => Nat.le_of_eq e.symm
  have hlt2 := h2.lt
  have hB2 : Hid (Below p w w2) := (hBw.out.trans (B1.below hpp (Nat.le_of_lt hP0.out.lt))).trans (B2.below hpp (Nat.le_of_lt h1.lt))
  clear hT0 hT1 hP0 hBw h1 B1 B2
  go_loopw [5, 11] (fun l i wr => ∃ (k : Nat) (a : Option Addr) (cp : Nat), k ≤ n ∧ i = .int .i64 k ∧ l = .slice a k cp ∧ wr.ownsRow p 59 2 (.slice a k cp) k (slsV (rawS s k)) ∧ PcAt wr p (X.drop (2 + 6 * k)) ∧ Below p w wr ∧ (Value.slice a k cp).ownBlock ≠ some p) (fun _ i _ => n - (intOf i).toNat)
  case atStart => exact ⟨0, none, 0, by omega, rfl, rfl, World.ownsRow_nil _ _ _ _, h2, hB2.out, fun e => by cases e⟩
  case round =>
    clear hB2 h2 hlt2
    obtain ⟨k, a, cp, hk, rfl, rfl, hr, hP, hB, ho⟩ := hrel
    have hpl := hP.lt
    by_cases hlt : k < n
    · have hki : (k : Int) < n := by omega
      have hup : Hid (slsV (rawS s (k + 1)) = slsV (rawS s k) ++ [.int .i64 (slAt s k).key, .int .i64 (slAt s k).page]) := by
        show _ = _
        rw [rawS_up, sls_more]
        rfl
      have hA := hNa.out k
      have hC := hNb.out k
      obtain ⟨A, hA0⟩ : ∃ A, (slAt s k).key = A := ⟨_, rfl⟩
      obtain ⟨Q, hQ0⟩ : ∃ Q, (slAt s k).page = Q := ⟨_, rfl⟩
      rw [hA0] at hA hup
      rw [hQ0] at hC hup
      obtain ⟨Y, hY⟩ : ∃ Y, (X.drop (2 + 6 * k)).drop 4 = Y := ⟨_, rfl⟩
      rw [hY] at hA hC
      replace hA : Hid (∀ W, PcAt W p (X.drop (2 + 6 * k)) → Calls Try.prog 40 #[.pointer (some ⟨p, 0, none⟩), .int .i64 4] W fun e w' => e = .returned (.int .i64 A) ∧ PcAt w' p Y ∧ But (fun i => i = p) W w') := hA
      replace hC : Hid (∀ W, PcAt W p Y → Calls Try.prog 40 #[.pointer (some ⟨p, 0, none⟩), .int .i64 2] W fun e w' => e = .returned (.int .i64 Q) ∧ PcAt w' p (X.drop (2 + 6 * (k + 1))) ∧ But (fun i => i = p) W w') := hC
      clear hA0 hQ0 hY hNa hNb hYes hNo eI
      go_wp2_with (first
        | (go_at_call 40; go_fit (hA.out _ hP); rintro e w3 ⟨rfl, h3, B3⟩)
        | (go_at_call 40; go_fit (hC.out _ h3); rintro e w4 ⟨rfl, h4, B4⟩; have r4 := row_but (row_but hr B3 (fun i e e2 => ho (by rw [e, e2]))) B4 (fun i e e2 => ho (by rw [e, e2])); have hB4 := (hB.trans (B3.below hpp (Nat.le_of_lt hpl))).trans (B4.below hpp (Nat.le_of_lt h3.lt)); have hl4 := h4.lt)
        | (at_builtin; refine wpList_app _ rfl (.tmp 13) (.tmp 17) 22 rfl p 59 iw zw 2 16 Try.underlying22 i1 i2 i4 i5 i3 (by decide) (.slice a k cp) k _ rfl (r4.alloc _) (some ⟨w4.heap.size, 0, none⟩) 1 1 [.int .i64 A, .int .i64 Q] rfl rfl (.inr ⟨_, 0, rfl, fun j u hj => pair_at w4 _ _ _ j u hj⟩) (fun u hu => by simp at hu; rcases hu with rfl | rfl <;> rfl) (by unfold maxLen; omega) (by omega) (by simp; omega) ?_; intro v5 w5 hv5 hg5 hk5 hl5)
        | fail)
      obtain ⟨a5, c5, rfl, _⟩ := own_reads hv5
      have G4 : Grew w4 (w4.alloc (.cells #[.int .i64 A, .int .i64 Q] 59)) := (Grew.refl w4).alloc _ _
      have hs4 := G4.size
      refine ⟨⟨k + 1, a5, c5, hlt, by simp, rfl, ?_, (h4.grew G4).but (grown_but hg5) ho, ((hB4.trans (G4.below.mono (Nat.le_of_lt hl4)))).trans ((grown_but hg5).below (fun i e => (hr.lt i e).1) (by omega)), own_ne hl5 ho (by omega)⟩, meas_up hlt⟩
      rw [hup.out]
      exact hv5
    · have hki : ¬ (k : Int) < n := by omega
      obtain rfl : k = n := by omega
      obtain ⟨a', cp', e9, hSl⟩ := slots_of hr
      obtain ⟨rfl, _, rfl⟩ : a = a' ∧ k = k ∧ cp = cp' := by simpa using e9
      have hlen : (rawS s k).length = k := rawS_len s k
      have hX : Hid (Calls Try.prog 10 #[.slice a k cp] wr fun e w' => e = .returned (.tuple #[.string (idxV (rawS s k)), .bool (idxOk (rawS s k))]) ∧ Below wr.heap.size wr w') := by
        show Calls _ _ _ _ _
        have := index_any (rawS s k) a cp wr hSl (by omega)
        rw [hlen] at this
        exact this
      replace hr : Hid (wr.ownsRow p 59 2 (.slice a k cp) k (slsV (rawS s k))) := hr
      replace hB : Hid (Below p w wr) := hB
      replace hYes : Hid (isIdx s = true → idxS s = rawS s k) := hYes
      replace eI : Hid (isIdx s = (idxOk (rawS s k) && decide (txt (idxL (rawS s k)) = s))) := eI
      replace hlen : Hid ((rawS s k).length = k) := hlen
      have hv : idxV (rawS s k) = if idxOk (rawS s k) then txt (idxL (rawS s k)) else ByteArray.empty := rfl
      rw [hv] at hX
      clear e9 hSl hNa hNb hv hP ho
      generalize rawS s k = T at *
      cases hko : idxOk T with
      | false =>
        rw [hko, if_neg (by decide)] at hX
        rw [hko] at eI
        have hE : Hid _ := hNo.out (by rw [eI.out]; rfl)
        clear hko eI hYes hNo
        go_wp2_with (first | (go_at_call 10; go_fit hX.out; rintro e w1 ⟨rfl, G⟩) | fail)
        go_ret2
        exact hE.out _ (hB.out.trans (G.mono (Nat.le_of_lt hpl)))
      | true =>
        rw [hko, if_pos rfl] at hX
        rw [hko] at eI
        by_cases hq : txt (idxL T) = s
        · rw [hq] at hX
          have hE := hYes.out (by rw [eI.out, hq]; simp)
          have hT : Hid (isIdx s = true) := (by rw [eI.out, hq]; simp : isIdx s = true)
          replace hE : Hid (idxS s = T) := hE
          clear hko eI hYes hNo hq
          go_wp2_with (first | (go_at_call 10; go_fit hX.out; rintro e w1 ⟨rfl, G⟩) | fail)
          go_ret2
          refine ⟨_, by rw [hT.out]; rfl, ?_, by rw [hp]; exact hB.out.trans (G.mono (Nat.le_of_lt hpl))⟩
          rw [hE.out, hp, hlen.out]
          exact row_below hr.out G
        · have hne := bytes_ne' hq
          have hE : Hid _ := hNo.out (by rw [eI.out, decide_eq_false hq]; rfl)
          clear hko eI hYes hNo hq
          generalize txt (idxL T) = Z at *
          go_wp2_with (first | (go_at_call 10; go_fit hX.out; rintro e w1 ⟨rfl, G⟩) | fail)
          go_ret2
          exact hE.out _ (hB.out.trans (G.mono (Nat.le_of_lt hpl)))
end Go.Proofs.Ytjcocmoidboamaa
