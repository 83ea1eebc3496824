/-
  The document's own Cells: a page's cells, as a new list. The document's own Plan (chapter 16). Package shelf's cell, leaves, countLeaves: cells of records, parted into leaves. Package shelf's countLeaves and allPages. Package shelf's rightPages: may these pages be? Maps with texts as keys and numbers as values, as they lie in memory: what a text leads to. No program in sight.
-/
import Derived.Test.YtbkkhafckkndfabPk05
import Derived.MapKept
import Derived.OwnWalk
import Derived.Below
namespace Go.Proofs.Ytbkkhafckkndfab
open Go Go.RowKit

theorem share {G : Prop} (T : Prop) (h : T → G) (t : T) : G := h t
theorem run_none {s : ByteArray} {k : Nat} (h : runC s k = none) : ∀ n, k ≤ n → runC s n = none := by
  intro n
  induction n with
  | zero => intro hk; obtain rfl : k = 0 := by omega
            exact h
  | succ n ih =>
    intro hk
    by_cases e : k = n + 1
    · rw [← e]; exact h
    · rw [runC, ih (by omega)]
theorem run_no (s : ByteArray) {k : Nat} (h : runC s k = none) (hk : k ≤ cntS s) : isLeaf s = false := by
  unfold isLeaf
  rw [run_none h _ hk]
  simp
theorem run_yes (s : ByteArray) (h1 : s.size = 128) (h2 : s.data.toList.take 1 = [76]) {C : List Ce} {i : Nat} (h : runC s (cntS s) = some (C, i)) : isLeaf s = (leafOk C && decide (txt (leafL C) = s)) := by
  unfold isLeaf
  rw [h, h1, h2]
  rfl
theorem run_up {s : ByteArray} {k i : Nat} {C : List Ce} (h : runC s k = some (C, i)) (h1 : i + 6 ≤ 128 ∧ i + 6 + celN s i ≤ 128) : runC s (k + 1) = some (C ++ [celAt s i], i + 6 + celN s i) := by
  rw [runC, h]
  simp only
  rw [if_pos h1]
theorem run_out {s : ByteArray} {k i : Nat} {C : List Ce} (h : runC s k = some (C, i)) (h1 : ¬ (i + 6 ≤ 128 ∧ i + 6 + celN s i ≤ 128)) : runC s (k + 1) = none := by
  rw [runC, h]
  simp only
  rw [if_neg h1]
theorem leaf_cases (s : ByteArray) (h : s.size = 128) : ∃ c0 c1 : Nat, (∀ h, (s[0]'h).toNat = c0) ∧ (∀ h, (s[1]'h).toNat = c1) ∧ c0 < 256 ∧ c1 < 256 ∧ cntS s = c1 ∧ (c0 = 76 ↔ s.data.toList.take 1 = [76]) := by
  have h0 := (s[0]'(by omega)).toNat_lt
  have h1 := (s[1]'(by omega)).toNat_lt
  have e1 : cntS s = (s[1]'(by omega)).toNat := by rw [cntS, at_take (by omega), val_one]
  have e0 : s.data.toList.take 1 = [s[0]'(by omega)] := by have := at_take (s := s) (i := 0) (by omega); rwa [List.drop_zero] at this
  refine ⟨(s[0]'(by omega)).toNat, (s[1]'(by omega)).toNat, fun _ => rfl, fun _ => rfl, h0, h1, e1, ?_⟩
  rw [e0]
  simp only [List.cons.injEq, and_true]
  constructor
  · intro e; exact UInt8.toNat_inj.1 e
  · intro e; rw [e]; rfl
end Go.Proofs.Ytbkkhafckkndfab

namespace Go.Proofs.Ytbkkhafckkndfab
open Go Go.RowKit

section
variable {w w' : World} {z p : Nat} {K Z Q : Int} {T : ByteArray}
end
theorem planR_of {L H : List Pr} {F : List Int} {C : List Ce} {s : Sp} (h : goR H L ([], ⟨[], F⟩) = some (C, s)) : planR L H F = (goL H C.length C ([], s)).bind fun r => (putS H r.2 (idxV r.1)).map fun x => (x.2.O, x.1) := by
  unfold planR
  rw [h]
  dsimp only
  cases goL H C.length C ([], s) with
  | none => rfl
  | some r => rfl
/-- A stretch of a list of cells in memory. -/
theorem sub_cells {w : World} {a : Option Addr} {C : List Ce} (h : CellsAt w a C) {i m : Nat} (hm : i + m ≤ C.length) (h0 : 0 < m) : ∃ b off, a = some ⟨b, off, none⟩ ∧ CellsAt w (some ⟨b, off + i * 4, none⟩) ((C.drop i).take m) ∧ ((C.drop i).take m).length = m := by
  have hl : ((C.drop i).take m).length = m := by simp; omega
  rcases h with h | ⟨b, off, e, h⟩
  · rw [h] at hm; simp at hm; omega
  · refine ⟨b, off, e, .inr ⟨b, off + i * 4, rfl, fun j hj => ?_⟩, hl⟩
    rw [hl] at hj
    have h1 := h (i + j) (by omega)
    have e1 : ((C.drop i).take m).getD j noCe = C.getD (i + j) noCe := by
      simp only [List.getD_eq_getElem?_getD, List.getElem?_take, List.getElem?_drop, if_pos hj]
    rw [e1]
    have e2 : off + i * 4 + j * 4 = off + (i + j) * 4 := by omega
    rw [e2]
    exact h1
theorem goL_cons (H : List Pr) (f : Nat) (c : Ce) (D : List Ce) (t : List Sl × Sp) : goL H (f + 1) (c :: D) t = match putS H t.2 (leafV ((c :: D).take (nxt (c :: D)))) with
    | none => none
    | some (n, s') => goL H f ((c :: D).drop (nxt (c :: D))) (t.1 ++ [⟨c.key, n⟩], s') := rfl
theorem goL_nil (H : List Pr) (f : Nat) (t : List Sl × Sp) : goL H f [] t = some t := by cases f <;> rfl
theorem goL_none {H : List Pr} {f : Nat} {C : List Ce} {i : Nat} {S : List Sl} {s : Sp} (hi : i < C.length) (h : putS H s (leafV ((C.drop i).take (nxt (C.drop i)))) = none) : goL H (f + 1) (C.drop i) (S, s) = none := by
  have e : C.drop i = C[i] :: C.drop (i + 1) := (List.drop_eq_getElem_cons hi)
  rw [e] at h ⊢
  rw [goL_cons, h]
theorem goL_some {H : List Pr} {f : Nat} {C : List Ce} {i : Nat} {S : List Sl} {s s' : Sp} {n : Int} (hi : i < C.length) (h : putS H s (leafV ((C.drop i).take (nxt (C.drop i)))) = some (n, s')) : goL H (f + 1) (C.drop i) (S, s) = goL H f (C.drop (i + nxt (C.drop i))) (S ++ [⟨(C.getD i noCe).key, n⟩], s') := by
  have e : C.drop i = C[i] :: C.drop (i + 1) := (List.drop_eq_getElem_cons hi)
  have e3 : C[i] = C.getD i noCe := by simp [List.getD, hi]
  have e4 : C.drop (i + nxt (C.drop i)) = (C.drop i).drop (nxt (C.drop i)) := by rw [List.drop_drop]
  rw [e4, ← e3]
  rw [e] at h ⊢
  rw [goL_cons, h]
theorem key_at {w : World} {B n : Nat} {E : TypeId} {bk off cp : Nat} {C : List Ce} (h : w.ownsRow B E 4 (.slice (some ⟨bk, off, none⟩) n cp) n (cesV C)) {i : Nat} (hi : i < C.length) : w.cell? ⟨bk, off + i * 4, none⟩ = some (.int .i64 (C.getD i noCe).key) := by
  obtain ⟨a, cap, e, hc⟩ := cells_of h
  simp only [Value.slice.injEq] at e
  rcases hc with hc | ⟨b, o, e2, hc⟩
  · rw [hc] at hi; simp at hi
  · rw [← e.1] at e2
    simp only [Option.some.injEq, Addr.mk.injEq] at e2
    obtain ⟨rfl, rfl, _⟩ := e2
    exact (hc i hi).1
end Go.Proofs.Ytbkkhafckkndfab

namespace Go.Proofs.Ytbkkhafckkndfab
open Go Go.RowKit

theorem but_below0 {w w' : World} {S : Nat → Prop} (g : But S w w') (h : ∀ i, S i → w.heap.size ≤ i) : Below w.heap.size w w' := (Below.refl _ w).trans (g.below h (Nat.le_refl _))
set_option maxHeartbeats 2000000 in
theorem kcell_any (K : Int) (T : ByteArray) (p : Int) (w : World) : Calls Try.prog 17 #[.agg #[.int .i64 K, .string T], .int .i64 p] w fun e w' => e = .returned (ceV (ceOf ⟨K, T⟩ p)) ∧ Below w.heap.size w w' := by
  have hI : Hid (∀ W, Calls Try.prog 24 #[.int .i64 (T.size : Int)] W fun e w' => e = .returned (.bool (decide ((T.size : Int) ≤ 24))) ∧ w' = W) := fun W => kinline_any _ W
  unfold ceOf ceV
  dsimp only
  by_cases hz : T.size ≤ 24
  · have hzi : (T.size : Int) ≤ 24 := by omega
    rw [if_pos hz]
    rw [decide_eq_true hzi] at hI
    dsimp only
    clear hz hzi
    go_enter Try.func17, Try.ntmps17
    go_wp2_with (first
      | (go_at_call 24; go_fit (hI.out _); rintro e w1 ⟨rfl, rfl⟩)
      | fail)
    refine bodyPost_ret (v := .agg #[.int .i64 K, .int .i64 T.size, .int .i64 0, .string T]) (by simp [results, Try.results17, go_sem]) rfl ?_
    exact ⟨rfl, (((Grew.refl w).alloc _ _).alloc _ _).alloc _ _ |>.below⟩
  · have hzi : ¬ (T.size : Int) ≤ 24 := by omega
    rw [if_neg hz]
    rw [decide_eq_false hzi] at hI
    dsimp only
    clear hz hzi
    go_enter Try.func17, Try.ntmps17
    go_wp2_with (first
      | (go_at_call 24; go_fit (hI.out _); rintro e w1 ⟨rfl, rfl⟩)
      | fail)
    refine bodyPost_ret (v := .agg #[.int .i64 K, .int .i64 T.size, .int .i64 p, .string ByteArray.empty]) (by simp [results, Try.results17, go_sem]; rfl) rfl ?_
    exact ⟨rfl, (((Grew.refl w).alloc _ _).alloc _ _).alloc _ _ |>.below⟩
/-- Stretches of cells of one list, as slices that lie in memory. -/
def PartsAt (w : World) (a0 : Option Addr) (vs : List Value) (Gs : List (List Ce)) : Prop := vs.length = Gs.length ∧ ∀ i, i < Gs.length → ∃ b o0 off c, a0 = some ⟨b, o0, none⟩ ∧ vs[i]? = some (.slice (some ⟨b, off, none⟩) (Gs.getD i []).length c) ∧ CellsAt w (some ⟨b, off, none⟩) (Gs.getD i [])
theorem PartsAt.nil (w : World) (a0 : Option Addr) : PartsAt w a0 [] [] := ⟨rfl, fun i hi => absurd hi (by simp)⟩
theorem PartsAt.below {w w' : World} {a0 : Option Addr} {vs : List Value} {Gs : List (List Ce)} (h : PartsAt w a0 vs Gs) (g : Below w.heap.size w w') : PartsAt w' a0 vs Gs :=
  ⟨h.1, fun i hi => by obtain ⟨b, o0, off, c, e0, e, hc⟩ := h.2 i hi; exact ⟨b, o0, off, c, e0, e, hc.below g⟩⟩
theorem CellsAt.keep {w w' : World} {b off : Nat} {C : List Ce} (h : CellsAt w (some ⟨b, off, none⟩) C) (g : w'.heap[b]? = w.heap[b]?) : CellsAt w' (some ⟨b, off, none⟩) C := by
  rcases h with h | ⟨b', off', e, h⟩
  · exact .inl h
  · simp only [Option.some.injEq, Addr.mk.injEq] at e
    obtain ⟨rfl, rfl, _⟩ := e
    refine .inr ⟨b, off, rfl, fun i hi => ?_⟩
    have := h i hi
    unfold CellAt at this ⊢
    simp only [World.cell?_of_block (a := ⟨b, _, none⟩) g]
    exact this
theorem PartsAt.keep {w w' : World} {a0 : Option Addr} {vs : List Value} {Gs : List (List Ce)} (h : PartsAt w a0 vs Gs) (g : ∀ b o, a0 = some ⟨b, o, none⟩ → w'.heap[b]? = w.heap[b]?) : PartsAt w' a0 vs Gs :=
  ⟨h.1, fun i hi => by obtain ⟨b, o0, off, c, e0, e, hc⟩ := h.2 i hi; exact ⟨b, o0, off, c, e0, e, hc.keep (g b o0 e0)⟩⟩
theorem PartsAt.more {w : World} {b o0 off : Nat} {vs : List Value} {Gs : List (List Ce)} {G : List Ce} {m c : Nat} (h : PartsAt w (some ⟨b, o0, none⟩) vs Gs) (hm : G.length = m) (hG : CellsAt w (some ⟨b, off, none⟩) G) : PartsAt w (some ⟨b, o0, none⟩) (vs ++ [.slice (some ⟨b, off, none⟩) m c]) (Gs ++ [G]) := by
  refine ⟨by simp [h.1], fun i hi => ?_⟩
  by_cases e : i < Gs.length
  · obtain ⟨b', o', off', c', e0, e', hc⟩ := h.2 i e
    have e2 : (Gs ++ [G]).getD i [] = Gs.getD i [] := by simp [List.getD, List.getElem?_append_left e]
    rw [e2]
    exact ⟨b', o', off', c', e0, by rw [List.getElem?_append_left (by rw [h.1]; exact e)]; exact e', hc⟩
  · have e1 : i = Gs.length := by simp at hi; omega
    subst e1
    have e2 : (Gs ++ [G]).getD Gs.length [] = G := by simp [List.getD]
    rw [e2, ← hm]
    exact ⟨b, o0, off, c, rfl, by rw [← h.1]; simp, hG⟩
set_option maxRecDepth 100000 in
theorem info_scells : ∃ (i : TypeInfo) (z : Value), (Try.prog).info? 51 = some i ∧ i.zero = some z ∧ z.cells.size = 1 ∧ i.size = 1 ∧ i.bytes = 24 := ⟨_, _, rfl, rfl, rfl, rfl, rfl⟩
set_option maxRecDepth 100000 in
set_option maxHeartbeats 4000000 in
theorem kleaves_any (C : List Ce) (a : Option Addr) (cap : Nat) (w : World) (hS : CellsAt w a C) (hs : single C) (hm : C.length < 1000000) (hcap : C.length ≤ cap) : Calls Try.prog 18 #[.slice a C.length cap] w fun e w' => ∃ v vs, e = .returned v ∧ w'.ownsRow w.heap.size 51 1 v (partsL C).length vs ∧ PartsAt w a vs (partsL C) ∧ Below w.heap.size w w' := by
  obtain ⟨ip, zp, i1, i2, i3, i4, i5⟩ := info_scells
  obtain ⟨n, hN⟩ : ∃ n, C.length = n := ⟨_, rfl⟩
  have hFit : Hid (∀ W st m m' c bk off, Below w.heap.size w W → a = some ⟨bk, off, none⟩ → m' = m → 0 < m → st + m ≤ n → Calls Try.prog 25 #[.slice (some ⟨bk, off + st * 4, none⟩) m' c] W fun e w' => e = .returned (.bool (leafOk ((C.drop st).take m))) ∧ Below W.heap.size W w') := fun W st m m' c bk off g e e2 h0 h1 => by
    obtain ⟨b, o, e3, h3, h4⟩ := sub_cells hS (i := st) (m := m) (by omega) h0
    rw [e] at e3
    simp only [Option.some.injEq, Addr.mk.injEq] at e3
    obtain ⟨rfl, rfl, _⟩ := e3
    have := fits_any ((C.drop st).take m) (some ⟨bk, off + st * 4, none⟩) c W (h3.below g) (by omega)
    rw [h4] at this
    rw [e2]
    exact this
  have hEnd : Hid (∀ Ps st, CutI C n Ps st → partsL C = if st < n then Ps ++ [C.drop st] else Ps) := fun Ps st h => by
    rw [← hN] at h ⊢
    exact h.done
  have hNN : Hid (C.length = n) := hN
  have hS' : Hid (CellsAt w a C) := hS
  have hs' : Hid (single C) := hs
  rw [hN]
  rw [hN] at hm hcap
  clear hN hS hs
  go_enter Try.func18, Try.ntmps18
  go_wp2
  go_loopw [3, 4, 8] (fun ps st i wr => ∃ (k s : Nat) (Ps : List (List Ce)) (vs : List Value) (v : Value), k ≤ n ∧ i = .int .i64 k ∧ st = .int .i64 s ∧ ps = v ∧ CutI C k Ps s ∧ wr.ownsRow w.heap.size 51 1 v Ps.length vs ∧ PartsAt w a vs Ps ∧ Below w.heap.size w wr) (fun _ _ i _ => n - (intOf i).toNat)
  case atStart => exact ⟨0, 0, [], [], _, by omega, rfl, rfl, rfl, CutI.zero C, World.ownsRow_nil _ _ _ _, PartsAt.nil w a, Below.refl _ _⟩
  case round =>
    obtain ⟨k, s, Ps, vs, v, hk, rfl, rfl, rfl, hI, hown, hPs, hB⟩ := hrel
    have hsk := hI.le
    by_cases hlt : k < n
    · have hki : (k : Int) < n := by omega
      obtain ⟨bk, off, rfl, hsub1, hsub2⟩ := sub_cells hS'.out (i := s) (m := k - s + 1) (by rw [hNN.out]; omega) (by omega)
      have hf := hFit.out wr s (k + 1 - s) (k + 1 - s) (cap - s) bk off hB rfl rfl (by omega) (by omega)
      cases hfo : leafOk ((C.drop s).take (k + 1 - s)) with
      | true =>
        have hI2 : Hid _ := hI.yes hfo
        rw [hfo] at hf
        replace hB : Hid (Below w.heap.size w wr) := hB
        replace hown : Hid (World.ownsRow wr _ _ _ _ _ _) := hown
        replace hPs : Hid (PartsAt _ _ _ _) := hPs
        clear hI hfo hsub1 hsub2
        go_wp2_with (first
          | (go_at_call 25; go_fit hf; rintro e w1 ⟨rfl, g1⟩)
          | fail)
        exact ⟨⟨k + 1, s, Ps, vs, _, hlt, by simp, rfl, rfl, hI2.out, row_below hown.out g1, hPs.out, hB.out.trans (g1.mono hB.out.size)⟩, meas_up hlt⟩
      | false =>
        obtain ⟨hst, hI2⟩ := hI.no (by rw [hNN.out]; exact hlt) hs'.out hfo
        obtain ⟨b2, o2, q1, q2, q3⟩ := sub_cells hS'.out (i := s) (m := k - s) (by rw [hNN.out]; omega) (by omega)
        simp only [Option.some.injEq, Addr.mk.injEq] at q1
        obtain ⟨rfl, rfl, _⟩ := q1
        have hP2 : Hid (∀ m c, m = k - s → PartsAt w (some ⟨bk, off, none⟩) (vs ++ [.slice (some ⟨bk, off + s * 4, none⟩) m c]) (Ps ++ [(C.drop s).take (k - s)])) := fun m c e => hPs.more (by rw [q3, e]) q2
        have hl : (Ps ++ [(C.drop s).take (k - s)]).length = Ps.length + 1 := by simp
        have hpl : Ps.length + 1 ≤ 1000000 := by
          have := hI2.parts_le
          have := cutG_len C C.length
          have := hNN.out
          rw [hl] at *
          omega
        obtain ⟨pn, hpn⟩ : ∃ pn, Ps.length = pn := ⟨_, rfl⟩
        rw [hpn] at hown hl hpl
        rw [hfo] at hf
        replace hI2 : Hid _ := hI2
        replace hB : Hid (Below w.heap.size w wr) := hB
        replace hown : Hid (World.ownsRow wr _ _ _ _ _ _) := hown
        replace hPs : Hid (PartsAt _ _ _ _) := hPs
        replace hpn : Hid (Ps.length = pn) := hpn
        replace hl : Hid _ := hl
        clear hI hfo hsub1 hsub2 q2 q3
        have hki2 : (s : Int) ≤ k := by omega
        go_wp2_with (first
          | (go_at_call 25; go_fit hf; rintro e w1 ⟨rfl, g1⟩)
          | (at_builtin; refine wpList_app _ rfl (.tmp 18) (.tmp 23) 55 rfl w.heap.size 51 ip zp 1 24 Try.underlying55 i1 i2 i4 i5 i3 (by decide) _ pn _ rfl ((row_below hown.out g1).alloc _) (some ⟨w1.heap.size, 0, none⟩) 1 1 [.slice (some ⟨bk, off + s * 4, none⟩) (k - s) (cap - s)] rfl rfl (.inr ⟨_, 0, rfl, fun j u hj => new_at _ _ _ _ (by simp) j u hj⟩) (fun u hu => by simp at hu; rcases hu with rfl; rfl) (by unfold maxLen; omega) (by omega) (by have := hB.out.size; have := g1.size; simp; omega) ?_; intro v5 w5 hv5 hg5 hk5 hl5)
          | fail)
        have r1 := (row_below hown.out g1).alloc (.cells #[.slice (some ⟨bk, off + s * 4, none⟩) (k - s) (cap - s)] 51)
        have B1 := hB.out.trans (g1.mono hB.out.size)
        have B2 := B1.trans ((((Grew.refl w1).alloc (#[.slice (some ⟨bk, off + s * 4, none⟩) (k - s) (cap - s)] : Array Value) 51).below).mono B1.size)
        have B3 := B2.trans ((grown_but hg5).below (fun i e => (r1.lt i e).1) B2.size)
        exact ⟨⟨k + 1, k, _, _, _, hlt, by simp, rfl, rfl, hI2.out, by rw [hl.out]; exact hv5, hP2.out _ _ rfl, B3⟩, meas_up hlt⟩
    · have hki : ¬ (k : Int) < n := by omega
      obtain rfl : k = n := by omega
      have hE : Hid _ := hEnd.out Ps s hI
      have hpl : Ps.length + 1 ≤ 1000001 := by
        have := hI.parts_le
        have := cutG_len C C.length
        have := hNN.out
        omega
      obtain ⟨pn, hpn⟩ : ∃ pn, Ps.length = pn := ⟨_, rfl⟩
      rw [hpn] at hown hpl
      replace hpn : Hid (Ps.length = pn) := hpn
      replace hB : Hid (Below w.heap.size w wr) := hB
      replace hown : Hid (World.ownsRow wr _ _ _ _ _ _) := hown
      replace hPs : Hid (PartsAt _ _ _ _) := hPs
      by_cases hsn : s < k
      · have hsi : (s : Int) < k := by omega
        obtain ⟨bk, off, rfl, q2, q3⟩ := sub_cells hS'.out (i := s) (m := k - s) (by rw [hNN.out]; omega) (by omega)
        have hG : (C.drop s).take (k - s) = C.drop s := List.take_of_length_le (by rw [List.length_drop, hNN.out]; exact Nat.le_refl _)
        rw [hG] at q2 q3
        have hP2 : Hid (∀ m c, m = k - s → PartsAt w (some ⟨bk, off, none⟩) (vs ++ [.slice (some ⟨bk, off + s * 4, none⟩) m c]) (Ps ++ [C.drop s])) := fun m c e => hPs.out.more (by rw [q3, e]) q2
        have hE2 : Hid (partsL C = Ps ++ [C.drop s]) := by rw [hE.out, if_pos hsn]; rfl
        have hl : Hid ((Ps ++ [C.drop s]).length = pn + 1) := by show _ = _; rw [List.length_append, hpn.out]; rfl
        clear hE hI q2 q3 hG
        go_wp2_with (first
          | (at_builtin; refine wpList_app _ rfl (.tmp 31) (.tmp 35) 55 rfl w.heap.size 51 ip zp 1 24 Try.underlying55 i1 i2 i4 i5 i3 (by decide) _ pn _ rfl (hown.out.alloc _) (some ⟨wr.heap.size, 0, none⟩) 1 1 [.slice (some ⟨bk, off + s * 4, none⟩) (k - s) (cap - s)] rfl rfl (.inr ⟨_, 0, rfl, fun j u hj => new_at _ _ _ _ (by simp) j u hj⟩) (fun u hu => by simp at hu; rcases hu with rfl; rfl) (by unfold maxLen; omega) (by omega) (by have := hB.out.size; simp; omega) ?_; intro v5 w5 hv5 hg5 hk5 hl5)
          | fail)
        go_ret
        have r1 := hown.out.alloc (.cells #[.slice (some ⟨bk, off + s * 4, none⟩) (k - s) (cap - s)] 51)
        have B2 := hB.out.trans ((((Grew.refl wr).alloc (#[.slice (some ⟨bk, off + s * 4, none⟩) (k - s) (cap - s)] : Array Value) 51).below).mono hB.out.size)
        have B3 := B2.trans ((grown_but hg5).below (fun i e => (r1.lt i e).1) B2.size)
        rw [hE2.out, hl.out]
        exact ⟨_, by trivial, _, hv5, hP2.out _ _ rfl, B3⟩
      · have hsi : ¬ (s : Int) < k := by omega
        have hE2 : Hid (partsL C = Ps) := by rw [hE.out, if_neg hsn]; rfl
        clear hE hI
        go_wp2_with (fail)
        go_ret
        rw [hE2.out, hpn.out]
        exact ⟨_, by trivial, _, hown.out, hPs.out, hB.out⟩
end Go.Proofs.Ytbkkhafckkndfab

namespace Go.Proofs.Ytbkkhafckkndfab
open Go Go.RowKit

theorem row_cap {w : World} {B n k m c : Nat} {a : Option Addr} {E : TypeId} {xs : List Value} (h : w.ownsRow B E k (.slice a m c) n xs) : m = n ∧ n ≤ c := by
  rcases h.2 with ⟨q, h0⟩ | ⟨g, cap, cur, q, h1, h2, h3, _⟩
  · simp only [Value.slice.injEq] at q
    omega
  · simp only [Value.slice.injEq] at q
    omega
def cs2 (L : List Pr) : List Ce := L.map fun x => ceOf x 2
theorem cs2_of (L : List Pr) : CellsOf L (cs2 L) := ⟨by simp [cs2], fun i hi => ⟨2, by decide, map_get L 2 hi⟩⟩
theorem cs2_up (L : List Pr) (k : Nat) (h : k < L.length) : cesV (cs2 (L.take (k + 1))) = cesV (cs2 (L.take k)) ++ ceR (ceOf (L.getD k noPr) 2) := by
  have e : L.getD k noPr = L[k] := by simp [List.getD, h]
  rw [List.take_succ_eq_append_getElem h, e, cs2, cs2, List.map_append, List.map_cons, List.map_nil, ces_more]
set_option maxRecDepth 100000 in
set_option maxHeartbeats 4000000 in
theorem kcount_any (L : List Pr) (a : Option Addr) (cap : Nat) (w : World) (hS : PrsAt w a L) (hr : recsOk L = true) (hm : L.length < 1000000) : Calls Try.prog 13 #[.slice a L.length cap] w fun e w' => e = .returned (.int .i64 (lvs L).1) ∧ Below w.heap.size w w' := by
  obtain ⟨ip, zp, i1, i2, i3, i4, i5⟩ := info_scell
  have hs : Hid (single (cs2 L)) := cells_single hr (cs2_of L)
  have hcnt : Hid ((partsL (cs2 L)).length = (lvs L).1) := count_is hr (cs2_of L)
  have hcl : Hid ((cs2 L).length = L.length) := (cs2_of L).1
  have hS' : Hid (PrsAt w a L) := hS
  obtain ⟨n, hN⟩ : ∃ n, L.length = n := ⟨_, rfl⟩
  rw [hN] at hcl hm
  have hNN : Hid (L.length = n) := hN
  rw [hN]
  have hTake : Hid (L.take n = L) := by rw [← hN]; exact List.take_length
  clear hN hS hr
  go_enter Try.func13, Try.ntmps13
  go_wp2
  go_loopw [3, 8] (fun cs i wr => ∃ (k : Nat), k ≤ n ∧ i = .int .i64 k ∧ wr.ownsRow w.heap.size 53 4 cs k (cesV (cs2 (L.take k))) ∧ Below w.heap.size w wr) (fun _ i _ => n - (intOf i).toNat)
  case atStart => exact ⟨0, by omega, rfl, World.ownsRow_nil _ _ _ _, Below.refl _ _⟩
  case round =>
    obtain ⟨k, hk, rfl, hown, hB⟩ := hrel
    by_cases hlt : k < n
    · have hki : (k : Int) < n := by omega
      obtain ⟨b, off, rfl, hcs⟩ := (hS'.out.below hB).resolve_left (fun e => by have := hNN.out; rw [e] at this; simp at this; omega)
      obtain ⟨e0, e1⟩ := hcs k (by rw [hNN.out]; exact hlt)
      have hup : Hid _ := cs2_up L k (by rw [hNN.out]; exact hlt)
      have hC : Hid (∀ K T W, L.getD k noPr = ⟨K, T⟩ → Calls Try.prog 17 #[.agg #[.int .i64 K, .string T], .int .i64 2] W fun e w' => e = .returned (ceV (ceOf (L.getD k noPr) 2)) ∧ Below W.heap.size W w') := fun K T W e => by rw [e]; exact kcell_any K T 2 W
      generalize hx : L.getD k noPr = x at *
      obtain ⟨K, T⟩ := x
      replace hC := fun W => hC.out K T W rfl
      obtain ⟨c, hc⟩ : ∃ c, ceOf ⟨K, T⟩ 2 = c := ⟨_, rfl⟩
      rw [hc] at hC hup
      obtain ⟨c1, c2, c3, c4⟩ := c
      unfold ceV at hC
      dsimp only at hC e0 e1
      replace hx : Hid _ := hx
      replace hc : Hid _ := hc
      replace hB : Hid _ := hB
      replace hown : Hid (World.ownsRow wr _ _ _ _ _ _) := hown
      replace hC : Hid (∀ W, Calls Try.prog 17 #[.agg #[.int .i64 K, .string T], .int .i64 2] W fun e w' => e = .returned (.agg #[.int .i64 c1, .int .i64 c2, .int .i64 c3, .string c4]) ∧ Below W.heap.size W w') := hC
      clear hcs
      go_wp2_with (first
        | (go_at_call 17; go_fit (hC.out _); rintro e w1 ⟨rfl, g1⟩)
        | (at_builtin; refine wpList_app _ rfl (.tmp 12) (.tmp 15) 51 rfl w.heap.size 53 ip zp 4 40 Try.underlying51 i1 i2 i4 i5 i3 (by decide) _ k _ rfl ((row_below hown.out (((Grew.refl wr).alloc _ _).below.trans (g1.mono (by simp)))).alloc _) (some ⟨w1.heap.size, 0, none⟩) 1 1 [.int .i64 c1, .int .i64 c2, .int .i64 c3, .string c4] rfl rfl (.inr ⟨_, 0, rfl, fun j u hj => new_at _ _ _ _ (by simp) j u hj⟩) (fun u hu => by simp at hu; rcases hu with rfl | rfl | rfl | rfl <;> rfl) (by unfold maxLen; omega) (by omega) (by have := hB.out.size; have := g1.size; simp at *; omega) ?_; intro v5 w5 hv5 hg5 hk5 hl5)
        | fail)
      have g2 : Below wr.heap.size wr w1 := ((Grew.refl wr).alloc _ _).below.trans (g1.mono (by simp))
      have r1 := (row_below hown.out g2).alloc (.cells #[.int .i64 c1, .int .i64 c2, .int .i64 c3, .string c4] 53)
      have B1 := hB.out.trans (g2.mono hB.out.size)
      have B2 := B1.trans ((((Grew.refl w1).alloc (#[.int .i64 c1, .int .i64 c2, .int .i64 c3, .string c4] : Array Value) 53).below).mono B1.size)
      have B3 := B2.trans ((grown_but hg5).below (fun i e => (r1.lt i e).1) B2.size)
      exact ⟨⟨k + 1, hlt, by simp, by rw [hup.out]; exact hv5, B3⟩, meas_up hlt⟩
    · have hki : ¬ (k : Int) < n := by omega
      obtain rfl : k = n := by omega
      rw [hTake.out] at hown
      obtain ⟨a1, m1, rfl, hCe⟩ := cells_of hown
      have hcap := (row_cap hown).2
      have hL : Hid (Calls Try.prog 18 #[.slice a1 k m1] wr fun e w' => ∃ v vs, e = .returned v ∧ w'.ownsRow wr.heap.size 51 1 v (partsL (cs2 L)).length vs ∧ PartsAt wr a1 vs (partsL (cs2 L)) ∧ Below wr.heap.size wr w') := by
        have := kleaves_any (cs2 L) a1 m1 wr hCe hs.out (by rw [hcl.out]; exact hm) (by rw [hcl.out]; exact hcap)
        rw [hcl.out] at this
        exact this
      rw [hcnt.out] at hL
      replace hB : Hid _ := hB
      clear hCe hown
      go_wp2_with (first
        | (go_at_call 18; go_fit hL.out; rintro e w1 ⟨v, vs, rfl, g1, g2, g3⟩; obtain ⟨a2, c2, rfl, _⟩ := own_reads g1)
        | fail)
      go_ret
      exact ⟨rfl, hB.out.trans (g3.mono hB.out.size)⟩
/-- The numbers from 2 on, so many. -/
def numsT (k : Nat) : List Int := (List.range k).map fun (i : Nat) => (i : Int) + 2
theorem numsT_up (k : Nat) : numsT (k + 1) = numsT k ++ [(k : Int) + 2] := by simp [numsT, List.range_succ]
theorem numsT_len (k : Nat) : (numsT k).length = k := by simp [numsT]
theorem numsT_get (k : Nat) {i : Nat} (h : i < k) : (numsT k).getD i 0 = (i : Int) + 2 := by simp [numsT, List.getD, h]
def numsV (l : List Int) : List Value := l.map (Value.int .i64)
theorem numsV_up (l : List Int) (n : Int) : numsV (l ++ [n]) = numsV l ++ [.int .i64 n] := by simp [numsV]
set_option maxRecDepth 100000 in
theorem info_kint : ∃ (i : TypeInfo) (z : Value), (Try.prog).info? 3 = some i ∧ i.zero = some z ∧ z.cells.size = 1 ∧ i.size = 1 ∧ i.bytes = 8 := ⟨_, _, rfl, rfl, rfl, rfl, rfl⟩
theorem nums_of {w : World} {B n : Nat} {E : TypeId} {v : Value} {l : List Int} (h : w.ownsRow B E 1 v n (numsV l)) : ∃ a cap, v = .slice a n cap ∧ NumsAt w a l ∧ n ≤ cap := by
  rcases h.2 with ⟨rfl, h0⟩ | ⟨g, cap, cur, rfl, _, _, hc, _⟩
  · refine ⟨none, 0, by rw [h0], .inl ?_, by omega⟩
    have := h.1
    simp [numsV, h0] at this
    exact this
  · refine ⟨_, cap, rfl, .inr ⟨g, 0, rfl, fun i hi => ?_⟩, hc⟩
    have hn : l.length = n := by have := h.1; simpa [numsV] using this
    rw [Nat.zero_add, h.cellAt _ (by omega)]
    simp [numsV, List.getD, hi]
set_option maxRecDepth 100000 in
set_option maxHeartbeats 2000000 in
theorem kall_any (w : World) : Calls Try.prog 11 #[] w fun e w' => ∃ v, e = .returned v ∧ w'.ownsRow w.heap.size 3 1 v 198 (numsV (numsT 198)) ∧ Below w.heap.size w w' := by
  obtain ⟨ip, zp, i1, i2, i3, i4, i5⟩ := info_kint
  obtain ⟨n, hn⟩ : ∃ n : Nat, 198 = n := ⟨_, rfl⟩
  rw [hn]
  go_enter Try.func11, Try.ntmps11
  go_wp2
  go_loopw [1, 2] (fun l i wr => ∃ (k : Nat), k ≤ n ∧ i = .int .i64 ((k : Int) + 2) ∧ wr.ownsRow w.heap.size 3 1 l k (numsV (numsT k)) ∧ Below w.heap.size w wr) (fun _ i _ => n + 2 - (intOf i).toNat)
  case atStart => exact ⟨0, by omega, rfl, World.ownsRow_nil _ _ _ _, Below.refl _ _⟩
  case round =>
    obtain ⟨k, hk, rfl, hown, hB⟩ := hrel
    by_cases hlt : k < n
    · have hki : (k : Int) + 2 < 200 := by omega
      replace hB : Hid _ := hB
      replace hown : Hid (World.ownsRow wr _ _ _ _ _ _) := hown
      have hn2 : n = 198 := hn.symm
      clear hn
      go_wp2_with (first
        | (at_builtin; refine wpList_app _ rfl (.tmp 7) (.tmp 9) 37 rfl w.heap.size 3 ip zp 1 8 Try.underlying37 i1 i2 i4 i5 i3 (by decide) _ k _ rfl (hown.out.alloc _) (some ⟨wr.heap.size, 0, none⟩) 1 1 [.int .i64 ((k : Int) + 2)] rfl rfl (.inr ⟨_, 0, rfl, fun j u hj => new_at _ _ _ _ (by simp) j u hj⟩) (fun u hu => by simp at hu; rcases hu with rfl; rfl) (by unfold maxLen; omega) (by omega) (by have := hB.out.size; simp at *; omega) ?_; intro v5 w5 hv5 hg5 hk5 hl5)
        | fail)
      have r1 := hown.out.alloc (.cells #[.int .i64 ((k : Int) + 2)] 3)
      have B2 := hB.out.trans ((((Grew.refl wr).alloc (#[.int .i64 ((k : Int) + 2)] : Array Value) 3).below).mono hB.out.size)
      have B3 := B2.trans ((grown_but hg5).below (fun i e => (r1.lt i e).1) B2.size)
      exact ⟨⟨k + 1, hlt, by simp; omega, by rw [numsT_up, numsV_up]; exact hv5, B3⟩, by simp [intOf]; omega⟩
    · have hki : ¬ (k : Int) + 2 < 200 := by omega
      obtain rfl : k = n := by omega
      go_wp2_with (fail)
      go_ret
      exact ⟨_, by trivial, hown, hB⟩
end Go.Proofs.Ytbkkhafckkndfab

namespace Go.Proofs.Ytbkkhafckkndfab
open Go Go.RowKit

/-- An array of 200 bools that lies at block b. -/
def BArr (w : World) (b : Nat) (S : Nat → Bool) : Prop := ∀ i, i < 200 → w.cell? ⟨b, i, none⟩ = some (.bool (S i)) ∧ w.frozen? ⟨b, i, none⟩ = false
theorem BArr.set {w : World} {b : Nat} {S : Nat → Bool} (h : BArr w b S) (m : Nat) (S' : Nat → Bool) (he : ∀ i, S' i = if i = m then true else S i) : BArr (w.setCell ⟨b, m, none⟩ (.bool true)) b S' := by
  intro i hi
  rw [he i]
  by_cases e : i = m
  · subst e
    rw [if_pos rfl]
    exact ⟨World.cell?_setCell_same' _ _ _ (by rw [(h i hi).1]; rfl), by rw [World.frozen?_setCell]; exact (h i hi).2⟩
  · rw [if_neg e]
    have := (h i hi).1
    refine ⟨?_, by rw [World.frozen?_setCell]; exact (h i hi).2⟩
    rw [← this]
    exact World.cell?_setCell_other w _ _ _ (fun q => e (by simpa using q.symm))
theorem BArr.new (w : World) (t : TypeId) : BArr (w.alloc (.cells (Array.replicate 200 (.bool false)) t)) w.heap.size fun _ => false := by
  intro i hi
  constructor
  · rw [cell_of_row _ _ _ _ _ _ (heap_alloc_new _ _)]
    simp [hi]
  · exact frozen_of_row _ _ _ _ _ (heap_alloc_new _ _)
theorem BArr.lt {w : World} {b : Nat} {S : Nat → Bool} (h : BArr w b S) : b < w.heap.size := cell_block (h 0 (by omega)).1
theorem BArr.grew {w w' : World} {b : Nat} {S : Nat → Bool} (h : BArr w b S) (g : Grew w w') : BArr w' b S := fun i hi =>
  ⟨below_cell g.below (h i hi).1, (frozen_of_heap (g.heap h.lt)).trans (h i hi).2⟩
set_option maxRecDepth 100000 in
set_option maxHeartbeats 4000000 in
theorem kpages_any (H : List Pr) (F : List Int) (a b : Option Addr) (ch cf : Nat) (w : World) (hH : PrsAt w a H) (hF : NumsAt w b F) (h1 : H.length ≤ 1000000) (h2 : F.length ≤ 1000000) :
    Calls Try.prog 12 #[.slice a H.length ch, .slice b F.length cf] w fun e w' => IsB e (PgsOk H F) ∧ Below w.heap.size w w' := by
  obtain ⟨n, hn⟩ : ∃ n, H.length = n := ⟨_, rfl⟩
  obtain ⟨m, hm⟩ : ∃ m, F.length = m := ⟨_, rfl⟩
  rw [hn, hm]
  rw [hn] at h1
  rw [hm] at h2
  replace hn : Hid (H.length = n) := hn
  replace hm : Hid (F.length = m) := hm
  replace hH : Hid (PrsAt w a H) := hH
  replace hF : Hid (NumsAt w b F) := hF
  have hK : Hid (∀ x W, Calls Try.prog 16 #[.int .i64 x] W fun e w' => e = .returned (.bool (pageB x)) ∧ w' = W) := fun x W => kpage_any x W
  obtain ⟨Z, hZ⟩ : ∃ Z : Array Value, Z = Array.replicate 200 (.bool false) := ⟨_, rfl⟩
  have hzv : ∀ W, (zeroValue 50).run Try.prog W = .ok (.agg Z) W := fun W => by rw [hZ]; kernel_rfl
  have hA0 : BArr (w.alloc (.cells Z 50)) w.heap.size fun _ => false := by rw [hZ]; exact BArr.new w _
  have hB0 : Below w.heap.size w (w.alloc (.cells Z 50)) := ((Grew.refl w).alloc _ _).below
  replace hZ : Hid _ := hZ
  replace hA0 : Hid (BArr (w.alloc (.cells Z 50)) w.heap.size fun _ => false) := hA0
  replace hB0 : Hid _ := hB0
  go_enter Try.func12, Try.ntmps12
  go_wp2
  try rw [show Try.zeroCells50 = Z by rw [hZ.out]; kernel_rfl]
  clear hzv
  replace hA0 := hA0.out
  replace hB0 := hB0.out
  generalize w.alloc (.cells Z 50) = W0 at *
  go_loopw [12] (fun i wr => ∃ k : Nat, k ≤ m ∧ i = .int .i64 k ∧ Below w.heap.size w wr ∧ BArr wr w.heap.size (fun j => decide (∃ i, i < k ∧ F.getD i 0 = (j : Int))) ∧ ∀ i, i < k → pageB (F.getD i 0) = true ∧ ∀ j, j < i → ¬ F.getD j 0 = F.getD i 0) (fun i _ => m - (intOf i).toNat)
  case atStart => exact ⟨0, by omega, rfl, hB0, by simpa using hA0, fun j hj => absurd hj (by omega)⟩
  case round =>
    clear hA0 hB0
    obtain ⟨k, hk, rfl, hB, hA, hno⟩ := hrel
    by_cases hlt : k < m
    · have hki : (k : Int) < m := by omega
      obtain ⟨bk, off, rfl, hcs⟩ := (hF.out.below hB).resolve_left (fun e => by have := hm.out; rw [e] at this; simp at this; omega)
      have e0 := hcs k (by rw [hm.out]; exact hlt)
      obtain ⟨x, hx⟩ : ∃ x, F.getD k 0 = x := ⟨_, rfl⟩
      rw [hx] at e0
      have hKx : Hid (∀ W, Calls Try.prog 16 #[.int .i64 x] W fun e w' => e = .returned (.bool (pageB x)) ∧ w' = W) := hK.out x
      replace hx : Hid _ := hx
      replace hB : Hid _ := hB
      clear hcs
      cases hpb : pageB x with
      | false =>
        have hE : Hid (¬ PgsOk H F) := fun g => by
          have := (g.2 k (by rw [hm.out]; exact hlt)).1
          rw [hx.out, hpb] at this
          cases this
        rw [hpb] at hKx
        replace hA : Hid _ := hA
        replace hno : Hid _ := hno
        clear hpb
        go_wp2_with (first
          | (go_at_call 16; go_fit (hKx.out _); rintro e w1 ⟨rfl, rfl⟩)
          | fail)
        go_ret
        exact ⟨⟨false, by trivial, by simp; exact hE.out⟩, hB.out⟩
      | true =>
        rw [hpb] at hKx
        have hpx := (pageB_iff _).1 hpb
        obtain ⟨p, rfl⟩ := Int.eq_ofNat_of_zero_le (show 0 ≤ x by omega)
        have hp1 : (p : Int) < 200 := by omega
        have hp2 : p < 200 := by omega
        obtain ⟨cB, zB⟩ := hA p (by omega)
        dsimp only at cB
        by_cases hin : ∃ i, i < k ∧ F.getD i 0 = (p : Int)
        · have hE : Hid (¬ PgsOk H F) := fun g => by
            obtain ⟨i, hi, e⟩ := hin
            exact (g.2 k (by rw [hm.out]; exact hlt)).2 i hi (by rw [e, hx.out])
          rw [decide_eq_true hin] at cB
          replace hA : Hid _ := hA
          replace hno : Hid _ := hno
          replace hin : Hid _ := hin
          clear hpb hpx
          go_wp2_with (first
            | (go_at_call 16; go_fit (hKx.out _); rintro e w1 ⟨rfl, rfl⟩)
            | fail)
          go_ret
          exact ⟨⟨false, by trivial, by simp; exact hE.out⟩, hB.out⟩
        · rw [decide_eq_false hin] at cB
          have hA2 : Hid (BArr (wr.setCell ⟨w.heap.size, p, none⟩ (.bool true)) w.heap.size fun j => decide (∃ i, i < k + 1 ∧ F.getD i 0 = (j : Int))) := hA.set p _ (fun j => by
            by_cases e : j = p
            · rw [if_pos e, e]
              exact decide_eq_true ⟨k, by omega, hx.out⟩
            · rw [if_neg e]
              apply decide_eq_decide.2
              constructor
              · rintro ⟨i, hi, e2⟩
                refine ⟨i, ?_, e2⟩
                by_cases ei : i = k
                · exfalso
                  rw [ei, hx.out] at e2
                  omega
                · omega
              · rintro ⟨i, hi, e2⟩
                exact ⟨i, by omega, e2⟩)
          have hno2 : Hid (∀ i, i < k + 1 → pageB (F.getD i 0) = true ∧ ∀ j, j < i → ¬ F.getD j 0 = F.getD i 0) := fun i hi => by
            by_cases e : i = k
            · rw [e, hx.out]
              exact ⟨hpb, fun j hj e2 => hin ⟨j, hj, e2⟩⟩
            · exact hno i (by omega)
          have hB2 : Hid (Below w.heap.size w (wr.setCell ⟨w.heap.size, p, none⟩ (.bool true))) := hB.out.setCell (p := ⟨w.heap.size, p, none⟩) (Nat.le_refl _) _
          replace hA : Hid _ := hA
          replace hno : Hid _ := hno
          replace hin : Hid _ := hin
          clear hpb hpx
          go_wp2_with (first
            | (go_at_call 16; go_fit (hKx.out _); rintro e w1 ⟨rfl, rfl⟩)
            | fail)
          exact ⟨⟨k + 1, hlt, by simp, hB2.out, hA2.out, hno2.out⟩, meas_up hlt⟩
    · have hki : ¬ (k : Int) < m := by omega
      obtain rfl : k = m := by omega
      replace hno : Hid _ := hno
      clear hki hlt
      go_wp2_with (fail)
      obtain ⟨W1, hW1⟩ : ∃ W1, wr = W1 := ⟨_, rfl⟩
      rw [hW1] at hA hB ⊢
      clear hW1
      go_loopw [29] (fun i wr => ∃ q : Nat, q ≤ n ∧ i = .int .i64 q ∧ Below w.heap.size w wr ∧ BArr wr w.heap.size (fun j => decide (∃ i, i < k ∧ F.getD i 0 = (j : Int))) ∧ ∀ i, i < q → pageB (H.getD i noPr).n = true ∧ ∀ j, j < k → ¬ F.getD j 0 = (H.getD i noPr).n) (fun i _ => n - (intOf i).toNat)
      case atStart => exact ⟨0, by omega, rfl, hB, hA, fun j hj => absurd hj (by omega)⟩
      case round =>
        clear hA hB
        obtain ⟨q, hq, rfl, hB, hA, hno2⟩ := hrel
        by_cases hlt : q < n
        · have hki : (q : Int) < n := by omega
          obtain ⟨bk, off, rfl, hcs⟩ := (hH.out.below hB).resolve_left (fun e => by have := hn.out; rw [e] at this; simp at this; omega)
          obtain ⟨e0, e1⟩ := hcs q (by rw [hn.out]; exact hlt)
          obtain ⟨x, hx⟩ : ∃ x, (H.getD q noPr).n = x := ⟨_, rfl⟩
          obtain ⟨T, hT⟩ : ∃ T, (H.getD q noPr).b = T := ⟨_, rfl⟩
          rw [hx] at e0
          rw [hT] at e1
          have hKx : Hid (∀ W, Calls Try.prog 16 #[.int .i64 x] W fun e w' => e = .returned (.bool (pageB x)) ∧ w' = W) := hK.out x
          replace hx : Hid _ := hx
          replace hB : Hid _ := hB
          clear hcs hT
          cases hpb : pageB x with
          | false =>
            have hE : Hid (¬ PgsOk H F) := fun g => by
              have := (g.1 q (by rw [hn.out]; exact hlt)).1
              rw [hx.out, hpb] at this
              cases this
            rw [hpb] at hKx
            replace hA : Hid _ := hA
            replace hno2 : Hid _ := hno2
            clear hpb
            go_wp2_with (first
              | (go_at_call 16; go_fit (hKx.out _); rintro e w1 ⟨rfl, rfl⟩)
              | fail)
            go_ret
            exact ⟨⟨false, by trivial, by simp; exact hE.out⟩, hB.out.alloc hB.out.size _⟩
          | true =>
            rw [hpb] at hKx
            have hpx := (pageB_iff _).1 hpb
            obtain ⟨p, rfl⟩ := Int.eq_ofNat_of_zero_le (show 0 ≤ x by omega)
            have hp1 : (p : Int) < 200 := by omega
            have hp2 : p < 200 := by omega
            obtain ⟨cB, zB⟩ := hA p (by omega)
            dsimp only at cB
            by_cases hin : ∃ i, i < k ∧ F.getD i 0 = (p : Int)
            · have hE : Hid (¬ PgsOk H F) := fun g => by
                obtain ⟨i, hi, e⟩ := hin
                exact (g.1 q (by rw [hn.out]; exact hlt)).2 i (by rw [hm.out]; exact hi) (by rw [e, hx.out])
              rw [decide_eq_true hin] at cB
              have cB2 : (wr.alloc (.cells #[.int .i64 (p : Int), .string T] 39)).cell? ⟨w.heap.size, p, none⟩ = some (.bool true) := below_cell ((Grew.refl wr).alloc _ _).below cB
              replace hA : Hid _ := hA
              replace hno2 : Hid _ := hno2
              replace hin : Hid _ := hin
              clear hpb hpx
              go_wp2_with (first
                | (go_at_call 16; go_fit (hKx.out _); rintro e w1 ⟨rfl, rfl⟩)
                | fail)
              go_ret
              exact ⟨⟨false, by trivial, by simp; exact hE.out⟩, hB.out.alloc hB.out.size _⟩
            · rw [decide_eq_false hin] at cB
              have hno3 : Hid (∀ i, i < q + 1 → pageB (H.getD i noPr).n = true ∧ ∀ j, j < k → ¬ F.getD j 0 = (H.getD i noPr).n) := fun i hi => by
                by_cases e : i = q
                · rw [e, hx.out]
                  exact ⟨hpb, fun j hj e2 => hin ⟨j, hj, e2⟩⟩
                · exact hno2 i (by omega)
              have cB2 : (wr.alloc (.cells #[.int .i64 (p : Int), .string T] 39)).cell? ⟨w.heap.size, p, none⟩ = some (.bool false) := below_cell ((Grew.refl wr).alloc _ _).below cB
              replace hA : Hid _ := hA
              replace hno2 : Hid _ := hno2
              replace hin : Hid _ := hin
              clear hpb hpx
              go_wp2_with (first
                | (go_at_call 16; go_fit (hKx.out _); rintro e w1 ⟨rfl, rfl⟩)
                | fail)
              exact ⟨⟨q + 1, hlt, by simp, hB.out.alloc hB.out.size _, BArr.grew (w := wr) hA.out ((Grew.refl _).alloc _ _), hno3.out⟩, meas_up hlt⟩
        · have hki : ¬ (q : Int) < n := by omega
          obtain rfl : q = n := by omega
          have hY : Hid (PgsOk H F) := ⟨by rw [hn.out, hm.out]; exact hno2, by rw [hm.out]; exact hno.out⟩
          replace hA : Hid _ := hA
          clear hno2 hno
          go_wp2_with (fail)
          go_ret
          exact ⟨⟨true, by trivial, by simp; exact hY.out⟩, hB⟩
end Go.Proofs.Ytbkkhafckkndfab

namespace Go.Proofs.Ytbkkhafckkndfab
open Go Go.RowKit

/-- With n laid under k. -/
def updS (f : ByteArray → Option Int) (k : ByteArray) (n : Int) : ByteArray → Option Int := fun j => if j = k then some n else f j
/-- A map that lies in memory: under these texts these numbers. -/
def SMap (w : World) (mb : Nat) (f : ByteArray → Option Int) : Prop :=
  ∃ (es : Array MapEntry) (c : Nat), w.heap[mb]? = some (.map es c) ∧ (es.toList.map (·.key)).Nodup ∧ (∀ x ∈ es.toList, ∃ k n, x.key = .string k ∧ x.val = .int .i64 n ∧ f k = some n) ∧ ∀ k n, f k = some n → ∃ x ∈ es.toList, x.key = .string k

theorem SMap.heap {w w' : World} {mb : Nat} {f : ByteArray → Option Int} (h : SMap w mb f) (g : w'.heap[mb]? = w.heap[mb]?) : SMap w' mb f := by
  obtain ⟨es, c, h1, h2⟩ := h
  exact ⟨es, c, g.trans h1, h2⟩
theorem SMap.lt {w : World} {mb : Nat} {f : ByteArray → Option Int} (h : SMap w mb f) : mb < w.heap.size := by
  obtain ⟨es, c, h1, h2⟩ := h
  exact (Array.getElem?_eq_some_iff.1 h1).1
theorem SMap.made (w : World) : SMap (w.alloc (.map #[] 0)) w.heap.size fun _ => none :=
  ⟨#[], 0, MapKept.heap_alloc w _ |>.1, by simp, by simp, by simp⟩
theorem SMap.congr {w : World} {mb : Nat} {f g : ByteArray → Option Int} (h : SMap w mb f) (e : ∀ k, f k = g k) : SMap w mb g := by
  have : f = g := funext e
  exact this ▸ h

section
variable {P : Program} {t kt et : TypeId} (hm : P.underlying t = some (.map kt et)) (hk : P.underlying kt = some .string)
include hm hk

theorem SMap.put {w : World} {mb : Nat} {f : ByteArray → Option Int} (h : SMap w mb f) (k : ByteArray) (n : Int) :
    ∃ w', (Instr.mapUpdate t (.map (some mb)) (.string k) (.int .i64 n)).run P w = .ok () w' ∧ SMap w' mb (updS f k n) ∧ w.grownBy w' (some mb) := by
  obtain ⟨es, c, hb, hn, hv, ho⟩ := h
  have hlt := (Array.getElem?_eq_some_iff.1 hb).1
  have hisk : MapKept.IsKey .string (.string k) := trivial
  have hks : ∀ x ∈ es.toList, MapKept.IsKey .string x.key := fun x hx => by
    obtain ⟨k, n, e, _⟩ := hv x hx
    rw [e]
    trivial
  rcases MapKept.findNow_spec hisk es.toList 0 hks with ⟨h1, h2⟩ | ⟨j, e, h1, h2, h3⟩
  · refine ⟨{ w with heap := w.heap.setIfInBounds mb (.map (es.push { key := .string k, val := .int .i64 n, born := c }) (c + 1)) }, ?_, ⟨es.push { key := .string k, val := .int .i64 n, born := c }, c + 1, by simp [hlt], ?_, ?_, ?_⟩, ⟨rfl, rfl, rfl, by simp, fun k _ hk => ?_⟩⟩
    · simp [Instr.mapUpdate, run_underlying hm, MapKept.run_getObj_map hb, MapKept.run_checkKey hk hisk, MapKept.run_findKey hk h1, MapKept.run_setObj_map _ hb, Result.andThen]
    · simp only [Array.toList_push, List.map_append, List.map_cons, List.map_nil]
      refine List.nodup_append.2 ⟨hn, by simp, ?_⟩
      intro a ha b hb
      simp only [List.mem_singleton] at hb
      subst hb
      obtain ⟨x, hx, rfl⟩ := List.mem_map.1 ha
      exact h2 x hx
    · intro x hx
      simp only [Array.toList_push, List.mem_append, List.mem_singleton] at hx
      rcases hx with hx | rfl
      · obtain ⟨k', n', e1, e2, e3⟩ := hv x hx
        refine ⟨k', n', e1, e2, ?_⟩
        have : ¬ k' = k := fun e => h2 x hx (by rw [e1, e])
        simp [updS, this, e3]
      · exact ⟨k, n, rfl, rfl, by simp [updS]⟩
    · intro k' n' he
      by_cases hkk : k' = k
      · exact ⟨{ key := .string k, val := .int .i64 n, born := c }, by simp, by rw [hkk]⟩
      · simp only [updS, if_neg hkk] at he
        obtain ⟨x, hx, e⟩ := ho k' n' he
        exact ⟨x, by simp [hx], e⟩
    · have : mb ≠ k := fun e => hk (by rw [e])
      simp [this]
  · have hj : es[j]? = some e := by simpa using h2
    have hjl : j < es.size := (Array.getElem?_eq_some_iff.1 hj).1
    have hkey : ∀ e', es[j]? = some e' → ({ e' with key := Value.string k, val := .int .i64 n } : MapEntry).key = e'.key := fun e' he' => by rw [hj] at he'; cases he'; exact h3.symm
    refine ⟨{ w with heap := w.heap.setIfInBounds mb (.map (es.modify j fun e => { e with key := .string k, val := .int .i64 n }) c) }, ?_, ⟨es.modify j fun e => { e with key := .string k, val := .int .i64 n }, c, by simp [hlt], ?_, ?_, ?_⟩, ⟨rfl, rfl, rfl, by simp, fun k _ hk => ?_⟩⟩
    · simp [Instr.mapUpdate, run_underlying hm, MapKept.run_getObj_map hb, MapKept.run_checkKey hk hisk, MapKept.run_findKey hk h1, hj, h3, MapKept.run_keyThatStays hisk, MapKept.run_setObj_map _ hb, Result.andThen]
    · rw [MapKept.modify_keys _ _ hkey]
      exact hn
    · intro x hx
      obtain ⟨i, hi, rfl⟩ := List.mem_iff_getElem.1 hx
      simp only [Array.length_toList, Array.size_modify] at hi
      by_cases hij : j = i
      · subst hij
        exact ⟨k, n, by simp, by simp, by simp [updS]⟩
      · have hx' : es[i] ∈ es.toList := by simp
        obtain ⟨k', n', e1, e2, e3⟩ := hv _ hx'
        refine ⟨k', n', by simp [hij, e1], by simp [hij, e2], ?_⟩
        have : ¬ k' = k := fun e => by
          refine hij ?_
          have hp := List.pairwise_iff_getElem.1 hn
          have hA : (es.toList.map (·.key))[j]'(by simpa using hjl) = (es.toList.map (·.key))[i]'(by simpa using hi) := by
            simp only [List.getElem_map, Array.getElem_toList]
            have : es[j] = _ := (Array.getElem?_eq_some_iff.1 hj).2
            rw [this, h3, e1, e]
          rcases Nat.lt_trichotomy j i with q | q | q
          · exact absurd hA (hp j i _ _ q)
          · exact q
          · exact absurd hA.symm (hp i j _ _ q)
        simp [updS, this, e3]
    · intro k' n' he
      by_cases hkk : k' = k
      · refine ⟨(es.modify j fun e => { e with key := .string k, val := .int .i64 n })[j]'(by simpa using hjl), Array.getElem_mem_toList _, by simp [Array.getElem_modify, hkk]⟩
      · simp only [updS, if_neg hkk] at he
        obtain ⟨x, hx, e⟩ := ho k' n' he
        have hx2 : x.key ∈ (es.modify j fun e => { e with key := .string k, val := .int .i64 n }).toList.map (·.key) := by
          rw [MapKept.modify_keys _ _ hkey]
          exact List.mem_map.2 ⟨x, hx, rfl⟩
        obtain ⟨y, hy, ey⟩ := List.mem_map.1 hx2
        exact ⟨y, hy, ey.trans e⟩
    · have : mb ≠ k := fun e => hk (by rw [e])
      simp [this]
theorem SMap.get {w : World} {mb : Nat} {f : ByteArray → Option Int} (h : SMap w mb f) (k : ByteArray) (hz : (zeroValue et).run P w = .ok (.int .i64 0) w) :
    (Instr.lookup t (.map (some mb)) (.string k) true).run P w = .ok (.tuple #[.int .i64 ((f k).getD 0), .bool (f k).isSome]) w := by
  obtain ⟨es, c, hb, hn, hv, ho⟩ := h
  have hisk : MapKept.IsKey .string (.string k) := trivial
  have hks : ∀ x ∈ es.toList, MapKept.IsKey .string x.key := fun x hx => by
    obtain ⟨k, n, e, _⟩ := hv x hx
    rw [e]
    trivial
  rcases MapKept.findNow_spec hisk es.toList 0 hks with ⟨h1, h2⟩ | ⟨j, e, h1, h2, h3⟩
  · have hf : f k = none := by
      cases e : f k with
      | none => rfl
      | some n =>
        obtain ⟨x, hx, he⟩ := ho k n e
        exact absurd he (h2 x hx)
    simp [Instr.lookup, run_underlying hm, MapKept.run_getObj_map hb, MapKept.run_checkKey hk hisk, MapKept.run_findKey hk h1, hz, hf, Result.andThen]
  · have hj : es[j]? = some e := by simpa using h2
    obtain ⟨k', n, e1, e2, e3⟩ := hv e (by simpa using Array.mem_of_getElem? hj)
    rw [h3] at e1
    cases e1
    simp [Instr.lookup, run_underlying hm, MapKept.run_getObj_map hb, MapKept.run_checkKey hk hisk, MapKept.run_findKey hk h1, e2, e3, Result.andThen]
end
end Go.Proofs.Ytbkkhafckkndfab
