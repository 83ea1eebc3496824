/-
  Package shelf's reading.tree: the records of a root.
-/
import Derived.Test.YtbkkhafckkndfaaGreatPxOLeaf
import Derived.Test.YtbkkhafckkndfaaGreatPk08
namespace Go.Proofs.YtbkkhafckkndfaaGreat
open Go Go.RowKit

/-! ### One step of the plain reading -/
theorem cel_step (ld : Ld) (c : Ce) (C : List Ce) (out : List Pr) (T : List Int) : (¬ (textR ld c T).1 = 0 → celM ld (c :: C) out T = ((textR ld c T).1, out, (textR ld c T).2.2)) ∧ ((textR ld c T).1 = 0 → celM ld (c :: C) out T = celM ld C (out ++ [⟨c.key, (textR ld c T).2.1⟩]) (textR ld c T).2.2) := by
  rw [celM]
  exact ⟨fun h => if_neg h, fun h => if_pos h⟩
theorem slt_step (ld : Ld) (s : Sl) (S : List Sl) (out : List Pr) (T : List Int) : (¬ (leafR ld s (lastK out) T).e = 0 → (sltM ld (s :: S) out T).1 = (leafR ld s (lastK out) T).e ∧ (sltM ld (s :: S) out T).2.2 = (leafR ld s (lastK out) T).T) ∧
    ((leafR ld s (lastK out) T).e = 0 → (¬ (celM ld (leafR ld s (lastK out) T).C out (leafR ld s (lastK out) T).T).1 = 0 → sltM ld (s :: S) out T = celM ld (leafR ld s (lastK out) T).C out (leafR ld s (lastK out) T).T) ∧
      ((celM ld (leafR ld s (lastK out) T).C out (leafR ld s (lastK out) T).T).1 = 0 → sltM ld (s :: S) out T = sltM ld S (celM ld (leafR ld s (lastK out) T).C out (leafR ld s (lastK out) T).T).2.1 (celM ld (leafR ld s (lastK out) T).C out (leafR ld s (lastK out) T).T).2.2)) := by
  rw [sltM]
  unfold leafR
  by_cases hE : ¬ (ld s.page).2 = 0
  · rw [if_pos hE, if_pos hE]
    exact ⟨fun _ => ⟨rfl, rfl⟩, fun e => absurd e hE⟩
  · rw [if_neg hE, if_neg hE]
    cases hl : leafAt (ld s.page).1 s.key (lastK out) with
    | false =>
      rw [cond_false, if_neg (by decide)]
      exact ⟨fun _ => ⟨rfl, rfl⟩, fun e => by cases e⟩
    | true =>
      rw [cond_true, if_pos rfl]
      exact ⟨fun e => absurd rfl e, fun _ => ⟨fun h => if_neg h, fun h => if_pos h⟩⟩
theorem leaf_ok {s : ByteArray} (h : isLeaf s = true) : leafOk (cellsS s) = true := by
  have h2 := h
  unfold isLeaf at h2
  unfold cellsS
  rw [if_pos h]
  cases hr : runC s (cntS s) with
  | none => rw [hr] at h2; simp at h2
  | some q =>
    obtain ⟨C, i⟩ := q
    rw [hr] at h2
    simp only [Bool.and_eq_true] at h2
    exact h2.2.1
theorem leaf_few {C : List Ce} (h : leafOk C = true) : C.length ≤ 200 ∧ ∀ c ∈ C, c.size ≤ 900 := by
  simp only [leafOk, Bool.and_eq_true, decide_eq_true_eq, List.all_eq_true] at h
  refine ⟨h.1.1, fun c hc => ?_⟩
  obtain ⟨i, hi, rfl⟩ := List.getElem_of_mem hc
  have := h.1.2 i (List.mem_range.2 hi)
  unfold ceOk at this
  simp only [Bool.and_eq_true] at this
  have g := this.1
  unfold ceGood at g
  simp only [Bool.and_eq_true, decide_eq_true_eq] at g
  have e : C.getD i noCe = C[i] := by simp [List.getD, hi]
  rw [e] at g
  exact g.1.2.2
theorem lf_few {ld : Ld} {s : Sl} {last : Int} {T : List Int} : (leafR ld s last T).C.length ≤ 200 ∧ ∀ c ∈ (leafR ld s last T).C, c.size ≤ 900 := by
  unfold leafR
  split
  · exact ⟨by simp, fun c hc => absurd hc (by simp)⟩
  · cases hl : leafAt (ld s.page).1 s.key last with
    | false => exact ⟨by simp, fun c hc => absurd hc (by simp)⟩
    | true =>
      unfold leafAt at hl
      simp only [Bool.and_eq_true] at hl
      exact leaf_few (leaf_ok hl.1.1)
theorem idx_few {s : ByteArray} (h : isIdx s = true) : (idxS s).length ≤ 21 := by
  have h2 := h
  unfold isIdx at h2
  simp only [Bool.and_eq_true, decide_eq_true_eq] at h2
  unfold idxS
  rw [if_pos h, rawS_len]
  exact h2.1.2
theorem drop_get {α : Type} (L : List α) (i : Nat) (d : α) (h : i < L.length) : L.drop i = L.getD i d :: L.drop (i + 1) := by
  rw [List.drop_eq_getElem_cons h]
  simp [List.getD, h]
/-! ### What stays -/
theorem WrR.blk {w0 W W' : World} {r p q : Nat} {V : List Pr} {cs : Array Value} {t : TypeId} (g : WrR r W W') (hR : RdK w0 W r p V) (hb : W.heap[q]? = some (.cells cs t (0, 0))) (h1 : t ≠ 68) (h2 : t ≠ 49) : W'.heap[q]? = some (.cells cs t (0, 0)) :=
  (g.block q (Array.getElem?_eq_some_iff.1 hb).1 fun s => by
    rcases s with s | s
    · rw [s] at hb
      exact h1 (OfT.ne ⟨_, hb⟩ hR.ofT)
    · exact h2 (OfT.ne ⟨_, hb⟩ s)).trans hb
theorem row_r {w0 W W' : World} {r p B n k : Nat} {V : List Pr} {E : TypeId} {v : Value} {xs : List Value} (h : W.ownsRow B E k v n xs) (hR : RdK w0 W r p V) (g : WrR r W W') (h1 : E ≠ 68) (h2 : E ≠ 49) : W'.ownsRow B E k v n xs :=
  g.row h h2 fun e => h1 (OfT.ne (row_ofT h e) hR.ofT)
theorem row_two {W W' : World} {B B' n n' k k' : Nat} {E E' : TypeId} {v v' : Value} {xs xs' : List Value} (h : W.ownsRow B E k v n xs) (h' : W.ownsRow B' E' k' v' n' xs') (g : W.grownBy W' v'.ownBlock) (hE : E ≠ E') : W'.ownsRow B E k v n xs :=
  row_but h (grown_but g) fun _ e e' => hE (OfT.ne (row_ofT h e) (row_ofT h' e'))
theorem RdK.row {w0 W W' : World} {r p B n k : Nat} {V : List Pr} {E : TypeId} {v : Value} {xs : List Value} (hR : RdK w0 W r p V) (h : W.ownsRow B E k v n xs) (hB : w0.heap.size ≤ B) (g : W.grownBy W' v.ownBlock) (h1 : E ≠ 68) (h2 : E ≠ 49) : RdK w0 W' r p V :=
  hR.but (grown_but g) (fun _ e => by have := (h.lt _ e).1; omega) fun _ e => ⟨fun e2 => by
    rw [e2] at e
    exact h1 (OfT.ne (row_ofT h e) hR.ofT), fun s => h2 (OfT.ne (row_ofT h e) s)⟩
theorem WrR.own {w W W' : World} {r B n k : Nat} {E : TypeId} {v : Value} {xs : List Value} (g : WrR r w W) (h : W.ownsRow B E k v n xs) (hB : w.heap.size ≤ B) (g2 : W.grownBy W' v.ownBlock) : WrR r w W' :=
  ⟨g2.os.trans g.os, g2.tape.trans g.tape, g2.output.trans g.output, Nat.le_trans g.size g2.size, fun i hi hn => (g2.block i (Nat.lt_of_lt_of_le hi g.size) fun e => by have := (h.lt i e.symm).1; omega).trans (g.block i hi hn)⟩
theorem blk_row {W W' : World} {q B n k : Nat} {E t : TypeId} {v : Value} {xs : List Value} {cs : Array Value} (hb : W.heap[q]? = some (.cells cs t (0, 0))) (h : W.ownsRow B E k v n xs) (g : W.grownBy W' v.ownBlock) (hE : t ≠ E) : W'.heap[q]? = some (.cells cs t (0, 0)) :=
  (g.block q (Array.getElem?_eq_some_iff.1 hb).1 fun e => hE (OfT.ne ⟨_, hb⟩ (row_ofT h e.symm))).trans hb
theorem below_blk {W W' : World} {q : Nat} {o : Obj} (hb : W.heap[q]? = some o) (g : Below W.heap.size W W') : W'.heap[q]? = some o :=
  (g.block q (Array.getElem?_eq_some_iff.1 hb).1).trans hb
set_option maxRecDepth 100000 in
theorem info_krec : ∃ (i : TypeInfo) (z : Value), (Tryz.prog).info? 46 = some i ∧ i.zero = some z ∧ z.cells.size = 2 ∧ i.size = 2 ∧ i.bytes = 24 := ⟨_, _, rfl, rfl, rfl, rfl, rfl⟩
def ReadK (w0 w w' : World) (r p : Nat) (ld : Ld) (R : Int × List Pr × List Int) (e : Ending) : Prop := ∃ v, e = .returned (.tuple #[v, .int .i64 R.1]) ∧ (R.1 = 0 → w'.ownsRow w.heap.size 46 2 v R.2.1.length (prsV R.2.1)) ∧ RdK w0 w' r p (canon ld R.2.2) ∧ WrR r w w'
set_option maxRecDepth 100000 in
set_option maxHeartbeats 16000000 in
theorem ktree_in {w0 w : World} {r p : Nat} {ld : Ld} (hL : Loads w0 p ld) (h : RdK w0 w r p (canon ld [])) (root : Int) :
    Calls Tryz.prog 20 #[.pointer (some ⟨r, 0, none⟩), .int .i64 root] w fun e w' => ReadK w0 w w' r p ld (rdM ld root) e := by
  obtain ⟨iw, zw, i1, i2, i3, i4, i5⟩ := info_krec
  have hP := kpage_in hL h (fun k hk => absurd hk (by simp)) root
  have hsz := hL.sz root
  have hw0 := h.bel.size
  unfold rdM
  unfold seeT at hP
  have hseen : (ld root).2 = 0 → ∀ k ∈ [root], (ld k).2 = 0 := fun e k hk => by simp at hk; rw [hk]; exact e
  obtain ⟨⟨X, E⟩, hld⟩ : ∃ q, ld root = q := ⟨_, rfl⟩
  rw [hld] at hP hsz hseen ⊢
  dsimp only at hP hsz hseen ⊢
  clear hld h
  by_cases hE : E = 0
  · subst hE
    rw [if_pos rfl] at hP
    rw [if_neg (by simp)]
    replace hseen : Hid (∀ k ∈ [root], (ld k).2 = 0) := hseen rfl
    have hS : Hid (∀ W, Calls Tryz.prog 35 #[.string X] W fun e w' => SBack W X e w') := fun W => slots_any X W (by omega)
    replace hP : Hid (Calls Tryz.prog 34 #[.pointer (some ⟨r, 0, none⟩), .int .i64 root] w fun e w' => e = .returned (.tuple #[.string X, .int .i64 0]) ∧ RdK w0 w' r p (canon ld [root]) ∧ WrR r w w') := hP
    have hfew : isIdx X = true → (idxS X).length ≤ 21 := fun e => idx_few e
    unfold SBack at hS
    generalize idxS X = S at *
    generalize isIdx X = I at *
    cases I with
    | false =>
      rw [if_neg (by decide)]
      have hEnd : Hid (∀ w', RdK w0 w' r p (canon ld [root]) → WrR r w w' → ReadK w0 w w' r p ld (5, [], [root]) (.returned (.tuple #[.slice none 0 0, .int .i64 5]))) := fun w' a b => ⟨_, rfl, (fun e => absurd e (show ¬ (5 : Int) = 0 by decide)), a, b⟩
      replace hS : Hid _ := hS
      clear hfew
      go_enter Tryz.func20, Tryz.ntmps20
      go_wp2_with (first
        | (go_at_call 34; go_fit hP.out; rintro e w1 ⟨rfl, hR1, hW1⟩)
        | (go_at_call 35; go_fit (hS.out _); rintro e w2 ⟨v, rfl, hr2, B2⟩)
        | fail)
      go_ret2
      exact hEnd.out _ (hR1.below B2) (hW1.trans (WrR.of B2))
    | true =>
      rw [if_pos rfl]
      obtain ⟨R, hR⟩ : ∃ R, sltM ld S [] [root] = R := ⟨_, rfl⟩
      rw [hR]
      obtain ⟨n, hn⟩ : ∃ n, S.length = n := ⟨_, rfl⟩
      have hn21 : n ≤ 21 := by rw [← hn]; exact hfew rfl
      rw [hn] at hS
      replace hR : Hid (sltM ld S [] [root] = R) := hR
      replace hn : Hid (S.length = n) := hn
      replace hS : Hid _ := hS
      replace hL : Hid (Loads w0 p ld) := hL
      have hNo : Hid (∀ w' (e : Int), ¬ e = 0 → R.1 = e → RdK w0 w' r p (canon ld R.2.2) → WrR r w w' → ReadK w0 w w' r p ld R (.returned (.tuple #[.slice none 0 0, .int .i64 e]))) := fun w' e h0 h1 a b => ⟨_, by rw [h1], fun e2 => absurd (h1.symm.trans e2) h0, a, b⟩
      clear hfew
      go_enter Tryz.func20, Tryz.ntmps20
      go_wp2_with (first
        | (go_at_call 34; go_fit hP.out; rintro e w1 ⟨rfl, hR1, hW1⟩)
        | (go_at_call 35; go_fit (hS.out _); rintro e w2 ⟨v, rfl, hr2, B2⟩; obtain ⟨sa, sc, rfl, _⟩ := own_reads hr2)
        | fail)
      have hsl0 : Hid (w2.ownsRow w.heap.size 104 2 (.slice sa n sc) n (slsV S)) := row_low hr2 hW1.size
      have hR2 : Hid (RdK w0 w2 r p (canon ld [root])) := hR1.below B2
      have hW2 : Hid (WrR r w w2) := hW1.trans (WrR.of B2)
      clear hr2 hR1 hW1 B2 hS hP
      go_loopw [10, 11, 38] (fun l la i wr => ∃ (q : Nat) (out : List Pr) (T : List Int), q ≤ n ∧ i = .int .i64 q ∧ la = .int .i64 (lastK out) ∧ out.length ≤ q * 200 ∧ Hid (sltM ld (S.drop q) out T = R) ∧ Hid (∀ k ∈ T, (ld k).2 = 0) ∧ Hid (RdK w0 wr r p (canon ld T)) ∧ Hid (WrR r w wr) ∧ Hid (wr.ownsRow w.heap.size 104 2 (.slice sa n sc) n (slsV S)) ∧ Hid (wr.ownsRow w.heap.size 46 2 l out.length (prsV out))) (fun _ _ i _ => n - (intOf i).toNat)
      case atStart => exact ⟨0, [], [root], by omega, rfl, rfl, by simp, hR, hseen, hR2, hW2, hsl0, World.ownsRow_nil _ _ _ _⟩
      case round =>
        clear hsl0 hR2 hW2 hseen
        obtain ⟨q, out, T, hq, rfl, rfl, hout, hI, hT, hRd, hWr, hsl, hrow⟩ := hrel
        by_cases hlt : q < n
        · have hqi : (q : Int) < n := by omega
          obtain ⟨sa', sc', e1, hSA⟩ := slots_of hsl.out
          obtain ⟨rfl, _, rfl⟩ : sa = sa' ∧ n = n ∧ sc = sc' := by simpa using e1
          obtain ⟨sb, so, rfl, hcs⟩ := hSA.resolve_left (fun e => by have := hn.out; rw [e] at this; simp at this; omega)
          obtain ⟨c0, c1⟩ := hcs q (by rw [hn.out]; exact hlt)
          have hI2 := hI.out
          rw [drop_get S q ⟨0, 0⟩ (by rw [hn.out]; exact hlt)] at hI2
          generalize S.getD q ⟨0, 0⟩ = s at c0 c1 hI2
          obtain ⟨t1, t2⟩ := slt_step ld s (S.drop (q + 1)) out T
          have t3 := lf_seen (s := s) (last := lastK out) hT.out
          have t4 := lf_few (ld := ld) (s := s) (last := lastK out) (T := T)
          have hLf : Hid (∀ W, Grew wr W → Calls Tryz.prog 36 #[.pointer (some ⟨r, 0, none⟩), .agg #[.int .i64 s.key, .int .i64 s.page], .int .i64 (lastK out)] W fun e w' => LeafK w0 W w' r p ld (leafR ld s (lastK out) T) e) := fun W g => kleaf_in hL.out (hRd.out.below g.below) hT.out s (lastK out)
          generalize leafR ld s (lastK out) T = lf at *
          obtain ⟨E2, C, T2⟩ := lf
          rw [hI2] at t1 t2
          dsimp only at t1 t2 t3 t4
          replace hLf : Hid (∀ W, Grew wr W → Calls Tryz.prog 36 #[.pointer (some ⟨r, 0, none⟩), .agg #[.int .i64 s.key, .int .i64 s.page], .int .i64 (lastK out)] W fun e w' => ∃ v, e = .returned (.tuple #[v, .int .i64 E2]) ∧ w'.ownsRow W.heap.size 108 4 v C.length (cesV C) ∧ RdK w0 w' r p (canon ld T2) ∧ WrR r W w') := hLf
          obtain ⟨sk, sp⟩ := s
          dsimp only at c0 c1 hLf
          clear hcs hSA e1 hI2
          replace t3 : Hid (∀ k ∈ T2, (ld k).2 = 0) := t3
          by_cases hE2 : E2 = 0
          · subst hE2
            obtain ⟨u1, u2⟩ := t2 rfl
            obtain ⟨D, hD⟩ : ∃ D, celM ld C out T2 = D := ⟨_, rfl⟩
            rw [hD] at u1 u2
            obtain ⟨m, hm⟩ : ∃ m, C.length = m := ⟨_, rfl⟩
            rw [hm] at hLf
            have hm2 : m ≤ 200 := by rw [← hm]; exact t4.1
            have hc9 : Hid (∀ c ∈ C, c.size ≤ 900) := t4.2
            replace hm : Hid (C.length = m) := hm
            replace hD : Hid (celM ld C out T2 = D) := hD
            replace u1 : Hid (¬ D.1 = 0 → R = D) := u1
            replace u2 : Hid (D.1 = 0 → R = sltM ld (S.drop (q + 1)) D.2.1 D.2.2) := u2
            replace hLf : Hid _ := hLf
            clear t1 t2 t4
            obtain ⟨WO, rfl⟩ : ∃ WO, WO = wr := ⟨_, rfl⟩
            go_wp2_with (first
              | (go_at_call 36; go_fit (hLf.out _ ((Grew.refl WO).alloc _ _)); rintro e w1 ⟨v1, rfl, hC1, hR1, hW1⟩; obtain ⟨ca, cc, rfl, _⟩ := own_reads hC1)
              | fail)
            have hR3 : Hid (RdK w0 w1 r p (canon ld T2)) := hR1
            have hW3 : Hid (WrR r w w1) := (hWr.out.trans (WrR.of (below_one _ _))).trans hW1
            have hsl3 : Hid (w1.ownsRow w.heap.size 104 2 (.slice (some ⟨sb, so, none⟩) n sc) n (slsV S)) := row_r (row_below hsl.out (below_one _ _)) (hRd.out.below (below_one _ _)) hW1 (by decide) (by decide)
            have hrow3 := row_r (row_below hrow.out (below_one _ _)) (hRd.out.below (below_one _ _)) hW1 (by decide) (by decide)
            replace hrow3 : Hid _ := hrow3
            have hce3 : Hid (w1.ownsRow w.heap.size 108 4 (.slice ca m cc) m (cesV C)) := row_low hC1 (Nat.le_trans hWr.out.size (Nat.le_of_lt (by rw [World.size_alloc]; omega)))
            clear hC1 hR1 hW1 hLf c0 c1 hsl hrow hWr hRd hT hI
            go_loopw [10, 11, 54] (fun l la j wr => ∃ (k : Nat) (out2 : List Pr) (T3 : List Int), k ≤ m ∧ j = .int .i64 k ∧ la = .int .i64 (lastK out2) ∧ out2.length ≤ q * 200 + k ∧ Hid (celM ld (C.drop k) out2 T3 = D) ∧ Hid (∀ k ∈ T3, (ld k).2 = 0) ∧ Hid (RdK w0 wr r p (canon ld T3)) ∧ Hid (WrR r w wr) ∧ Hid (wr.ownsRow w.heap.size 104 2 (.slice (some ⟨sb, so, none⟩) n sc) n (slsV S)) ∧ Hid (wr.ownsRow w.heap.size 46 2 l out2.length (prsV out2)) ∧ Hid (wr.ownsRow w.heap.size 108 4 (.slice ca m cc) m (cesV C))) (fun _ _ j _ => m - (intOf j).toNat)
            case atStart => exact ⟨0, out, T2, by omega, rfl, rfl, by omega, hD, t3, hR3, hW3, hsl3, hrow3, hce3⟩
            case round =>
              clear hsl3 hR3 hW3 hrow3 hce3 t3
              obtain ⟨k, out2, T3, hk, rfl, rfl, hout2, hI, hT, hRd, hWr, hsl, hrow, hce⟩ := hrel
              by_cases hlk : k < m
              · have hki : (k : Int) < m := by omega
                obtain ⟨ca', cc', e1, hCA⟩ := cells_of hce.out
                obtain ⟨rfl, _, rfl⟩ : ca = ca' ∧ m = m ∧ cc = cc' := by simpa using e1
                obtain ⟨cb, co, rfl, hcs⟩ := hCA.resolve_left (fun e => by have := hm.out; rw [e] at this; simp at this; omega)
                obtain ⟨c0, c1, c2, c3⟩ := hcs k (by rw [hm.out]; exact hlk)
                have hI2 := hI.out
                have hc8 : (C.getD k noCe).size ≤ 900 := hc9.out _ (by rw [List.getD, List.getElem?_eq_getElem (by rw [hm.out]; exact hlk)]; exact List.getElem_mem _)
                rw [drop_get C k noCe (by rw [hm.out]; exact hlk)] at hI2
                generalize C.getD k noCe = c at c0 c1 c2 c3 hI2 hc8
                obtain ⟨t1, t2⟩ := cel_step ld c (C.drop (k + 1)) out2 T3
                have t4 := text_seen (c := c) hT.out
                have hTx : ∀ W, Grew wr W → Calls Tryz.prog 37 #[.pointer (some ⟨r, 0, none⟩), ceV c] W fun e w' => TextK w0 W w' r p ld (textR ld c T3) e := fun W g => ktext_in hL.out (hRd.out.below g.below) hT.out c hc8
                unfold TextK at hTx
                generalize textR ld c T3 = t at *
                obtain ⟨E3, Y, T4⟩ := t
                rw [hI2] at t1 t2
                dsimp only at t1 t2 t4 hTx
                obtain ⟨K, Z, Q, B⟩ := c
                unfold ceV at hTx
                dsimp only at c0 c1 c2 c3 t2 hTx
                clear hcs hCA e1 hI2 hc8
                replace t4 : Hid (∀ k ∈ T4, (ld k).2 = 0) := t4
                by_cases hE3 : E3 = 0
                · subst hE3
                  rw [if_pos rfl] at hTx
                  replace hTx : Hid _ := hTx
                  replace t2 : Hid (D = celM ld (C.drop (k + 1)) (out2 ++ [⟨K, Y⟩]) T4) := t2 rfl
                  clear t1
                  have hblk := heap_alloc_new wr (.cells #[.int .i64 K, .int .i64 Z, .int .i64 Q, .string B] 108)
                  go_wp2_with (first
                    | (go_at_call 37; go_fit (hTx.out _ ((Grew.refl wr).alloc _ _)); rintro e w1 ⟨rfl, hR1, hW1⟩; have b1 := hW1.blk (hRd.out.below (below_one _ _)) hblk (by decide) (by decide); have y1 : w1.cell? ⟨wr.heap.size, 0, none⟩ = some (.int .i64 K) := (by rw [cell_of_row _ _ _ _ _ _ b1]; rfl); have r1 := row_r (row_below hrow.out (below_one _ _)) (hRd.out.below (below_one _ _)) hW1 (by decide) (by decide); have hz1 := hW1.size; have hz2 := hWr.out.size)
                    | (at_builtin; refine wpList_app _ rfl (.tmp 67) (.tmp 72) 31 rfl w.heap.size 46 iw zw 2 24 Tryz.underlying31 i1 i2 i4 i5 i3 (by decide) _ out2.length _ rfl (r1.alloc _) (some ⟨w1.heap.size, 0, none⟩) 1 1 [.int .i64 K, .string Y] rfl rfl (.inr ⟨_, 0, rfl, fun j u hj => new_at _ _ _ _ (by simp) j u hj⟩) (fun u hu => by simp at hu; rcases hu with rfl | rfl <;> rfl) (by unfold maxLen; omega) (by omega) (by simp at *; omega) ?_; intro v5 w5 hv5 hg5 hk5 hl5; have b5 := blk_row (below_blk b1 (below_one _ _)) (r1.alloc _) hg5 (by decide); have y5 : w5.cell? ⟨wr.heap.size, 0, none⟩ = some (.int .i64 K) := (by rw [cell_of_row _ _ _ _ _ _ b5]; rfl))
                    | fail)
                  have rA := r1.alloc (.cells #[.int .i64 K, .string Y] 46)
                  have sA := row_below (row_r (row_below hsl.out (below_one wr #[.int .i64 K, .int .i64 Z, .int .i64 Q, .string B])) (hRd.out.below (below_one _ _)) hW1 (by decide) (by decide)) (below_one w1 #[.int .i64 K, .string Y] (t := 46))
                  have cA := row_below (row_r (row_below hce.out (below_one wr #[.int .i64 K, .int .i64 Z, .int .i64 Q, .string B])) (hRd.out.below (below_one _ _)) hW1 (by decide) (by decide)) (below_one w1 #[.int .i64 K, .string Y] (t := 46))
                  refine ⟨⟨k + 1, out2 ++ [⟨K, Y⟩], T4, hlk, by simp, by rw [lastK_more], by simp; omega, (by show _ = _; exact t2.out.symm), t4, (hR1.below (below_one _ _)).row rA hw0 hg5 (by decide) (by decide), ((((hWr.out.trans (WrR.of (below_one _ _))).trans hW1).trans (WrR.of (below_one _ _))).own rA (Nat.le_refl _) hg5), row_two sA rA hg5 (by decide), ?_, row_two cA rA hg5 (by decide)⟩, meas_up hlk⟩
                  show World.ownsRow _ _ _ _ _ _ _
                  rw [prs_more, List.length_append]
                  exact hv5
                · have t5 := t1 hE3
                  have hRD := u1.out (by rw [t5]; exact hE3)
                  have hN2 : Hid (∀ w', RdK w0 w' r p (canon ld T4) → WrR r w w' → ReadK w0 w w' r p ld R (.returned (.tuple #[.slice none 0 0, .int .i64 E3]))) := fun w' a b => hNo.out w' E3 hE3 (by rw [hRD, t5]) (by rw [hRD, t5]; exact a) b
                  rw [if_neg hE3] at hTx
                  replace hTx : Hid _ := hTx
                  clear t1 t2 t5 hRD
                  go_wp2_with (first
                    | (go_at_call 37; go_fit (hTx.out _ ((Grew.refl wr).alloc _ _)); rintro e w1 ⟨rfl, hR1, hW1⟩)
                    | fail)
                  go_ret2
                  exact hN2.out _ hR1 ((hWr.out.trans (WrR.of (below_one _ _))).trans hW1)
              · obtain rfl : k = m := by omega
                have hDe := hI.out
                rw [List.drop_of_length_le (by rw [hm.out]; exact Nat.le_refl _)] at hDe
                have hRe := u2.out (by rw [← hDe]; rfl)
                rw [← hDe] at hRe
                replace hRe : Hid (R = sltM ld (S.drop (q + 1)) out2 T3) := hRe
                have hki : ¬ (k : Int) < k := by omega
                clear hDe
                go_wp2_with (fail)
                exact ⟨⟨q + 1, out2, T3, hlt, by simp, rfl, by omega, (by show _ = _; exact hRe.out.symm), hT, hRd, hWr, hsl, hrow⟩, meas_up hlt⟩
          · obtain ⟨t5, t6⟩ := t1 hE2
            have hN2 : Hid (∀ w', RdK w0 w' r p (canon ld T2) → WrR r w w' → ReadK w0 w w' r p ld R (.returned (.tuple #[.slice none 0 0, .int .i64 E2]))) := fun w' a b => hNo.out w' E2 hE2 t5 (by rw [t6]; exact a) b
            clear t1 t2 t5 t6
            go_wp2_with (first
              | (go_at_call 36; go_fit (hLf.out _ ((Grew.refl wr).alloc _ _)); rintro e w1 ⟨v1, rfl, hC1, hR1, hW1⟩)
              | fail)
            go_ret2
            exact hN2.out _ hR1 ((hWr.out.trans (WrR.of (below_one _ _))).trans hW1)
        · obtain rfl : q = n := by omega
          have hRe := hI.out
          rw [List.drop_of_length_le (by rw [hn.out]; exact Nat.le_refl _)] at hRe
          have hEnd : Hid (∀ v, wr.ownsRow w.heap.size 46 2 v out.length (prsV out) → ReadK w0 w wr r p ld R (.returned (.tuple #[v, .int .i64 0]))) := fun v hv => by
            rw [← hRe]
            exact ⟨_, rfl, fun _ => hv, hRd.out, hWr.out⟩
          have hqi : ¬ (q : Int) < q := by omega
          clear hRe
          go_wp2_with (fail)
          go_ret2
          exact hEnd.out _ hrow.out
  · rw [if_neg hE] at hP
    rw [if_pos hE]
    have hEnd : Hid (∀ w', RdK w0 w' r p (canon ld []) → WrR r w w' → ReadK w0 w w' r p ld (E, [], []) (.returned (.tuple #[.slice none 0 0, .int .i64 E]))) := fun w' a b => ⟨_, rfl, fun e => absurd e hE, a, b⟩
    replace hP : Hid (Calls Tryz.prog 34 #[.pointer (some ⟨r, 0, none⟩), .int .i64 root] w fun e w' => e = .returned (.tuple #[.string X, .int .i64 E]) ∧ RdK w0 w' r p (canon ld []) ∧ WrR r w w') := hP
    clear hseen hL
    go_enter Tryz.func20, Tryz.ntmps20
    go_wp2_with (first
      | (go_at_call 34; go_fit hP.out; rintro e w1 ⟨rfl, hR, hW⟩)
      | fail)
    go_ret2
    exact hEnd.out _ hR hW
end Go.Proofs.YtbkkhafckkndfaaGreat
