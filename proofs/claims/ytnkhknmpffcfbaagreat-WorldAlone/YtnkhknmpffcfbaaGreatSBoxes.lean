/-
  What world.boxes does: the box around each body, in a slice of its own, or a panic of a Fault; nothing that was there is written.
-/
import Derived.Test.YtnkhknmpffcfbaaGreatSMem
import Derived.Test.YtnkhknmpffcfbaaGreatXOf
import Derived.Test.YtnkhknmpffcfbaaGreatPSort
import Derived.OwnWalk
import Derived.Deep.QuietTactic
import Derived.BigQuiet
import Derived.Deep.CutRange
import Derived.Deep.CutBlock
namespace Go.Proofs.YtnkhknmpffcfbaaGreat
open Go Go.RowKit

theorem box_info : (Tryz.prog.info? 73).map (fun i => (i.zero, i.size, i.bytes)) = some (some (.agg #[.int .i64 0, .int .i64 0, .int .i64 0, .int .i64 0]), 4, 32) := by kernel_rfl
def sets4 (xs : List Value) (o : Nat) (b : Bx) : List Value := (((xs.set o (.int .i64 b.l)).set (o + 1) (.int .i64 b.m)).set (o + 2) (.int .i64 b.h)).set (o + 3) (.int .i64 b.k)
theorem sets4_far (l m : List Value) (o k : Nat) (h : l.length = k) (b : Bx) : sets4 (l ++ m) (k + o) b = l ++ sets4 m o b := by
  unfold sets4
  simp only [show k + o + 1 = k + (o + 1) by omega, show k + o + 2 = k + (o + 2) by omega, show k + o + 3 = k + (o + 3) by omega]
  have e : ∀ (r : List Value) (j : Nat) (v : Value), (l ++ r).set (k + j) v = l ++ r.set j v := fun r j v => by
    rw [List.set_append_right _ _ (by omega), h, Nat.add_sub_cancel_left]
  simp only [e]
theorem flat_sets4 (c : Bx) : ∀ (L : List Bx) (i : Nat), i < L.length → sets4 (L.flatMap Bx.row) (i * 4) c = (L.set i c).flatMap Bx.row
  | b :: L, 0, _ => by simp [sets4, Bx.row]
  | b :: L, i + 1, h => by
    have hi : i < L.length := by simpa using h
    rw [List.flatMap_cons, show (i + 1) * 4 = 4 + i * 4 by omega, sets4_far _ _ _ 4 (by simp [Bx.row]), flat_sets4 c L i hi, List.set_cons_succ, List.flatMap_cons]
def z4 : Bx := ⟨0, 0, 0, 0⟩
theorem made4 (n : Nat) : (madeCells #[.int .i64 0, .int .i64 0, .int .i64 0, .int .i64 0] (n * 4)).toList = (List.replicate n z4).flatMap Bx.row := by
  apply List.ext_getElem?
  intro j
  by_cases hj : j < n * 4
  · have h1 := flat_at Bx.row 4 (fun _ => rfl) (List.replicate n z4) (j / 4) z4 (by rw [List.getElem?_replicate, if_pos (by omega)]) (j % 4) (by omega)
    rw [show j / 4 * 4 + j % 4 = j by omega] at h1
    rw [h1]
    have h2 : j % 4 = 0 ∨ j % 4 = 1 ∨ j % 4 = 2 ∨ j % 4 = 3 := by omega
    rcases h2 with h | h | h | h <;> simp [madeCells, hj, h, Bx.row, z4]
  · rw [List.getElem?_eq_none (by simp [madeCells]; omega), List.getElem?_eq_none (by rw [flat_len Bx.row 4 (fun _ => rfl)]; simp; omega)]
/-- The boxes of the first k, and zeros. -/
def boxN (L : List Bd) (k : Nat) : List Bx := (L.take k).map (fun B => (boxR B).1) ++ List.replicate (L.length - k) z4
theorem boxN_len {L : List Bd} {k : Nat} (h : k ≤ L.length) : (boxN L k).length = L.length := by unfold boxN; simp; omega
theorem boxN_none (L : List Bd) : boxN L 0 = List.replicate L.length z4 := by unfold boxN; simp
theorem boxN_all (L : List Bd) : boxN L L.length = L.map (fun B => (boxR B).1) := by unfold boxN; simp
theorem boxN_set {L : List Bd} {k : Nat} (h : k < L.length) : (boxN L k).set k (boxR (bd L k)).1 = boxN L (k + 1) := by
  unfold boxN
  have hl : ((L.take k).map (fun B => (boxR B).1)).length = k := by simp; omega
  rw [List.set_append_right _ _ (by omega), hl, Nat.sub_self]
  obtain ⟨m, hm⟩ : ∃ m, L.length - k = m + 1 := ⟨L.length - k - 1, by omega⟩
  have e : (L.take (k + 1)) = L.take k ++ [bd L k] := by
    rw [List.take_add_one, bd_get h]; rfl
  rw [hm, show L.length - (k + 1) = m by omega, List.replicate_succ, List.set_cons_zero, e, List.map_append, List.append_assoc]
  rfl
theorem boxN_get {L : List Bd} {k : Nat} (h : k < L.length) : (boxN L k)[k]? = some z4 := by
  unfold boxN
  have hl : ((L.take k).map (fun B => (boxR B).1)).length = k := by simp; omega
  rw [List.getElem?_append_right (by omega), hl, List.getElem?_replicate, if_pos (by omega)]
theorem boxE_ok : ∀ {L : List Bd}, (∀ i, i < L.length → (boxR (bd L i)).2 = 0) → boxE L = (L.map (fun B => (boxR B).1), 0)
  | [], _ => rfl
  | B :: L, h => by
    have h0 : (boxR B).2 = 0 := h 0 (by simp)
    have h1 : boxE L = _ := boxE_ok (L := L) (fun i hi => h (i + 1) (by simpa using hi))
    unfold boxE
    rw [if_pos h0, h1]; rfl
theorem boxE_no : ∀ {L : List Bd} {k : Nat}, k < L.length → (∀ i, i < k → (boxR (bd L i)).2 = 0) → ¬ (boxR (bd L k)).2 = 0 → boxE L = ([], (boxR (bd L k)).2)
  | B :: L, 0, _, _, g => by
    have g : ¬ (boxR B).2 = 0 := g
    unfold boxE
    rw [if_neg g]; rfl
  | B :: L, k + 1, hk, h, g => by
    have h0 : (boxR B).2 = 0 := h 0 (by simp)
    have h1 : boxE L = ([], (boxR (bd L k)).2) := boxE_no (by simpa using hk) (fun i hi => h (i + 1) (by omega)) g
    unfold boxE
    rw [if_pos h0, h1]
    have g : ¬ (boxR (bd L k)).2 = 0 := g
    rw [if_neg g]; rfl
theorem boxR_okX (B : Bd) : (boxR B).1.ok := by
  have z : (⟨0, 0, 0, 0⟩ : Bx).ok := ⟨inF0, inF0, inF0, inF0⟩
  unfold boxR pairX
  split
  · split
    · exact ⟨(two_in (subR_in _ _) (subR_in _ _)).1, (two_in (subR_in _ _) (subR_in _ _)).2, (two_in (addR_in _ _) (addR_in _ _)).1, (two_in (addR_in _ _) (addR_in _ _)).2⟩
    · exact z
  · exact z
theorem boxes_of {w : World} {base g n cap : Nat} {M : List Bx} (h : w.ownsRow base 73 4 (.slice (some ⟨g, 0, none⟩) n cap) n (M.flatMap Bx.row)) (hl : M.length = n) (hok : ∀ x ∈ M, x.ok) : Boxes w (some ⟨g, 0, none⟩) M := by
  refine ⟨hok, .inr ⟨g, 0, rfl, fun i hi => ?_⟩⟩
  have hx : M[i]? = some (bx M i) := by simp [bx, List.getD, hi]
  have e : ∀ c, c < 4 → w.cell? ⟨g, i * 4 + c, none⟩ = ((bx M i).row)[c]? := fun c hc => by
    rw [h.cellAt (i * 4 + c) (by omega), flat_at Bx.row 4 (fun _ => rfl) M i _ hx c hc]
  rw [Nat.zero_add]
  exact ⟨e 0 (by omega), e 1 (by omega), e 2 (by omega), e 3 (by omega)⟩

set_option maxRecDepth 10000 in
set_option maxHeartbeats 4000000 in
theorem boxes_any (L : List Bd) (a : Option Addr) (cap : Nat) (w : World) (hL : Bodies w a L) (hn : L.length ≤ 1000) :
    Calls Tryz.prog 73 #[.slice a L.length cap] w fun e w' => Below w.heap.size w w' ∧
      (((boxE L).2 = 0 ∧ (boxE L).1.length = L.length ∧ ∃ g, e = .returned (.slice (some ⟨g, 0, none⟩) L.length L.length) ∧ Boxes w' (some ⟨g, 0, none⟩) (boxE L).1) ∨ (¬ (boxE L).2 = 0 ∧ e = .panicked [fault (boxE L).2])) := by
  obtain ⟨i0, hi0, hz0, hz1, hz2⟩ := info_parts box_info
  go_enter Tryz.func73, Tryz.ntmps73
  go_wp2_with (first
    | (at_make; refine wpList_make_full _ rfl _ _ 108 rfl w.heap.size 73 i0 (.agg #[.int .i64 0, .int .i64 0, .int .i64 0, .int .i64 0]) 4 Tryz.underlying108 hi0 hz0 hz1 .i64 .i64 _ _ L.length rfl rfl rfl rfl (by rw [hz2]; omega) (by unfold maxLen; omega) (by simp) ?_; intro w1 ho1 hg1))
  have ho2 : w1.ownsRow w.heap.size 73 4 (.slice (some ⟨w.heap.size, 0, none⟩) L.length L.length) L.length ((boxN L 0).flatMap Bx.row) := by
    rw [boxN_none, ← made4]; exact ho1
  have hB1 : Below w.heap.size w w1 := (Below.refl _ w).grown hg1 (Nat.le_refl _) (fun k h => by cases h)
  clear ho1 hg1
  go_loopw [11] (fun i wr => ∃ k : Nat, k ≤ L.length ∧ i = .int .i64 k ∧ wr.ownsRow w.heap.size 73 4 (.slice (some ⟨w.heap.size, 0, none⟩) L.length L.length) L.length ((boxN L k).flatMap Bx.row) ∧ Hid (∀ j, j < k → (boxR (bd L j)).2 = 0) ∧ Below w.heap.size w wr) (fun i _ => L.length - (intOf i).toNat)
  case atStart => exact ⟨0, by omega, rfl, ho2, fun j hj => by omega, hB1⟩
  case round =>
    obtain ⟨k, hk, rfl, hO, HA, hB⟩ := hrel
    clear ho2 hB1
    by_cases hlt : k < L.length
    · have hi : (k : Int) < (L.length : Int) := by omega
      obtain ⟨b, off, rfl, hc⟩ := (hL.below hB).block hlt
      obtain ⟨c0, c1, c2, c3, c4, c5, c6, c7⟩ := hc
      have HN : Hid (¬ (boxR (bd L k)).2 = 0 → boxE L = ([], (boxR (bd L k)).2)) := fun g => boxE_no hlt HA.out g
      have HM : Hid ((boxR (bd L k)).2 = 0 → ∀ j, j < k + 1 → (boxR (bd L j)).2 = 0) := fun g j hj => by
        by_cases e : j = k
        · rw [e]; exact g
        · exact HA.out j (by omega)
      have HS : Hid ((boxN L k).set k (boxR (bd L k)).1 = boxN L (k + 1)) := boxN_set hlt
      have HG : Hid ((boxN L k)[k]? = some z4) := boxN_get hlt
      have HL : Hid ((boxN L k).length = L.length) := boxN_len hk
      have ho := hL.ok _ (bd_mem hlt)
      obtain ⟨B, eB⟩ : ∃ B, bd L k = B := ⟨_, rfl⟩
      rw [eB] at c0 c1 c2 c3 c4 c5 c6 c7 ho HN HM HS
      clear eB
      have C1 : Hid (∀ W, _) := fun W => waysX_of (t := boxR B) (of_box B ho W)
      clear ho
      generalize boxR B = t at *
      generalize boxN L k = M at *
      unfold Bd.val Bx.val at C1
      have hsz := hB.size
      have lt := (hO.lt w.heap.size rfl).2
      go_upto_region 5 with (fail)
      obtain ⟨V, hV⟩ : ∃ V, V = wr.alloc (.cells #[.int .i64 B.s, .int .i64 B.a, .int .i64 B.b, .int .i64 B.m, .int .i64 B.p, .int .i64 B.q, .int .i64 B.u, .int .i64 B.v] 39) := ⟨_, rfl⟩
      rw [← hV]
      have GV : Grew wr V := by rw [hV]; exact (Grew.refl wr).alloc _ _
      obtain ⟨q, hq⟩ : ∃ q, wr.heap.size = q := ⟨_, rfl⟩
      have d0 : V.cell? ⟨q, 0, none⟩ = some (.int .i64 B.s) := by rw [hV, ← hq]; simp [go_sem]
      have d1 : V.cell? ⟨q, 1, none⟩ = some (.int .i64 B.a) := by rw [hV, ← hq]; simp [go_sem]
      have d2 : V.cell? ⟨q, 2, none⟩ = some (.int .i64 B.b) := by rw [hV, ← hq]; simp [go_sem]
      have d3 : V.cell? ⟨q, 3, none⟩ = some (.int .i64 B.m) := by rw [hV, ← hq]; simp [go_sem]
      have d4 : V.cell? ⟨q, 4, none⟩ = some (.int .i64 B.p) := by rw [hV, ← hq]; simp [go_sem]
      have d5 : V.cell? ⟨q, 5, none⟩ = some (.int .i64 B.q) := by rw [hV, ← hq]; simp [go_sem]
      have d6 : V.cell? ⟨q, 6, none⟩ = some (.int .i64 B.u) := by rw [hV, ← hq]; simp [go_sem]
      have d7 : V.cell? ⟨q, 7, none⟩ = some (.int .i64 B.v) := by rw [hV, ← hq]; simp [go_sem]
      rw [hq]
      clear hV hq c0 c1 c2 c3 c4 c5 c6 c7
      have hBV : Hid (Below w.heap.size w V) := hB.trans (GV.below.mono hsz)
      have hOV := row_grew hO GV
      clear hO hB GV
      go_wp2_with (first
        | (go_at_call 92; go_fit (C1.out _); rintro e V1 ⟨(⟨rfl, h1⟩ | ⟨rfl, h1⟩), U1⟩; (have hO1 := row_grew hOV U1); (have z0 := hO1.frozenAt (k * 4)); (have z1 := hO1.frozenAt (k * 4 + 1)); (have z2 := hO1.frozenAt (k * 4 + 2)); (have z3 := hO1.frozenAt (k * 4 + 3)); (have e0 : V1.cell? ⟨w.heap.size, k * 4, none⟩ = some (.int .i64 0) := (hO1.cellAt (k * 4) (by omega)).trans (flat_at Bx.row 4 (fun _ => rfl) M k z4 HG.out 0 (by omega))); (have e1 : V1.cell? ⟨w.heap.size, k * 4 + 1, none⟩ = some (.int .i64 0) := (hO1.cellAt (k * 4 + 1) (by omega)).trans (flat_at Bx.row 4 (fun _ => rfl) M k z4 HG.out 1 (by omega))); (have e2 : V1.cell? ⟨w.heap.size, k * 4 + 2, none⟩ = some (.int .i64 0) := (hO1.cellAt (k * 4 + 2) (by omega)).trans (flat_at Bx.row 4 (fun _ => rfl) M k z4 HG.out 2 (by omega))); (have e3 : V1.cell? ⟨w.heap.size, k * 4 + 3, none⟩ = some (.int .i64 0) := (hO1.cellAt (k * 4 + 3) (by omega)).trans (flat_at Bx.row 4 (fun _ => rfl) M k z4 HG.out 3 (by omega)))))
      rotate_left
      · exact ⟨rfl, hBV.out.trans (U1.below.mono (by have := hBV.out.size; omega)), .inr ⟨by rw [HN.out h1.out]; exact h1.out, by rw [HN.out h1.out]⟩⟩
      have hB1 : Below w.heap.size w V1 := hBV.out.trans (U1.below.mono (by have := hBV.out.size; omega))
      refine ⟨⟨k + 1, by omega, rfl, ?_, HM.out h1.out, ?_⟩, ?_⟩
      · rw [← HS.out, ← flat_sets4 t.1 M k (by rw [HL.out]; exact hlt)]
        exact ((((hO1.stored _ _).1.stored _ _).1.stored _ _).1.stored _ _).1
      · exact ((((hB1.setCell (p := ⟨w.heap.size, _, none⟩) (Nat.le_refl _) _).setCell (p := ⟨w.heap.size, _, none⟩) (Nat.le_refl _) _).setCell (p := ⟨w.heap.size, _, none⟩) (Nat.le_refl _) _).setCell (p := ⟨w.heap.size, _, none⟩) (Nat.le_refl _) _)
      · simp [intOf]; omega
    · have hi : ¬ (k : Int) < (L.length : Int) := by omega
      obtain rfl : k = L.length := by omega
      have hE : Hid (boxE L = (boxN L L.length, 0)) := by show _ = _; rw [boxE_ok HA.out, boxN_all]
      have HL : Hid ((boxN L L.length).length = L.length) := boxN_len hk
      have HK : Hid (∀ x ∈ boxN L L.length, x.ok) := by
        rw [boxN_all]
        intro x hx
        obtain ⟨B, _, rfl⟩ := List.mem_map.1 hx
        exact boxR_okX B
      clear HA
      go_wp2_with (fail)
      go_ret
      refine ⟨hB, .inl ⟨by rw [hE.out], by rw [hE.out]; exact HL.out, w.heap.size, rfl, ?_⟩⟩
      rw [hE.out]
      exact boxes_of hO HL.out HK.out
end Go.Proofs.YtnkhknmpffcfbaaGreat
