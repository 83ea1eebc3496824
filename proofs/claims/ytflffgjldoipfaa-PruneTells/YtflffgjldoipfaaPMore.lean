/-
  PruneMore's walk: with a box more.
-/
import Derived.Test.YtflffgjldoipfaaPFar
import Derived.Deep.RegionHeld2
import Derived.Deep.AppendLies
import Derived.Deep.CutRange
import Derived.Deep.CutBlock
namespace Go.Proofs.Ytflffgjldoipfaa
open Go.RowKit

theorem bx_left (L : List Bx) (b : Bx) {i : Nat} (h : i < L.length) : bx (L ++ [b]) i = bx L i := by
  simp [bx, List.getD, List.getElem?_append_left h]
theorem prs_more (L : List Bx) (b : Bx) : (prs (L ++ [b])).filter (fun p => decide (p.2 ≠ L.length)) = prs L := by
  refine ltP_ext ((prs_sorted _).filter _) (prs_sorted _) ?_
  rintro ⟨i, j⟩
  rw [List.mem_filter, prs_mem, prs_mem, decide_eq_true_iff, List.length_append, List.length_singleton]
  constructor
  · rintro ⟨⟨h1, h2, h3⟩, h4⟩
    simp only at h1 h2 h3 h4
    refine ⟨h1, by simp only; omega, ?_⟩
    unfold mt at h3 ⊢
    rw [bx_left L b (by omega), bx_left L b (by omega)] at h3
    exact h3
  · rintro ⟨h1, h2, h3⟩
    simp only at h1 h2 h3
    refine ⟨⟨h1, by simp only; omega, ?_⟩, by simp only; omega⟩
    unfold mt at h3 ⊢
    rw [bx_left L b (by omega), bx_left L b (by omega)]
    exact h3
theorem inc_len {n : Nat} : ∀ (l : List Nat) (a : Nat), l.Pairwise (· < ·) → (∀ x ∈ l, a ≤ x ∧ x < n) → l.length ≤ n - a
  | [], _, _, _ => by simp
  | x :: r, a, h, hx => by
    have h1 := hx x (by simp)
    have h2 := inc_len r (x + 1) (List.pairwise_cons.1 h).2 (fun y hy => ⟨(List.pairwise_cons.1 h).1 y hy, (hx y (by simp [hy])).2⟩)
    rw [List.length_cons]
    omega
theorem more_last (L : List Bx) (b : Bx) (t : Nat) : (((prs (L ++ [b])).take t).filter (fun p => decide (p.2 = L.length))).length ≤ L.length := by
  have hs : ((((prs (L ++ [b])).take t).filter (fun p => decide (p.2 = L.length))).map Prod.fst).Pairwise (· < ·) := by
    rw [List.pairwise_map]
    have h := (((prs_sorted (L ++ [b])).sublist (List.take_sublist t _)).filter (fun p => decide (p.2 = L.length)))
    refine h.imp_of_mem ?_
    intro p q hp hq hpq
    have h1 := of_decide_eq_true (List.mem_filter.1 hp).2
    have h2 := of_decide_eq_true (List.mem_filter.1 hq).2
    unfold ltP at hpq
    omega
  have := inc_len (n := L.length) _ 0 hs (by
    intro x hx
    obtain ⟨p, hp, rfl⟩ := List.mem_map.1 hx
    have h1 := of_decide_eq_true (List.mem_filter.1 hp).2
    have h2 := (prs_mem _ _).1 (List.mem_of_mem_take (List.mem_filter.1 hp).1)
    omega)
  simpa using this
theorem filter_at {α : Type} (q : α → Bool) {l : List α} {t : Nat} {p : α} (h : l[t]? = some p) (hq : q p = true) : (l.filter q)[((l.take t).filter q).length]? = some p := by
  obtain ⟨ht, rfl⟩ := List.getElem?_eq_some_iff.1 h
  have e : l.filter q = (l.take t).filter q ++ l[t] :: (l.drop (t + 1)).filter q := by
    have h1 : (l.drop t).filter q = l[t] :: (l.drop (t + 1)).filter q := by rw [List.drop_eq_getElem_cons ht, List.filter_cons, if_pos hq]
    rw [← h1, ← List.filter_append, List.take_append_drop]
  rw [e]
  simp
theorem take_in {α : Type} (q : α → Bool) {l : List α} {t : Nat} {p : α} (h : l[t]? = some p) (hq : q p = true) : ((l.take (t + 1)).filter q).length = ((l.take t).filter q).length + 1 := by
  obtain ⟨ht, rfl⟩ := List.getElem?_eq_some_iff.1 h
  rw [List.take_succ_eq_append_getElem ht, List.filter_append]
  simp [hq]
theorem take_out {α : Type} (q : α → Bool) {l : List α} {t : Nat} {p : α} (h : l[t]? = some p) (hq : q p = false) : ((l.take (t + 1)).filter q).length = ((l.take t).filter q).length := by
  obtain ⟨ht, rfl⟩ := List.getElem?_eq_some_iff.1 h
  rw [List.take_succ_eq_append_getElem ht, List.filter_append]
  simp [hq]

theorem rows_len : ∀ L : List Bx, (L.flatMap Bx.row).length = L.length * 4
  | [] => rfl
  | b :: L => by rw [List.flatMap_cons, List.length_append, rows_len L, List.length_cons, Nat.add_mul]; simp [Bx.row]; omega
/-- The cells of boxes in memory, one by one. -/
theorem boxes_news {w : World} {b off : Nat} {L : List Bx} (h : Boxes w (some ⟨b, off, none⟩) L) (hn : 0 < L.length) : ∀ j u, (L.flatMap Bx.row)[j]? = some u → w.cell? ((⟨b, off, none⟩ : Addr).add j) = some u := by
  intro j u hj
  obtain ⟨b', off', e, _, hc⟩ := h.block hn
  cases e
  have hl := rows_len L
  have hlt : j < L.length * 4 := by
    rw [← hl]
    exact (List.getElem?_eq_some_iff.1 hj).1
  have hi : j / 4 < L.length := by omega
  have e : j = j / 4 * 4 + j % 4 := by omega
  have hb : bx L (j / 4) = L[j / 4] := by simp [bx, List.getD, hi]
  obtain ⟨h0, h1, h2, h3⟩ := hc _ hi
  rw [hb] at h0 h1 h2 h3
  rw [e, flat_get Bx.row 4 (fun _ => rfl) L _ hi _ (by omega)] at hj
  rw [Go.WideShapes.add_plain]
  have hc : j % 4 = 0 ∨ j % 4 = 1 ∨ j % 4 = 2 ∨ j % 4 = 3 := by omega
  rcases hc with g | g | g | g <;> rw [g] at hj <;> simp only [Bx.row] at hj <;> rw [e, g]
  · rw [show off + (j / 4 * 4 + 0) = off + j / 4 * 4 by omega, h0]; simpa using hj
  · rw [show off + (j / 4 * 4 + 1) = off + j / 4 * 4 + 1 by omega, h1]; simpa using hj
  · rw [show off + (j / 4 * 4 + 2) = off + j / 4 * 4 + 2 by omega, h2]; simpa using hj
  · rw [show off + (j / 4 * 4 + 3) = off + j / 4 * 4 + 3 by omega, h3]; simpa using hj
theorem news_new (W : World) (b : Bx) : ∀ j u, b.row[j]? = some u → (W.alloc (.cells #[.int .i64 b.l, .int .i64 b.m, .int .i64 b.h, .int .i64 b.k] 28)).cell? ((⟨W.heap.size, 0, none⟩ : Addr).add j) = some u := by
  intro j u hj
  rw [Go.WideShapes.add_plain]
  match j, hj with
  | 0, hj => simp [Bx.row] at hj; subst hj; simp [go_sem]
  | 1, hj => simp [Bx.row] at hj; subst hj; simp [go_sem]
  | 2, hj => simp [Bx.row] at hj; subst hj; simp [go_sem]
  | 3, hj => simp [Bx.row] at hj; subst hj; simp [go_sem]
theorem news_old {W w1 : World} {b : Bx} (h : (W.alloc (.cells #[.int .i64 b.l, .int .i64 b.m, .int .i64 b.h, .int .i64 b.k] 28)).grownBy w1 none) : ∀ j u, b.row[j]? = some u → w1.cell? ((⟨W.heap.size, 0, none⟩ : Addr).add j) = some u :=
  fun j u hj => h.cell (news_new W b j u hj) (by simp)
theorem news_old2 {W w1 : World} {b : Bx} (h : (W.alloc (.cells #[.int .i64 b.l, .int .i64 b.m, .int .i64 b.h, .int .i64 b.k] 28)).drew.grownBy w1 none) : ∀ j u, b.row[j]? = some u → w1.cell? ((⟨W.heap.size, 0, none⟩ : Addr).add j) = some u :=
  fun j u hj => h.cell (news_new W b j u hj) (by simp)
theorem news_new2 (W : World) (b : Bx) : ∀ j u, b.row[j]? = some u → (W.alloc (.cells #[.int .i64 b.l, .int .i64 b.m, .int .i64 b.h, .int .i64 b.k] 28)).drew.cell? ((⟨W.heap.size, 0, none⟩ : Addr).add j) = some u := news_new W b
/-- Nothing appended to nothing. -/
theorem app_none (a : Option Addr) (cap : Nat) (ty : TypeId) (w : World) : (Builtin.append_ #[22, 22] ty #[.slice none 0 0, .slice a 0 cap]).run Try.prog w = .ok (.slice none 0 0) w := by
  obtain ⟨i0, hi0, hz0, hz1, hz2⟩ := info_parts info_box
  have ht := Try.underlying22
  cases a <;> simp [Builtin.append_, run_underlying ht, sizeOf, typeInfo, hi0, Builtin.lenOf, Builtin.firstCells, loadCells, loadCellsFrom]
theorem step_none {ops : Array Oper} {o : Oper} {a : Act} {w : World} {K : Act → World → Prop} {Q : Exit → Act → World → Prop} {E : Prop} (hgd : o.guard = none) (s x : Operand) (c : Option Addr) (cap : Nat)
    (ho : o.op = .call { callee := .builtin .append, args := #[s, x], argTypes := #[22, 22] }) (hs : a.eval s = .slice none 0 0) (hx : a.eval x = .slice c 0 cap) (h : K (a.put o.dst (.slice none 0 0)) w) :
    if Region.wanted o (yielded ops a.tmps) = true then Oper.wp Try.prog o a w K Q else E := by
  have hw : Region.wanted o (yielded ops a.tmps) = true := by simp [Region.wanted, hgd]
  rw [if_pos hw]
  unfold Oper.wp execOp
  simp only [ho, resolve, invoke, builtin, Sem.run_bind, Sem.run_pure, Result.andThen_ok, List.map_toArray, List.map_cons, List.map_nil, hs, hx, app_none c cap]
  exact h
theorem row_one (b : Bx) : ∀ u ∈ b.row, u.oneCell' = true := by
  intro u hu
  simp [Bx.row] at hu
  rcases hu with rfl | rfl | rfl | rfl <;> rfl
theorem rows_one (L : List Bx) : ∀ u ∈ L.flatMap Bx.row, u.oneCell' = true := by
  intro u hu
  obtain ⟨b, _, hb⟩ := List.mem_flatMap.1 hu
  exact row_one b u hb

theorem more_boxes {W : World} {B g cap : Nat} {E : TypeId} {L : List Bx} {b : Bx} (h : W.ownsRow B E 4 (.slice (some ⟨g, 0, none⟩) (L.length + 1) cap) (L.length + 1) (L.flatMap Bx.row ++ b.row)) (ok : ∀ x ∈ L ++ [b], x.ok) : Boxes W (some ⟨g, 0, none⟩) (L ++ [b]) := by
  have e : (L ++ [b]).flatMap Bx.row = L.flatMap Bx.row ++ b.row := by simp
  rw [← e] at h
  obtain ⟨a, c, e2, hB⟩ := own_boxes h (by simp) ok
  cases e2
  exact hB
theorem prs_small (L : List Bx) (h : L.length ≤ 500) : (prs L).length ≤ 250000 := by
  have h1 := sweep_len (mt L) (List.range L.length)
  have h2 := Nat.mul_le_mul h h
  rw [List.length_range] at h1
  unfold prs
  omega
/-- The cells of the box that was handed in, and that what was there is there. -/
abbrev MS (P : World) (B : Nat) (b : Bx) (w' : World) : Prop := w'.cell? ⟨B, 0, none⟩ = some (.int .i64 b.l) ∧ w'.cell? ⟨B, 1, none⟩ = some (.int .i64 b.m) ∧ w'.cell? ⟨B, 2, none⟩ = some (.int .i64 b.h) ∧ w'.cell? ⟨B, 3, none⟩ = some (.int .i64 b.k) ∧ Below P.heap.size P w'
theorem MS.below {P W : World} {B : Nat} {b : Bx} (h : MS P B b W) : Below P.heap.size P W := h.2.2.2.2
theorem MS.on {P W W' : World} {B : Nat} {b : Bx} (h : MS P B b W) (hB : B < P.heap.size) (g : Below P.heap.size P W') : MS P B b W' := by
  obtain ⟨h0, h1, h2, h3, h4⟩ := h
  have k : ∀ o v, W.cell? ⟨B, o, none⟩ = some v → W'.cell? ⟨B, o, none⟩ = some v := fun o v h => by
    rw [g.cell (p := ⟨B, o, none⟩) hB, ← h4.cell (p := ⟨B, o, none⟩) hB]; exact h
  exact ⟨k _ _ h0, k _ _ h1, k _ _ h2, k _ _ h3, g⟩
theorem MS.drew {P W : World} {B : Nat} {b : Bx} (hB : B < P.heap.size) (h : MS P B b W) : MS P B b W.drew := h.on hB h.2.2.2.2.drew
theorem MS.alloc {P W : World} {B : Nat} {b : Bx} (hB : B < P.heap.size) (h : MS P B b W) (o : Obj) : MS P B b (W.alloc o) := h.on hB (h.2.2.2.2.alloc h.2.2.2.2.size o)
theorem MS.grown {P W W' : World} {B : Nat} {b : Bx} {row : Option Nat} (hB : B < P.heap.size) (h : MS P B b W) (g : W.grownBy W' row) (hr : ∀ k, row = some k → P.heap.size ≤ k) : MS P B b W' := h.on hB (h.2.2.2.2.grown g h.2.2.2.2.size hr)
theorem MS.call {P W W' : World} {B : Nat} {b : Bx} (hB : B < P.heap.size) (h : MS P B b W) (g : Below W.heap.size W W') : MS P B b W' := h.on hB (h.2.2.2.2.trans (g.mono h.2.2.2.2.size))

set_option maxRecDepth 10000 in
set_option maxHeartbeats 4000000 in
theorem more_any (a : Option Addr) (cap : Nat) (L : List Bx) (b : Bx) (hb : b.ok) (hn : L.length ≤ 30) (w : World) (hL : Boxes w a L) :
    Calls Try.prog 6 #[.slice a L.length cap, b.val] w fun e w' => e = .returned (.bool true) ∧ Below w.heap.size w w' := by
  obtain ⟨i0, hi0, hz0, hz1, hz2⟩ := info_parts info_box
  have g1 : ¬ (30 : Int) < (L.length : Int) := by omega
  unfold Bx.val
  go_enter Try.func6, Try.ntmps6
  go_upto_region 4 with (first
    | (go_at_call 8; go_fit (alive_any _); rintro e V ⟨rfl, hV0⟩; have hLV := hL.below (on_trans (below1 w _) hV0))
    | (go_at_call 9; go_fit (pairs_any L a cap _ hLV (by omega)); rintro e P ⟨⟨v, rfl, hv⟩, hP⟩))
  have hB0 : w.heap.size < P.heap.size := by have h1 := hV0.size; have h2 := hP.size; simp at h1; omega
  have hS0 : MS P w.heap.size b P := by
    refine ⟨?_, ?_, ?_, ?_, Below.refl _ _⟩ <;> exact (hP.cell (by have h1 := hV0.size; simp at h1; simp; omega)).trans ((hV0.cell (by simp)).trans (by simp [go_sem]))
  have hLP := hLV.below hP
  have GP : Below w.heap.size w P := on_trans (on_trans (below1 w _) hV0) hP
  clear hLV hV0 hP
  go_cut [6] from 21 to 26 (fun c wc => wc.ownsRow P.heap.size 50 2 c (prs (L ++ [b])).length ((prs (L ++ [b])).flatMap encP) ∧ Below P.heap.size P wc)
  case first =>
    have hPM : Hid (∀ g cap W, Boxes W (some ⟨g, 0, none⟩) (L ++ [b]) → Calls Try.prog 9 #[.slice (some ⟨g, 0, none⟩) (L.length + 1) cap] W fun e w' => (∃ v, e = .returned v ∧ w'.ownsRow W.heap.size 50 2 v (prs (L ++ [b])).length ((prs (L ++ [b])).flatMap encP)) ∧ Below W.heap.size W w') := fun g cap W h => by
      have := pairs_any (L ++ [b]) (some ⟨g, 0, none⟩) cap W h (by simp; omega)
      rw [List.length_append] at this
      exact this
    have hokM : ∀ x ∈ L ++ [b], x.ok := by
      intro x hx
      rcases List.mem_append.1 hx with h | h
      · exact hLP.ok x h
      · rw [List.mem_singleton.1 h]; exact hb
    by_cases h0 : L.length = 0
    · obtain rfl := List.eq_nil_of_length_eq_zero h0
      simp only [List.length_nil, Nat.zero_add] at *
      clear hL hv h0 hn g1
      go_region_held2 (MS P w.heap.size b)
        (first
          | exact MS.drew hB0 hS0
          | exact MS.drew hB0 (by assumption)
          | exact MS.alloc hB0 (by assumption) _
          | exact MS.grown hB0 (by assumption) hgr2 (fun k h => by cases h)
          | exact MS.call hB0 (by assumption) hB3
          | assumption)
        (first
          | (refine step_none (by rfl) (.const (.slice none 0 0)) (.tmp 21) a cap (by rfl) (by rfl) (by rfl) ?_)
          | (refine step_append_lies _ (by rfl) (.tmp 22) (.tmp 24) 22 (by rfl) P.heap.size 28 i0 (.agg #[.int .i64 0, .int .i64 0, .int .i64 0, .int .i64 0]) 4 32 Try.underlying22 hi0 hz0 hz1 hz2 rfl (by decide) (.slice none 0 0) 0 [] (by rfl) (World.ownsRow_nil _ _ _ _) _ 1 1 b.row (by rfl) rfl (by first | exact news_new _ b | exact news_new2 _ b) (row_one b) (by omega) (by unfold maxLen; omega) (by omega) (by first | (simp; done) | (simp; omega)) _ rfl ?_; intro g2 cap2 w2 hown2 hgr2 hat2 hlt2; simp only [Nat.zero_add, List.nil_append] at hown2)
          | (go_at_call 9; go_fit (hPM.out _ _ _ (more_boxes (L := []) hown2 hokM)); rintro e w3 ⟨⟨v2, rfl, hv2⟩, hB3⟩)
          | fail)
      all_goals
        have hM : MS P w.heap.size b w3 := by assumption
        have hR := And.intro (own_base (B' := P.heap.size) hv2 (by have := hown2.lt g2 rfl; omega)) hM.below
        go_wp2_with (fail)
        go_meet
        exact hR
    · obtain ⟨bl, off, rfl, hbl, _⟩ := hLP.block (by omega)
      clear hL hv
      go_region_held2 (MS P w.heap.size b)
        (first
          | exact MS.drew hB0 hS0
          | exact MS.drew hB0 (by assumption)
          | exact MS.alloc hB0 (by assumption) _
          | exact MS.grown hB0 (by assumption) hgr1 (fun k h => by cases h)
          | exact MS.grown hB0 (by assumption) hgr2 (fun k h => by cases h; exact hge)
          | exact MS.call hB0 (by assumption) hB3)
        (first
          | (refine step_append_lies _ (by rfl) (.const (.slice none 0 0)) (.tmp 21) 22 (by rfl) P.heap.size 28 i0 (.agg #[.int .i64 0, .int .i64 0, .int .i64 0, .int .i64 0]) 4 32 Try.underlying22 hi0 hz0 hz1 hz2 rfl (by decide) (.slice none 0 0) 0 [] (by rfl) (World.ownsRow_nil _ _ _ _) ⟨bl, off, none⟩ L.length cap (L.flatMap Bx.row) (by rfl) (rows_len L) (boxes_news (hLP.below (MS.below (B := w.heap.size) (b := b) (by assumption))) (by omega)) (rows_one L) (by omega) (by unfold maxLen; omega) (by omega) (by simp) _ rfl ?_; intro g1 cap1 w1 hown1 hgr1 hat1 hlt1; have hs1 := hgr1.size; simp at hs1; have horg := hown1; rw [List.nil_append] at horg; simp only [Nat.zero_add, List.nil_append] at hown1; have hge : P.heap.size ≤ g1 := (hown1.lt g1 rfl).1)
          | (refine step_append_lies _ (by rfl) (.tmp 22) (.tmp 24) 22 (by rfl) P.heap.size 28 i0 (.agg #[.int .i64 0, .int .i64 0, .int .i64 0, .int .i64 0]) 4 32 Try.underlying22 hi0 hz0 hz1 hz2 rfl (by decide) _ L.length (L.flatMap Bx.row) (by first | rfl | simp [go_sem]) (by first | exact hown1.alloc _ | exact hown1) _ 1 1 b.row (by rfl) rfl (by first | exact news_new _ b | exact news_old hgr1 | exact news_old2 hgr1) (row_one b) (by omega) (by unfold maxLen; omega) (by omega) (by first | (simp; omega) | omega) _ rfl ?_; intro g2 cap2 w2 hown2 hgr2 hat2 hlt2)
          | (refine step_append_lies _ (by rfl) (.tmp 22) (.tmp 24) 22 (by rfl) P.heap.size 28 i0 (.agg #[.int .i64 0, .int .i64 0, .int .i64 0, .int .i64 0]) 4 32 Try.underlying22 hi0 hz0 hz1 hz2 rfl (by decide) _ (0 + L.length) (L.flatMap Bx.row) (by rfl) (by first | exact horg.alloc _ | exact horg) _ 1 1 b.row (by rfl) rfl (by first | exact news_new _ b | exact news_old hgr1 | exact news_old2 hgr1) (row_one b) (by omega) (by unfold maxLen; omega) (by omega) (by first | (simp; omega) | omega) _ rfl ?_; intro g2 cap2 w2 hown2 hgr2 hat2 hlt2; rw [Nat.zero_add] at hown2)
          | (go_at_call 9; rw [Nat.zero_add]; go_fit (hPM.out _ _ _ (more_boxes hown2 hokM)); rintro e w3 ⟨⟨v2, rfl, hv2⟩, hB3⟩)
          | (go_at_call 9; go_fit (hPM.out _ _ _ (more_boxes hown2 hokM)); rintro e w3 ⟨⟨v2, rfl, hv2⟩, hB3⟩)
          | fail)
      all_goals
        have hM : MS P w.heap.size b w3 := by assumption
        have hR := And.intro (own_base (B' := P.heap.size) hv2 (by have := hown2.lt g2 rfl; omega)) hM.below
        go_wp2_with (fail)
        go_meet
        exact hR
  case rest =>
    obtain ⟨hC, hBC⟩ := hcut
    have hlC := prs_small (L ++ [b]) (by simp; omega)
    have hfil := prs_more L b
    have hcnt := more_last L b
    obtain ⟨a1, cap1, rfl, hA1⟩ := own_pairs hv rfl
    obtain ⟨a2, cap2, rfl, hA2⟩ := own_pairs hC rfl
    have hA1 := hA1.below hBC
    have G := on_trans GP hBC
    clear hv hC hBC GP hLP hS0 hB0 hL
    generalize prs L = A at *
    generalize prs (L ++ [b]) = C at *
    have HF : Hid (C.filter (fun p => decide (p.2 ≠ L.length)) = A) := hfil
    have HC : Hid (∀ t, ((C.take t).filter (fun p => decide (p.2 = L.length))).length ≤ L.length) := hcnt
    clear hfil hcnt
    go_wp2_with (fail)
    go_loopw [7, 8, 29] (fun k m i wr => ∃ t : Nat, t ≤ C.length ∧ k = .int .i64 ((((C.take t).filter (fun p => decide (p.2 ≠ L.length))).length : Nat) : Int) ∧ m = .int .i64 ((((C.take t).filter (fun p => decide (p.2 = L.length))).length : Nat) : Int) ∧ i = .int .i64 t ∧ PairsAt wr a1 (A.map toI) ∧ PairsAt wr a2 (C.map toI) ∧ Below w.heap.size w wr) (fun _ _ i _ => C.length - (intOf i).toNat)
    case atStart => exact ⟨0, by omega, rfl, rfl, rfl, hA1, hA2, G⟩
    case round =>
      obtain ⟨t, ht, rfl, rfl, rfl, hA1', hA2', hB'⟩ := hrel
      obtain ⟨k, hk⟩ : ∃ k, ((C.take t).filter (fun p => decide (p.2 ≠ L.length))).length = k := ⟨_, rfl⟩
      obtain ⟨m, hm⟩ : ∃ m, ((C.take t).filter (fun p => decide (p.2 = L.length))).length = m := ⟨_, rfl⟩
      have hkb : k ≤ 250000 := by
        rw [← hk]
        have h1 := List.length_filter_le (fun p => decide (p.2 ≠ L.length)) (C.take t)
        rw [List.length_take] at h1
        omega
      have hmn := HC.out t
      rw [hm] at hmn
      rw [hk, hm]
      by_cases hlt : t < C.length
      · have hi : (t : Int) < (C.length : Int) := by omega
        obtain ⟨⟨x, y⟩, hp⟩ : ∃ p, C[t]? = some p := ⟨_, List.getElem?_eq_getElem hlt⟩
        obtain ⟨b2, o2, rfl, hc2⟩ := hA2'.resolve_left (fun e => by have := congrArg List.length e; simp at this; rw [this] at hlt; simp at hlt)
        obtain ⟨d0, d1⟩ := hc2 t (by simpa using hlt)
        have c0 : wr.cell? ⟨b2, o2 + t * 2, none⟩ = some (.int .i64 x) := by rw [d0]; simp [List.getD, hp, toI]
        have c1 : wr.cell? ⟨b2, o2 + t * 2 + 1, none⟩ = some (.int .i64 y) := by rw [d1]; simp [List.getD, hp, toI]
        have hA1n := hA1'.below (below1 wr (.cells #[.int .i64 (x : Int), .int .i64 (y : Int)] 50))
        have hA2n := hA2'.below (below1 wr (.cells #[.int .i64 (x : Int), .int .i64 (y : Int)] 50))
        have hBn := hB'.alloc hB'.size (.cells #[.int .i64 (x : Int), .int .i64 (y : Int)] 50)
        clear hc2 d0 d1 hA2'
        by_cases hy : y = L.length
        · have hyn : ((y : Int) == (L.length : Int)) = true := by simp [hy]
          have R1 := take_in (fun p => decide (p.2 = L.length)) hp (by simp [hy])
          have R2 := take_out (fun p => decide (p.2 ≠ L.length)) hp (by simp [hy])
          rw [hm] at R1
          rw [hk] at R2
          have R : Hid (_ ∧ _) := And.intro R1 R2
          have hmw : m ≤ 30 := by omega
          clear hy R1 R2 hk hm hp hA1'
          go_wp2_with (fail)
          refine ⟨⟨t + 1, by omega, by rw [R.out.2], by rw [R.out.1]; rfl, rfl, hA1n, hA2n, hBn⟩, ?_⟩
          simp [intOf]; omega
        · have hyn : ((y : Int) == (L.length : Int)) = false := by simp; omega
          have R1 := take_out (fun p => decide (p.2 = L.length)) hp (by simp [hy])
          have R2 := take_in (fun p => decide (p.2 ≠ L.length)) hp (by simp [hy])
          have R3 := filter_at (fun p => decide (p.2 ≠ L.length)) hp (by simp [hy])
          rw [HF.out, hk] at R3
          rw [hm] at R1
          rw [hk] at R2
          have R : Hid (_ ∧ _) := And.intro R1 R2
          have hkA : k < A.length := (List.getElem?_eq_some_iff.1 R3).1
          have hkA' : (k : Int) < (A.length : Int) := by omega
          obtain ⟨b1, o1, rfl, hc1⟩ := hA1n.resolve_left (fun e => by have := congrArg List.length e; simp at this; rw [this] at hkA; simp at hkA)
          obtain ⟨d0, d1⟩ := hc1 k (by simpa using hkA)
          have e0 : (wr.alloc (.cells #[.int .i64 (x : Int), .int .i64 (y : Int)] 50)).cell? ⟨b1, o1 + k * 2, none⟩ = some (.int .i64 x) := by rw [d0]; simp [List.getD, R3, toI]
          have e1 : (wr.alloc (.cells #[.int .i64 (x : Int), .int .i64 (y : Int)] 50)).cell? ⟨b1, o1 + k * 2 + 1, none⟩ = some (.int .i64 y) := by rw [d1]; simp [List.getD, R3, toI]
          have hee := fun w => same_pair x y w
          clear hy R1 R2 R3 hk hm hp hc1 d0 d1 hA1'
          have f0 : (wr.alloc (.cells #[.int .i64 (x : Int), .int .i64 (y : Int)] 50)).cell? ⟨wr.heap.size, 0, none⟩ = some (.int .i64 x) := by simp [go_sem]
          have f1 : (wr.alloc (.cells #[.int .i64 (x : Int), .int .i64 (y : Int)] 50)).cell? ⟨wr.heap.size, 1, none⟩ = some (.int .i64 y) := by simp [go_sem]
          go_upto_region 12 with (fail)
          clear hmn
          generalize wr.alloc (.cells #[.int .i64 (x : Int), .int .i64 (y : Int)] 50) = N at *
          go_quiet (fail)
          go_wp2_with (fail)
          refine ⟨⟨t + 1, by omega, by rw [R.out.2]; rfl, by rw [R.out.1], rfl, hA1n, hA2n, below_drewN hBn _⟩, ?_⟩
          simp [intOf]; omega
      · have hi : ¬ (t : Int) < (C.length : Int) := by omega
        obtain rfl : t = C.length := by omega
        have hkA : k = A.length := by
          rw [List.take_of_length_le (Nat.le_refl _), HF.out] at hk
          exact hk.symm
        subst hkA
        have hmn' : (m : Int) ≤ (L.length : Int) := by omega
        clear hk hm
        go_wp2_with (fail)
        go_ret
        exact ⟨rfl, hB'⟩

set_option maxRecDepth 10000 in
theorem more_out (a : Option Addr) (cap n : Nat) (b : Bx) (hn : 30 < n) (w : World) :
    Calls Try.prog 6 #[.slice a n cap, b.val] w fun e w' => e = .returned (.bool true) ∧ Below w.heap.size w w' := by
  have hA : Hid (∀ W, Calls Try.prog 8 #[] W fun e w' => e = .returned (.bool true) ∧ Below W.heap.size W w') := fun W => alive_any W
  have g1 : (30 : Int) < (n : Int) := by omega
  unfold Bx.val
  go_enter Try.func6, Try.ntmps6
  go_wp2_with (first
    | (go_at_call 8; go_fit (hA.out _); rintro e V ⟨rfl, hV⟩))
  go_ret
  exact ⟨rfl, on_trans (below1 w _) hV⟩
end Go.Proofs.Ytflffgjldoipfaa
