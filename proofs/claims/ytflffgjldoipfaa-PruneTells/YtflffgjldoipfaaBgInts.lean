/-
  What the statements' Book does with lists of ints: they are grown, one element at a time and then by many.
-/
import Derived.Test.YtflffgjldoipfaaBkInts
import Derived.Test.YtflffgjldoipfaaUCur
namespace Go.Proofs.Ytflffgjldoipfaa
open Go.RowKit

theorem infoHInts : (Try.prog.info? 31).map (fun i => (i.zero, i.size, i.bytes)) = some (some (.slice none 0 0), 1, 24) := by kernel_rfl

/-- What has been grown so far. -/
structure GrownInts (w : World) (base : Nat) (R : List (Lst Int)) (t : Nat) (G : List (Lst Int)) (wr : World) : Prop where
  glen : G.length = t
  gown : ∀ (j : Nat) (g : Lst Int), G[j]? = some g → g.own encI wr base 3 1 ∧ g.l = marks markI j 0 g.l.length ∧ g.l.length ≤ 1000000
  rown : ∀ (j : Nat) (r : Lst Int), R[j]? = some r → wr.ownsRow base 3 1 r.v r.l.length ((marks markI j 0 r.l.length).flatMap encI)
  apart : ∀ (j i : Nat) (g r : Lst Int), G[j]? = some g → R[i]? = some r → t ≤ i → Apart2 g.v r.v
  chg : Chg base 3 w wr
theorem GrownInts.next {w : World} {base : Nat} {R G : List (Lst Int)} {t : Nat} {W0 w2 w3 : World} {r : Lst Int} {v : Value} {m : Nat} (h : GrownInts w base R t G W0) (er : R[t]? = some r) (hap : R.Pairwise fun a b => Apart2 a.v b.v) (hb : base ≤ w.heap.size)
    (hc : Cur markI encI base 3 1 t r W0 w2 v m) (hm : r.l.length + m ≤ 1000000) (hg : Below w2.heap.size w2 w3 ∨ ∃ row, w2.grownBy w3 row ∧ (∀ k, row = some k → w.heap.size ≤ k) ∧ ∀ (k : Nat) (cur : Array Value), row = some k → w2.heap[k]? ≠ some (.cells cur 3 (0, 0))) :
    GrownInts w base R (t + 1) (G ++ [⟨v, marks markI t 0 (r.l.length + m)⟩]) w3 := by
  have hkeep : ∀ {u : Value} {n : Nat} {xs : List Value}, w2.ownsRow base 3 1 u n xs → w3.ownsRow base 3 1 u n xs := by
    intro u n xs ho
    rcases hg with hg | ⟨row, hg, _, hn⟩
    · exact own_on ho hg
    · refine ho.kept hg ?_
      rcases ho.2 with ⟨rfl, _⟩ | ⟨g, cap, cur, rfl, _, hgc, _⟩
      · exact .inl rfl
      · exact .inr (fun e => hn g cur e.symm hgc)
  have hch : Chg base 3 w w3 := by
    have h1 := h.chg.trans (hc.chg (h.rown t r er) (Nat.le_trans hb h.chg.size))
    rcases hg with hg | ⟨row, hg, hr, _⟩
    · exact h1.trans (Chg.on hg (Nat.le_trans hb h1.size))
    · exact h1.fresh hg hr hb
  have hlow : ∀ (i : Nat) (q : Lst Int), R[i]? = some q → ∀ b, q.v.ownBlock = some b → b < W0.heap.size := fun i q hq b e => ((h.rown i q hq).lt b e).2
  refine ⟨by simp [h.glen], ?_, ?_, ?_, hch⟩
  · intro j g hj
    by_cases e : j < G.length
    · rw [List.getElem?_append_left e] at hj
      obtain ⟨h1, h2, h3⟩ := h.gown j g hj
      exact ⟨hkeep (hc.kept h1 (h.apart j t g r hj er (Nat.le_refl _))), h2, h3⟩
    · rw [List.getElem?_append_right (by omega)] at hj
      have e2 : j - G.length = 0 := by
        rcases Nat.eq_zero_or_pos (j - G.length) with e2 | e2
        · exact e2
        · rw [List.getElem?_eq_none (by simp; omega)] at hj; cases hj
      rw [e2] at hj
      simp at hj
      subst hj
      have ej : j = t := by have := h.glen; omega
      subst ej
      refine ⟨?_, ?_, ?_⟩
      · show w3.ownsRow base 3 1 v (marks markI j 0 (r.l.length + m)).length _
        rw [marks_len]
        exact hkeep hc.own
      · rw [marks_len]
      · rw [marks_len]; exact hm
  · intro j q hq
    by_cases e : j = t
    · subst e
      rw [er] at hq
      cases hq
      exact hkeep hc.old
    · exact hkeep (hc.kept (h.rown j q hq) (apart_at hap hq er e))
  · intro j i g q hj hq hi
    by_cases e : j < G.length
    · rw [List.getElem?_append_left e] at hj
      exact h.apart j i g q hj hq (by omega)
    · rw [List.getElem?_append_right (by omega)] at hj
      have e2 : j - G.length = 0 := by
        rcases Nat.eq_zero_or_pos (j - G.length) with e2 | e2
        · exact e2
        · rw [List.getElem?_eq_none (by simp; omega)] at hj; cases hj
      rw [e2] at hj
      simp at hj
      subst hj
      exact hc.apart (apart_at hap er hq (by omega)) (hlow i q hq)

set_option maxRecDepth 10000 in
set_option maxHeartbeats 4000000 in
theorem growInts_any (B base : Nat) (cs : Array Value) (ha : Option Addr) (hc : Nat) (R : List (Lst Int)) (w : World) (hbk : w.heap[B]? = some (.cells cs 42 (0, 0))) (hcs : cs[0]? = some (.slice ha R.length hc))
    (hh : w.ownsRow base 31 1 (.slice ha R.length hc) R.length (heads R)) (hm : R.length ≤ 1000) (hbase : base ≤ w.heap.size)
    (hown : ∀ (i : Nat) (r : Lst Int), R[i]? = some r → w.ownsRow base 3 1 r.v r.l.length ((marks markI i 0 r.l.length).flatMap encI)) (hsm : ∀ (i : Nat) (r : Lst Int), R[i]? = some r → r.l.length ≤ 900000) (hap : R.Pairwise fun a b => Apart2 a.v b.v) :
    Calls Try.prog 43 #[.pointer (some ⟨B, 0, none⟩)] w fun e w' => ∃ v, e = .returned v ∧ ∃ G, w'.ownsRow w.heap.size 31 1 v R.length (heads G) ∧ GrownInts w base R R.length G w' := by
  obtain ⟨nT, nB⟩ := neInts
  obtain ⟨i0, hi0, hz0, hz1, hz2⟩ := info_parts info_int
  obtain ⟨i1, hi1, hy0, hy1, hy2⟩ := info_parts infoHInts
  go_enter Try.func43, Try.ntmps43
  go_wp2_with (fail)
  go_loopw [3, 4] (fun o i wr => ∃ (t : Nat) (G : List (Lst Int)), t ≤ R.length ∧ i = .int .i64 t ∧ wr.ownsRow w.heap.size 31 1 o t (heads G) ∧ GrownInts w base R t G wr) (fun _ i _ => R.length - (intOf i).toNat)
  case atStart => exact ⟨0, [], by omega, rfl, World.ownsRow_nil _ _ _ _, ⟨rfl, fun j g h => by simp at h, hown, fun j i g r h => by simp at h, Chg.refl _ _ _⟩⟩
  case round =>
    obtain ⟨t, G, ht, rfl, hO, hR⟩ := hrel
    have hbk2 := hR.chg.cell nB hbk
    have z0 : wr.cell? ⟨B, 0, none⟩ = some (.slice ha R.length hc) := by rw [cell_of_row wr B 0 cs _ _ hbk2]; exact hcs
    have hh2 := hR.chg.owns nT hh
    have hsz := hR.chg.size
    by_cases hlt : t < R.length
    · have hi : (t : Int) < (R.length : Int) := by omega
      obtain ⟨r, er⟩ : ∃ r, R[t]? = some r := ⟨_, List.getElem?_eq_getElem hlt⟩
      have hrs := hsm t r er
      have o1 := hR.rown t r er
      obtain ⟨hb, hcap, eh, _, hbs, hcur, hgh⟩ := own_some hh2 (by omega)
      cases eh
      have d0 : wr.cell? ⟨hb, t, none⟩ = some r.v := (hh2.cellAt t (by omega)).trans (heads_get er)
      have hMk : Hid (∀ f n W, f + n ≤ 1000000 → Calls Try.prog 70 #[.int .i64 t, .int .i64 ((f : Nat) : Int), .int .i64 ((n : Nat) : Int)] W fun e w' => (∃ v, e = .returned v ∧ w'.ownsRow W.heap.size 3 1 v n ((marks markI t f n).flatMap encI)) ∧ Below W.heap.size W w') := fun f n W h => markInts_any t f n W (by omega) h
      obtain ⟨rv, hrv⟩ : ∃ rv, r.v = rv := ⟨_, rfl⟩
      rw [hrv] at d0
      have HV : Hid (r.v = rv) := hrv
      have o1s := o1
      have hc0 := Cur.start o1
      rw [hrv] at hc0
      clear hrv hown hsm
      go_upto_region 7 with (fail)
      obtain ⟨W0, rfl⟩ : ∃ W0, W0 = wr := ⟨_, rfl⟩
      go_loopw [5, 6] (fun cur k wr => ∃ s : Nat, s ≤ 12 ∧ k = .int .i64 s ∧ Cur markI encI base 3 1 t r W0 wr cur s) (fun _ k _ => 12 - (intOf k).toNat)
      case atStart => exact ⟨0, by omega, rfl, hc0⟩
      case round =>
        obtain ⟨s, hs, rfl, hC⟩ := hrel
        obtain ⟨ac, capc, rfl, _⟩ := own_reads hC.own
        have hszC := hC.by'.size
        by_cases hlt2 : s < 12
        · have hi2 : (s : Int) < 12 := by omega
          clear hO hR hh hh2 hbk hbk2 o1 hc0 hap
          go_wp2_with (first
            | (go_at_call 70; go_fit (hMk.out (r.l.length + s) 1 _ (by omega)); rintro e w1 ⟨⟨v1, rfl, hv1⟩, hB1⟩; obtain ⟨am, capm, rfl, hrm⟩ := own_reads hv1; have hC1 := hC.on hB1; have hsz1 := hB1.size)
            | (at_builtin; refine wpList_app _ rfl (.tmp 27) (.tmp 31) 31 rfl base 3 i0 (.int .i64 0) 1 8 Try.underlying31 hi0 hz0 hz1 hz2 rfl (by decide) (.slice ac (r.l.length + s) capc) _ _ rfl hC1.own am 1 capm ((marks markI t (r.l.length + s) 1).flatMap encI) rfl (by rw [encI_len, marks_len]) hrm (encI_one _) (by unfold maxLen; omega) (by omega) (by omega) ?_; intro v2 w2 hv2 hg2 hk2 hl2))
          refine ⟨⟨s + 1, by omega, rfl, hC1.step (by decide) hv2 hg2 hk2 hl2⟩, ?_⟩
          simp [intOf]; omega
        · have hi2 : ¬ (s : Int) < 12 := by omega
          obtain rfl : s = 12 := by omega
          clear hh hh2 hbk hbk2 o1 hc0
          go_wp2_with (first
            | (go_at_call 70; go_fit (hMk.out (r.l.length + 12) 60 _ (by omega)); rintro e w1 ⟨⟨v1, rfl, hv1⟩, hB1⟩; obtain ⟨am, capm, rfl, hrm⟩ := own_reads hv1; have hC1 := hC.on hB1; have hsz1 := hB1.size)
            | (at_builtin; refine wpList_app _ rfl (.tmp 34) (.tmp 38) 31 rfl base 3 i0 (.int .i64 0) 1 8 Try.underlying31 hi0 hz0 hz1 hz2 rfl (by decide) (.slice ac (r.l.length + 12) capc) _ _ rfl hC1.own am 60 capm ((marks markI t (r.l.length + 12) 60).flatMap encI) rfl (by rw [encI_len, marks_len]) hrm (encI_one _) (by unfold maxLen; omega) (by omega) (by omega) ?_; intro v2 w2 hv2 hg2 hk2 hl2; have hC2 := hC1.step (by decide) hv2 hg2 hk2 hl2; have hsz2 := hg2.size; obtain ⟨a2, cap2, rfl, _⟩ := own_reads hv2; have hO2 := Cur.kept hC2 hO (apartT hO o1s (Ne.symm nT.symm)))
            | (at_builtin; refine wpList_app _ rfl (.tmp 33) (.tmp 40) 34 rfl w.heap.size 31 i1 (.slice none 0 0) 1 24 Try.underlying34 hi1 hy0 hy1 hy2 rfl (by decide) u3 t (heads G) rfl (hO2.alloc _) (some ⟨w2.heap.size, 0, none⟩) 1 1 [.slice a2 (r.l.length + 12 + 60) cap2] rfl rfl (.inr ⟨_, _, rfl, fun j u hj => by match j, hj with | 0, hj => (simp at hj; subst hj; simp [go_sem])⟩) (fun u hu => by simp at hu; subst hu; rfl) (by unfold maxLen; omega) (by omega) (by simp; omega) ?_; intro v3 w3 hv3 hg3 hk3 hl3))
          have hN := hR.next er hap hbase hC2 (by omega) (.inr ⟨u3.ownBlock, gb_on (below1 w2 _) hg3, fun k hk => (hO.lt k hk).1, fun k cur hk e => by
            obtain ⟨c2, e2⟩ := typeAt hO2 hk
            rw [e] at e2
            cases e2⟩)
          refine ⟨⟨t + 1, _, by omega, rfl, ?_, hN⟩, ?_⟩
          · have e : heads (G ++ [⟨.slice a2 (r.l.length + 12 + 60) cap2, marks markI t 0 (r.l.length + (12 + 60))⟩]) = heads G ++ [.slice a2 (r.l.length + 12 + 60) cap2] := by simp [heads]
            rw [e]
            exact hv3
          · simp [intOf]; omega
    · have hi : ¬ (t : Int) < (R.length : Int) := by omega
      obtain rfl : t = R.length := by omega
      clear hown hh hh2 hbk hbk2
      go_wp2_with (fail)
      go_ret
      exact ⟨_, rfl, G, hO, hR⟩
end Go.Proofs.Ytflffgjldoipfaa
