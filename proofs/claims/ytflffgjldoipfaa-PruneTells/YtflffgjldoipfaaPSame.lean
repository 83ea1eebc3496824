/-
  Lists of ints and of pairs in memory; what the statements' own SameInts and SamePairs tell.
-/
import Derived.Test.YtflffgjldoipfaaPPairs
namespace Go.Proofs.Ytflffgjldoipfaa
open Go.RowKit

/-- Ints that lie in memory. -/
def IntsAt (w : World) (a : Option Addr) (l : List Int) : Prop :=
  l = [] ∨ ∃ b off, a = some ⟨b, off, none⟩ ∧ ∀ i, i < l.length → w.cell? ⟨b, off + i, none⟩ = some (.int .i64 (l.getD i 0))
theorem IntsAt.below {w w' : World} {a : Option Addr} {l : List Int} (h : IntsAt w a l) (g : Below w.heap.size w w') : IntsAt w' a l := by
  rcases h with h | ⟨b, off, e, h⟩
  · exact .inl h
  · exact .inr ⟨b, off, e, fun i hi => (g.cell (cell_block (h i hi))).trans (h i hi)⟩

theorem take_step {α : Type} [DecidableEq α] {l m : List α} {d : α} {k : Nat} (hl : k < l.length) (hm : k < m.length) (h : l.take k = m.take k) (e : l.getD k d = m.getD k d) : l.take (k + 1) = m.take (k + 1) := by
  simp only [List.getD, List.getElem?_eq_getElem hl, List.getElem?_eq_getElem hm, Option.getD_some] at e
  rw [List.take_succ_eq_append_getElem hl, List.take_succ_eq_append_getElem hm, h, e]

set_option maxRecDepth 10000 in
set_option maxHeartbeats 1000000 in
theorem sameints_any (a b : Option Addr) (c d : Nat) (l m : List Int) (w : World) (hl : IntsAt w a l) (hm : IntsAt w b m) (h1 : l.length ≤ 1000000) :
    Calls Try.prog 17 #[.slice a l.length c, .slice b m.length d] w fun e w' => e = .returned (.bool (decide (l = m))) ∧ ∃ n, w' = w.drewN n := by
  by_cases hlm : l.length = m.length
  · have hne : ((l.length : Int) != (m.length : Int)) = false := by simp [hlm]
    have HL : Hid (l.length = m.length) := hlm
    clear hlm
    go_enter Try.func17, Try.ntmps17
    go_wp2
    go_loopw [5] (fun i wr => ∃ k n : Nat, k ≤ l.length ∧ i = .int .i64 k ∧ wr = w.drewN n ∧ l.take k = m.take k) (fun i _ => l.length - (intOf i).toNat)
    case atStart => exact ⟨0, 0, by omega, rfl, rfl, rfl⟩
    case round =>
      obtain ⟨k, n, hk, rfl, HW, ht⟩ := hrel
      have HT : Hid (l.take k = m.take k) := ht
      have hl' : IntsAt wr a l := by rw [HW]; exact hl
      have hm' : IntsAt wr b m := by rw [HW]; exact hm
      have HN : Hid (wr = w.drewN n) := HW
      clear ht HW hl hm
      by_cases hlt : k < l.length
      · have hlt2 : k < m.length := by have := HL.out; omega
        have hi : (k : Int) < (l.length : Int) := by omega
        have hi2 : (k : Int) < (m.length : Int) := by omega
        obtain ⟨p, o, rfl, hp⟩ := hl'.resolve_left (fun e => by rw [e] at hlt; simp at hlt)
        obtain ⟨q, r, rfl, hq⟩ := hm'.resolve_left (fun e => by rw [e] at hlt2; simp at hlt2)
        have cp := hp k hlt
        have cq := hq k hlt2
        obtain ⟨x, hx⟩ : ∃ x, l.getD k 0 = x := ⟨_, rfl⟩
        obtain ⟨y, hy⟩ : ∃ y, m.getD k 0 = y := ⟨_, rfl⟩
        rw [hx] at cp
        rw [hy] at cq
        have HX : Hid (l.getD k 0 = x) := hx
        have HY : Hid (m.getD k 0 = y) := hy
        clear hp hq hx hy hl' hm'
        by_cases e : x = y
        · subst e
          go_upto_region 6 with (fail)
          go_quiet (fail)
          go_wp2_with (fail)
          refine ⟨⟨k + 1, _, by omega, rfl, (by rw [HN.out, World.drewN_drewN]), take_step hlt hlt2 HT.out (HX.out.trans HY.out.symm)⟩, ?_⟩
          simp [intOf]; omega
        · have e2 : (x == y) = false := by simpa using e
          have hE : Hid (¬ l = m) := fun h => e (by rw [← HX.out, ← HY.out, h])
          clear e
          go_upto_region 6 with (fail)
          go_quiet (fail)
          go_wp2_with (fail)
          go_ret
          exact ⟨ret_bool (by simpa using hE.out), _, by rw [HN.out, World.drewN_drewN]⟩
      · have hi : ¬ (k : Int) < (l.length : Int) := by omega
        have hE : Hid (decide (l = m) = true) := by
          have h := HT.out
          rw [List.take_of_length_le (by omega), List.take_of_length_le (by have := HL.out; omega)] at h
          simpa [Hid] using h
        go_wp2_with (fail)
        go_ret
        exact ⟨ret_bool hE.out.symm, _, HN.out⟩
  · have hne : ((l.length : Int) != (m.length : Int)) = true := by simp; omega
    have hE : Hid (decide (l = m) = false) := by
      have : ¬ l = m := fun h => hlm (by rw [h])
      simpa [Hid] using this
    clear hlm
    go_enter Try.func17, Try.ntmps17
    go_wp2
    go_ret
    exact ⟨ret_bool hE.out.symm, 0, rfl⟩

/-- A pair of places as ints. -/
def toI (p : Nat × Nat) : Int × Int := ((p.1 : Int), (p.2 : Int))
/-- Pairs that lie in memory. -/
def PairsAt (w : World) (a : Option Addr) (l : List (Int × Int)) : Prop :=
  l = [] ∨ ∃ b off, a = some ⟨b, off, none⟩ ∧ ∀ i, i < l.length → w.cell? ⟨b, off + i * 2, none⟩ = some (.int .i64 (l.getD i (0, 0)).1) ∧ w.cell? ⟨b, off + i * 2 + 1, none⟩ = some (.int .i64 (l.getD i (0, 0)).2)
theorem PairsAt.below {w w' : World} {a : Option Addr} {l : List (Int × Int)} (h : PairsAt w a l) (g : Below w.heap.size w w') : PairsAt w' a l := by
  rcases h with h | ⟨b, off, e, h⟩
  · exact .inl h
  · exact .inr ⟨b, off, e, fun i hi => ⟨(g.cell (cell_block (h i hi).1)).trans (h i hi).1, (g.cell (cell_block (h i hi).2)).trans (h i hi).2⟩⟩

theorem eq_pair (a b p q : Int) (w : World) : (binOp .eql 50 (.agg #[.int .i64 a, .int .i64 b]) (.agg #[.int .i64 p, .int .i64 q])).run Try.prog w = .ok (.bool (a == p && b == q)) w := by
  have hu := run_underlying Try.underlying50 w
  have hd : ∀ t x y, Op.equal t x y = Op.equalIn (9998 + 1 + 1) t x y := fun _ _ _ => rfl
  simp only [binOp, hd]
  rw [Op.equalIn]
  simp [go_sem, hu]
  by_cases h1 : a = p <;> by_cases h2 : b = q <;> simp [h1, h2]
theorem ne_pair (a b p q : Int) (w : World) : (binOp .neq 50 (.agg #[.int .i64 a, .int .i64 b]) (.agg #[.int .i64 p, .int .i64 q])).run Try.prog w = .ok (.bool (!(a == p && b == q))) w := by
  have hu := run_underlying Try.underlying50 w
  have hd : ∀ t x y, Op.equal t x y = Op.equalIn (9998 + 1 + 1) t x y := fun _ _ _ => rfl
  simp only [binOp, hd]
  rw [Op.equalIn]
  simp [go_sem, hu]
  by_cases h1 : a = p <;> by_cases h2 : b = q <;> simp [h1, h2]
theorem same_pair (a b : Int) (w : World) : (binOp .eql 50 (.agg #[.int .i64 a, .int .i64 b]) (.agg #[.int .i64 a, .int .i64 b])).run Try.prog w = .ok (.bool true) w := by
  rw [eq_pair]; simp
theorem other_pair (a b p q : Int) (h : ¬ (a = p ∧ b = q)) (w : World) : (binOp .eql 50 (.agg #[.int .i64 a, .int .i64 b]) (.agg #[.int .i64 p, .int .i64 q])).run Try.prog w = .ok (.bool false) w := by
  rw [eq_pair, show (a == p && b == q) = false by rw [← Bool.not_eq_true]; simpa using h]

set_option maxRecDepth 10000 in
set_option maxHeartbeats 1000000 in
theorem samepairs_any (a b : Option Addr) (c d : Nat) (l m : List (Int × Int)) (w : World) (hl : PairsAt w a l) (hm : PairsAt w b m) (h1 : l.length ≤ 1000000) :
    Calls Try.prog 13 #[.slice a l.length c, .slice b m.length d] w fun e w' => e = .returned (.bool (decide (l = m))) ∧ ∃ n, w' = w.drewN n := by
  by_cases hlm : l.length = m.length
  · have hne : ((l.length : Int) != (m.length : Int)) = false := by simp [hlm]
    have HL : Hid (l.length = m.length) := hlm
    clear hlm
    go_enter Try.func13, Try.ntmps13
    go_wp2
    go_loopw [5] (fun i wr => ∃ k n : Nat, k ≤ l.length ∧ i = .int .i64 k ∧ wr = w.drewN n ∧ l.take k = m.take k) (fun i _ => l.length - (intOf i).toNat)
    case atStart => exact ⟨0, 0, by omega, rfl, rfl, rfl⟩
    case round =>
      obtain ⟨k, n, hk, rfl, HW, ht⟩ := hrel
      have HT : Hid (l.take k = m.take k) := ht
      have hl' : PairsAt wr a l := by rw [HW]; exact hl
      have hm' : PairsAt wr b m := by rw [HW]; exact hm
      have HN : Hid (wr = w.drewN n) := HW
      clear ht HW hl hm
      by_cases hlt : k < l.length
      · have hlt2 : k < m.length := by have := HL.out; omega
        have hi : (k : Int) < (l.length : Int) := by omega
        have hi2 : (k : Int) < (m.length : Int) := by omega
        obtain ⟨p, o, rfl, hp⟩ := hl'.resolve_left (fun e => by rw [e] at hlt; simp at hlt)
        obtain ⟨q, r, rfl, hq⟩ := hm'.resolve_left (fun e => by rw [e] at hlt2; simp at hlt2)
        have cp := hp k hlt
        have cq := hq k hlt2
        obtain ⟨⟨x, x1⟩, hx⟩ : ∃ x, l.getD k (0, 0) = x := ⟨_, rfl⟩
        obtain ⟨⟨y, y1⟩, hy⟩ : ∃ y, m.getD k (0, 0) = y := ⟨_, rfl⟩
        rw [hx] at cp
        rw [hy] at cq
        obtain ⟨cp, cp1⟩ := cp
        obtain ⟨cq, cq1⟩ := cq
        have HX : Hid (l.getD k (0, 0) = (x, x1)) := hx
        have HY : Hid (m.getD k (0, 0) = (y, y1)) := hy
        simp only at cp cp1 cq cq1
        clear hp hq hx hy hl' hm'
        by_cases e : x = y ∧ x1 = y1
        · obtain ⟨rfl, rfl⟩ := e
          have hee := fun w => same_pair x x1 w
          go_upto_region 6 with (fail)
          go_quiet (fail)
          go_wp2_with (fail)
          refine ⟨⟨k + 1, _, by omega, rfl, (by rw [HN.out, World.drewN_drewN]), take_step hlt hlt2 HT.out (HX.out.trans HY.out.symm)⟩, ?_⟩
          simp [intOf]; omega
        · have hee := fun w => other_pair x x1 y y1 e w
          have hE : Hid (¬ l = m) := fun h => e (by have h1 := HX.out; rw [h, HY.out] at h1; simp only [Prod.mk.injEq] at h1; exact ⟨h1.1.symm, h1.2.symm⟩)
          clear e
          go_upto_region 6 with (fail)
          go_quiet (fail)
          go_wp2_with (fail)
          go_ret
          exact ⟨ret_bool (by simpa using hE.out), _, by rw [HN.out, World.drewN_drewN]⟩
      · have hi : ¬ (k : Int) < (l.length : Int) := by omega
        have hE : Hid (decide (l = m) = true) := by
          have h := HT.out
          rw [List.take_of_length_le (by omega), List.take_of_length_le (by have := HL.out; omega)] at h
          simpa [Hid] using h
        go_wp2_with (fail)
        go_ret
        exact ⟨ret_bool hE.out.symm, _, HN.out⟩
  · have hne : ((l.length : Int) != (m.length : Int)) = true := by simp; omega
    have hE : Hid (decide (l = m) = false) := by
      have : ¬ l = m := fun h => hlm (by rw [h])
      simpa [Hid] using this
    clear hlm
    go_enter Try.func13, Try.ntmps13
    go_wp2
    go_ret
    exact ⟨ret_bool hE.out.symm, 0, rfl⟩
end Go.Proofs.Ytflffgjldoipfaa
