/-
  The Book where it holds two lists of pairs and one of ints: what it needs to tell that they are apart. And boxes that are copied.
-/
import Derived.Test.YtflffgjldoipfaaUApart
import Derived.Test.YtflffgjldoipfaaPMore
namespace Go.Proofs.Ytflffgjldoipfaa
open Go.RowKit

theorem Kind.on {α : Type} {enc : α → List Value} {E H : TypeId} {k : Nat} {w w' : World} {base : Nat} {hv hq : Value} {R C : List (Lst α)} (h : Kind enc E H k w base hv hq R C) (g : Below w.heap.size w w') : Kind enc E H k w' base hv hq R C :=
  ⟨own_on h.heads g, own_on h.cheads g, h.hap, fun i r e => ⟨own_on (h.own i r e).1 g, (h.own i r e).2⟩, h.len, fun i r c e f => ⟨own_on (h.cown i r c e f).1 g, (h.cown i r c e f).2⟩, h.apart, h.few⟩

/-- The Book and its lists. -/
structure Told (base B : Nat) (va vb vs : Value) (A : List (Int × Int)) (S : List Int) (w : World) : Prop where
  at' : ∃ cs hv0 hq0 hv2 hq2 c1 c2 c3, BookAt w B cs hv0 hq0 hv2 hq2 ∧ Kind encI 3 31 1 w base hv0 hq0 [⟨vs, S⟩] [⟨c1, S⟩] ∧ Kind encJ 50 29 2 w base hv2 hq2 [⟨va, A⟩, ⟨vb, A⟩] [⟨c2, A⟩, ⟨c3, A⟩]
  size : base ≤ w.heap.size
theorem Told.on {base B : Nat} {va vb vs : Value} {A : List (Int × Int)} {S : List Int} {w w' : World} (h : Told base B va vb vs A S w) (g : Below w.heap.size w w') : Told base B va vb vs A S w' := by
  obtain ⟨cs, hv0, hq0, hv2, hq2, c1, c2, c3, hb, k1, k2⟩ := h.at'
  exact ⟨⟨cs, hv0, hq0, hv2, hq2, c1, c2, c3, hb.heap (g.block _ hb.lt), k1.on g, k2.on g⟩, Nat.le_trans h.size g.size⟩
theorem Told.a {base B : Nat} {va vb vs : Value} {A : List (Int × Int)} {S : List Int} {w : World} (h : Told base B va vb vs A S w) : w.ownsRow base 50 2 va A.length (A.flatMap encJ) := by
  obtain ⟨cs, hv0, hq0, hv2, hq2, c1, c2, c3, hb, k1, k2⟩ := h.at'
  exact (k2.own 0 _ rfl).1
theorem Told.b {base B : Nat} {va vb vs : Value} {A : List (Int × Int)} {S : List Int} {w : World} (h : Told base B va vb vs A S w) : w.ownsRow base 50 2 vb A.length (A.flatMap encJ) := by
  obtain ⟨cs, hv0, hq0, hv2, hq2, c1, c2, c3, hb, k1, k2⟩ := h.at'
  exact (k2.own 1 _ rfl).1
theorem Told.s {base B : Nat} {va vb vs : Value} {A : List (Int × Int)} {S : List Int} {w : World} (h : Told base B va vb vs A S w) : w.ownsRow base 3 1 vs S.length (S.flatMap encI) := by
  obtain ⟨cs, hv0, hq0, hv2, hq2, c1, c2, c3, hb, k1, k2⟩ := h.at'
  exact (k1.own 0 _ rfl).1
theorem Told.apart {base B : Nat} {va vb vs : Value} {A : List (Int × Int)} {S : List Int} {w : World} (h : Told base B va vb vs A S w) :
    Calls Try.prog 15 #[.pointer (some ⟨B, 0, none⟩)] w fun e w' => e = .returned (.bool true) ∧ Below base w w' := by
  obtain ⟨cs, hv0, hq0, hv2, hq2, c1, c2, c3, hb, k1, k2⟩ := h.at'
  exact apart_any B base cs hv0 hq0 hv2 hq2 _ _ _ _ w hb h.size k1 k2

def book0 : Array Value := #[.slice none 0 0, .slice none 0 0, .slice none 0 0, .slice none 0 0, .slice none 0 0, .slice none 0 0, .slice none 0 0, .slice none 0 0, .slice none 0 0, .slice none 0 0, .slice none 0 0, .slice none 0 0, .slice none 0 0, .slice none 0 0]

/-- What three calls of it leave behind. -/
theorem told_of {base B ca cb cp : Nat} {a b s : Option Addr} {A : List (Int × Int)} {S : List Int} {w w1 w2 w3 : World} {hv hq c1 hv' hq' c2 gv gq c3 : Value}
    (hc1 : w1.ownsRow base 50 2 c1 A.length (A.flatMap encJ)) (f1 : FrB base 29 42 w w1)
    (ho2 : w2.ownsRow base 29 1 hv' 2 [.slice a A.length ca, .slice b A.length cb]) (hp2 : w2.ownsRow base 29 1 hq' 2 [c1, c2]) (ap2 : Apart2 hv' hq') (hc2 : w2.ownsRow base 50 2 c2 A.length (A.flatMap encJ)) (f2 : FrB base 29 42 w1 w2)
    (hbk : w3.heap[B]? = some (.cells (((((book0.setIfInBounds 2 hv).setIfInBounds 3 hq).setIfInBounds 2 hv').setIfInBounds 3 hq').setIfInBounds 0 gv |>.setIfInBounds 1 gq) 42 (0, 0)))
    (ho3 : w3.ownsRow base 31 1 gv 1 [.slice s S.length cp]) (hp3 : w3.ownsRow base 31 1 gq 1 [c3]) (ap3 : Apart2 gv gq) (hc3 : w3.ownsRow base 3 1 c3 S.length (S.flatMap encI)) (f3 : FrB base 31 42 w2 w3)
    (oa : w.ownsRow base 50 2 (.slice a A.length ca) A.length (A.flatMap encJ)) (ob : w.ownsRow base 50 2 (.slice b A.length cb) A.length (A.flatMap encJ)) (os : w.ownsRow base 3 1 (.slice s S.length cp) S.length (S.flatMap encI))
    (hab : Apart2 (.slice a A.length ca) (.slice b A.length cb)) (hA : A.length ≤ 900000) (hS : S.length ≤ 900000) (hsz : base ≤ w.heap.size) :
    Told base B (.slice a A.length ca) (.slice b A.length cb) (.slice s S.length cp) A S w3 := by
  refine ⟨⟨_, gv, gq, hv', hq', c3, c1, c2, ⟨hbk, ?_, ?_, ?_, ?_, ?_⟩, ⟨ho3, hp3, ap3, ?_, rfl, ?_, List.pairwise_singleton _ _, by simp⟩, ⟨f3.owns (F := 29) (by decide) (by decide) ho2, f3.owns (F := 29) (by decide) (by decide) hp2, ap2, ?_, rfl, ?_, ?_, by simp⟩⟩, ?_⟩
  · simp [book0]
  · simp [book0]
  · simp [book0]
  · simp [book0]
  · intro i h1 h2
    simp only [Array.getElem?_setIfInBounds]
    have : i = 4 ∨ i = 5 ∨ i = 6 ∨ i = 7 ∨ i = 8 ∨ i = 9 ∨ i = 10 ∨ i = 11 ∨ i = 12 ∨ i = 13 := by omega
    rcases this with rfl | rfl | rfl | rfl | rfl | rfl | rfl | rfl | rfl | rfl <;> rfl
  · intro i r h
    match i, h with
    | 0, h =>
      cases h
      exact ⟨f3.owns (F := 3) (by decide) (by decide) (f2.owns (F := 3) (by decide) (by decide) (f1.owns (F := 3) (by decide) (by decide) os)), hS⟩
  · intro i r c h g
    match i, h, g with
    | 0, h, g =>
      cases h
      cases g
      exact ⟨hc3, rfl⟩
  · intro i r h
    match i, h with
    | 0, h =>
      cases h
      exact ⟨f3.owns (F := 50) (by decide) (by decide) (f2.owns (F := 50) (by decide) (by decide) (f1.owns (F := 50) (by decide) (by decide) oa)), hA⟩
    | 1, h =>
      cases h
      exact ⟨f3.owns (F := 50) (by decide) (by decide) (f2.owns (F := 50) (by decide) (by decide) (f1.owns (F := 50) (by decide) (by decide) ob)), hA⟩
  · intro i r c h g
    match i, h, g with
    | 0, h, g =>
      cases h
      cases g
      exact ⟨f3.owns (F := 50) (by decide) (by decide) (f2.owns (F := 50) (by decide) (by decide) hc1), rfl⟩
    | 1, h, g =>
      cases h
      cases g
      exact ⟨f3.owns (F := 50) (by decide) (by decide) hc2, rfl⟩
  · exact List.pairwise_cons.2 ⟨fun x hx => by rw [List.mem_singleton.1 hx]; exact hab, List.pairwise_singleton _ _⟩
  · exact Nat.le_trans hsz (Nat.le_trans f1.below.size (Nat.le_trans f2.below.size f3.below.size))

/-- A row that was made later than another has another block. -/
theorem later_apart {w1 w2 : World} {B n m k : Nat} {E : TypeId} {v u : Value} {xs ys : List Value} (h : w1.ownsRow B E k v n xs) (g : w2.ownsRow w1.heap.size E k u m ys) : Apart2 v u := fun b hb hu => by
  have h1 := (h.lt b hb).2
  have h2 := (g.lt b hu).1
  omega

theorem ne_same_bx (a b c d : Int) (w : World) : (binOp .neq 28 (.agg #[.int .i64 a, .int .i64 b, .int .i64 c, .int .i64 d]) (.agg #[.int .i64 a, .int .i64 b, .int .i64 c, .int .i64 d])).run Try.prog w = .ok (.bool false) w := by
  have hu := run_underlying Try.underlying28 w
  have hd : ∀ t x y, Op.equal t x y = Op.equalIn (9997 + 1 + 1 + 1) t x y := fun _ _ _ => rfl
  simp only [binOp, hd]
  rw [Op.equalIn]
  simp [go_sem, hu]

theorem take_run (g n cap : Nat) (h : n + 1 ≤ cap) (w : World) :
    (Instr.sliceAt 22 (.slice (some ⟨g, 0, none⟩) (n + 1) cap) none (some (.int .i64 (n : Int))) none).run Try.prog w = .ok (.slice (some ⟨g, 0, none⟩) n cap) w := by
  have h1 : (n : Int) ≤ (cap : Int) := by omega
  simp [go_sem, h1]
theorem back_run (g n cap : Nat) (h : n + 1 ≤ cap) (w : World) :
    (Instr.sliceAt 22 (.slice (some ⟨g, 0, none⟩) n cap) none (some (.int .i64 ((n : Int) + 1))) none).run Try.prog w = .ok (.slice (some ⟨g, 0, none⟩) (n + 1) cap) w := by
  have h1 : (n : Int) + 1 ≤ (cap : Int) := by omega
  have h2 : ¬ (n : Int) + 1 < 0 := by omega
  have h3 : ((n : Int) + 1).toNat = n + 1 := by omega
  simp [go_sem, h1, h2, h3]

theorem boxes_reads {w : World} {a : Option Addr} {L : List Bx} (h : Boxes w a L) : Reads w a (L.flatMap Bx.row) := by
  rcases h.at' with rfl | ⟨b, off, rfl, _⟩
  · exact .inl rfl
  · by_cases hn : 0 < L.length
    · exact .inr ⟨_, _, rfl, fun j u hj => by have h1 := boxes_news h hn j u hj; by_cases hj0 : j = 0 <;> simpa [Addr.add, hj0] using h1⟩
    · obtain rfl := List.eq_nil_of_length_eq_zero (show L.length = 0 by omega)
      exact .inl rfl
/-- The boxes that were copied, with the one behind them. -/
theorem copied {w : World} {base : Nat} {v : Value} {L : List Bx} {b : Bx} (h : w.ownsRow base 28 4 v (L.length + 1) (L.flatMap Bx.row ++ b.row)) (hok : ∀ x ∈ L, x.ok) :
    ∃ g cap, v = .slice (some ⟨g, 0, none⟩) (L.length + 1) cap ∧ L.length + 1 ≤ cap ∧ g < w.heap.size ∧ Boxes w (some ⟨g, 0, none⟩) L ∧ w.cell? ⟨g, L.length * 4, none⟩ = some (.int .i64 b.l) := by
  rcases h.2 with h3 | ⟨g, cap, cur, rfl, hb, hg, hc, hm, hs, ht⟩
  · omega
  · have h4 := own_prefix h (rows_len L)
    obtain ⟨a', c', e, hB⟩ := own_boxes h4 rfl hok
    cases e
    refine ⟨g, cap, rfl, hc, (Array.getElem?_eq_some_iff.1 hg).1, hB, ?_⟩
    have h5 := h.cellAt (L.length * 4) (by omega)
    rw [h5, List.getElem?_append_right (by rw [rows_len]; exact Nat.le_refl _), rows_len]
    simp [Bx.row]
end Go.Proofs.Ytflffgjldoipfaa
