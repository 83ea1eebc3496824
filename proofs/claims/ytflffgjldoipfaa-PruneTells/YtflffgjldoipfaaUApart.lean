/-
  The statements' Book where it keeps lists of ints and of pairs: none shares memory with another, so it tells that each is as it was.
-/
import Derived.Test.YtflffgjldoipfaaBiInts
import Derived.Test.YtflffgjldoipfaaBiPairs
import Derived.Test.YtflffgjldoipfaaUNone
namespace Go.Proofs.Ytflffgjldoipfaa
open Go.RowKit

/-- A kind's lists, their copies, and the rows that lead to them. -/
structure Kind {α : Type} (enc : α → List Value) (E H : TypeId) (k : Nat) (w : World) (base : Nat) (hv hq : Value) (R C : List (Lst α)) : Prop where
  heads : w.ownsRow base H 1 hv R.length (heads R)
  cheads : w.ownsRow base H 1 hq C.length (Go.Proofs.Ytflffgjldoipfaa.heads C)
  hap : Apart2 hv hq
  own : ∀ (i : Nat) (r : Lst α), R[i]? = some r → r.own enc w base E k ∧ r.l.length ≤ 900000
  len : C.length = R.length
  cown : ∀ (i : Nat) (r c : Lst α), R[i]? = some r → C[i]? = some c → c.own enc w base E k ∧ c.l = r.l
  apart : R.Pairwise fun a b => Apart2 a.v b.v
  few : R.length ≤ 250
theorem Kind.none {α : Type} {enc : α → List Value} {E H : TypeId} {k : Nat} (w : World) (base : Nat) : Kind enc E H k w base (.slice none 0 0) (.slice none 0 0) ([] : List (Lst α)) [] :=
  ⟨World.ownsRow_nil _ _ _ _, World.ownsRow_nil _ _ _ _, fun g h => by simp [Value.ownBlock] at h, fun i r h => by simp at h, rfl, fun i r c h => by simp at h, List.Pairwise.nil, by simp⟩

/-- The Book's seven rows. -/
structure BookAt (w : World) (B : Nat) (cs : Array Value) (hv0 hq0 hv2 hq2 : Value) : Prop where
  bk : w.heap[B]? = some (.cells cs 42 (0, 0))
  c0 : cs[0]? = some hv0
  c1 : cs[1]? = some hq0
  c2 : cs[2]? = some hv2
  c3 : cs[3]? = some hq2
  rest : ∀ i, 4 ≤ i → i < 14 → cs[i]? = some (.slice none 0 0)
theorem BookAt.seven {w : World} {B : Nat} {cs : Array Value} {hv0 hq0 hv2 hq2 : Value} (h : BookAt w B cs hv0 hq0 hv2 hq2) : w.cell? ⟨B, 0, none⟩ = some hv0 ∧ w.cell? ⟨B, 2, none⟩ = some hv2 ∧ w.cell? ⟨B, 4, none⟩ = some (.slice none 0 0) ∧ w.cell? ⟨B, 6, none⟩ = some (.slice none 0 0) ∧ w.cell? ⟨B, 8, none⟩ = some (.slice none 0 0) ∧ w.cell? ⟨B, 10, none⟩ = some (.slice none 0 0) ∧ w.cell? ⟨B, 12, none⟩ = some (.slice none 0 0) :=
  ⟨(bk_cell h.bk h.c0).1, (bk_cell h.bk h.c2).1, (bk_cell h.bk (h.rest 4 (by omega) (by omega))).1, (bk_cell h.bk (h.rest 6 (by omega) (by omega))).1, (bk_cell h.bk (h.rest 8 (by omega) (by omega))).1, (bk_cell h.bk (h.rest 10 (by omega) (by omega))).1, (bk_cell h.bk (h.rest 12 (by omega) (by omega))).1⟩
theorem BookAt.heap {w w' : World} {B : Nat} {cs : Array Value} {hv0 hq0 hv2 hq2 : Value} (h : BookAt w B cs hv0 hq0 hv2 hq2) (g : w'.heap[B]? = w.heap[B]?) : BookAt w' B cs hv0 hq0 hv2 hq2 := ⟨g.trans h.bk, h.c0, h.c1, h.c2, h.c3, h.rest⟩
theorem BookAt.lt {w : World} {B : Nat} {cs : Array Value} {hv0 hq0 hv2 hq2 : Value} (h : BookAt w B cs hv0 hq0 hv2 hq2) : B < w.heap.size := (Array.getElem?_eq_some_iff.1 h.bk).1

theorem heads_marks {α : Type} (mk : Nat → Nat → α) (R : List (Lst α)) : heads (R.mapIdx fun i r => ⟨r.v, marks mk i 0 r.l.length⟩) = heads R := by
  apply List.ext_getElem?
  intro i
  simp only [heads, List.getElem?_map, List.getElem?_mapIdx]
  cases R[i]? <;> rfl
theorem marked_own {α : Type} {mk : Nat → Nat → α} {enc : α → List Value} {R : List (Lst α)} {w : World} {base k : Nat} {E : TypeId} (h : ∀ (i : Nat) (r : Lst α), R[i]? = some r → w.ownsRow base E k r.v r.l.length ((marks mk i 0 r.l.length).flatMap enc)) (hs : ∀ (i : Nat) (r : Lst α), R[i]? = some r → r.l.length ≤ 900000) :
    ∀ (i : Nat) (r : Lst α), (R.mapIdx fun i r => (⟨r.v, marks mk i 0 r.l.length⟩ : Lst α))[i]? = some r → r.own enc w base E k ∧ r.l = marks mk i 0 r.l.length ∧ r.l.length ≤ 1000000 := by
  intro i r hr
  rw [List.getElem?_mapIdx] at hr
  cases e : R[i]? with
  | none => rw [e] at hr; cases hr
  | some q =>
    rw [e] at hr
    simp at hr
    subst hr
    have h1 := hs i q e
    refine ⟨?_, ?_, ?_⟩
    · show w.ownsRow base E k q.v (marks mk i 0 q.l.length).length _
      rw [marks_len]
      exact h i q e
    · simp only [marks_len]
    · simp only [marks_len]; omega

set_option maxRecDepth 10000 in
set_option maxHeartbeats 8000000 in
theorem apart_any (B base : Nat) (cs : Array Value) (hv0 hq0 hv2 hq2 : Value) (R1 C1 : List (Lst Int)) (R2 C2 : List (Lst (Int × Int))) (w : World) (hb : BookAt w B cs hv0 hq0 hv2 hq2) (hbase : base ≤ w.heap.size)
    (k1 : Kind encI 3 31 1 w base hv0 hq0 R1 C1) (k2 : Kind encJ 50 29 2 w base hv2 hq2 R2 C2) :
    Calls Try.prog 15 #[.pointer (some ⟨B, 0, none⟩)] w fun e w' => e = .returned (.bool true) ∧ Below base w w' := by
  obtain ⟨a0, p0, rfl, r0⟩ := own_reads k1.heads
  obtain ⟨a1, p1, rfl, r1⟩ := own_reads k1.cheads
  obtain ⟨a2, p2, rfl, r2⟩ := own_reads k2.heads
  obtain ⟨a3, p3, rfl, r3⟩ := own_reads k2.cheads
  have hS1 : Hid (∀ n, Calls Try.prog 29 #[.pointer (some ⟨B, 0, none⟩)] (w.drewN n) fun e w' => e = .returned (.bool true) ∧ ∃ m, w' = w.drewN m) := fun n => by
    refine (stillInts_any B base a0 a1 p0 p1 R1 C1 (w.drewN n) (bk_cell hb.bk hb.c0).1 (bk_cell hb.bk hb.c1).1 r0 r1 k1.len (by have := k1.few; omega) (fun i r c h1 h2 => ⟨(k1.own i r h1).1, (k1.cown i r c h1 h2).1, (k1.cown i r c h1 h2).2, by have := (k1.own i r h1).2; omega⟩)).mono ?_
    rintro e w' ⟨rfl, m, rfl⟩
    exact ⟨rfl, _, by rw [World.drewN_drewN]⟩
  have hS2 : Hid (∀ n, Calls Try.prog 30 #[.pointer (some ⟨B, 0, none⟩)] (w.drewN n) fun e w' => e = .returned (.bool true) ∧ ∃ m, w' = w.drewN m) := fun n => by
    refine (stillPairs_any B base a2 a3 p2 p3 R2 C2 (w.drewN n) (bk_cell hb.bk hb.c2).1 (bk_cell hb.bk hb.c3).1 r2 r3 k2.len (by have := k2.few; omega) (fun i r c h1 h2 => ⟨(k2.own i r h1).1, (k2.cown i r c h1 h2).1, (k2.cown i r c h1 h2).2, by have := (k2.own i r h1).2; omega⟩)).mono ?_
    rintro e w' ⟨rfl, m, rfl⟩
    exact ⟨rfl, _, by rw [World.drewN_drewN]⟩
  have hN : ∀ n, BookAt (w.drewN n) B cs (.slice a0 R1.length p0) (.slice a1 C1.length p1) (.slice a2 R2.length p2) (.slice a3 C2.length p3) := fun n => hb.heap rfl
  have y4 : ∀ n, (w.drewN n).cell? ⟨B, 4, none⟩ = some (.slice none 0 0) := fun n => (hN n).seven.2.2.1
  have y6 : ∀ n, (w.drewN n).cell? ⟨B, 6, none⟩ = some (.slice none 0 0) := fun n => (hN n).seven.2.2.2.1
  have y8 : ∀ n, (w.drewN n).cell? ⟨B, 8, none⟩ = some (.slice none 0 0) := fun n => (hN n).seven.2.2.2.2.1
  have y10 : ∀ n, (w.drewN n).cell? ⟨B, 10, none⟩ = some (.slice none 0 0) := fun n => (hN n).seven.2.2.2.2.2.1
  have y12 : ∀ n, (w.drewN n).cell? ⟨B, 12, none⟩ = some (.slice none 0 0) := fun n => (hN n).seven.2.2.2.2.2.2
  have hP1 : Hid (∀ n, Calls Try.prog 38 #[.pointer (some ⟨B, 0, none⟩)] (w.drewN n) fun e w' => e = .returned (.tuple #[]) ∧ (∀ (i : Nat) (r : Lst Int), R1[i]? = some r → w'.ownsRow base 3 1 r.v r.l.length ((marks markI i 0 r.l.length).flatMap encI)) ∧ Chg base 3 (w.drewN n) w') := fun n =>
    putInts_any B base cs a0 p0 R1 (w.drewN n) hb.bk hb.c0 k1.heads (by have := k1.few; omega) hbase (fun i r h => ⟨(k1.own i r h).1, by have := (k1.own i r h).2; omega⟩) k1.apart
  go_enter Try.func15, Try.ntmps15
  rw [show w = w.drewN 0 from rfl]
  go_upto_region 18 with (first
    | (go_at_call 29; go_fit (hS1.out _); rintro e V ⟨rfl, n1, rfl⟩)
    | (go_at_call 30; go_fit (hS2.out _); rintro e V ⟨rfl, n2, rfl⟩)
    | (go_at_call 31; go_fit (stillBodies_none B _ (y4 _)); rintro e V ⟨rfl, rfl⟩)
    | (go_at_call 32; go_fit (stillTexts_none B _ (y6 _)); rintro e V ⟨rfl, rfl⟩)
    | (go_at_call 33; go_fit (stillThings_none B _ (y8 _)); rintro e V ⟨rfl, rfl⟩)
    | (go_at_call 34; go_fit (stillDeltas_none B _ (y10 _)); rintro e V ⟨rfl, rfl⟩)
    | (go_at_call 35; go_fit (stillEntries_none B _ (y12 _)); rintro e V ⟨rfl, rfl⟩)
    | (go_at_call 36; go_fit (putThings_none B _ (y8 _)); rintro e V ⟨rfl, rfl⟩)
    | (go_at_call 37; go_fit (putEntries_none B _ (y12 _)); rintro e V ⟨rfl, rfl⟩)
    | (go_at_call 38; go_fit (hP1.out _); rintro e w3 ⟨rfl, o3, ch3⟩))
  have hbw : base ≤ w3.heap.size := Nat.le_trans hbase ch3.size
  have hb3 := (hN n2).heap ((ch3.cell (by decide) (hN n2).bk).trans (hN n2).bk.symm)
  have hd3 := ch3.owns (T := 31) (by decide) (show (w.drewN n2).ownsRow base 31 1 _ _ _ from k1.heads)
  have he3 := ch3.owns (T := 29) (by decide) (show (w.drewN n2).ownsRow base 29 1 _ _ _ from k2.heads)
  have q3 : ∀ (i : Nat) (r : Lst (Int × Int)), R2[i]? = some r → r.own encJ w3 base 50 2 ∧ r.l.length ≤ 1000000 := fun i r h => ⟨ch3.owns (T := 50) (by decide) (show (w.drewN n2).ownsRow base 50 2 _ _ _ from (k2.own i r h).1), by have := (k2.own i r h).2; omega⟩
  have hP2 := putPairs_any B base cs a2 p2 R2 w3 hb3.bk hb3.c2 he3 (by have := k2.few; omega) hbw q3 k2.apart
  have G3 : Below base w w3 := (below_drewN (Below.refl base w) n2).trans ch3.below
  go_upto_region 19 with (first
    | (go_at_call 39; go_fit hP2; rintro e w4 ⟨rfl, o4, ch4⟩))
  have hbw4 : base ≤ w4.heap.size := Nat.le_trans hbw ch4.size
  have hb4 := hb3.heap ((ch4.cell (by decide) hb3.bk).trans hb3.bk.symm)
  have hd4 := ch4.owns (T := 31) (by decide) hd3
  have he4 := ch4.owns (T := 29) (by decide) he3
  have o34 : ∀ (i : Nat) (r : Lst Int), R1[i]? = some r → w4.ownsRow base 3 1 r.v r.l.length ((marks markI i 0 r.l.length).flatMap encI) := fun i r h => ch4.owns (T := 3) (by decide) (o3 i r h)
  have hG1 := growInts_any B base cs a0 p0 R1 w4 hb4.bk hb4.c0 hd4 (by have := k1.few; omega) hbw4 o34 (fun i r h => (k1.own i r h).2) k1.apart
  obtain ⟨_, _, x4, x6, x8, x10, x12⟩ := hb4.seven
  have G4 := G3.trans ch4.below
  clear y4 y6 y8 y10 y12
  go_upto_region 23 with (first
    | (go_at_call 40; go_fit (putBodies_none B _ x4); rintro e V ⟨rfl, rfl⟩)
    | (go_at_call 41; go_fit (putTexts_none B _ x6); rintro e V ⟨rfl, rfl⟩)
    | (go_at_call 42; go_fit (putDeltas_none B _ x10); rintro e V ⟨rfl, rfl⟩)
    | (go_at_call 43; go_fit hG1; rintro e w5 ⟨v5, rfl, L1, hv5, g5⟩))
  have hbw5 : base ≤ w5.heap.size := Nat.le_trans hbw4 g5.chg.size
  have hb5 := hb4.heap ((g5.chg.cell (by decide) hb4.bk).trans hb4.bk.symm)
  have hd5 := g5.chg.owns (T := 31) (by decide) hd4
  have he5 := g5.chg.owns (T := 29) (by decide) he4
  have o45 : ∀ (i : Nat) (r : Lst (Int × Int)), R2[i]? = some r → w5.ownsRow base 50 2 r.v r.l.length ((marks markJ i 0 r.l.length).flatMap encJ) := fun i r h => g5.chg.owns (T := 50) (by decide) (o4 i r h)
  have hG2 := growPairs_any B base cs a2 p2 R2 w5 hb5.bk hb5.c2 he5 (by have := k2.few; omega) hbw5 o45 (fun i r h => (k2.own i r h).2) k2.apart
  have G5 := G4.trans g5.chg.below
  obtain ⟨a5, p5, rfl, r5⟩ := own_reads hv5
  clear x4 x6 x8 x10 x12
  go_upto_region 24 with (first
    | (go_at_call 44; go_fit hG2; rintro e w6 ⟨v6, rfl, L2, hv6, g6⟩))
  have hb6 := hb5.heap ((g6.chg.cell (by decide) hb5.bk).trans hb5.bk.symm)
  have hd6 := g6.chg.owns (T := 31) (by decide) hd5
  have he6 := g6.chg.owns (T := 29) (by decide) he5
  have hv56 := g6.chg.owns (T := 31) (by decide) hv5
  have G6 := G5.trans g6.chg.below
  have hbw6 : base ≤ w6.heap.size := Nat.le_trans hbw5 g6.chg.size
  obtain ⟨a6, p6, rfl, r6⟩ := own_reads hv6
  have M1 : Hid (∀ W, Below w6.heap.size w6 W → Calls Try.prog 50 #[.slice a5 R1.length p5] W fun e w' => e = .returned (.bool true) ∧ Below W.heap.size W w') := fun W h => by
    have rr : Reads w6 a5 (heads L1) := by
      obtain ⟨aa, pp, ee, rr⟩ := own_reads hv56
      cases ee
      exact rr
    have := markedInts_any base a5 p5 L1 W (rr.below h) (by have := k1.few; have := g5.glen; omega) (fun i r hr => ⟨own_on (g6.chg.owns (T := 3) (by decide) (g5.gown i r hr).1) h, (g5.gown i r hr).2⟩)
    rw [g5.glen] at this
    exact this
  have M2 : Hid (∀ W, Below w6.heap.size w6 W → Calls Try.prog 50 #[.slice a0 R1.length p0] W fun e w' => e = .returned (.bool true) ∧ Below W.heap.size W w') := fun W h => by
    have rr : Reads w6 a0 (heads R1) := by
      obtain ⟨aa, pp, ee, rr⟩ := own_reads hd6
      cases ee
      exact rr
    have := markedInts_any base a0 p0 (R1.mapIdx fun i r => ⟨r.v, marks markI i 0 r.l.length⟩) W (by rw [heads_marks]; exact rr.below h) (by have := k1.few; simp; omega) (marked_own (fun i r hr => own_on (g6.chg.owns (T := 3) (by decide) (g5.rown i r hr)) h) (fun i r hr => (k1.own i r hr).2))
    simpa using this
  have M3 : Hid (∀ W, Below w6.heap.size w6 W → Calls Try.prog 51 #[.slice a6 R2.length p6] W fun e w' => e = .returned (.bool true) ∧ Below W.heap.size W w') := fun W h => by
    have := markedPairs_any base a6 p6 L2 W (r6.below h) (by have := k2.few; have := g6.glen; omega) (fun i r hr => ⟨own_on (g6.gown i r hr).1 h, (g6.gown i r hr).2⟩)
    rw [g6.glen] at this
    exact this
  have M4 : Hid (∀ W, Below w6.heap.size w6 W → Calls Try.prog 51 #[.slice a2 R2.length p2] W fun e w' => e = .returned (.bool true) ∧ Below W.heap.size W w') := fun W h => by
    have rr : Reads w6 a2 (heads R2) := by
      obtain ⟨aa, pp, ee, rr⟩ := own_reads he6
      cases ee
      exact rr
    have := markedPairs_any base a2 p2 (R2.mapIdx fun i r => ⟨r.v, marks markJ i 0 r.l.length⟩) W (by rw [heads_marks]; exact rr.below h) (by have := k2.few; simp; omega) (marked_own (fun i r hr => own_on (g6.rown i r hr) h) (fun i r hr => (k2.own i r hr).2))
    simpa using this
  have Z : Hid (∀ W, Below w6.heap.size w6 W → BookAt W B cs (.slice a0 R1.length p0) (.slice a1 C1.length p1) (.slice a2 R2.length p2) (.slice a3 C2.length p3)) := fun W h => hb6.heap (h.block _ hb6.lt)
  have J6 := Below.refl w6.heap.size w6
  obtain ⟨x0, x2, x4, x6, x8, x10, x12⟩ := (Z.out _ J6).seven
  clear hd6 he6 hv56 hv6 g6 r6 hb5 hd5 he5 o45 hG2 g5 hv5 r5 hb4 hd4 he4 o34 hG1 o4 ch4 hP2 q3 he3 hd3 hb3 o3 ch3 hP1 hS1 hS2 hN hb k1 k2 r0 r1 r2 r3 hb6 G3 G4 G5
  go_upto_region 28 with (first
    | (go_at_call 45; go_fit (growBodies_none B _ x4); rintro e V ⟨rfl, rfl⟩)
    | (go_at_call 46; go_fit (growTexts_none B _ x6); rintro e V ⟨rfl, rfl⟩)
    | (go_at_call 47; go_fit (growThings_none B _ x8); rintro e V ⟨rfl, rfl⟩)
    | (go_at_call 48; go_fit (growDeltas_none B _ x10); rintro e V ⟨rfl, rfl⟩)
    | (go_at_call 49; go_fit (growEntries_none B _ x12); rintro e V ⟨rfl, rfl⟩))
  obtain ⟨W0, rfl⟩ : ∃ W0, W0 = V := ⟨_, rfl⟩
  have J := J6
  go_wp2_with (first
    | (go_at_call 49; go_fit (growEntries_none B _ x12); rintro e V ⟨rfl, rfl⟩)
    | (go_at_call 50; go_fit (M1.out _ J); rintro e V ⟨rfl, h7⟩; have J := on_trans J h7; clear h7; obtain ⟨z0, z2, z4, z6, z8, z10, z12⟩ := (Z.out _ J).seven)
    | (go_at_call 50; go_fit (M2.out _ J); rintro e V ⟨rfl, h7⟩; have J := on_trans J h7; clear h7; obtain ⟨z0, z2, z4, z6, z8, z10, z12⟩ := (Z.out _ J).seven)
    | (go_at_call 51; go_fit (M3.out _ J); rintro e V ⟨rfl, h7⟩; have J := on_trans J h7; clear h7; obtain ⟨z0, z2, z4, z6, z8, z10, z12⟩ := (Z.out _ J).seven)
    | (go_at_call 51; go_fit (M4.out _ J); rintro e V ⟨rfl, h7⟩; have J := on_trans J h7; clear h7; obtain ⟨z0, z2, z4, z6, z8, z10, z12⟩ := (Z.out _ J).seven)
    | (go_at_call 52; go_fit (markedBodies_none _); rintro e V ⟨rfl, rfl⟩)
    | (go_at_call 53; go_fit (markedTexts_none _); rintro e V ⟨rfl, rfl⟩)
    | (go_at_call 54; go_fit (markedThings_none _); rintro e V ⟨rfl, rfl⟩)
    | (go_at_call 55; go_fit (markedDeltas_none _); rintro e V ⟨rfl, rfl⟩)
    | (go_at_call 56; go_fit (markedEntries_none _); rintro e V ⟨rfl, rfl⟩)
    | fail)
  go_ret
  exact ⟨rfl, G6.trans (J.mono hbw6)⟩
end Go.Proofs.Ytflffgjldoipfaa
