/-
  Package shelf's plan.chain: places for the pieces of a record. Package shelf's plan.tree in plain lists: pages that may be, and what a record's chain makes of its cell. Package shelf's plan.tree: places for all pages of records.
-/
import Derived.Test.YtbkkhafckkndfaaGreatPk07
import Derived.Test.YtbkkhafckkndfaaGreatPk05
import Derived.Lib.ConvBytes
import Derived.Test.YtbkkhafckkndfaaGreatPk06
namespace Go.Proofs.YtbkkhafckkndfaaGreat
open Go Go.RowKit Go.Shelf
attribute [local go_sem] Oper.semAt_some

/-- The pieces of these numbers, one by one. -/
def goD (H : List Pr) (T : ByteArray) : List Nat → Int × Sp → Option (Int × Sp)
  | [], r => some r
  | q :: qs, r => match putS H r.2 (chainV r.1 (pieceL T q)) with
    | none => none
    | some x => goD H T qs x
theorem goD_snoc (H : List Pr) (T : ByteArray) (l : List Nat) (q : Nat) : ∀ r, goD H T (l ++ [q]) r = (goD H T l r).bind fun x => putS H x.2 (chainV x.1 (pieceL T q)) := by
  induction l with
  | nil =>
    intro r
    rw [List.nil_append, goD, goD, Option.bind_some]
    cases putS H r.2 (chainV r.1 (pieceL T q)) <;> rfl
  | cons a l ih =>
    intro r
    rw [List.cons_append, goD, goD]
    cases putS H r.2 (chainV r.1 (pieceL T a)) with
    | none => rfl
    | some x => exact ih x
theorem goD_len {H : List Pr} {T : ByteArray} : ∀ (l : List Nat) (r x : Int × Sp), goD H T l r = some x → x.2.len = r.2.len := by
  intro l
  induction l with
  | nil => intro r x h; cases h; rfl
  | cons a l ih =>
    intro r x h
    rw [goD] at h
    cases e : putS H r.2 (chainV r.1 (pieceL T a)) with
    | none => rw [e] at h; cases h
    | some y =>
      rw [e] at h
      rw [ih y x h]
      obtain ⟨n, s⟩ := y
      exact putS_len e
def bk2 (m k : Nat) : List Nat := (uptoB (backV (fun j : Nat => j) m) k).map (·.2)
theorem bk2_succ (m k : Nat) : bk2 m (k + 1) = bk2 m k ++ [m - 1 - k] := by rw [bk2, uptoB_succ, List.map_append]; rfl
theorem goD_all (H : List Pr) (T : ByteArray) (m : Nat) (r : Int × Sp) : ∀ k, k ≤ m → goC H T m r.1 r.2 = (goD H T (bk2 m k) r).bind fun x => goC H T (m - k) x.1 x.2 := by
  intro k
  induction k with
  | zero => intro _; rfl
  | succ k ih =>
    intro hk
    rw [ih (by omega), bk2_succ, goD_snoc, Option.bind_assoc]
    congr 1
    funext x
    obtain ⟨d, hd⟩ : ∃ d, m - k = d + 1 := ⟨m - k - 1, by omega⟩
    rw [hd, show m - (k + 1) = d by omega, show m - 1 - k = d by omega, goC]
    cases putS H x.2 (chainV x.1 (pieceL T d)) <;> rfl
theorem goD_is (H : List Pr) (T : ByteArray) (m : Nat) (r : Int × Sp) : goD H T (bk2 m m) r = goC H T m r.1 r.2 := by
  rw [goD_all H T m r m (Nat.le_refl _), Nat.sub_self]
  cases goD H T (bk2 m m) r <;> rfl
theorem goD_out (H : List Pr) (T : ByteArray) (m : Nat) (r : Int × Sp) (k : Nat) (hk : k ≤ m) (h : goD H T (bk2 m k) r = none) : goC H T m r.1 r.2 = none := by
  rw [goD_all H T m r k hk, h]
  rfl
theorem piece_len (T : ByteArray) (q : Nat) : (pieceL T q).length = min 120 (T.size - q * 120) := by
  unfold pieceL
  rw [Array.length_toList]
  have : (T.extract (q * 120) (min ((q + 1) * 120) T.size)).size = min (min ((q + 1) * 120) T.size) T.size - q * 120 := by simp
  have h2 : (T.extract (q * 120) (min ((q + 1) * 120) T.size)).data.size = (T.extract (q * 120) (min ((q + 1) * 120) T.size)).size := rfl
  rw [h2, this]
  omega
theorem piece_at (T : ByteArray) (q i : Nat) (h : i < min 120 (T.size - q * 120)) : (pieceL T q).getD i 0 = T.data.toList.getD (q * 120 + i) 0 := by
  unfold pieceL
  have h1 : i < (T.extract (q * 120) (min ((q + 1) * 120) T.size)).data.toList.length := by
    have := piece_len T q
    unfold pieceL at this
    omega
  have h2 : q * 120 + i < T.data.toList.length := by
    rw [Array.length_toList]
    have : T.data.size = T.size := rfl
    omega
  simp only [List.getD_eq_getElem?_getD, List.getElem?_eq_getElem h1, List.getElem?_eq_getElem h2, Option.getD_some]
  simp [ByteArray.data_extract]
/-- A block of cells that place leaves alone. -/
def VarK (W : World) (i : Nat) : Prop := ∃ cs t r, W.heap[i]? = some (.cells cs t r) ∧ t ≠ 49 ∧ t ≠ 98
theorem VarK.no {w0 W : World} {p i : Nat} {H O : List Pr} {F : List Int} (h : PlanK w0 W p H O F) (v : VarK W i) : ¬ SetK p W i := by
  obtain ⟨mb, ao, co, af, cf, h⟩ := h
  obtain ⟨cs, t, r, e, h1, h2⟩ := v
  rintro (s | ⟨cs2, s⟩ | s)
  · obtain ⟨cs3, e3⟩ := h.t
    rw [s, e3] at e
    cases e
    exact h2 rfl
  · rw [s] at e
    cases e
    exact h1 rfl
  · rw [h.v.c1] at s
    simp only [Option.some.injEq, Value.map.injEq] at s
    obtain ⟨es, c, e3, _⟩ := h.m
    rw [s, e] at e3
    cases e3
theorem PlanK.lt {w0 W : World} {p : Nat} {H O : List Pr} {F : List Int} (h : PlanK w0 W p H O F) : p < W.heap.size := by
  obtain ⟨mb, ao, co, af, cf, h⟩ := h
  exact h.v.lt
theorem PlanK.map {w0 W : World} {p mb : Nat} {H O : List Pr} {F : List Int} (h : PlanK w0 W p H O F) (hc : W.cell? ⟨p, 1, none⟩ = some (.map (some mb))) : ∃ ao co af cf, PkAt w0 W p mb ao co af cf H O F := by
  obtain ⟨mb', ao, co, af, cf, h⟩ := h
  rw [h.v.c1] at hc
  simp only [Option.some.injEq, Value.map.injEq] at hc
  subst hc
  exact ⟨ao, co, af, cf, h⟩
/-- What turns no cells, and not the plan's map, keeps the plan. -/
theorem PlanK.own {w0 A B : World} {p mb : Nat} {H O : List Pr} {F : List Int} {row : Option Nat} (h : PlanK w0 A p H O F) (hc : A.cell? ⟨p, 1, none⟩ = some (.map (some mb))) (hg : A.grownBy B row) (hr : ∀ r, row = some r → mb < r ∧ w0.heap.size ≤ r ∧ ∃ o : Obj, A.heap[r]? = some o ∧ o.isCells = false) : PlanK w0 B p H O F := by
  obtain ⟨ao, co, af, cf, h⟩ := h.map hc
  have g : But (fun i => row = some i) A B := ⟨hg.os, hg.tape, hg.output, hg.size, fun i hi hn => hg.block i hi (fun e => hn e.symm)⟩
  have no : ∀ i E, OfT A E i → ¬ row = some i := fun i E hE e => by
    obtain ⟨o, ho, hc⟩ := (hr i e).2.2
    obtain ⟨cs, e2⟩ := hE
    rw [ho] at e2
    cases e2
    cases hc
  have hp := no p _ h.t
  have hm : ¬ row = some mb := fun e => by have := (hr mb e).1; omega
  exact ⟨mb, ao, co, af, cf, h.v.but g hp, h.m.heap (g.block mb h.m.lt hm), h.fr, h.fc, row_but h.row g (fun i e => no i _ (row_ofT h.row e)), h.bel.trans (g.below (fun i e => (hr i e).2.1) h.bel.size), h.lp, h.lm, h.t.but g hp⟩
structure ChI (w0 w W4 : World) (p b9 : Nat) (S : Nat → Prop) (H : List Pr) (n : Int) (s : Sp) (W : World) : Prop where
  pl : PlanK w0 W p H s.O s.F
  kp : KeepB S W4 W
  nx : W.heap[b9]? = some (.cells #[.int .i64 n] 3 (0, 0))
  wr : WrK p w W
theorem ChI.mid {w0 w W4 W w1 w2 : World} {p b9 mb : Nat} {S : Nat → Prop} {H : List Pr} {n : Int} {s : Sp} (h : ChI w0 w W4 p b9 S H n s W) (hp : p < w.heap.size) (hcm : w.cell? ⟨p, 1, none⟩ = some (.map (some mb))) (hmb : mb < W4.heap.size) (hpW : p < W4.heap.size)
    (hS : ∀ i, S i → VarK W4 i) (g1 : Below W.heap.size W w1) (g2 : WrK p w1 w2) : KeepB S W w2 ∧ w2.heap[b9]? = some (.cells #[.int .i64 n] 3 (0, 0)) ∧ WrK p w w2 ∧ KeepsFrom W4.heap.size W w2 := by
  have hpl := h.pl.below g1
  have go : ∀ i, VarK W i → w2.heap[i]? = W.heap[i]? := fun i v => by
    have hi : i < W.heap.size := by
      obtain ⟨cs, t, r, e, _⟩ := v
      exact (Array.getElem?_eq_some_iff.1 e).1
    have e1 := g1.block i hi
    have v1 : VarK w1 i := by
      obtain ⟨cs, t, r, e, h1⟩ := v
      exact ⟨cs, t, r, e1.trans e, h1⟩
    rw [g2.but.block i (Nat.lt_of_lt_of_le hi g1.size) (v1.no hpl), e1]
  have w1k : WrK p w w1 := h.wr.later hp (Go.Proofs.YtbkkhafckkndfaaGreat.Below.but g1 (S := fun _ => False)) (fun _ e => e.elim)
  refine ⟨⟨Nat.le_trans g1.size g2.but.size, fun i hi => go i ?_⟩, ?_, w1k.trans g2, ⟨Nat.le_trans g1.size g2.but.size, fun k o hk e ho => ?_⟩⟩
  · obtain ⟨cs, t, r, e, h1⟩ := hS i hi
    exact ⟨cs, t, r, (h.kp.2 i hi).trans e, h1⟩
  · rw [go b9 ⟨_, _, _, h.nx, by decide, by decide⟩, h.nx]
  · have hk2 := (Array.getElem?_eq_some_iff.1 e).1
    rw [g2.but.block k (Nat.lt_of_lt_of_le hk2 g1.size) ?_, g1.block k hk2, e]
    rintro (q | ⟨cs, q⟩ | q)
    · omega
    · rw [g1.block k hk2, e] at q
      cases q
      cases ho
    · rw [w1k.one, hcm] at q
      simp only [Option.some.injEq, Value.map.injEq] at q
      omega
theorem putk_no {w0 w' : World} {p : Nat} {H : List Pr} {s : Sp} {b : ByteArray} {e : Ending} (h : putS H s b = none) (hp : PutK w0 w' p H s.O s.F b e) : e = .returned (.tuple #[.int .i64 0, .bool false]) ∧ PlanK w0 w' p H s.O s.F := by
  unfold putS at h
  unfold PutK at hp
  cases e1 : putW H s.O s.F b with
  | none => rw [e1] at hp; exact hp
  | some x => rw [e1] at h; cases h
theorem putk_yes {w0 w' : World} {p : Nat} {H : List Pr} {s s' : Sp} {b : ByteArray} {e : Ending} {n : Int} (h : putS H s b = some (n, s')) (hp : PutK w0 w' p H s.O s.F b e) : e = .returned (.tuple #[.int .i64 n, .bool true]) ∧ PlanK w0 w' p H s'.O s'.F := by
  unfold putS at h
  unfold PutK at hp
  cases e1 : putW H s.O s.F b with
  | none => rw [e1] at h; cases h
  | some x =>
    rw [e1] at h hp
    obtain ⟨n1, O1, F1⟩ := x
    simp only [Option.map_some, Option.some.injEq, Prod.mk.injEq] at h
    obtain ⟨rfl, rfl⟩ := h
    exact hp
/-- What chain answers. -/
def ChainK (w0 w' : World) (p : Nat) (H : List Pr) (s : Sp) (T : ByteArray) (e : Ending) : Prop :=
  match (if T.size ≤ 24 then some (0, s) else goC H T (npc T) 0 s) with
  | some (n, s') => e = .returned (.tuple #[.int .i64 n, .bool true]) ∧ PlanK w0 w' p H s'.O s'.F
  | none => e = .returned (.tuple #[.int .i64 0, .bool false]) ∧ ∃ s' : Sp, PlanK w0 w' p H s'.O s'.F
set_option maxHeartbeats 2000000 in
theorem kchain_in (w0 w : World) (p : Nat) (H : List Pr) (s : Sp) (K : Int) (T : ByteArray) (h : PlanK w0 w p H s.O s.F) (hT : T.size ≤ 24) :
    Calls Tryz.prog 47 #[.pointer (some ⟨p, 0, none⟩), .agg #[.int .i64 K, .string T]] w fun e w' => ChainK w0 w' p H s T e ∧ WrK p w w' := by
  have hI : Hid (∀ W, Calls Tryz.prog 59 #[.int .i64 (T.size : Int)] W fun e w' => e = .returned (.bool true) ∧ w' = W) := fun W => by
    have := kinline_any (T.size : Int) W
    rw [decide_eq_true (show (T.size : Int) ≤ 24 by omega)] at this
    exact this
  have hE : Hid (∀ w', Below w.heap.size w w' → ChainK w0 w' p H s T (.returned (.tuple #[.int .i64 0, .bool true])) ∧ WrK p w w') := fun w' g => by
    unfold ChainK
    rw [if_pos hT]
    exact ⟨⟨rfl, h.below g⟩, (WrK.refl p w).later h.lt (Go.Proofs.YtbkkhafckkndfaaGreat.Below.but g (S := fun _ => False)) (fun _ e => e.elim)⟩
  clear h hT
  go_enter Tryz.func47, Tryz.ntmps47
  go_wp2_with (first
    | (go_at_call 59; go_fit (hI.out _); rintro e w1 ⟨rfl, rfl⟩)
    | fail)
  refine bodyPost_ret (v := .tuple #[.int .i64 0, .bool true]) (by simp [results, Tryz.results47, go_sem]) rfl ?_
  exact hE.out _ (((((Grew.refl w).alloc _ _).alloc _ _).alloc _ _).alloc _ _).below
theorem bw_below (w : World) (e : TypeId) (s : ByteArray) : Below w.heap.size w (Lib.bytesWorld w e s) :=
  ⟨by simp [Lib.bytesWorld, World.freeze, World.alloc, World.drew, -World.alloc_eq, -World.drew_eq], by simp [Lib.bytesWorld, World.freeze, World.alloc, World.drew, -World.alloc_eq, -World.drew_eq], by simp [Lib.bytesWorld, World.freeze, World.alloc, World.drew, -World.alloc_eq, -World.drew_eq], by rw [Lib.bytesWorld_size]; omega, fun i hi => Lib.bytesWorld_at_old w e s i hi⟩
theorem four_new (w : World) (a b c d : Obj) : (((((w.alloc a).alloc b).alloc c).alloc d).heap[w.heap.size]? = some a ∧ ((((w.alloc a).alloc b).alloc c).alloc d).heap[w.heap.size + 1]? = some b ∧ ((((w.alloc a).alloc b).alloc c).alloc d).heap[w.heap.size + 1 + 1]? = some c ∧ ((((w.alloc a).alloc b).alloc c).alloc d).heap[w.heap.size + 1 + 1 + 1]? = some d) ∧ ((((w.alloc a).alloc b).alloc c).alloc d).heap.size = w.heap.size + 1 + 1 + 1 + 1 ∧ Below w.heap.size w ((((w.alloc a).alloc b).alloc c).alloc d) := by
  have e1 := World.size_alloc w a
  have e2 := World.size_alloc (w.alloc a) b
  have e3 := World.size_alloc ((w.alloc a).alloc b) c
  have e4 := World.size_alloc (((w.alloc a).alloc b).alloc c) d
  have n1 : (w.alloc a).heap[w.heap.size]? = some a := (MapKept.heap_alloc w a).1
  have n2 := (MapKept.heap_alloc (w.alloc a) b).1
  have n3 := (MapKept.heap_alloc ((w.alloc a).alloc b) c).1
  have n4 := (MapKept.heap_alloc (((w.alloc a).alloc b).alloc c) d).1
  have o2 := (MapKept.heap_alloc (w.alloc a) b).2
  have o3 := (MapKept.heap_alloc ((w.alloc a).alloc b) c).2
  have o4 := (MapKept.heap_alloc (((w.alloc a).alloc b).alloc c) d).2
  rw [e1] at n2
  rw [e2, e1] at n3
  rw [e3, e2, e1] at n4
  refine ⟨⟨?_, ?_, ?_, n4⟩, by omega, ?_⟩
  · rw [o4 _ (by omega), o3 _ (by omega), o2 _ (by omega), n1]
  · rw [o4 _ (by omega), o3 _ (by omega), n2]
  · rw [o4 _ (by omega), n3]
  · exact ((((Below.refl _ w).alloc (Nat.le_refl _) _).alloc (by simp) _).alloc (by simp; omega) _).alloc (by simp; omega) _
/-- What chain has laid ahead of its loop. -/
structure PreK (w : World) (p : Nat) (T : ByteArray) (X : World) : Prop where
  h2 : X.heap[w.heap.size]? = some (.cells #[.pointer (some ⟨p, 0, none⟩)] 92 (0, 0))
  h4 : X.heap[w.heap.size + 1 + 1]? = some (.cells #[.int .i64 0] 3 (0, 0))
  h5 : X.heap[w.heap.size + 1 + 1 + 1]? = some (.cells #[.bool false] 4 (0, 0))
  h6 : VarK X (w.heap.size + 1 + 1 + 1 + 1)
  by6 : ∀ j, j < T.size → X.cell? ⟨w.heap.size + 1 + 1 + 1 + 1, j, none⟩ = some (.int .u8 (T.data.toList.getD j 0).toNat)
  bel : Below w.heap.size w X
  sz : w.heap.size + 1 + 1 + 1 + 1 + 1 ≤ X.heap.size
theorem PreK.more {w : World} {p : Nat} {T : ByteArray} {X Y : World} (h : PreK w p T X) (g : Below X.heap.size X Y) : PreK w p T Y := by
  have hs := h.sz
  obtain ⟨cs, t, r, e, h1⟩ := h.h6
  exact ⟨(g.block _ (by omega)).trans h.h2, (g.block _ (by omega)).trans h.h4, (g.block _ (by omega)).trans h.h5, ⟨cs, t, r, (g.block _ (by omega)).trans e, h1⟩, fun j hj => below_cell g (h.by6 j hj), h.bel.trans (g.mono h.bel.size), Nat.le_trans hs g.size⟩
theorem PreK.made (w : World) (p : Nat) (K : Int) (T : ByteArray) : PreK w p T (Lib.bytesWorld ((((w.alloc (.cells #[.pointer (some ⟨p, 0, none⟩)] 92)).alloc (.cells #[.int .i64 K, .string T] 46)).alloc (.cells #[.int .i64 0] 3)).alloc (.cells #[.bool false] 4)) 5 T) := by
  obtain ⟨⟨n1, n2, n3, n4⟩, hs, hb⟩ := four_new w (.cells #[.pointer (some ⟨p, 0, none⟩)] 92) (.cells #[.int .i64 K, .string T] 46) (.cells #[.int .i64 0] 3) (.cells #[.bool false] 4)
  generalize ((((w.alloc (.cells #[.pointer (some ⟨p, 0, none⟩)] 92)).alloc (.cells #[.int .i64 K, .string T] 46)).alloc (.cells #[.int .i64 0] 3)).alloc (.cells #[.bool false] 4)) = W1 at *
  have ho := fun j hj => Lib.bytesWorld_at_old W1 5 T j hj
  have hn := Lib.bytesWorld_at_new W1 5 T
  have hc := fun j hj => Lib.bytesWorld_cell W1 5 T j hj
  rw [hs] at hn hc
  refine ⟨by rw [ho _ (by omega), n1], by rw [ho _ (by omega), n3], by rw [ho _ (by omega), n4], ⟨_, _, _, hn, by decide, by decide⟩, hc, hb.trans ((bw_below W1 5 T).mono hb.size), by rw [Lib.bytesWorld_size]; omega⟩
theorem cap_le (w : World) (n : Nat) (e : TypeId) : n ≤ grownCap w n 0 e := grownCap_ge w n 0 e
/-- Where a round has failed. -/
structure ChX (w0 w : World) (p : Nat) (H : List Pr) (W : World) : Prop where
  pl : ∃ s : Sp, PlanK w0 W p H s.O s.F
  h4 : W.heap[w.heap.size + 1 + 1]? = some (.cells #[.int .i64 0] 3 (0, 0))
  h5 : W.heap[w.heap.size + 1 + 1 + 1]? = some (.cells #[.bool false] 4 (0, 0))
  wr : WrK p w W
section
variable {w0 w W4 A B : World} {p b9 mb : Nat} {S : Nat → Prop} {H : List Pr} {n : Int} {s : Sp} {row : Option Nat}
theorem ChI.own (h : ChI w0 w W4 p b9 S H n s A) (hp : p < w.heap.size) (hcm : w.cell? ⟨p, 1, none⟩ = some (.map (some mb))) (hmb : mb < W4.heap.size) (hw0 : w0.heap.size ≤ W4.heap.size) (hw : w.heap.size ≤ W4.heap.size) (hb : b9 < W4.heap.size) (hS : ∀ i, S i → i < W4.heap.size)
    (hg : A.grownBy B row) (hr : ∀ r, row = some r → W4.heap.size ≤ r ∧ ∃ o : Obj, A.heap[r]? = some o ∧ o.isCells = false) : ChI w0 w W4 p b9 S H n s B := by
  have g : But (fun i => row = some i) A B := ⟨hg.os, hg.tape, hg.output, hg.size, fun i hi hn => hg.block i hi (fun e => hn e.symm)⟩
  have no : ∀ i, i < W4.heap.size → ¬ row = some i := fun i hi e => by have := (hr i e).1; omega
  have h9 := (Array.getElem?_eq_some_iff.1 h.nx).1
  have hsz := h.kp.1
  refine ⟨h.pl.own (by rw [h.wr.one, hcm]) hg (fun r e => ⟨by have := (hr r e).1; omega, by have := (hr r e).1; omega, (hr r e).2⟩), h.kp.trans ⟨hg.size, fun i hi => g.block i (Nat.lt_of_lt_of_le (hS i hi) hsz) (no i (hS i hi))⟩, (g.block b9 h9 (no b9 hb)).trans h.nx, h.wr.later hp g (fun i e => by have := (hr i e).1; omega)⟩
theorem ChX.own (h : ChX w0 w p H A) (hp : p < w.heap.size) (hcm : w.cell? ⟨p, 1, none⟩ = some (.map (some mb))) (hmb : mb < W4.heap.size) (hw0 : w0.heap.size ≤ W4.heap.size) (hw : w.heap.size + 1 + 1 + 1 < W4.heap.size)
    (hg : A.grownBy B row) (hr : ∀ r, row = some r → W4.heap.size ≤ r ∧ ∃ o : Obj, A.heap[r]? = some o ∧ o.isCells = false) : ChX w0 w p H B := by
  have g : But (fun i => row = some i) A B := ⟨hg.os, hg.tape, hg.output, hg.size, fun i hi hn => hg.block i hi (fun e => hn e.symm)⟩
  have no : ∀ i, i < W4.heap.size → ¬ row = some i := fun i hi e => by have := (hr i e).1; omega
  obtain ⟨s, hs⟩ := h.pl
  refine ⟨⟨s, hs.own (by rw [h.wr.one, hcm]) hg (fun r e => ⟨by have := (hr r e).1; omega, by have := (hr r e).1; omega, (hr r e).2⟩)⟩, (g.block _ (Array.getElem?_eq_some_iff.1 h.h4).1 (no _ (by omega))).trans h.h4, (g.block _ (Array.getElem?_eq_some_iff.1 h.h5).1 (no _ (by omega))).trans h.h5, h.wr.later hp g (fun i e => by have := (hr i e).1; omega)⟩
end
theorem ofT_eq {W : World} {i b : Nat} {cs : Array Value} {t : TypeId} (e : i = b) (h : W.heap[b]? = some (.cells cs t (0, 0))) : OfT W t i := ⟨cs, by rw [e]; exact h⟩
theorem cell_of1 {W : World} {b : Nat} {u : Value} {t : TypeId} (h : W.heap[b]? = some (.cells #[u] t (0, 0))) : W.cell? ⟨b, 0, none⟩ = some u ∧ W.frozen? ⟨b, 0, none⟩ = false := ⟨by rw [cell_of_row _ _ _ _ _ _ h]; rfl, frozen_of_row _ _ _ _ _ h⟩
theorem set_of1 {W : World} {b : Nat} {u : Value} {t : TypeId} (h : W.heap[b]? = some (.cells #[u] t (0, 0))) (x : Value) : (W.setCell ⟨b, 0, none⟩ x).heap[b]? = some (.cells #[x] t (0, 0)) := by
  rw [heap_setCell_same W b 0 _ _ _ h]
  rfl
theorem conv_piece (W : World) (T : ByteArray) (b q : Nat) (hb : ∀ j, j < T.size → W.cell? ⟨b, j, none⟩ = some (.int .u8 (T.data.toList.getD j 0).toNat)) : (convert 60 9 (chV b 0 T.size q)).run Tryz.prog W = .ok (.string (txt (pieceL T q))) W := by
  have e : strOfNums ((pieceL T q).map fun c => (c.toNat : Int)) = txt (pieceL T q) := strOf_page ⟨(pieceL T q).toArray⟩
  rw [← e]
  refine run_convert_bytes_arg _ _ _ Tryz.underlying60 Tryz.underlying5 b (0 + q * 120) _ _ _ (by rw [List.length_map, piece_len]) (fun i hi => ?_) _ Tryz.underlying9
  have h1 := hb (q * 120 + i) (by omega)
  have h2 := piece_at T q i hi
  have h3 : i < (pieceL T q).length := by rw [piece_len]; exact hi
  rw [show 0 + q * 120 + i = q * 120 + i by omega, h1, ← h2]
  simp [List.getD, h3]
set_option maxRecDepth 100000 in
set_option maxHeartbeats 8000000 in
theorem kchain_out (w0 w : World) (p : Nat) (H : List Pr) (s : Sp) (K : Int) (T : ByteArray) (h : PlanK w0 w p H s.O s.F) (hT : ¬ T.size ≤ 24) (hT2 : T.size ≤ 900) (hlen : s.len ≤ 1000000) :
    Calls Tryz.prog 47 #[.pointer (some ⟨p, 0, none⟩), .agg #[.int .i64 K, .string T]] w fun e w' => ChainK w0 w' p H s T e ∧ WrK p w w' := by
  refine (callsIn_wide (n := 14)).1 ?_
  have hf1 : Fence.wide.fn 59 := trivial
  have hf2 : Fence.wide.fn 70 := trivial
  have hf3 : Fence.wide.fn 69 := trivial
  have hf4 : Fence.wide.fn 71 := trivial
  have hI : Hid (∀ W, CallsIn Fence.wide 13 Tryz.prog 59 #[.int .i64 (T.size : Int)] W fun e w' => e = .returned (.bool false) ∧ w' = W) := fun W => by
    have := kinline_any (T.size : Int) W
    rw [decide_eq_false (show ¬ (T.size : Int) ≤ 24 by omega)] at this
    exact callsIn_wide.2 this
  have hconv := fun W => Lib.run_convert_string_bytes (P := Tryz.prog) W 9 60 5 T Tryz.underlying9 Tryz.underlying60 Tryz.underlying5
  refine callsIn_of_wp_marks Tryz.func47 rfl trivial ?_ rfl
  simp only [Tryz.ntmps47, List.size_toArray, List.length_cons, List.length_nil, Nat.reduceAdd, Nat.reduceSub, Array.replicate_succ, Array.replicate_zero, List.push_toArray, List.append_toArray, List.nil_append, List.cons_append]
  gi_wp2_with (first
    | (gi_at_call 59; refine (hI.out _).mono ?_; rintro e w1 ⟨rfl, rfl⟩)
    | (gi_at_call 70; refine (chunk_in _ _ _ _ _).mono ?_; rintro e w1 ⟨rfl, rfl⟩; have HX := PreK.made w p K T; have HC := cap_le ((((w.alloc (.cells #[.pointer (some ⟨p, 0, none⟩)] 92)).alloc (.cells #[.int .i64 K, .string T] 46)).alloc (.cells #[.int .i64 0] 3)).alloc (.cells #[.bool false] 4)) T.size 5; generalize grownCap ((((w.alloc (.cells #[.pointer (some ⟨p, 0, none⟩)] 92)).alloc (.cells #[.int .i64 K, .string T] 46)).alloc (.cells #[.int .i64 0] 3)).alloc (.cells #[.bool false] 4)) T.size 0 5 = C at *; generalize Lib.bytesWorld ((((w.alloc (.cells #[.pointer (some ⟨p, 0, none⟩)] 92)).alloc (.cells #[.int .i64 K, .string T] 46)).alloc (.cells #[.int .i64 0] 3)).alloc (.cells #[.bool false] 4)) 5 T = X at *)
    | (gi_at_call 69; refine (collect_in _ (by omega) X.heap.size (X.heap.size + 1) (w.heap.size + 1 + 1 + 1 + 1) 0 T.size C _ (by omega) (by omega) HC (below_cell ((Grew.refl _).alloc _ _).below (new_at X [.slice (some ⟨w.heap.size + 1 + 1 + 1 + 1, 0, none⟩) T.size C] 60 X.heap.size rfl 0 _ rfl)) (new_at (X.alloc (.cells #[.slice (some ⟨w.heap.size + 1 + 1 + 1 + 1, 0, none⟩) T.size C] 60)) [.int .i64 120] 3 (X.heap.size + 1) (World.size_alloc _ _).symm 0 _ rfl)).mono ?_; rintro e w2 ⟨v, rfl, hrow, hb2⟩; have HY := HX.more (on_two (((Grew.refl X).alloc _ _).alloc _ _).below hb2); clear hb2 HX; obtain ⟨a, cp, rfl, hrd⟩ := own_reads hrow)
    | (gi_at_call 71; refine (backv_in Fence.wide _ trivial rfl _ _ _ _).mono ?_; rintro e w4 ⟨rfl, rfl⟩)
    | fail)
  clear hconv hI hf1 hf2 hf3 hf4 HC
  have hW4 := HY.more (((Grew.refl w2).alloc (#[.int .i64 0] : Array Value) 3).alloc (#[.slice a (cuts T.size) cp] : Array Value) 149).below
  have nx0 : ((w2.alloc (.cells #[.int .i64 0] 3)).alloc (.cells #[.slice a (cuts T.size) cp] 149)).heap[w2.heap.size]? = some (.cells #[.int .i64 0] 3 (0, 0)) := (Below.heap_alloc _ _ _ (by simp)).trans (heap_alloc_new w2 _)
  have hs0 : ((w2.alloc (.cells #[.int .i64 0] 3)).alloc (.cells #[.slice a (cuts T.size) cp] 149)).heap[w2.heap.size + 1]? = some (.cells #[.slice a (cuts T.size) cp] 149 (0, 0)) := by
    have := heap_alloc_new (w2.alloc (.cells #[.int .i64 0] 3)) (.cells #[.slice a (cuts T.size) cp] 149)
    rwa [World.size_alloc] at this
  have hrow4 := row_below hrow (((Grew.refl w2).alloc (#[.int .i64 0] : Array Value) 3).alloc (#[.slice a (cuts T.size) cp] : Array Value) 149).below
  have hsz4 : ((w2.alloc (.cells #[.int .i64 0] 3)).alloc (.cells #[.slice a (cuts T.size) cp] 149)).heap.size = w2.heap.size + 1 + 1 := by simp
  have hw2s := HY.sz
  generalize hb9 : w2.heap.size = b9 at *
  generalize (w2.alloc (.cells #[.int .i64 0] 3)).alloc (.cells #[.slice a (cuts T.size) cp] 149) = W4 at *
  clear hrow hsz4 HY
  obtain ⟨m, hm⟩ : ∃ m, cuts T.size = m := ⟨_, rfl⟩
  have hm0 : 0 < m := by rw [← hm]; unfold cuts; omega
  have hm9 : m ≤ 9 := by rw [← hm]; unfold cuts; omega
  have hnp : npc T = m := by rw [← hm]; rfl
  rw [hm] at hrow4 hrd hs0 ⊢
  have hb4 := hW4.bel
  have hls := hW4.bel.size
  have hs4 := (Array.getElem?_eq_some_iff.1 hs0).1
  have hp := h.lt
  have h4 := h.below hb4
  obtain ⟨mb, ao, co, af, cf, hpk⟩ := id h
  have hcm := hpk.v.c1
  have hmb := hpk.m.lt
  have hw0 := hpk.bel.size
  clear hpk
  obtain ⟨rb, ro, ha, hrb9, hones⟩ : ∃ rb ro, a = some ⟨rb, ro, none⟩ ∧ rb ≠ b9 ∧ VarK W4 rb ∧ OnesAt (fun q : Nat => chV (w.heap.size + 1 + 1 + 1 + 1) 0 T.size q) W4 a (fun j => j) m := by
    rcases hrow4.2 with ⟨q, q0⟩ | ⟨g, c, cur, q, _, hg, _⟩
    · omega
    · simp only [Value.slice.injEq] at q
      refine ⟨g, 0, q.1, fun e9 => ?_, ⟨_, _, _, hg, by decide, by decide⟩, .inr ⟨g, 0, q.1, fun j hj => ?_⟩⟩
      · rw [e9, nx0] at hg
        simp only [Option.some.injEq, Obj.cells.injEq] at hg
        exact absurd hg.2.1 (by decide)
      rw [q.1] at hrow4
      have e := hrow4.cellAt j (show j < m * 1 by omega)
      rw [Nat.zero_add, e]
      simp [uptoB, hj]
  obtain ⟨hrb, hones⟩ := hones
  obtain ⟨S, hS⟩ : ∃ S : Nat → Prop, S = fun i => i = w.heap.size ∨ i = w.heap.size + 1 + 1 ∨ i = w.heap.size + 1 + 1 + 1 ∨ i = w.heap.size + 1 + 1 + 1 + 1 ∨ i = b9 + 1 ∨ i = rb := ⟨_, rfl⟩
  have hSv : ∀ i, S i → VarK W4 i := fun i e => by
    rw [hS] at e
    rcases e with rfl | rfl | rfl | rfl | rfl | rfl
    · exact ⟨_, _, _, hW4.h2, by decide, by decide⟩
    · exact ⟨_, _, _, hW4.h4, by decide, by decide⟩
    · exact ⟨_, _, _, hW4.h5, by decide, by decide⟩
    · exact hW4.h6
    · exact ⟨_, _, _, hs0, by decide, by decide⟩
    · exact hrb
  have hSl : ∀ i, S i → i < W4.heap.size := fun i e => by
    obtain ⟨cs, t, r, e2, _⟩ := hSv i e
    exact (Array.getElem?_eq_some_iff.1 e2).1
  have hS9 : ∀ i, S i → i ≠ b9 := fun i e => by
    rw [hS] at e
    rcases e with rfl | rfl | rfl | rfl | rfl | rfl <;> first | omega | exact hrb9
  have s2 : S w.heap.size := by rw [hS]; exact .inl rfl
  have s4 : S (w.heap.size + 1 + 1) := by rw [hS]; exact .inr (.inl rfl)
  have s5 : S (w.heap.size + 1 + 1 + 1) := by rw [hS]; exact .inr (.inr (.inl rfl))
  have s6 : S (w.heap.size + 1 + 1 + 1 + 1) := by rw [hS]; exact .inr (.inr (.inr (.inl rfl)))
  have ss : S (b9 + 1) := by rw [hS]; exact .inr (.inr (.inr (.inr (.inl rfl))))
  have hSb : ∀ bb off, 0 < m → a = some ⟨bb, off, none⟩ → S bb := fun bb off _ e => by
    rw [ha] at e
    simp only [Option.some.injEq, Addr.mk.injEq] at e
    rw [hS, ← e.1]
    exact .inr (.inr (.inr (.inr (.inr rfl))))
  clear hS hrow4 hrd
  replace ha : Hid _ := ha
  have I0 : ChI w0 w W4 p b9 S H 0 s W4 := ⟨h4, KeepB.refl _ _, nx0, (WrK.refl p w).later hp (Go.Proofs.YtbkkhafckkndfaaGreat.Below.but hb4 (S := fun _ => False)) (fun _ e => e.elim)⟩
  have hgoC : goC H T (npc T) 0 s = goD H T (bk2 m m) (0, s) := by rw [hnp, goD_is]
  refine wpIn_rangeFunc_ownG rfl (by omega) (gf := 88) (lb := #[.pointer (some ⟨b9 + 1, 0, none⟩)]) rfl trivial (enters_of Tryz.func88 (by kernel_rfl) rfl)
    (backv_stops (fun q : Nat => chV (w.heap.size + 1 + 1 + 1 + 1) 0 T.size q) Fence.wide 13 trivial rfl (by omega) (b9 + 1) a cp (fun j => j) m S hSb ss (by omega) W4 (cell_of1 hs0).1 hones) (fun h g => h.trans g) (fun W l o o' hl h _ _ => KeepB.put hSl W l o o' hl h) (Below.refl _ _) (fun _ => rfl)
    (fun pre W => ∃ n s', goD H T (pre.map (·.2)) (0, s) = some (n, s') ∧ ChI w0 w W4 p b9 S H n s' W)
    (fun c pre W => c = .ret ∧ goD H T (pre.map (·.2)) (0, s) = none ∧ ChX w0 w p H W)
    (fun s A B row hs hg hr => by
      obtain ⟨n, s', h1, h2⟩ := hs
      exact ⟨n, s', h1, h2.own hp hcm (by omega) (by omega) (by omega) (by omega) hSl hg hr⟩)
    (fun c s A B row hs hg hr => ⟨hs.1, hs.2.1, hs.2.2.own (W4 := W4) hp hcm (by omega) (by omega) (by omega) hg hr⟩)
    ⟨0, s, rfl, I0⟩
    (fun x => { tmps := #[.pointer (some ⟨p, 0, none⟩), .agg #[.int .i64 K, .string T], .pointer (some ⟨w.heap.size, 0, none⟩), .pointer (some ⟨w.heap.size + 1, 0, none⟩), .pointer (some ⟨w.heap.size + 1 + 1, 0, none⟩), .pointer (some ⟨w.heap.size + 1 + 1 + 1, 0, none⟩), .slice a m cp, .pointer (some ⟨b9, 0, none⟩), undef, chV (w.heap.size + 1 + 1 + 1 + 1) 0 T.size x.2, undef, undef, undef, undef, .pointer (some ⟨w.heap.size + 1, 1, none⟩), .string T, .int .i64 (T.size : Int), .bool false, .pointer (some ⟨w.heap.size + 1, 1, none⟩), .string T, .slice (some ⟨w.heap.size + 1 + 1 + 1 + 1, 0, none⟩) T.size C, .func (.func 87) #[] #[.pointer (some ⟨X.heap.size, 0, none⟩), .pointer (some ⟨X.heap.size + 1, 0, none⟩)], .slice a m cp, .slice a m cp, .func (.func 88) #[] #[.pointer (some ⟨b9 + 1, 0, none⟩)], .int .i64 (x.1 : Int), chV (w.heap.size + 1 + 1 + 1 + 1) 0 T.size x.2, undef, undef, undef, undef, undef, undef, undef, undef, undef, undef, undef, undef, undef, undef, undef, undef, undef], defers := [] })
    ?assign ?body ?done ?stop
  case assign =>
    rintro l ⟨xi, xq⟩ W K hK
    unfold encV
    dsimp only
    gi_wp2
    exact hK
  case body =>
    rintro l pre ⟨xi, q⟩ W ⟨n, s', hgo, hC⟩ hlt
    have h1n : 1 ≤ 14 - 1 - 1 := by omega
    have hf1 : Fence.wide.fn 72 := trivial
    have hf2 : Fence.wide.fn 49 := trivial
    have c2 := (cell_of1 ((hC.kp.2 _ s2).trans hW4.h2)).1
    obtain ⟨c9, z9⟩ := cell_of1 hC.nx
    obtain ⟨c4, z4⟩ := cell_of1 ((hC.kp.2 _ s4).trans hW4.h4)
    obtain ⟨c5, z5⟩ := cell_of1 ((hC.kp.2 _ s5).trans hW4.h5)
    have by6 : ∀ j, j < T.size → W.cell? ⟨w.heap.size + 1 + 1 + 1 + 1, j, none⟩ = some (.int .u8 (T.data.toList.getD j 0).toNat) := fun j hj => by rw [cell_of_heap (hC.kp.2 _ s6)]; exact hW4.by6 j hj
    have hcv := conv_piece W T _ q by6
    have hsl := goD_len _ _ _ hgo
    dsimp only at hsl hcv ⊢
    obtain ⟨sl, hsv⟩ : ∃ sl : List UInt8, pieceL T q = sl := ⟨_, rfl⟩
    rw [hsv] at hcv
    obtain ⟨o1, d1, hch⟩ : ∃ o1 d1, chV (w.heap.size + 1 + 1 + 1 + 1) 0 T.size q = .slice (some ⟨w.heap.size + 1 + 1 + 1 + 1, o1, none⟩) d1 d1 := ⟨_, _, rfl⟩
    rw [hch] at hcv ⊢
    have hO : s'.O.length ≤ 1000000 := by have : s'.len = s'.O.length + s'.F.length := rfl; omega
    have hF : s'.F.length ≤ 1000000 := by have : s'.len = s'.O.length + s'.F.length := rfl; omega
    have hnext : Hid (∀ n2 s2, putS H s' (chainV n sl) = some (n2, s2) → goD H T ((pre ++ [(xi, q)]).map (·.2)) (0, s) = some (n2, s2)) := fun n2 s2 e => by
      rw [List.map_append, List.map_cons, List.map_nil, goD_snoc, hgo, Option.bind_some, hsv]
      exact e
    have hnone : Hid (putS H s' (chainV n sl) = none → goD H T ((pre ++ [(xi, q)]).map (·.2)) (0, s) = none) := fun e => by
      rw [List.map_append, List.map_cons, List.map_nil, goD_snoc, hgo, Option.bind_some, hsv]
      exact e
    replace hsv : Hid _ := hsv
    replace hch : Hid _ := hch
    replace hgo : Hid _ := hgo
    have hPut : Hid (∀ W1, Below W.heap.size W W1 → CallsIn Fence.wide 11 Tryz.prog 49 #[.pointer (some ⟨p, 0, none⟩), .string (chainV n sl)] W1 fun e w' => PutK w0 w' p H s'.O s'.F (chainV n sl) e ∧ KeepB S W w' ∧ w'.heap[b9]? = some (.cells #[.int .i64 n] 3 (0, 0)) ∧ WrK p w w' ∧ KeepsFrom W4.heap.size W w') := fun W1 g => callsIn_wide.2 ((kplace_any w0 W1 p H s'.O s'.F (chainV n sl) (hC.pl.below g) hO hF).mono fun e w' he => ⟨he.1, hC.mid hp hcm (by omega) (by omega) hSv g he.2⟩)
    have hCh : Hid (CallsIn Fence.wide 11 Tryz.prog 72 #[.int .i64 n, .string (txt sl)] W fun e w' => ∃ ok, e = .returned (.tuple #[.string (chainV n sl), .bool ok]) ∧ Below W.heap.size W w') := callsIn_wide.2 ((schain_any n sl W).mono fun e w' he => ⟨_, he.1, he.2⟩)
    cases hps : putS H s' (chainV n sl) with
    | some r =>
      obtain ⟨n2, s3⟩ := r
      have hN : Hid _ := hnext.out _ _ hps
      replace hPut : Hid (∀ W1, Below W.heap.size W W1 → CallsIn Fence.wide 11 Tryz.prog 49 #[.pointer (some ⟨p, 0, none⟩), .string (chainV n sl)] W1 fun e w' => (e = .returned (.tuple #[.int .i64 n2, .bool true]) ∧ PlanK w0 w' p H s3.O s3.F) ∧ KeepB S W w' ∧ w'.heap[b9]? = some (.cells #[.int .i64 n] 3 (0, 0)) ∧ WrK p w w' ∧ KeepsFrom W4.heap.size W w') := fun W1 g => (hPut.out W1 g).mono fun e w' he => ⟨putk_yes hps he.1, he.2⟩
      clear hnone hnext hps
      gi_wp2_with (first
        | (gi_at_call 72; refine (CallsIn.inRound l hCh.out).mono ?_; rintro e w1 ⟨ok, rfl, g1⟩; have c2 := below_cell g1 c2)
        | (gi_at_call 49; refine (CallsIn.inRound l (hPut.out _ g1)).mono ?_; rintro e w2 ⟨⟨rfl, hpl⟩, k1, k2, k3, k4⟩; obtain ⟨y9, x9⟩ := cell_of1 k2)
        | fail)
      have hB : But (fun i => i = b9) w2 (w2.setCell ⟨b9, 0, none⟩ (.int .i64 n2)) := (But.refl (fun i => i = b9) w2).set (b := b9) rfl 0 none _
      have hvb : VarK w2 b9 := ⟨_, _, _, k2, by decide, by decide⟩
      refine ⟨⟨Nat.le_trans k4.size hB.size, fun k o hk e ho => ?_⟩, k1.trans (KeepB.but hB fun i hi => ?_), n2, s3, hN.out, ?_, hC.kp.trans (k1.trans (KeepB.but hB fun i hi => ?_)), set_of1 k2 _, k3.later hp hB (fun i e => by omega)⟩
      · have e2 := k4.same k o hk e ho
        exact (hB.block k (Array.getElem?_eq_some_iff.1 e2).1 (fun e3 => by omega)).trans e2
      · exact ⟨Nat.lt_of_lt_of_le (hSl i hi) (Nat.le_trans hC.kp.1 k1.1), hS9 i hi⟩
      · exact hpl.but hB (fun i e => by omega) (fun i e _ => ⟨3, ofT_eq e k2, by decide, by decide⟩)
      · exact ⟨Nat.lt_of_lt_of_le (hSl i hi) (Nat.le_trans hC.kp.1 k1.1), hS9 i hi⟩
    | none =>
      have hN : Hid _ := hnone.out hps
      replace hPut : Hid (∀ W1, Below W.heap.size W W1 → CallsIn Fence.wide 11 Tryz.prog 49 #[.pointer (some ⟨p, 0, none⟩), .string (chainV n sl)] W1 fun e w' => (e = .returned (.tuple #[.int .i64 0, .bool false]) ∧ PlanK w0 w' p H s'.O s'.F) ∧ KeepB S W w' ∧ w'.heap[b9]? = some (.cells #[.int .i64 n] 3 (0, 0)) ∧ WrK p w w' ∧ KeepsFrom W4.heap.size W w') := fun W1 g => (hPut.out W1 g).mono fun e w' he => ⟨putk_no hps he.1, he.2⟩
      clear hnone hnext hps
      gi_wp2_with (first
        | (gi_at_call 72; refine (CallsIn.inRound l hCh.out).mono ?_; rintro e w1 ⟨ok, rfl, g1⟩; have c2 := below_cell g1 c2)
        | (gi_at_call 49; refine (CallsIn.inRound l (hPut.out _ g1)).mono ?_; rintro e w2 ⟨⟨rfl, hpl⟩, k1, k2, k3, k4⟩; obtain ⟨y4, x4⟩ := cell_of1 ((k1.2 _ s4).trans ((hC.kp.2 _ s4).trans hW4.h4)); obtain ⟨y5, x5⟩ := cell_of1 ((k1.2 _ s5).trans ((hC.kp.2 _ s5).trans hW4.h5)))
        | fail)
      have hB : But (fun i => i = w.heap.size + 1 + 1 ∨ i = w.heap.size + 1 + 1 + 1) w2 ((w2.setCell ⟨w.heap.size + 1 + 1, 0, none⟩ (.int .i64 0)).setCell ⟨w.heap.size + 1 + 1 + 1, 0, none⟩ (.bool false)) := ((But.refl (fun i => i = w.heap.size + 1 + 1 ∨ i = w.heap.size + 1 + 1 + 1) w2).set (b := w.heap.size + 1 + 1) (.inl rfl) 0 none _).set (b := w.heap.size + 1 + 1 + 1) (.inr rfl) 0 none _
      have v4 := (k1.2 _ s4).trans ((hC.kp.2 _ s4).trans hW4.h4)
      have v5 := (k1.2 _ s5).trans ((hC.kp.2 _ s5).trans hW4.h5)
      have nb : ∀ i, (i = w.heap.size + 1 + 1 ∨ i = w.heap.size + 1 + 1 + 1) → w.heap.size ≤ i := fun i e => by rcases e with e | e <;> omega
      refine ⟨⟨Nat.le_trans k4.size hB.size, fun k o hk e ho => ?_⟩, rfl, hN.out, ⟨s', hpl.but hB (fun i e => by have := nb i e; omega) (fun i e _ => ?_)⟩, ?_, ?_, k3.later hp hB nb⟩
      · have e2 := k4.same k o hk e ho
        exact (hB.block k (Array.getElem?_eq_some_iff.1 e2).1 (fun e3 => by rcases e3 with e3 | e3 <;> omega)).trans e2
      · rcases e with e | e
        · exact ⟨3, ofT_eq e v4, by decide, by decide⟩
        · exact ⟨4, ofT_eq e v5, by decide, by decide⟩
      · exact (Below.heap_setCell _ _ _ _ (by simp)).trans (set_of1 v4 _)
      · exact set_of1 ((Below.heap_setCell _ _ _ _ (by simp)).trans v5) _
  case done =>
    rintro D ys W hD rfl ⟨n, s', hgo, hC⟩ hK
    obtain ⟨c9, z9⟩ := cell_of1 hC.nx
    have v4 := (hC.kp.2 _ s4).trans hW4.h4
    have v5 := (hC.kp.2 _ s5).trans hW4.h5
    obtain ⟨c4, z4⟩ := cell_of1 v4
    obtain ⟨c5, z5⟩ := cell_of1 v5
    have hgo2 : goC H T (npc T) 0 s = some (n, s') := by rw [hgoC]; exact hgo
    gi_wp2
    have hB : But (fun i => i = w.heap.size + 1 + 1 ∨ i = w.heap.size + 1 + 1 + 1) W ((W.setCell ⟨w.heap.size + 1 + 1, 0, none⟩ (.int .i64 n)).setCell ⟨w.heap.size + 1 + 1 + 1, 0, none⟩ (.bool true)) := ((But.refl (fun i => i = w.heap.size + 1 + 1 ∨ i = w.heap.size + 1 + 1 + 1) W).set (b := w.heap.size + 1 + 1) (.inl rfl) 0 none _).set (b := w.heap.size + 1 + 1 + 1) (.inr rfl) 0 none _
    have nb : ∀ i, (i = w.heap.size + 1 + 1 ∨ i = w.heap.size + 1 + 1 + 1) → w.heap.size ≤ i := fun i e => by rcases e with e | e <;> omega
    have u4 := (Below.heap_setCell (W.setCell ⟨w.heap.size + 1 + 1, 0, none⟩ (.int .i64 n)) ⟨w.heap.size + 1 + 1 + 1, 0, none⟩ (.bool true) (w.heap.size + 1 + 1) (by simp)).trans (set_of1 v4 (.int .i64 n))
    have u5 := set_of1 ((Below.heap_setCell W ⟨w.heap.size + 1 + 1, 0, none⟩ (.int .i64 n) (w.heap.size + 1 + 1 + 1) (by simp)).trans v5) (.bool true)
    have hpl := hC.pl.but hB (fun i e => by have := nb i e; omega) (fun i e _ => by
      rcases e with e | e
      · exact ⟨3, ofT_eq e v4, by decide, by decide⟩
      · exact ⟨4, ofT_eq e v5, by decide, by decide⟩)
    have hwr := hC.wr.later hp hB nb
    have hK2 := (hB.block D (Array.getElem?_eq_some_iff.1 hK).1 (fun e => by rcases e with e | e <;> omega)).trans hK
    generalize (W.setCell ⟨w.heap.size + 1 + 1, 0, none⟩ (.int .i64 n)).setCell ⟨w.heap.size + 1 + 1 + 1, 0, none⟩ (.bool true) = W5 at *
    have hg := grownBy_putObj' W5 D (.deferred none)
    have hB2 : But (fun i => i = D) W5 (W5.putObj D (.deferred none)) := ⟨hg.os, hg.tape, hg.output, hg.size, fun i hi hn => hg.block i hi (fun e => hn (by simpa using e))⟩
    obtain ⟨x4, _⟩ := cell_of1 ((hB2.block _ (Array.getElem?_eq_some_iff.1 u4).1 (by omega)).trans u4)
    obtain ⟨x5, _⟩ := cell_of1 ((hB2.block _ (Array.getElem?_eq_some_iff.1 u5).1 (by omega)).trans u5)
    have hpl2 := hpl.own (mb := mb) (by rw [hwr.one, hcm]) hg (fun r e => by cases e; exact ⟨by omega, by omega, _, hK2, rfl⟩)
    refine ⟨by simp, .inl ⟨_, _, rfl, run_takeDeferred hK2, ?_⟩⟩
    refine ⟨.tuple #[.int .i64 n, .bool true], by simp [results, Tryz.results47, go_sem, x4, x5], ?_, hwr.later hp hB2 (fun i e => by omega)⟩
    unfold ChainK
    rw [if_neg hT, hgo2]
    exact ⟨rfl, hpl2⟩
  case stop =>
    rintro D c pre W hD ⟨k, hk, rfl⟩ ⟨rfl, hgo, hX⟩ hK
    have hgo2 : goC H T (npc T) 0 s = none := by
      have := goD_out H T m (0, s) k hk hgo
      rw [hnp]
      exact this
    gi_wp2
    have hg := grownBy_putObj' W D (.deferred none)
    have hB2 : But (fun i => i = D) W (W.putObj D (.deferred none)) := ⟨hg.os, hg.tape, hg.output, hg.size, fun i hi hn => hg.block i hi (fun e => hn (by simpa using e))⟩
    obtain ⟨x4, _⟩ := cell_of1 ((hB2.block _ (Array.getElem?_eq_some_iff.1 hX.h4).1 (by omega)).trans hX.h4)
    obtain ⟨x5, _⟩ := cell_of1 ((hB2.block _ (Array.getElem?_eq_some_iff.1 hX.h5).1 (by omega)).trans hX.h5)
    have hX2 := hX.own (W4 := W4) (mb := mb) hp hcm (by omega) (by omega) (by omega) hg (fun r e => by cases e; exact ⟨hD, _, hK, rfl⟩)
    refine ⟨by simp, .inl ⟨_, _, rfl, run_takeDeferred hK, ?_⟩⟩
    refine ⟨.tuple #[.int .i64 0, .bool false], by simp [results, Tryz.results47, go_sem, x4, x5], ?_, hX2.wr⟩
    unfold ChainK
    rw [if_neg hT, hgo2]
    exact ⟨rfl, hX2.pl⟩
theorem kchain_any (w0 w : World) (p : Nat) (H : List Pr) (s : Sp) (K : Int) (T : ByteArray) (h : PlanK w0 w p H s.O s.F) (hT : T.size ≤ 900) (hlen : s.len ≤ 1000000) :
    Calls Tryz.prog 47 #[.pointer (some ⟨p, 0, none⟩), .agg #[.int .i64 K, .string T]] w fun e w' => ChainK w0 w' p H s T e ∧ WrK p w w' := by
  by_cases h0 : T.size ≤ 24
  · exact kchain_in w0 w p H s K T h h0
  · exact kchain_out w0 w p H s K T h h0 hT hlen
end Go.Proofs.YtbkkhafckkndfaaGreat

namespace Go.Proofs.YtbkkhafckkndfaaGreat
open Go Go.RowKit

/-- All pages may be. -/
def PgsIn (H : List Pr) (s : Sp) : Prop := (∀ x ∈ H, pageB x.n = true) ∧ (∀ x ∈ s.O, pageB x.n = true) ∧ ∀ n ∈ s.F, pageB n = true
theorem find_mem {L : List Pr} {b : ByteArray} {n : Int} (h : findW L b = some n) : ∃ x ∈ L, x.n = n := by
  unfold findW at h
  cases e : L.find? fun x => decide (x.b = b) with
  | none => rw [e] at h; cases h
  | some x =>
    rw [e] at h
    simp at h
    exact ⟨x, List.mem_of_find?_eq_some e, h⟩
theorem pgs_put {H : List Pr} {s s' : Sp} {b : ByteArray} {n : Int} (h : PgsIn H s) (hp : putS H s b = some (n, s')) : pageB n = true ∧ PgsIn H s' := by
  unfold putS putW at hp
  cases e1 : findW H b with
  | some m =>
    rw [e1] at hp
    simp only [Option.map_some, Option.some.injEq, Prod.mk.injEq] at hp
    obtain ⟨x, hx, e⟩ := find_mem e1
    obtain ⟨rfl, rfl⟩ := hp
    exact ⟨e ▸ h.1 x hx, h⟩
  | none =>
    rw [e1] at hp
    cases e2 : findW s.O b with
    | some m =>
      rw [e2] at hp
      simp only [Option.map_some, Option.some.injEq, Prod.mk.injEq] at hp
      obtain ⟨x, hx, e⟩ := find_mem e2
      obtain ⟨rfl, rfl⟩ := hp
      exact ⟨e ▸ h.2.1 x hx, h⟩
    | none =>
      rw [e2] at hp
      cases e3 : s.F with
      | nil => rw [e3] at hp; cases hp
      | cons m F =>
        rw [e3] at hp
        simp only [Option.map_some, Option.some.injEq, Prod.mk.injEq] at hp
        obtain ⟨rfl, rfl⟩ := hp
        have hm := h.2.2 m (by rw [e3]; simp)
        refine ⟨hm, h.1, fun x hx => ?_, fun k hk => h.2.2 k (by rw [e3]; simp [hk])⟩
        rcases List.mem_append.1 hx with hx | hx
        · exact h.2.1 x hx
        · simp at hx
          rw [hx]
          exact hm
theorem pgs_goC {H : List Pr} {b : ByteArray} : ∀ (k : Nat) (next : Int) (s s' : Sp) (n : Int), PgsIn H s → goC H b (k + 1) next s = some (n, s') → pageB n = true ∧ PgsIn H s' := by
  intro k
  induction k with
  | zero =>
    intro next s s' n h hg
    rw [goC] at hg
    cases e : putS H s (chainV next (pieceL b 0)) with
    | none => rw [e] at hg; cases hg
    | some x =>
      rw [e] at hg
      obtain ⟨m, s2⟩ := x
      simp only [goC, Option.some.injEq, Prod.mk.injEq] at hg
      obtain ⟨rfl, rfl⟩ := hg
      exact pgs_put h e
  | succ k ih =>
    intro next s s' n h hg
    rw [goC] at hg
    cases e : putS H s (chainV next (pieceL b (k + 1))) with
    | none => rw [e] at hg; cases hg
    | some x =>
      rw [e] at hg
      obtain ⟨m, s2⟩ := x
      exact ih m s2 s' n (pgs_put h e).2 hg
theorem chain_no {w0 w' : World} {p : Nat} {H : List Pr} {s : Sp} {C : List Ce} {K : Int} {T : ByteArray} {e : Ending} (h : stepR H (C, s) ⟨K, T⟩ = none) (hc : ChainK w0 w' p H s T e) : e = .returned (.tuple #[.int .i64 0, .bool false]) ∧ ∃ s' : Sp, PlanK w0 w' p H s'.O s'.F := by
  unfold stepR at h
  unfold ChainK at hc
  dsimp only at h
  by_cases hz : T.size ≤ 24
  · rw [if_pos hz] at h; cases h
  · rw [if_neg hz] at h hc
    cases e1 : goC H T (npc T) 0 s with
    | none => rw [e1] at hc; exact hc
    | some x => rw [e1] at h; cases h
theorem chain_yes {w0 w' : World} {p : Nat} {H : List Pr} {s s' : Sp} {C C' : List Ce} {K : Int} {T : ByteArray} {e : Ending} (h : stepR H (C, s) ⟨K, T⟩ = some (C', s')) (hp : PgsIn H s) (hc : ChainK w0 w' p H s T e) : ∃ n, e = .returned (.tuple #[.int .i64 n, .bool true]) ∧ PlanK w0 w' p H s'.O s'.F ∧ C' = C ++ [ceOf ⟨K, T⟩ n] ∧ (∃ q, pageB q = true ∧ ceOf ⟨K, T⟩ n = ceOf ⟨K, T⟩ q) ∧ PgsIn H s' := by
  unfold stepR at h
  unfold ChainK at hc
  dsimp only at h
  by_cases hz : T.size ≤ 24
  · rw [if_pos hz] at h hc
    simp only [Option.some.injEq, Prod.mk.injEq] at h
    obtain ⟨rfl, rfl⟩ := h
    refine ⟨0, hc.1, hc.2, by unfold ceOf; rw [if_pos hz], ⟨2, by decide, by unfold ceOf; rw [if_pos hz, if_pos hz]⟩, hp⟩
  · rw [if_neg hz] at h hc
    cases e1 : goC H T (npc T) 0 s with
    | none => rw [e1] at h; cases h
    | some x =>
      rw [e1] at h hc
      obtain ⟨n, s2⟩ := x
      simp only [Option.map_some, Option.some.injEq, Prod.mk.injEq] at h
      obtain ⟨rfl, rfl⟩ := h
      obtain ⟨q1, q2⟩ := pgs_goC _ _ _ _ _ hp e1
      exact ⟨n, hc.1, hc.2, by unfold ceOf; rw [if_neg hz], ⟨n, q1, rfl⟩, q2⟩
theorem stepR_len {H : List Pr} {s s' : Sp} {C C' : List Ce} {x : Pr} (h : stepR H (C, s) x = some (C', s')) : s'.len = s.len := by
  unfold stepR at h
  dsimp only at h
  by_cases hz : x.b.size ≤ 24
  · rw [if_pos hz] at h
    simp only [Option.some.injEq, Prod.mk.injEq] at h
    rw [h.2]
  · rw [if_neg hz] at h
    cases e1 : goC H x.b (npc x.b) 0 s with
    | none => rw [e1] at h; cases h
    | some y =>
      rw [e1] at h
      obtain ⟨n, s2⟩ := y
      simp only [Option.map_some, Option.some.injEq, Prod.mk.injEq] at h
      rw [← h.2]
      have := goD_len (H := H) (T := x.b) (bk2 (npc x.b) (npc x.b)) (0, s) (n, s2) (by rw [goD_is]; exact e1)
      exact this
theorem planR_parts {L H : List Pr} {F : List Int} {C : List Ce} {s : Sp} (h : goR H L ([], ⟨[], F⟩) = some (C, s)) : planR L H F = (goP H (partsL C) ([], s)).bind fun r => (putS H r.2 (idxV r.1)).map fun x => (x.2.O, x.1) := by
  rw [planR_of h, goL_parts]
  rfl
theorem planR_none {L H : List Pr} {F : List Int} (h : goR H L ([], ⟨[], F⟩) = none) : planR L H F = none := by
  unfold planR
  rw [h]
theorem parts_pos {C : List Ce} {i : Nat} (h : i < (partsL C).length) : 0 < ((partsL C).getD i []).length ∧ ((partsL C).getD i []).length ≤ C.length := by
  have e : (partsL C).getD i [] = (partsL C)[i] := by simp [List.getD, h]
  rw [e]
  exact cutG_sub C C.length _ (List.getElem_mem h)
/-- What tree answers. -/
def TreeK (w0 w' : World) (p : Nat) (L H : List Pr) (F : List Int) (e : Ending) : Prop :=
  match planR L H F with
  | some (O, root) => e = .returned (.tuple #[.int .i64 root, .bool true]) ∧ ∃ F', PlanK w0 w' p H O F'
  | none => e = .returned (.tuple #[.int .i64 0, .bool false]) ∧ Below w0.heap.size w0 w'
theorem tree_no {w0 w' : World} {p : Nat} {L H : List Pr} {F : List Int} (h : planR L H F = none) (g : Below w0.heap.size w0 w') : TreeK w0 w' p L H F (.returned (.tuple #[.int .i64 0, .bool false])) := by
  unfold TreeK
  rw [h]
  exact ⟨rfl, g⟩
theorem PlanK.bel {w0 w : World} {p : Nat} {H O : List Pr} {F : List Int} (h : PlanK w0 w p H O F) : Below w0.heap.size w0 w := by
  obtain ⟨mb, ao, co, af, cf, h⟩ := h
  exact h.bel
/-- What place and chain leave of blocks of other types. -/
theorem WrK.keep {w0 W W' : World} {p i : Nat} {H O : List Pr} {F : List Int} (h : PlanK w0 W p H O F) (g : WrK p W W') (v : VarK W i) : W'.heap[i]? = W.heap[i]? := by
  have hi : i < W.heap.size := by
    obtain ⟨cs, t, r, e, _⟩ := v
    exact (Array.getElem?_eq_some_iff.1 e).1
  exact g.but.block i hi (v.no h)
theorem WrK.row {w0 W W' : World} {p : Nat} {H O : List Pr} {F : List Int} {B n k : Nat} {E : TypeId} {v : Value} {xs : List Value} (h : PlanK w0 W p H O F) (g : WrK p W W') (r : W.ownsRow B E k v n xs) (h1 : E ≠ 49) (h2 : E ≠ 98) : W'.ownsRow B E k v n xs :=
  row_but r g.but fun i e s => by
    obtain ⟨cs, e2⟩ := row_ofT r e
    exact VarK.no h ⟨cs, E, _, e2, h1, h2⟩ s
theorem PlanK.rowBut {w0 W W' : World} {p : Nat} {H O : List Pr} {F : List Int} {B n k : Nat} {E : TypeId} {v : Value} {xs : List Value} (h : PlanK w0 W p H O F) (r : W.ownsRow B E k v n xs) (hB : w0.heap.size ≤ B) (h1 : E ≠ 49) (h2 : E ≠ 98) (g : W.grownBy W' v.ownBlock) : PlanK w0 W' p H O F :=
  h.but (grown_but g) (fun _ e => Nat.le_trans hB (r.lt _ e).1) (fun _ e _ => ⟨E, row_ofT r e, h1, h2⟩)
end Go.Proofs.YtbkkhafckkndfaaGreat

namespace Go.Proofs.YtbkkhafckkndfaaGreat
open Go Go.RowKit

theorem cs_more {C : List Ce} {k : Nat} {L : List Pr} {c : Ce} {q : Int} (h : C.length = k ∧ ∀ i, i < k → ∃ p, pageB p = true ∧ C.getD i noCe = ceOf (L.getD i noPr) p) (hq : pageB q = true) (hc : c = ceOf (L.getD k noPr) q) : (C ++ [c]).length = k + 1 ∧ ∀ i, i < k + 1 → ∃ p, pageB p = true ∧ (C ++ [c]).getD i noCe = ceOf (L.getD i noPr) p := by
  refine ⟨by simp [h.1], fun i hi => ?_⟩
  by_cases e : i < k
  · obtain ⟨p, hp, e2⟩ := h.2 i e
    exact ⟨p, hp, by rw [← e2]; simp [List.getD, List.getElem?_append_left (by rw [h.1]; exact e : i < C.length)]⟩
  · obtain rfl : i = k := by omega
    refine ⟨q, hq, ?_⟩
    rw [← hc, ← h.1]
    simp [List.getD]
/-- The cells, and their parts, as tree has laid them. -/
structure TrI (B : Nat) (ac : Option Addr) (cc n np : Nat) (C : List Ce) (v : Value) (vs : List Value) (W : World) : Prop where
  cs : W.ownsRow B 108 4 (.slice ac n cc) n (cesV C)
  ps : W.ownsRow B 105 1 v np vs
  at_ : PartsAt W ac vs (partsL C)
theorem TrI.but {B : Nat} {ac : Option Addr} {cc n np : Nat} {C : List Ce} {v : Value} {vs : List Value} {W W' : World} {S : Nat → Prop} (h : TrI B ac cc n np C v vs W) (g : But S W W') (hS : ∀ i, (OfT W 108 i ∨ OfT W 105 i) → ¬ S i) : TrI B ac cc n np C v vs W' := by
  refine ⟨row_but h.cs g (fun i e => hS i (.inl (row_ofT h.cs e))), row_but h.ps g (fun i e => hS i (.inr (row_ofT h.ps e))), h.at_.keep fun b o e => ?_⟩
  have e2 : (Value.slice ac n cc).ownBlock = some b := by rw [e]; rfl
  exact g.block b (h.cs.lt b e2).2 (hS b (.inl (row_ofT h.cs e2)))
theorem TrI.below {B : Nat} {ac : Option Addr} {cc n np : Nat} {C : List Ce} {v : Value} {vs : List Value} {W W' : World} (h : TrI B ac cc n np C v vs W) (g : Below W.heap.size W W') : TrI B ac cc n np C v vs W' :=
  h.but (Go.Proofs.YtbkkhafckkndfaaGreat.Below.but g (S := fun _ => False)) (fun _ _ e => e)
theorem TrI.wrk {w0 : World} {p : Nat} {H O : List Pr} {F : List Int} {B : Nat} {ac : Option Addr} {cc n np : Nat} {C : List Ce} {v : Value} {vs : List Value} {W W' : World} (h : TrI B ac cc n np C v vs W) (hp : PlanK w0 W p H O F) (g : WrK p W W') : TrI B ac cc n np C v vs W' :=
  h.but g.but fun i e s => by
    rcases e with ⟨cs, e⟩ | ⟨cs, e⟩
    · exact VarK.no hp ⟨cs, _, _, e, by decide, by decide⟩ s
    · exact VarK.no hp ⟨cs, _, _, e, by decide, by decide⟩ s
theorem TrI.row {B B' : Nat} {ac : Option Addr} {cc n np k m : Nat} {C : List Ce} {v u : Value} {vs xs : List Value} {W W' : World} {E : TypeId} (h : TrI B ac cc n np C v vs W) (r : W.ownsRow B' E m u k xs) (h1 : E ≠ 108) (h2 : E ≠ 105) (g : W.grownBy W' u.ownBlock) : TrI B ac cc n np C v vs W' :=
  h.but (grown_but g) fun i e s => by
    rcases e with e | e
    · exact h1 (OfT.ne (row_ofT r s) e)
    · exact h2 (OfT.ne (row_ofT r s) e)
theorem row_cell {w : World} {B n c j : Nat} {E : TypeId} {a : Option Addr} {xs : List Value} {x : Value} (h : w.ownsRow B E 1 (.slice a n c) n xs) (hj : j < n) (hx : xs[j]? = some x) : ∃ g, a = some ⟨g, 0, none⟩ ∧ w.cell? ⟨g, j, none⟩ = some x := by
  rcases h.2 with ⟨q, q0⟩ | ⟨g, cap, cur, q, _⟩
  · omega
  · simp only [Value.slice.injEq] at q
    refine ⟨g, q.1, ?_⟩
    rw [q.1] at h
    rw [h.cellAt j (show j < n * 1 by omega), hx]
set_option maxRecDepth 100000 in
set_option maxHeartbeats 16000000 in
theorem ktree_any (w0 w : World) (p : Nat) (L H : List Pr) (F : List Int) (a : Option Addr) (cap : Nat) (h : PlanK w0 w p H [] F) (hL : PrsAt w0 a L) (hr : recsOk L = true) (hpg : PgsIn H ⟨[], F⟩) (hm : L.length < 1000000) (hF : F.length ≤ 1000000) :
    Calls Tryz.prog 31 #[.pointer (some ⟨p, 0, none⟩), .slice a L.length cap] w fun e w' => TreeK w0 w' p L H F e := by
  obtain ⟨ic, zc, i1, i2, i3, i4, i5⟩ := info_scell
  obtain ⟨is, zs, j1, j2, j3, j4, j5⟩ := info_sslot
  obtain ⟨n, hN⟩ : ∃ n, L.length = n := ⟨_, rfl⟩
  have hNN : Hid (L.length = n) := hN
  rw [hN] at hm
  have hL' : Hid (PrsAt w0 a L) := hL
  have hr' : Hid (recsOk L = true) := hr
  have hTake : Hid (L.take n = L) := by rw [← hN]; exact List.take_length
  have hw0 := h.bel.size
  have hno : Hid (∀ w', planR L H F = none → Below w0.heap.size w0 w' → TreeK w0 w' p L H F (.returned (.tuple #[.int .i64 0, .bool false]))) := fun w' e g => tree_no e g
  rw [hN]
  clear hN hL hr
  go_enter Tryz.func31, Tryz.ntmps31
  go_wp2
  go_loopw [6, 22] (fun cs i wr => ∃ (k : Nat) (C : List Ce) (s : Sp), k ≤ n ∧ i = .int .i64 k ∧ goR H (L.take k) ([], ⟨[], F⟩) = some (C, s) ∧ (C.length = k ∧ ∀ i, i < k → ∃ p, pageB p = true ∧ C.getD i noCe = ceOf (L.getD i noPr) p) ∧ PlanK w0 wr p H s.O s.F ∧ PgsIn H s ∧ s.len = F.length ∧ w.heap.size ≤ wr.heap.size ∧ wr.ownsRow w.heap.size 108 4 cs k (cesV C)) (fun _ i _ => n - (intOf i).toNat)
  case atStart => exact ⟨0, [], ⟨[], F⟩, by omega, rfl, rfl, ⟨rfl, fun i hi => absurd hi (by omega)⟩, h, hpg, by simp [Sp.len], Nat.le_refl _, World.ownsRow_nil _ _ _ _⟩
  case round =>
    obtain ⟨k, C, s, hk, rfl, hgo, hce, hpl, hpi, hsl, hwz, hown⟩ := hrel
    have hO : s.O.length ≤ 1000000 := by have : s.len = s.O.length + s.F.length := rfl; omega
    have hsF : s.F.length ≤ 1000000 := by have : s.len = s.O.length + s.F.length := rfl; omega
    replace hce : Hid _ := hce
    by_cases hlt : k < n
    · have hki : (k : Int) < n := by omega
      obtain ⟨b, off, rfl, hcs⟩ := (hL'.out.below hpl.bel).resolve_left (fun e => by have := hNN.out; rw [e] at this; simp at this; omega)
      obtain ⟨e0, e1⟩ := hcs k (by rw [hNN.out]; exact hlt)
      have hup : Hid _ := goR_take H L k (by rw [hNN.out]; exact hlt) ([], ⟨[], F⟩)
      obtain ⟨hkey, h900⟩ := recs_size hr'.out (i := k) (by rw [hNN.out]; exact hlt)
      have hmore : Hid (∀ c q, pageB q = true → c = ceOf (L.getD k noPr) q → (C ++ [c]).length = k + 1 ∧ ∀ i, i < k + 1 → ∃ p, pageB p = true ∧ (C ++ [c]).getD i noCe = ceOf (L.getD i noPr) p) := fun c q h1 h2 => cs_more hce.out h1 h2
      have hout : Hid (goR H (L.take (k + 1)) ([], ⟨[], F⟩) = none → planR L H F = none) := fun e => planR_none (goR_out H L (k + 1) _ e)
      generalize hx : L.getD k noPr = x at e0 e1 hup h900 hmore
      obtain ⟨K, T⟩ := x
      dsimp only at e0 e1 h900
      have hch : Hid (∀ W, Grew wr W → Calls Tryz.prog 47 #[.pointer (some ⟨p, 0, none⟩), .agg #[.int .i64 K, .string T]] W fun e w' => ChainK w0 w' p H s T e ∧ WrK p W w') := fun W g => kchain_any w0 W p H s K T (hpl.below g.below) h900 (by omega)
      rw [hgo] at hup
      replace hup : Hid (goR H (L.take (k + 1)) ([], ⟨[], F⟩) = stepR H (C, s) ⟨K, T⟩) := hup
      replace hx : Hid _ := hx
      replace hpl : Hid (PlanK w0 wr p H s.O s.F) := hpl
      replace hpi : Hid (PgsIn H s) := hpi
      replace hgo : Hid _ := hgo
      replace hown : Hid (World.ownsRow wr _ _ _ _ _ _) := hown
      clear hcs
      cases hst : stepR H (C, s) ⟨K, T⟩ with
      | none =>
        have hE : Hid (planR L H F = none) := hout.out (by rw [hup.out, hst])
        replace hch : Hid (∀ W, Grew wr W → Calls Tryz.prog 47 #[.pointer (some ⟨p, 0, none⟩), .agg #[.int .i64 K, .string T]] W fun e w' => e = .returned (.tuple #[.int .i64 0, .bool false]) ∧ ∃ s' : Sp, PlanK w0 w' p H s'.O s'.F) := fun W g => (hch.out W g).mono fun e w' he => chain_no hst he.1
        clear hst hup hout hmore
        go_wp2_with (first
          | (go_at_call 47; go_fit (hch.out _ ((Grew.refl wr).alloc _ _)); rintro e w1 ⟨rfl, s', hp'⟩)
          | fail)
        go_ret2
        exact hno.out _ hE.out hp'.bel
      | some r =>
        obtain ⟨C', s'⟩ := r
        have hgo2 : Hid (goR H (L.take (k + 1)) ([], ⟨[], F⟩) = some (C', s')) := by show _ = _; rw [hup.out, hst]
        have hls := stepR_len hst
        replace hch : Hid (∀ W, Grew wr W → Calls Tryz.prog 47 #[.pointer (some ⟨p, 0, none⟩), .agg #[.int .i64 K, .string T]] W fun e w' => ∃ nn, e = .returned (.tuple #[.int .i64 nn, .bool true]) ∧ (PlanK w0 w' p H s'.O s'.F ∧ C' = C ++ [ceOf ⟨K, T⟩ nn] ∧ (∃ q, pageB q = true ∧ ceOf ⟨K, T⟩ nn = ceOf ⟨K, T⟩ q) ∧ PgsIn H s') ∧ WrK p W w') := fun W g => (hch.out W g).mono fun e w' he => by
          obtain ⟨nn, h1, h2⟩ := chain_yes hst hpi.out he.1
          exact ⟨nn, h1, h2, he.2⟩
        clear hst hup hout
        have hplA : Hid (PlanK w0 (wr.alloc (.cells #[.int .i64 K, .string T] 46)) p H s.O s.F) := hpl.out.below ((Grew.refl wr).alloc _ _).below
        have hrA : Hid (World.ownsRow (wr.alloc (.cells #[.int .i64 K, .string T] 46)) _ _ _ _ _ _) := hown.out.alloc _
        have hvA : Hid ((wr.alloc (.cells #[.int .i64 K, .string T] 46)).heap[wr.heap.size]? = some (.cells #[.int .i64 K, .string T] 46 (0, 0))) := heap_alloc_new _ _
        go_wp2_with (first
          | (go_at_call 47; go_fit (hch.out _ ((Grew.refl wr).alloc _ _)); rintro e w1 ⟨nn, rfl, ⟨hp1, hC, hq, hpi1⟩, hwk⟩; have y1 := (hwk.keep hplA.out ⟨_, _, _, hvA.out, by decide, by decide⟩).trans hvA.out; have ya : w1.cell? ⟨wr.heap.size, 0, none⟩ = some (.int .i64 K) := (by rw [cell_of_row _ _ _ _ _ _ y1]; rfl); have yb : w1.cell? ⟨wr.heap.size, 1, none⟩ = some (.string T) := (by rw [cell_of_row _ _ _ _ _ _ y1]; rfl); have r1 : Hid (World.ownsRow w1 _ _ _ _ _ _) := hwk.row hplA.out hrA.out (by decide) (by decide); obtain ⟨c, hc⟩ : ∃ c, ceOf ⟨K, T⟩ nn = c := ⟨_, rfl⟩; have hC2 : Hid (∀ W, Calls Tryz.prog 44 #[.agg #[.int .i64 K, .string T], .int .i64 nn] W fun e w' => e = .returned (ceV c) ∧ Below W.heap.size W w') := (fun W => by have := kcell_any K T nn W; rw [hc] at this; exact this); obtain ⟨c1, c2, c3, c4⟩ := c; replace hC2 : Hid (∀ W, Calls Tryz.prog 44 #[.agg #[.int .i64 K, .string T], .int .i64 nn] W fun e w' => e = .returned (.agg #[.int .i64 c1, .int .i64 c2, .int .i64 c3, .string c4]) ∧ Below W.heap.size W w') := hC2; rw [hc] at hC hq; have hsz1 := hwk.but.size; replace hC : Hid _ := hC; replace hq : Hid _ := hq; replace hc : Hid _ := hc; replace y1 : Hid _ := y1)
          | (go_at_call 44; go_fit (hC2.out _); rintro e w2 ⟨rfl, g2⟩; have hsz2 := g2.size)
          | (at_builtin; refine wpList_app _ rfl (.tmp 34) (.tmp 38) 105 rfl w.heap.size 108 ic zc 4 40 Tryz.underlying105 i1 i2 i4 i5 i3 (by decide) _ k _ rfl ((row_below r1.out g2).alloc _) (some ⟨w2.heap.size, 0, none⟩) 1 1 [.int .i64 c1, .int .i64 c2, .int .i64 c3, .string c4] rfl rfl (.inr ⟨_, 0, rfl, fun j u hj => new_at _ _ _ _ (by simp) j u hj⟩) (fun u hu => by simp at hu; rcases hu with rfl | rfl | rfl | rfl <;> rfl) (by unfold maxLen; omega) (by omega) (by simp at *; omega) ?_; intro v5 w5 hv5 hg5 hk5 hl5)
          | fail)
        have rA := (row_below r1.out g2).alloc (.cells #[.int .i64 c1, .int .i64 c2, .int .i64 c3, .string c4] 108)
        have hp5 := ((hp1.below g2).below ((Grew.refl w2).alloc (#[.int .i64 c1, .int .i64 c2, .int .i64 c3, .string c4] : Array Value) 108).below).rowBut rA hw0 (by decide) (by decide) hg5
        obtain ⟨q, hq1, hq2⟩ := hq.out
        have h55 := hg5.size
        refine ⟨⟨k + 1, C', s', hlt, by simp, hgo2.out, ?_, hp5, hpi1, by omega, by simp at *; omega, ?_⟩, meas_up hlt⟩
        · rw [hC.out]
          exact hmore.out _ q hq1 hq2
        · rw [hC.out, ces_more]
          exact hv5
    · have hki : ¬ (k : Int) < n := by omega
      obtain rfl : k = n := by omega
      rw [hTake.out] at hgo
      have hplanR := planR_parts hgo
      have hCO : CellsOf L C := ⟨by rw [hNN.out]; exact hce.out.1, fun i hi => hce.out.2 i (by rw [hNN.out] at hi; exact hi)⟩
      have hsing := cells_single hr'.out hCO
      have hCn := hce.out.1
      obtain ⟨ac, cc, rfl, hCe⟩ := cells_of hown
      have hcap := (row_cap hown).2
      obtain ⟨np, hnp⟩ : ∃ np, (partsL C).length = np := ⟨_, rfl⟩
      have hnp2 : np ≤ k := by rw [← hnp, ← hCn]; exact cutG_len C C.length
      have hLv : Hid (Calls Tryz.prog 45 #[.slice ac k cc] wr fun e w' => ∃ v vs, e = .returned v ∧ w'.ownsRow wr.heap.size 105 1 v np vs ∧ PartsAt wr ac vs (partsL C) ∧ Below wr.heap.size wr w') := by
        have := kleaves_any C ac cc wr hCe hsing (by omega) (by omega)
        rw [hCn, hnp] at this
        exact this
      replace hplanR : Hid _ := hplanR
      replace hnp : Hid ((partsL C).length = np) := hnp
      replace hpl : Hid (PlanK w0 wr p H s.O s.F) := hpl
      replace hgo : Hid _ := hgo
      replace hown : Hid (World.ownsRow wr _ _ _ _ _ _) := hown
      clear hCe hsing hCO hce hTake hL'
      go_wp2_with (first
        | (go_at_call 45; go_fit hLv.out; rintro e w3 ⟨v, vs, rfl, g1, g2, g3⟩; have hT3 : TrI w.heap.size ac cc k np C v vs w3 := ⟨row_below hown.out g3, row_base g1 hwz, g2.below g3⟩; have hp3 := hpl.out.below g3; have h3z := g3.size; obtain ⟨a3, c3, rfl, _⟩ := own_reads g1; replace hT3 : Hid _ := hT3; replace hp3 : Hid _ := hp3; clear g1 g2 g3)
        | fail)
      clear hlt hki hLv hown hpl hcap hgo
      have hbs : w.heap.size ≤ w3.heap.size := by omega
      generalize hGs : partsL C = Gs at hplanR hnp
      have hGpos : Hid (∀ i, i < np → 0 < (Gs.getD i []).length ∧ (Gs.getD i []).length ≤ C.length) := fun i hi => by
        rw [← hGs]
        exact parts_pos (by rw [hGs, hnp.out]; exact hi)
      have hAt : Hid (∀ W, TrI w.heap.size ac cc k np C (.slice a3 np c3) vs W → PartsAt W ac vs Gs) := fun W hT => by rw [← hGs]; exact hT.at_
      have hGout : Hid (∀ i, goP H (Gs.take i) ([], s) = none → planR L H F = none) := fun i e => by rw [hplanR.out, goP_out H Gs i _ e]; rfl
      have hGend : Hid (∀ S s2, goP H (Gs.take np) ([], s) = some (S, s2) → planR L H F = (putS H s2 (idxV S)).map fun x => (x.2.O, x.1)) := fun S s2 e => by
        rw [← hnp.out, List.take_length] at e
        rw [hplanR.out, e]
        rfl
      replace hGs : Hid _ := hGs
      go_loopw [11, 44] (fun sl i wr => ∃ (q : Nat) (S : List Sl) (s2 : Sp), q ≤ np ∧ i = .int .i64 q ∧ goP H (Gs.take q) ([], s) = some (S, s2) ∧ S.length = q ∧ PlanK w0 wr p H s2.O s2.F ∧ s2.len = F.length ∧ w3.heap.size ≤ wr.heap.size ∧ TrI w.heap.size ac cc k np C (.slice a3 np c3) vs wr ∧ wr.ownsRow w.heap.size 104 2 sl q (slsV S)) (fun _ i _ => np - (intOf i).toNat)
      case atStart => exact ⟨0, [], s, by omega, rfl, rfl, rfl, hp3.out, hsl, Nat.le_refl _, hT3.out, World.ownsRow_nil _ _ _ _⟩
      case round =>
        clear hT3 hp3 hsl hO hsF
        obtain ⟨q, S, s2, hq, rfl, hgo, hSl, hpl, hsl, hwz2, hT, hown⟩ := hrel
        have hO : s2.O.length ≤ 1000000 := by have : s2.len = s2.O.length + s2.F.length := rfl; omega
        have hsF : s2.F.length ≤ 1000000 := by have : s2.len = s2.O.length + s2.F.length := rfl; omega
        by_cases hlt : q < np
        · have hqi : (q : Int) < np := by omega
          obtain ⟨b, o0, off, c, hac, hvq, hGc⟩ := (hAt.out _ hT).2 q (by rw [hnp.out]; exact hlt)
          obtain ⟨hg0, hgn⟩ := hGpos.out q hlt
          have hup := goP_take H Gs q (by rw [hnp.out]; exact hlt) ([], s)
          rw [hgo, Option.bind_some] at hup
          generalize Gs.getD q [] = G at hvq hGc hg0 hgn hup
          obtain ⟨g, rfl, hcell⟩ := row_cell hT.ps hlt hvq
          obtain ⟨m, hm2⟩ : ∃ m, G.length = m := ⟨_, rfl⟩
          have hLf := leaf_any G (some ⟨b, off, none⟩) c wr hGc (by omega)
          have hkey : wr.cell? ⟨b, off, none⟩ = some (.int .i64 (G.getD 0 noCe).key) := by
            rcases hGc with e | ⟨b2, o2, e, hc⟩
            · rw [e] at hg0; simp at hg0
            · simp only [Option.some.injEq, Addr.mk.injEq] at e
              obtain ⟨rfl, rfl, _⟩ := e
              have := (hc 0 hg0).1
              simpa using this
          rw [hm2] at hLf hcell hg0 hgn
          have hPut0 : Hid (∀ W, Below wr.heap.size wr W → Calls Tryz.prog 49 #[.pointer (some ⟨p, 0, none⟩), .string (leafV G)] W fun e w' => PutK w0 w' p H s2.O s2.F (leafV G) e ∧ WrK p W w') := fun W g => kplace_any w0 W p H s2.O s2.F (leafV G) (hpl.below g) hO hsF
          generalize leafV G = lv at *
          obtain ⟨ok, hok⟩ : ∃ ok, leafOk G = ok := ⟨_, rfl⟩
          rw [hok] at hLf
          generalize (G.getD 0 noCe).key = ky at *
          have hmi : (0 : Int) < m := by omega
          replace hLf : Hid (Calls Tryz.prog 48 #[.slice (some ⟨b, off, none⟩) m c] wr fun e w' => e = .returned (.tuple #[.string lv, .bool ok]) ∧ Below wr.heap.size wr w') := hLf
          replace hpl : Hid (PlanK w0 wr p H s2.O s2.F) := hpl
          replace hT : Hid (TrI w.heap.size ac cc k np C (.slice (some ⟨g, 0, none⟩) np c3) vs wr) := hT
          replace hown : Hid (World.ownsRow wr _ _ _ _ _ _) := hown
          replace hgo : Hid _ := hgo
          replace hok : Hid _ := hok
          replace hvq : Hid _ := hvq
          replace hac : Hid _ := hac
          replace hGc : Hid (CellsAt _ _ _) := hGc
          cases hps : putS H s2 lv with
          | none =>
            rw [hps] at hup
            have hE : Hid (planR L H F = none) := hGout.out _ hup
            replace hPut0 : Hid (∀ W, Below wr.heap.size wr W → Calls Tryz.prog 49 #[.pointer (some ⟨p, 0, none⟩), .string lv] W fun e w' => e = .returned (.tuple #[.int .i64 0, .bool false]) ∧ PlanK w0 w' p H s2.O s2.F) := fun W g => (hPut0.out W g).mono fun e w' he => putk_no hps he.1
            clear hps hup
            go_wp2_with (first
              | (go_at_call 48; go_fit hLf.out; rintro e w4 ⟨rfl, g4⟩)
              | (go_at_call 49; go_fit (hPut0.out _ g4); rintro e w5 ⟨rfl, hp5⟩)
              | fail)
            go_ret2
            exact hno.out _ hE.out hp5.bel
          | some r =>
            obtain ⟨n2, s3⟩ := r
            rw [hps] at hup
            have hls := putS_len hps
            replace hPut0 : Hid (∀ W, Below wr.heap.size wr W → Calls Tryz.prog 49 #[.pointer (some ⟨p, 0, none⟩), .string lv] W fun e w' => (e = .returned (.tuple #[.int .i64 n2, .bool true]) ∧ PlanK w0 w' p H s3.O s3.F) ∧ WrK p W w') := fun W g => (hPut0.out W g).mono fun e w' he => ⟨putk_yes hps he.1, he.2⟩
            replace hup : Hid (goP H (Gs.take (q + 1)) ([], s) = some (S ++ [⟨ky, n2⟩], s3)) := hup
            clear hps
            go_wp2_with (first
              | (go_at_call 48; go_fit hLf.out; rintro e w4 ⟨rfl, g4⟩)
              | (go_at_call 49; go_fit (hPut0.out _ g4); rintro e w5 ⟨⟨rfl, hp5⟩, hwk⟩; have hp4 := hpl.out.below g4; have T4 := hT.out.below g4; have T5 : Hid (TrI w.heap.size ac cc k np C (.slice (some ⟨g, 0, none⟩) np c3) vs w5) := T4.wrk hp4 hwk; have r5 : Hid (World.ownsRow w5 _ _ _ _ _ _) := hwk.row hp4 (row_below hown.out g4) (by decide) (by decide); obtain ⟨cv, hcv⟩ := row_ofT T4.cs (i := b) (by rw [hac.out]; rfl); have ky5 : w5.cell? ⟨b, off, none⟩ = some (.int .i64 ky) := (by rw [cell_of_heap (hwk.keep hp4 ⟨_, _, _, hcv, by decide, by decide⟩)]; exact below_cell g4 hkey); have hsz5 : wr.heap.size ≤ w5.heap.size := Nat.le_trans g4.size hwk.but.size; clear T4 hcv hp4; replace hp5 : Hid (PlanK w0 w5 p H s3.O s3.F) := hp5)
              | (at_builtin; refine wpList_app _ rfl (.tmp 61) (.tmp 68) 101 rfl w.heap.size 104 is zs 2 16 Tryz.underlying101 j1 j2 j4 j5 j3 (by decide) _ q _ rfl (r5.out.alloc _) (some ⟨w5.heap.size, 0, none⟩) 1 1 [.int .i64 ky, .int .i64 n2] rfl rfl (.inr ⟨_, 0, rfl, fun j u hj => new_at _ _ _ _ (by simp) j u hj⟩) (fun u hu => by simp at hu; rcases hu with rfl | rfl <;> rfl) (by unfold maxLen; omega) (by omega) (by simp at *; omega) ?_; intro v6 w6 hv6 hg6 hk6 hl6)
              | fail)
            have rA := r5.out.alloc (.cells #[.int .i64 ky, .int .i64 n2] 104)
            have gA := ((Grew.refl w5).alloc (#[.int .i64 ky, .int .i64 n2] : Array Value) 104).below
            have hp6 := (hp5.out.below gA).rowBut rA hw0 (by decide) (by decide) hg6
            have T6 := (T5.out.below gA).row rA (by decide) (by decide) hg6
            have h66 := hg6.size
            refine ⟨⟨q + 1, S ++ [⟨ky, n2⟩], s3, hlt, by simp, hup.out, by simp [hSl], hp6, by omega, by simp at *; omega, T6, ?_⟩, meas_up hlt⟩
            rw [sls_more]
            exact hv6
        · have hqi : ¬ (q : Int) < np := by omega
          obtain rfl : q = np := by omega
          have hE : Hid _ := hGend.out S s2 hgo
          obtain ⟨asl, csl, rfl, hSA⟩ := slots_of hown
          have hIx : Hid (Calls Tryz.prog 50 #[.slice asl q csl] wr fun e w' => ∃ ok, e = .returned (.tuple #[.string (idxV S), .bool ok]) ∧ Below wr.heap.size wr w') := by
            have := index_any S asl csl wr hSA (by omega)
            rw [hSl] at this
            exact this.mono fun e w' he => ⟨_, he.1, he.2⟩
          have hPut0 : Hid (∀ W, Below wr.heap.size wr W → Calls Tryz.prog 49 #[.pointer (some ⟨p, 0, none⟩), .string (idxV S)] W fun e w' => PutK w0 w' p H s2.O s2.F (idxV S) e ∧ WrK p W w') := fun W g => kplace_any w0 W p H s2.O s2.F (idxV S) (hpl.below g) hO hsF
          generalize idxV S = iv at *
          replace hpl : Hid (PlanK w0 wr p H s2.O s2.F) := hpl
          clear hSA hT hgo hown
          cases hps : putS H s2 iv with
          | none =>
            have hE2 : Hid (planR L H F = none) := by show _ = _; rw [hE.out, hps]; rfl
            replace hPut0 : Hid (∀ W, Below wr.heap.size wr W → Calls Tryz.prog 49 #[.pointer (some ⟨p, 0, none⟩), .string iv] W fun e w' => e = .returned (.tuple #[.int .i64 0, .bool false]) ∧ PlanK w0 w' p H s2.O s2.F) := fun W g => (hPut0.out W g).mono fun e w' he => putk_no hps he.1
            clear hps hE
            go_wp2_with (first
              | (go_at_call 50; go_fit hIx.out; rintro e w4 ⟨ok, rfl, g4⟩)
              | (go_at_call 49; go_fit (hPut0.out _ g4); rintro e w5 ⟨rfl, hp5⟩)
              | fail)
            go_ret2
            exact hno.out _ hE2.out hp5.bel
          | some r =>
            obtain ⟨n2, s3⟩ := r
            have hE2 : Hid (planR L H F = some (s3.O, n2)) := by show _ = _; rw [hE.out, hps]; rfl
            replace hPut0 : Hid (∀ W, Below wr.heap.size wr W → Calls Tryz.prog 49 #[.pointer (some ⟨p, 0, none⟩), .string iv] W fun e w' => e = .returned (.tuple #[.int .i64 n2, .bool true]) ∧ PlanK w0 w' p H s3.O s3.F) := fun W g => (hPut0.out W g).mono fun e w' he => putk_yes hps he.1
            clear hps hE
            go_wp2_with (first
              | (go_at_call 50; go_fit hIx.out; rintro e w4 ⟨ok, rfl, g4⟩)
              | (go_at_call 49; go_fit (hPut0.out _ g4); rintro e w5 ⟨rfl, hp5⟩)
              | fail)
            go_ret2
            show TreeK w0 w5 p L H F (.returned (.tuple #[.int .i64 n2, .bool true]))
            unfold TreeK
            rw [hE2.out]
            exact ⟨rfl, _, hp5⟩
end Go.Proofs.YtbkkhafckkndfaaGreat
