/-
  Package shelf's plan.place: where bytes are, or will be. slices.Backward over a list of Writes, and over a list of texts of bytes: what its loops are handed. A region that draws its order, in a round of a loop over an iterator: as outside of it. No program in sight. Package shelf's newPlan: a plan with the pages that are there. slices.Collect(slices.Chunk(bytes, 120)): the pieces of a record's bytes.
-/
import Derived.Test.YtbkkhafckkndfaaGreatPk06
import Derived.RangeFuncNested
import Derived.RangeFuncBound
import Derived.RangeFuncCalls
import Derived.RangeFuncLeaves
import Derived.Shelf.Abstract
import Derived.WalkKit
import Derived.OwnWalkIn
import Derived.TacticsInMore
import Derived.LoopNIn
import Derived.LoopIn
import Derived.OrdersIn
import Derived.TacticsIn
import Derived.Test.YtbkkhafckkndfaaGreatPk02
import Derived.Maps.OwnIn
namespace Go.Proofs.YtbkkhafckkndfaaGreat
open Go Go.RowKit

/-- A variable of three cells. -/
structure V3 (w : World) (b : Nat) (a0 a1 a2 : Value) : Prop where
  c0 : w.cell? ⟨b, 0, none⟩ = some a0
  c1 : w.cell? ⟨b, 1, none⟩ = some a1
  c2 : w.cell? ⟨b, 2, none⟩ = some a2
  z0 : w.frozen? ⟨b, 0, none⟩ = false
  z1 : w.frozen? ⟨b, 1, none⟩ = false
  z2 : w.frozen? ⟨b, 2, none⟩ = false
section
variable {w w' : World} {b : Nat} {a0 a1 a2 : Value}
theorem V3.lt (h : V3 w b a0 a1 a2) : b < w.heap.size := cell_block h.c0
theorem V3.but {S : Nat → Prop} (h : V3 w b a0 a1 a2) (g : But S w w') (hb : ¬ S b) : V3 w' b a0 a1 a2 :=
  ⟨g.cell h.c0 hb, g.cell h.c1 hb, g.cell h.c2 hb, g.frozen h.lt hb h.z0, g.frozen h.lt hb h.z1, g.frozen h.lt hb h.z2⟩
theorem V3.grew (h : V3 w b a0 a1 a2) (g : Grew w w') : V3 w' b a0 a1 a2 := h.but (S := fun _ => False) (Go.Proofs.YtbkkhafckkndfaaGreat.Grew.but g) (fun e => e)
theorem V3.new (w : World) (a0 a1 a2 : Value) (t : TypeId) : V3 (w.alloc (.cells #[a0, a1, a2] t)) w.heap.size a0 a1 a2 := by
  refine ⟨?_, ?_, ?_, frozen_of_row _ _ _ _ _ (heap_alloc_new w _), frozen_of_row _ _ _ _ _ (heap_alloc_new w _), frozen_of_row _ _ _ _ _ (heap_alloc_new w _)⟩ <;> rw [cell_of_row _ _ _ _ _ _ (heap_alloc_new _ _)] <;> rfl
theorem V3.set0 (h : V3 w b a0 a1 a2) (x : Value) : V3 (w.setCell ⟨b, 0, none⟩ x) b x a1 a2 := by
  obtain ⟨c0, c1, c2, z0, z1, z2⟩ := h
  constructor <;> simp [c0, c1, c2, z0, z1, z2, go_sem]
theorem V3.set2 (h : V3 w b a0 a1 a2) (x : Value) : V3 (w.setCell ⟨b, 2, none⟩ x) b a0 a1 x := by
  obtain ⟨c0, c1, c2, z0, z1, z2⟩ := h
  constructor <;> simp [c0, c1, c2, z0, z1, z2, go_sem]
end
/-- A block holds cells of this type. -/
def OfT (w : World) (t : TypeId) (i : Nat) : Prop := ∃ cs, w.heap[i]? = some (.cells cs t (0, 0))
def OfM (w : World) (i : Nat) : Prop := ∃ es c, w.heap[i]? = some (.map es c)
theorem OfT.ne {w : World} {t t' : TypeId} {i : Nat} (h : OfT w t i) (h' : OfT w t' i) : t = t' := by
  obtain ⟨a, e⟩ := h
  obtain ⟨a', e'⟩ := h'
  rw [e] at e'
  simp only [Option.some.injEq, Obj.cells.injEq] at e'
  exact e'.2.1
theorem OfT.map {w : World} {t : TypeId} {i : Nat} (h : OfT w t i) (h' : OfM w i) : False := by
  obtain ⟨a, e⟩ := h
  obtain ⟨a', b', e'⟩ := h'
  rw [e] at e'
  cases e'
theorem row_ofT {w : World} {B n k : Nat} {E : TypeId} {v : Value} {xs : List Value} (h : w.ownsRow B E k v n xs) {i : Nat} (e : v.ownBlock = some i) : OfT w E i := by
  rcases h.2 with ⟨q, _⟩ | ⟨g, c, cur, q, _, hg, _⟩
  · rw [q] at e; cases e
  · rw [q] at e
    obtain rfl : g = i := by simpa [Value.ownBlock] using e
    exact ⟨_, hg⟩
theorem OfT.set {w : World} {t : TypeId} {i : Nat} (h : OfT w t i) (j o : Nat) (x : Value) : OfT (w.setCell ⟨j, o, none⟩ x) t i := by
  obtain ⟨cs, e⟩ := h
  by_cases q : j = i
  · subst q
    exact ⟨_, heap_setCell_same w j o _ _ _ e⟩
  · exact ⟨cs, (Below.heap_setCell _ _ _ _ (fun e => q e.symm)).trans e⟩
theorem OfT.but {w w' : World} {t : TypeId} {i : Nat} {S : Nat → Prop} (h : OfT w t i) (g : But S w w') (hs : ¬ S i) : OfT w' t i := by
  obtain ⟨cs, e⟩ := h
  exact ⟨cs, (g.block i (Array.getElem?_eq_some_iff.1 e).1 hs).trans e⟩
theorem OfT.grew {w w' : World} {t : TypeId} {i : Nat} (h : OfT w t i) (g : Grew w w') : OfT w' t i := h.but (S := fun _ => False) (Go.Proofs.YtbkkhafckkndfaaGreat.Grew.but g) (fun e => e)
theorem SMap.of {w : World} {mb : Nat} {f : ByteArray → Option Int} (h : SMap w mb f) : OfM w mb := by
  obtain ⟨es, c, h1, _⟩ := h
  exact ⟨es, c, h1⟩
theorem SMap.ne {w : World} {mb p : Nat} {f : ByteArray → Option Int} {a0 a1 a2 : Value} (h : SMap w mb f) (v : V3 w p a0 a1 a2) : ¬ mb = p := by
  rintro rfl
  obtain ⟨es, c, h1, _⟩ := h
  have := v.c0
  simp [World.cell?, h1] at this
/-- What a plan's map leads to. -/
def mapF (H O : List Pr) : ByteArray → Option Int := fun b => (findW H b).or (findW O b)
theorem find_app (O : List Pr) (x : Pr) (b : ByteArray) : findW (O ++ [x]) b = (findW O b).or (if x.b = b then some x.n else none) := by
  unfold findW
  rw [List.find?_append]
  cases h : O.find? fun x => decide (x.b = b) with
  | some y => simp
  | none => by_cases e : x.b = b <;> simp [e]
theorem mapF_put {H O : List Pr} {b : ByteArray} {n : Int} (h : mapF H O b = none) : ∀ k, updS (mapF H O) b n k = mapF H (O ++ [⟨n, b⟩]) k := by
  intro k
  unfold mapF at h
  rw [Option.or_eq_none_iff] at h
  unfold updS mapF
  rw [find_app]
  by_cases e : k = b
  · rw [if_pos e, e, h.1, h.2]
    simp
  · rw [if_neg e]
    have e' : ¬ b = k := fun q => e q.symm
    simp [e']
/-- A plan of package shelf that lies at block p: what was handed in lies ahead of w0's end, what is to be written is its own. -/
structure PkAt (w0 w : World) (p mb : Nat) (ao : Option Addr) (co : Nat) (af : Option Addr) (cf : Nat) (H O : List Pr) (F : List Int) : Prop where
  v : V3 w p (.slice ao O.length co) (.map (some mb)) (.slice af F.length cf)
  m : SMap w mb (mapF H O)
  fr : NumsAt w0 af F
  fc : F.length ≤ cf
  row : w.ownsRow w0.heap.size 49 2 (.slice ao O.length co) O.length (prsV O)
  bel : Below w0.heap.size w0 w
  lp : w0.heap.size ≤ p
  lm : w0.heap.size ≤ mb
  t : OfT w 98 p
def PlanK (w0 w : World) (p : Nat) (H O : List Pr) (F : List Int) : Prop := ∃ mb ao co af cf, PkAt w0 w p mb ao co af cf H O F
/-- Block p alone was written, and blocks of Writes, and maps. -/
def SetK (p : Nat) (w : World) (i : Nat) : Prop := i = p ∨ OfT w 49 i ∨ w.cell? ⟨p, 1, none⟩ = some (.map (some i))
structure WrK (p : Nat) (w w' : World) : Prop where
  but : But (SetK p w) w w'
  one : w'.cell? ⟨p, 1, none⟩ = w.cell? ⟨p, 1, none⟩
theorem WrK.refl (p : Nat) (w : World) : WrK p w w := ⟨But.refl _ _, rfl⟩
theorem WrK.trans {p : Nat} {a b c : World} (h : WrK p a b) (g : WrK p b c) : WrK p a c := by
  refine ⟨⟨g.but.os.trans h.but.os, g.but.tape.trans h.but.tape, g.but.output.trans h.but.output, Nat.le_trans h.but.size g.but.size, fun i hi hn => ?_⟩, g.one.trans h.one⟩
  have e := h.but.block i hi hn
  refine (g.but.block i (Nat.lt_of_lt_of_le hi h.but.size) (fun s => hn ?_)).trans e
  rcases s with s | s | s
  · exact .inl s
  · obtain ⟨cs, e2⟩ := s
    exact .inr (.inl ⟨cs, e ▸ e2⟩)
  · exact .inr (.inr (by rw [← h.one]; exact s))
/-- New blocks, and blocks that were not there, leave it. -/
theorem WrK.later {p : Nat} {a b c : World} {S : Nat → Prop} (h : WrK p a b) (hp : p < a.heap.size) (g : But S b c) (hS : ∀ i, S i → a.heap.size ≤ i) : WrK p a c := by
  refine ⟨⟨g.os.trans h.but.os, g.tape.trans h.but.tape, g.output.trans h.but.output, Nat.le_trans h.but.size g.size, fun i hi hn => ?_⟩, ?_⟩
  · exact (g.block i (Nat.lt_of_lt_of_le hi h.but.size) (fun s => by have := hS i s; omega)).trans (h.but.block i hi hn)
  · rw [cell_of_heap (g.block p (Nat.lt_of_lt_of_le hp h.but.size) (fun s => by have := hS p s; omega)), h.one]
theorem PkAt.ne {w0 w : World} {p mb : Nat} {ao : Option Addr} {co : Nat} {af : Option Addr} {cf : Nat} {H O : List Pr} {F : List Int} (h : PkAt w0 w p mb ao co af cf H O F) : (Value.slice ao O.length co).ownBlock ≠ some p := fun e => absurd (OfT.ne h.t (row_ofT h.row e)) (by decide)
/-- What stays as it is keeps a plan. -/
theorem PlanK.but {w0 w w' : World} {p : Nat} {H O : List Pr} {F : List Int} {S : Nat → Prop} (h : PlanK w0 w p H O F) (g : But S w w') (hB : ∀ i, S i → w0.heap.size ≤ i) (hS : ∀ i, S i → i < w.heap.size → ∃ E, OfT w E i ∧ E ≠ 49 ∧ E ≠ 98) : PlanK w0 w' p H O F := by
  obtain ⟨mb, ao, co, af, cf, h⟩ := h
  have hp : ¬ S p := fun e => by
    obtain ⟨E, h1, _, h3⟩ := hS p e h.v.lt
    exact h3 (OfT.ne h1 h.t)
  have hm : ¬ S mb := fun e => by
    obtain ⟨E, h1, _, _⟩ := hS mb e h.m.lt
    exact h1.map h.m.of
  refine ⟨mb, ao, co, af, cf, h.v.but g hp, h.m.heap (g.block mb h.m.lt hm), h.fr, h.fc, row_but h.row g (fun i e hs => ?_), h.bel.trans (g.below hB h.bel.size), h.lp, h.lm, ?_⟩
  · obtain ⟨E, h1, h2, _⟩ := hS i hs (h.row.lt i e).2
    exact h2 (OfT.ne h1 (row_ofT h.row e))
  · exact h.t.but g hp
theorem PlanK.below {w0 w w' : World} {p : Nat} {H O : List Pr} {F : List Int} (h : PlanK w0 w p H O F) (g : Below w.heap.size w w') : PlanK w0 w' p H O F :=
  h.but (S := fun _ => False) (Go.Proofs.YtbkkhafckkndfaaGreat.Below.but g) (fun _ e => e.elim) (fun _ e => e.elim)
theorem zero_int (w : World) : (zeroValue 3).run Tryz.prog w = .ok (.int .i64 0) w := by kernel_rfl
theorem kget {w : World} {mb : Nat} {f : ByteArray → Option Int} (h : SMap w mb f) (b : ByteArray) : (Instr.lookup 96 (.map (some mb)) (.string b) true).run Tryz.prog w = .ok (.tuple #[.int .i64 ((f b).getD 0), .bool (f b).isSome]) w := SMap.get Tryz.underlying96 Tryz.underlying9 h b (zero_int w)
theorem kput {w : World} {mb : Nat} {f : ByteArray → Option Int} (h : SMap w mb f) (b : ByteArray) (n : Int) : ∃ w', (Instr.mapUpdate 96 (.map (some mb)) (.string b) (.int .i64 n)).run Tryz.prog w = .ok () w' ∧ SMap w' mb (updS f b n) ∧ w.grownBy w' (some mb) := SMap.put Tryz.underlying96 Tryz.underlying9 h b n
/-- What place leaves. -/
def PutK (w0 w' : World) (p : Nat) (H O : List Pr) (F : List Int) (b : ByteArray) (e : Ending) : Prop :=
  match putW H O F b with
  | some (n, O', F') => e = .returned (.tuple #[.int .i64 n, .bool true]) ∧ PlanK w0 w' p H O' F'
  | none => e = .returned (.tuple #[.int .i64 0, .bool false]) ∧ PlanK w0 w' p H O F
theorem putk_have {w0 w' : World} {p : Nat} {H O : List Pr} {F : List Int} {b : ByteArray} {n : Int} (h : mapF H O b = some n) (g : PlanK w0 w' p H O F) : PutK w0 w' p H O F b (.returned (.tuple #[.int .i64 n, .bool true])) := by
  unfold PutK putW
  unfold mapF at h
  cases h1 : findW H b with
  | some m =>
    rw [h1] at h
    simp at h
    subst h
    exact ⟨rfl, g⟩
  | none =>
    rw [h1, Option.none_or] at h
    rw [h]
    exact ⟨rfl, g⟩
theorem putk_full {w0 w' : World} {p : Nat} {H O : List Pr} {b : ByteArray} (h : mapF H O b = none) (g : PlanK w0 w' p H O []) : PutK w0 w' p H O [] b (.returned (.tuple #[.int .i64 0, .bool false])) := by
  unfold PutK putW
  unfold mapF at h
  rw [Option.or_eq_none_iff] at h
  rw [h.1, h.2]
  exact ⟨rfl, g⟩
theorem putk_new {w0 w' : World} {p : Nat} {H O : List Pr} {F : List Int} {b : ByteArray} {n : Int} (h : mapF H O b = none) (g : PlanK w0 w' p H (O ++ [⟨n, b⟩]) F) : PutK w0 w' p H O (n :: F) b (.returned (.tuple #[.int .i64 n, .bool true])) := by
  unfold PutK putW
  unfold mapF at h
  rw [Option.or_eq_none_iff] at h
  rw [h.1, h.2]
  exact ⟨rfl, g⟩
set_option maxRecDepth 100000 in
theorem info_kwrite : ∃ (i : TypeInfo) (z : Value), (Tryz.prog).info? 49 = some i ∧ i.zero = some z ∧ z.cells.size = 2 ∧ i.size = 2 ∧ i.bytes = 24 := ⟨_, _, rfl, rfl, rfl, rfl, rfl⟩
section
variable {w0 w W2 w5 : World} {p mb : Nat} {ao af a' a5 : Option Addr} {co cf cf' c5 : Nat} {H O : List Pr} {F : List Int} {nn : Int} {b : ByteArray}
/-- Behind the store into the map. -/
theorem place_mid (h : PkAt w0 w p mb ao co af cf H O (nn :: F)) (hg : (w.setCell ⟨p, 2, none⟩ (.slice a' F.length cf')).grownBy W2 (some mb)) :
    V3 W2 p (.slice ao O.length co) (.map (some mb)) (.slice a' F.length cf') ∧ W2.ownsRow w0.heap.size 49 2 (.slice ao O.length co) O.length (prsV O) ∧ But (fun i => i = p ∨ i = mb) w W2 := by
  have B1 : But (fun i => i = p) w (w.setCell ⟨p, 2, none⟩ (.slice a' F.length cf')) := (But.refl (fun i => i = p) w).set (b := p) rfl 2 none _
  have B2 : But (fun i => i = mb) (w.setCell ⟨p, 2, none⟩ (.slice a' F.length cf')) W2 := ⟨hg.os, hg.tape, hg.output, hg.size, fun i hi hn => hg.block i hi (fun e => hn (by simpa using e))⟩
  have hnp : ¬ p = mb := fun e => h.m.ne h.v e.symm
  have v1 := (h.v.set2 (.slice a' F.length cf')).but B2 hnp
  have r1 := row_but h.row B1 (fun i e e2 => h.ne (by rw [e, e2]))
  have r2 := row_but r1 B2 (fun i e e2 => by
    subst e2
    exact (row_ofT h.row e).map h.m.of)
  exact ⟨v1, r2, (B1.more fun _ _ e => .inl e).trans (B2.more fun _ _ e => .inr e)⟩
theorem place_end (h : PkAt w0 w p mb ao co af cf H O (nn :: F)) (hfr : NumsAt w0 a' F) (hfc : F.length ≤ cf') (hf : mapF H O b = none)
    (hM : SMap W2 mb (updS (mapF H O) b nn)) (hg : (w.setCell ⟨p, 2, none⟩ (.slice a' F.length cf')).grownBy W2 (some mb))
    (hv5 : w5.ownsRow w0.heap.size 49 2 (.slice a5 (O.length + 1) c5) (O.length + 1) (prsV O ++ [.int .i64 nn, .string b]))
    (hg5 : (W2.alloc (.cells #[.int .i64 nn, .string b] 49)).grownBy w5 (Value.slice ao O.length co).ownBlock) :
    V3 w5 p (.slice ao O.length co) (.map (some mb)) (.slice a' F.length cf') ∧ PlanK w0 (w5.setCell ⟨p, 0, none⟩ (.slice a5 (O.length + 1) c5)) p H (O ++ [⟨nn, b⟩]) F ∧ WrK p w (w5.setCell ⟨p, 0, none⟩ (.slice a5 (O.length + 1) c5)) := by
  obtain ⟨v2, r2, B2⟩ := place_mid h hg
  have G3 := (Grew.refl W2).alloc (#[.int .i64 nn, .string b] : Array Value) 49
  have v3 := v2.grew G3
  have v5 := v3.but (grown_but hg5) (fun e => h.ne e)
  have B3 : But (fun i => i = p ∨ i = mb) w (W2.alloc (.cells #[.int .i64 nn, .string b] 49)) := B2.alloc _
  have hty : ∀ i, (Value.slice ao O.length co).ownBlock = some i → OfT w 49 i := fun i e => row_ofT h.row e
  have B5 : But (SetK p w) w w5 := (B3.more fun i _ e => by
      rcases e with e | e
      · exact .inl e
      · exact .inr (.inr (e ▸ h.v.c1))).trans ((grown_but hg5).more fun i _ e => .inr (.inl (hty i e)))
  have B6 : WrK p w (w5.setCell ⟨p, 0, none⟩ (.slice a5 (O.length + 1) c5)) := ⟨B5.set (b := p) (.inl rfl) 0 none _, by rw [(v5.set0 _).c1, h.v.c1]⟩
  have h5 : OfT w5 98 p := (((h.t.set p 2 (.slice a' F.length cf')).but (S := fun i => i = mb) ⟨hg.os, hg.tape, hg.output, hg.size, fun i hi hn => hg.block i hi (fun e => hn (by simpa using e))⟩ (fun e => h.m.ne h.v e.symm)).grew G3).but (grown_but hg5) (fun e => h.ne e)
  have hne2 : ∀ i, (Value.slice a5 (O.length + 1) c5).ownBlock = some i → ¬ i = p := fun i e e2 => by
    subst e2
    exact absurd (OfT.ne h5 (row_ofT hv5 e)) (by decide)
  have B7 : But (fun i => i = p) w5 (w5.setCell ⟨p, 0, none⟩ (.slice a5 (O.length + 1) c5)) := (But.refl (fun i => i = p) w5).set (b := p) rfl 0 none _
  have hlO : (O ++ [(⟨nn, b⟩ : Pr)]).length = O.length + 1 := by simp
  refine ⟨v5, ⟨mb, a5, c5, a', cf', ?_, ?_, hfr, hfc, ?_, ?_, h.lp, h.lm, ?_⟩, B6⟩
  · rw [hlO]
    exact v5.set0 _
  · have M3 : SMap (w5.setCell ⟨p, 0, none⟩ (.slice a5 (O.length + 1) c5)) mb (updS (mapF H O) b nn) := hM.heap (by
      have hnp : ¬ mb = p := h.m.ne h.v
      have hl := hM.lt
      rw [B7.block mb (by have := hg5.size; simp at this; omega) hnp, (grown_but hg5).block mb (by simp; omega) (fun q => by
        have := (hty mb q).map h.m.of
        exact this), G3.heap hl])
    exact M3.congr (mapF_put hf)
  · rw [hlO, prs_more]
    exact row_but hv5 B7 hne2
  · have b2 : Below w0.heap.size w0 W2 := h.bel.trans (B2.below (fun i e => by
      rcases e with e | e
      · rw [e]; exact h.lp
      · rw [e]; exact h.lm) h.bel.size)
    have b3 := b2.trans (G3.below.mono b2.size)
    have b5 := b3.trans ((grown_but hg5).below (fun i e => (h.row.lt i e).1) b3.size)
    exact b5.trans (B7.below (fun i e => by rw [e]; exact h.lp) b5.size)
  · exact h5.set p 0 _
end
set_option maxRecDepth 10000 in
set_option maxHeartbeats 8000000 in
theorem kplace_any (w0 w : World) (p : Nat) (H O : List Pr) (F : List Int) (b : ByteArray) (h : PlanK w0 w p H O F) (hO : O.length ≤ 1000000) (hF : F.length ≤ 1000000) :
    Calls Tryz.prog 49 #[.pointer (some ⟨p, 0, none⟩), .string b] w fun e w' => PutK w0 w' p H O F b e ∧ WrK p w w' := by
  obtain ⟨iw, zw, i1, i2, i3, i4, i5⟩ := info_kwrite
  have hPl : Hid (PlanK w0 w p H O F) := h
  obtain ⟨mb, ao, co, af, cf, h⟩ := h
  have hA : Hid (PkAt w0 w p mb ao co af cf H O F) := h
  obtain ⟨c0, c1, c2, z0, z1, z2⟩ := id h.v
  have hget := kget h.m b
  have hFr : Hid (NumsAt w af F) := h.fr.below h.bel
  obtain ⟨m, hm⟩ : ∃ m, O.length = m := ⟨_, rfl⟩
  obtain ⟨q, hq⟩ : ∃ q, F.length = q := ⟨_, rfl⟩
  rw [hm] at c0 hO
  rw [hq] at c2 hF
  replace hm : Hid (O.length = m) := hm
  replace hq : Hid (F.length = q) := hq
  clear h
  cases hf : mapF H O b with
  | some n =>
    rw [hf] at hget
    have hE : Hid (PutK w0 w p H O F b (.returned (.tuple #[.int .i64 n, .bool true]))) := putk_have hf hPl.out
    clear hf
    go_enter Tryz.func49, Tryz.ntmps49
    go_wp2
    go_ret2
    exact ⟨hE.out, WrK.refl _ _⟩
  | none =>
    rw [hf] at hget
    cases F with
    | nil =>
      have hq0 : q = 0 := by have := hq.out; simpa using this.symm
      subst hq0
      have hE : Hid (PutK w0 w p H O [] b (.returned (.tuple #[.int .i64 0, .bool false]))) := putk_full hf hPl.out
      clear hf
      go_enter Tryz.func49, Tryz.ntmps49
      go_wp2
      go_ret2
      exact ⟨hE.out, WrK.refl _ _⟩
    | cons nn F =>
      obtain ⟨x, off, rfl, hcs⟩ := hFr.out.resolve_left (fun e => by cases e)
      have e0 := hcs 0 (by simp)
      have e0 : w.cell? ⟨x, off, none⟩ = some (.int .i64 nn) := by simpa [List.getD] using e0
      have hq1 : q = F.length + 1 := by have := hq.out; simpa using this.symm
      subst hq1
      clear hcs hq
      by_cases hcf : cf = 1
      · skip
        have hF0 : F = [] := by have := hA.out.fc; rw [hcf] at this; simpa using this
        subst hF0
        subst hcf
        have hA' := hA.out
        have hM1 : SMap (w.setCell ⟨p, 2, none⟩ (.slice (some ⟨x, off, none⟩) (0 : Nat) 0)) mb (mapF H O) := hA'.m.heap (Below.heap_setCell _ _ _ _ (hA'.m.ne hA'.v))
        obtain ⟨W2, hput, hM2, hg2⟩ := kput hM1 b nn
        obtain ⟨v2, r2, B2⟩ := place_mid (cf' := 0) (a' := (some ⟨x, off, none⟩)) hA' hg2
        rw [hm.out] at v2 r2
        have v3 := v2.grew ((Grew.refl W2).alloc (#[.int .i64 nn, .string b] : Array Value) 49)
        have hEnd : Hid (∀ a5 c5 w5, w5.ownsRow w0.heap.size 49 2 (.slice a5 (m + 1) c5) (m + 1) (prsV O ++ [.int .i64 nn, .string b]) → (W2.alloc (.cells #[.int .i64 nn, .string b] 49)).grownBy w5 (Value.slice ao m co).ownBlock → V3 w5 p (.slice ao m co) (.map (some mb)) (.slice (some ⟨x, off, none⟩) (0 : Nat) 0) ∧ PutK w0 (w5.setCell ⟨p, 0, none⟩ (.slice a5 (m + 1) c5)) p H O (nn :: []) b (.returned (.tuple #[.int .i64 nn, .bool true])) ∧ WrK p w (w5.setCell ⟨p, 0, none⟩ (.slice a5 (m + 1) c5))) := fun a5 c5 w5 h5 g5 => by
          have := place_end (a' := (some ⟨x, off, none⟩)) (cf' := 0) hA' (.inl rfl) (Nat.le_refl _) hf hM2 hg2 (by rw [hm.out]; exact h5) (by rw [hm.out]; exact g5)
          rw [hm.out] at this
          exact ⟨this.1, putk_new hf this.2.1, this.2.2⟩
        have hpw : w0.heap.size ≤ W2.heap.size := Nat.le_trans hA'.bel.size B2.size
        replace r2 : Hid (World.ownsRow W2 _ _ _ _ _ _) := r2
        obtain ⟨y0, y1, y2, s0, s1, s2⟩ := v2
        clear v3 hM1 hM2 hg2 B2 hA' hA hPl hf
        go_enter Tryz.func49, Tryz.ntmps49
        go_wp2_with (first
          | (at_builtin; refine wpList_app _ rfl (.tmp 50) (.tmp 54) 32 rfl w0.heap.size 49 iw zw 2 24 Tryz.underlying32 i1 i2 i4 i5 i3 (by decide) (.slice ao m co) m _ rfl (r2.out.alloc _) (some ⟨W2.heap.size, 0, none⟩) 1 1 [.int .i64 nn, .string b] rfl rfl (.inr ⟨_, 0, rfl, fun j u hj => new_at _ _ _ _ (by simp) j u hj⟩) (fun u hu => by simp at hu; rcases hu with rfl | rfl <;> rfl) (by unfold maxLen; omega) (by omega) (by simp; omega) ?_; intro v5 w5 hv5 hg5 hk5 hl5; obtain ⟨a5, c5, rfl, _⟩ := own_reads hv5; obtain ⟨v5, hE, hW⟩ := hEnd.out _ _ _ hv5 hg5; replace hE : Hid _ := hE; obtain ⟨x0, x1, x2, t0, t1, t2⟩ := v5)
          | fail)
        go_ret2
        exact ⟨hE.out, hW⟩
      · skip
        have hcf2 : ¬ cf = 1 := hcf
        have hcf3 : 1 ≤ cf := by have := hA.out.fc; simp at this; omega
        have hA' := hA.out
        have hM1 : SMap (w.setCell ⟨p, 2, none⟩ (.slice (some ⟨x, off + 1, none⟩) F.length (cf - 1))) mb (mapF H O) := hA'.m.heap (Below.heap_setCell _ _ _ _ (hA'.m.ne hA'.v))
        obtain ⟨W2, hput, hM2, hg2⟩ := kput hM1 b nn
        obtain ⟨v2, r2, B2⟩ := place_mid (cf' := (cf - 1)) (a' := (some ⟨x, off + 1, none⟩)) hA' hg2
        rw [hm.out] at v2 r2
        have v3 := v2.grew ((Grew.refl W2).alloc (#[.int .i64 nn, .string b] : Array Value) 49)
        have hEnd : Hid (∀ a5 c5 w5, w5.ownsRow w0.heap.size 49 2 (.slice a5 (m + 1) c5) (m + 1) (prsV O ++ [.int .i64 nn, .string b]) → (W2.alloc (.cells #[.int .i64 nn, .string b] 49)).grownBy w5 (Value.slice ao m co).ownBlock → V3 w5 p (.slice ao m co) (.map (some mb)) (.slice (some ⟨x, off + 1, none⟩) F.length (cf - 1)) ∧ PutK w0 (w5.setCell ⟨p, 0, none⟩ (.slice a5 (m + 1) c5)) p H O (nn :: F) b (.returned (.tuple #[.int .i64 nn, .bool true])) ∧ WrK p w (w5.setCell ⟨p, 0, none⟩ (.slice a5 (m + 1) c5))) := fun a5 c5 w5 h5 g5 => by
          have := place_end (a' := (some ⟨x, off + 1, none⟩)) (cf' := (cf - 1)) hA' (NumsAt.tail hA'.fr) (by have := hA'.fc; simp at this; omega) hf hM2 hg2 (by rw [hm.out]; exact h5) (by rw [hm.out]; exact g5)
          rw [hm.out] at this
          exact ⟨this.1, putk_new hf this.2.1, this.2.2⟩
        have hpw : w0.heap.size ≤ W2.heap.size := Nat.le_trans hA'.bel.size B2.size
        replace r2 : Hid (World.ownsRow W2 _ _ _ _ _ _) := r2
        obtain ⟨y0, y1, y2, s0, s1, s2⟩ := v2
        clear v3 hM1 hM2 hg2 B2 hA' hA hPl hf
        go_enter Tryz.func49, Tryz.ntmps49
        go_wp2_with (first
          | (at_builtin; refine wpList_app _ rfl (.tmp 50) (.tmp 54) 32 rfl w0.heap.size 49 iw zw 2 24 Tryz.underlying32 i1 i2 i4 i5 i3 (by decide) (.slice ao m co) m _ rfl (r2.out.alloc _) (some ⟨W2.heap.size, 0, none⟩) 1 1 [.int .i64 nn, .string b] rfl rfl (.inr ⟨_, 0, rfl, fun j u hj => new_at _ _ _ _ (by simp) j u hj⟩) (fun u hu => by simp at hu; rcases hu with rfl | rfl <;> rfl) (by unfold maxLen; omega) (by omega) (by simp; omega) ?_; intro v5 w5 hv5 hg5 hk5 hl5; obtain ⟨a5, c5, rfl, _⟩ := own_reads hv5; obtain ⟨v5, hE, hW⟩ := hEnd.out _ _ _ hv5 hg5; replace hE : Hid _ := hE; obtain ⟨x0, x1, x2, t0, t1, t2⟩ := v5)
          | fail)
        go_ret2
        exact ⟨hE.out, hW⟩
end Go.Proofs.YtbkkhafckkndfaaGreat

namespace Go.Proofs.YtbkkhafckkndfaaGreat
open Go Go.RowKit Go.Shelf
attribute [local go_sem] Oper.semAt_some

/-- What has come when k rounds are over. -/
def uptoB {α : Type} (f : Nat → α) (k : Nat) : List α := (List.range k).map f
theorem uptoB_succ {α : Type} (f : Nat → α) (k : Nat) : uptoB f (k + 1) = uptoB f k ++ [f k] := by simp [uptoB, List.range_succ]
theorem uptoB_len {α : Type} (f : Nat → α) (k : Nat) : (uptoB f k).length = k := by simp [uptoB]
/-- These blocks lie as they lay. -/
def KeepB (S : Nat → Prop) (W W' : World) : Prop := W.heap.size ≤ W'.heap.size ∧ ∀ i, S i → W'.heap[i]? = W.heap[i]?
theorem KeepB.refl (S : Nat → Prop) (W : World) : KeepB S W W := ⟨Nat.le_refl _, fun _ _ => rfl⟩
theorem KeepB.trans {S : Nat → Prop} {A B C : World} (h : KeepB S A B) (g : KeepB S B C) : KeepB S A C := ⟨Nat.le_trans h.1 g.1, fun i hi => (g.2 i hi).trans (h.2 i hi)⟩
theorem KeepB.cell {S : Nat → Prop} {A B : World} (h : KeepB S A B) {p : Addr} {v : Value} (hp : S p.block) (hc : A.cell? p = some v) : B.cell? p = some v := by
  rw [cell_of_heap (h.2 _ hp), hc]
theorem KeepB.put {S : Nat → Prop} {B : Nat} (hS : ∀ i, S i → i < B) (W : World) (l : Nat) (o o' : Obj) (hl : B ≤ l) (h : W.heap[l]? = some o) : KeepB S W (W.putObj l o') := by
  have hlt := (Array.getElem?_eq_some_iff.1 h).1
  refine ⟨by simp [World.putObj], fun i hi => World.putObj_heap_other (by have := hS i hi; omega)⟩
theorem KeepB.below {S : Nat → Prop} {W W' : World} (h : Below W.heap.size W W') (hS : ∀ i, S i → i < W.heap.size) : KeepB S W W' := ⟨h.size, fun i hi => h.block i (hS i hi)⟩
theorem KeepB.but {S T : Nat → Prop} {W W' : World} (h : But T W W') (hS : ∀ i, S i → i < W.heap.size ∧ ¬ T i) : KeepB S W W' := ⟨h.size, fun i hi => h.block i (hS i hi).1 (hS i hi).2⟩
/-- The j-th that comes: the last one first. -/
def backN (L : List Pr) (k : Nat) : Nat × Pr := (L.length - 1 - k, L.getD (L.length - 1 - k) noPr)
def encN (x : Nat × Pr) : Array Value := #[.int .i64 (x.1 : Int), .agg #[.int .i64 x.2.n, .string x.2.b]]
set_option maxRecDepth 100000 in
set_option maxHeartbeats 2000000 in
theorem back1_in (F : Fence) (n : Nat) (hF : F.fn 68) (hro : F.round = none) (hn : 1 ≤ n) (l Bs : Nat) (a : Option Addr) (cap : Nat) (L : List Pr) (S : Nat → Prop) (hSb : ∀ b off, 0 < L.length → a = some ⟨b, off, none⟩ → S b) (hSs : S Bs) (hlen : L.length < 1000000) (J Jx : List (Nat × Pr) → World → Prop)
    (hY : ∀ pre x W, J pre W → pre.length < L.length → YieldAt F (n - 1) Tryz.prog l (encN x) W fun e W' =>
      (e = .returned (.bool true) ∧ J (pre ++ [x]) W' ∧ KeepB S W W') ∨ (e = .returned (.bool false) ∧ Jx (pre ++ [x]) W'))
    (W : World) (hBs : W.cell? ⟨Bs, 0, none⟩ = some (.slice a L.length cap)) (hP : PrsAt W a L) (h0 : J [] W) :
    CallsIn F n Tryz.prog 68 #[.func (.yield l) #[] #[], .pointer (some ⟨Bs, 0, none⟩)] W fun e W' => (∃ v, e = .returned v) ∧
      ((∃ ys, ys = uptoB (backN L) L.length ∧ J ys W') ∨ (∃ pre, (∃ k, k ≤ L.length ∧ pre = uptoB (backN L) k) ∧ Jx pre W')) := by
  obtain ⟨len, hN⟩ : ∃ len, L.length = len := ⟨_, rfl⟩
  rw [hN] at hBs hlen hY hSb ⊢
  replace hSb : Hid _ := hSb
  replace hP : Hid (PrsAt W a L) := hP
  refine callsIn_of_wp Tryz.func68 rfl hF ?_ hro
  simp only [Tryz.ntmps68, List.size_toArray, List.length_cons, List.length_nil, Nat.reduceAdd, Nat.reduceSub, Array.replicate_succ, Array.replicate_zero, List.push_toArray, List.append_toArray, List.nil_append, List.cons_append]
  gi_wp2
  gi_loopw [3] (fun i wr => ∃ k m : Nat, k + m = len ∧ i = .int .i64 ((m : Int) - 1) ∧ J (uptoB (backN L) k) wr ∧ KeepB S W wr)
    (fun i _ => (intOf i + 1).toNat)
  case atStart => exact ⟨0, len, by omega, by simp, h0, KeepB.refl _ _⟩
  case round =>
    obtain ⟨k, m, hk, rfl, hJs, hK⟩ := hrel
    cases m with
    | zero =>
      obtain rfl : k = len := by omega
      have e9 : ((0 : Nat) : Int) - 1 = -1 := rfl
      rw [e9]
      clear e9
      replace hN : Hid _ := hN
      gi_wp2
      go_end0
      exact ⟨⟨_, rfl⟩, .inl ⟨_, rfl, hJs⟩⟩
    | succ m =>
      obtain ⟨b, off, rfl, hc⟩ := hP.out.resolve_left (fun e => by rw [e] at hN; simp at hN; omega)
      obtain ⟨q1, q2⟩ := hc m (by omega)
      replace q1 := hK.cell (p := ⟨b, off + m * 2, none⟩) (hSb.out _ _ (by omega) rfl) q1
      replace q2 := hK.cell (p := ⟨b, off + m * 2 + 1, none⟩) (hSb.out _ _ (by omega) rfl) q2
      clear hc
      have hBs' := hK.cell (p := ⟨Bs, 0, none⟩) hSs hBs
      have hbk : Hid (backN L k = (m, L.getD m noPr)) := by
        show _ = _
        unfold backN
        rw [hN, show len - 1 - k = m by omega]
      generalize L.getD m noPr = x at q1 q2 hbk
      obtain ⟨fn, tmps, assign, body, hy, hR⟩ := hY _ (m, x) wr hJs (by rw [uptoB_len]; omega)
      unfold encN at hy
      dsimp only at hy
      have e9 : ((m + 1 : Nat) : Int) - 1 = m := by omega
      have hm0 : (0 : Int) ≤ m := by omega
      have hm1 : (m : Int) < len := by omega
      rw [e9]
      clear e9
      replace hN : Hid _ := hN
      replace hk : Hid _ := hk
      gi_wp2
      refine hR.mono ?_
      rintro e W3 (⟨rfl, hJ3, hk3⟩ | ⟨rfl, hJx3⟩)
      · gi_wp2
        go_roundw
        case rel => exact ⟨k + 1, m, by have := hk.out; omega, rfl, by rw [uptoB_succ, hbk.out]; exact hJ3, hK.trans hk3⟩
        case measure => simp [intOf]
      · gi_wp2
        refine bodyPost_ret (results_none rfl _ _ _) rfl ?_
        exact ⟨⟨_, rfl⟩, .inr ⟨_, ⟨k + 1, by have := hk.out; omega, by rw [uptoB_succ, hbk.out]⟩, hJx3⟩⟩
set_option maxHeartbeats 1000000 in
theorem backw_in (F : Fence) (n : Nat) (hF : F.fn 46) (hro : F.round = none) (a : Option Addr) (len cap : Nat) (w : World) :
    CallsIn F n Tryz.prog 46 #[.slice a len cap] w fun e w' => e = .returned (.func (.func 68) #[] #[.pointer (some ⟨w.heap.size, 0, none⟩)]) ∧ w' = w.alloc (.cells #[.slice a len cap] 32) := by
  refine callsIn_of_wp Tryz.func46 rfl hF ?_ hro
  simp only [Tryz.ntmps46, List.size_toArray, List.length_cons, List.length_nil, Nat.reduceAdd, Nat.reduceSub, Array.replicate_succ, Array.replicate_zero, List.push_toArray, List.append_toArray, List.nil_append, List.cons_append]
  gi_wp2
  go_ret
  exact ⟨rfl, rfl⟩
theorem PrsAt.lt {w : World} {a : Option Addr} {L : List Pr} (h : PrsAt w a L) (h0 : 0 < L.length) : ∃ b off, a = some ⟨b, off, none⟩ ∧ b < w.heap.size := by
  rcases h with h | ⟨b, off, e, h⟩
  · rw [h] at h0; simp at h0
  · exact ⟨b, off, e, cell_block (h 0 h0).1⟩
/-- What Backward(L) hands its loop: all, the last one first; or the first k of them. -/
theorem backw_stops (F : Fence) (n : Nat) (hF : F.fn 68) (hro : F.round = none) (hn : 1 ≤ n) (Bs : Nat) (a : Option Addr) (cap : Nat) (L : List Pr) (S : Nat → Prop) (hSb : ∀ b off, 0 < L.length → a = some ⟨b, off, none⟩ → S b) (hSs : S Bs) (hlen : L.length < 1000000) (w : World) (hBs : w.cell? ⟨Bs, 0, none⟩ = some (.slice a L.length cap)) (hP : PrsAt w a L) :
    SeqStopsK F n Tryz.prog 68 #[.pointer (some ⟨Bs, 0, none⟩)] encN (KeepB S) (fun ys => ys = uptoB (backN L) L.length) (fun pre => ∃ k, k ≤ L.length ∧ pre = uptoB (backN L) k) L.length w := fun l J Jx W hW _ _ hY h0 =>
  back1_in F n hF hro hn l Bs a cap L S hSb hSs hlen J Jx hY W (below_cell hW hBs) (hP.below hW) h0
/-! ### The same over values of one cell -/
def backV {β : Type} (f : Nat → β) (len k : Nat) : Nat × β := (len - 1 - k, f (len - 1 - k))
def encV {β : Type} (enc : β → Value) (x : Nat × β) : Array Value := #[.int .i64 (x.1 : Int), enc x.2]
/-- Values that lie in memory one by one. -/
def OnesAt {β : Type} (enc : β → Value) (w : World) (a : Option Addr) (f : Nat → β) (len : Nat) : Prop := len = 0 ∨ ∃ b off, a = some ⟨b, off, none⟩ ∧ ∀ j, j < len → w.cell? ⟨b, off + j, none⟩ = some (enc (f j))
theorem OnesAt.below {β : Type} {enc : β → Value} {w w' : World} {a : Option Addr} {f : Nat → β} {len : Nat} (h : OnesAt enc w a f len) (g : Below w.heap.size w w') : OnesAt enc w' a f len := by
  rcases h with h | ⟨b, off, e, h⟩
  · exact .inl h
  · exact .inr ⟨b, off, e, fun j hj => below_cell g (h j hj)⟩
set_option maxRecDepth 100000 in
set_option maxHeartbeats 2000000 in
theorem backv1_in {β : Type} (enc : β → Value) (F : Fence) (n : Nat) (hF : F.fn 88) (hro : F.round = none) (hn : 1 ≤ n) (l Bs : Nat) (a : Option Addr) (cap : Nat) (f : Nat → β) (len : Nat) (S : Nat → Prop) (hSb : ∀ b off, 0 < len → a = some ⟨b, off, none⟩ → S b) (hSs : S Bs) (hlen : len < 1000000) (J Jx : List (Nat × β) → World → Prop)
    (hY : ∀ pre x W, J pre W → pre.length < len → YieldAt F (n - 1) Tryz.prog l (encV enc x) W fun e W' =>
      (e = .returned (.bool true) ∧ J (pre ++ [x]) W' ∧ KeepB S W W') ∨ (e = .returned (.bool false) ∧ Jx (pre ++ [x]) W'))
    (W : World) (hBs : W.cell? ⟨Bs, 0, none⟩ = some (.slice a len cap)) (hP : OnesAt enc W a f len) (h0 : J [] W) :
    CallsIn F n Tryz.prog 88 #[.func (.yield l) #[] #[], .pointer (some ⟨Bs, 0, none⟩)] W fun e W' => (∃ v, e = .returned v) ∧
      ((∃ ys, ys = uptoB (backV f len) len ∧ J ys W') ∨ (∃ pre, (∃ k, k ≤ len ∧ pre = uptoB (backV f len) k) ∧ Jx pre W')) := by
  replace hSb : Hid _ := hSb
  replace hP : Hid (OnesAt enc W a f len) := hP
  refine callsIn_of_wp Tryz.func88 rfl hF ?_ hro
  simp only [Tryz.ntmps88, List.size_toArray, List.length_cons, List.length_nil, Nat.reduceAdd, Nat.reduceSub, Array.replicate_succ, Array.replicate_zero, List.push_toArray, List.append_toArray, List.nil_append, List.cons_append]
  gi_wp2
  gi_loopw [3] (fun i wr => ∃ k m : Nat, k + m = len ∧ i = .int .i64 ((m : Int) - 1) ∧ J (uptoB (backV f len) k) wr ∧ KeepB S W wr)
    (fun i _ => (intOf i + 1).toNat)
  case atStart => exact ⟨0, len, by omega, by simp, h0, KeepB.refl _ _⟩
  case round =>
    obtain ⟨k, m, hk, rfl, hJs, hK⟩ := hrel
    cases m with
    | zero =>
      obtain rfl : k = len := by omega
      have e9 : ((0 : Nat) : Int) - 1 = -1 := rfl
      rw [e9]
      clear e9
      gi_wp2
      go_end0
      exact ⟨⟨_, rfl⟩, .inl ⟨_, rfl, hJs⟩⟩
    | succ m =>
      obtain ⟨b, off, rfl, hc⟩ := hP.out.resolve_left (by omega)
      have q1 := hc m (by omega)
      replace q1 := hK.cell (p := ⟨b, off + m, none⟩) (hSb.out _ _ (by omega) rfl) q1
      clear hc
      have hBs' := hK.cell (p := ⟨Bs, 0, none⟩) hSs hBs
      have hbk : Hid (backV f len k = (m, f m)) := by
        show _ = _
        unfold backV
        rw [show len - 1 - k = m by omega]
      generalize f m = x at q1 hbk
      obtain ⟨fn, tmps, assign, body, hy, hR⟩ := hY _ (m, x) wr hJs (by rw [uptoB_len]; omega)
      unfold encV at hy
      dsimp only at hy
      have e9 : ((m + 1 : Nat) : Int) - 1 = m := by omega
      have hm0 : (0 : Int) ≤ m := by omega
      have hm1 : (m : Int) < len := by omega
      rw [e9]
      clear e9
      replace hk : Hid _ := hk
      gi_wp2
      refine hR.mono ?_
      rintro e W3 (⟨rfl, hJ3, hk3⟩ | ⟨rfl, hJx3⟩)
      · gi_wp2
        go_roundw
        case rel => exact ⟨k + 1, m, by have := hk.out; omega, rfl, by rw [uptoB_succ, hbk.out]; exact hJ3, hK.trans hk3⟩
        case measure => simp [intOf]
      · gi_wp2
        refine bodyPost_ret (results_none rfl _ _ _) rfl ?_
        exact ⟨⟨_, rfl⟩, .inr ⟨_, ⟨k + 1, by have := hk.out; omega, by rw [uptoB_succ, hbk.out]⟩, hJx3⟩⟩
set_option maxHeartbeats 1000000 in
theorem backv_in (F : Fence) (n : Nat) (hF : F.fn 71) (hro : F.round = none) (a : Option Addr) (len cap : Nat) (w : World) :
    CallsIn F n Tryz.prog 71 #[.slice a len cap] w fun e w' => e = .returned (.func (.func 88) #[] #[.pointer (some ⟨w.heap.size, 0, none⟩)]) ∧ w' = w.alloc (.cells #[.slice a len cap] 149) := by
  refine callsIn_of_wp Tryz.func71 rfl hF ?_ hro
  simp only [Tryz.ntmps71, List.size_toArray, List.length_cons, List.length_nil, Nat.reduceAdd, Nat.reduceSub, Array.replicate_succ, Array.replicate_zero, List.push_toArray, List.append_toArray, List.nil_append, List.cons_append]
  gi_wp2
  go_ret
  exact ⟨rfl, rfl⟩
theorem backv_stops {β : Type} (enc : β → Value) (F : Fence) (n : Nat) (hF : F.fn 88) (hro : F.round = none) (hn : 1 ≤ n) (Bs : Nat) (a : Option Addr) (cap : Nat) (f : Nat → β) (len : Nat) (S : Nat → Prop) (hSb : ∀ b off, 0 < len → a = some ⟨b, off, none⟩ → S b) (hSs : S Bs) (hlen : len < 1000000) (w : World) (hBs : w.cell? ⟨Bs, 0, none⟩ = some (.slice a len cap)) (hP : OnesAt enc w a f len) :
    SeqStopsK F n Tryz.prog 88 #[.pointer (some ⟨Bs, 0, none⟩)] (encV enc) (KeepB S) (fun ys => ys = uptoB (backV f len) len) (fun pre => ∃ k, k ≤ len ∧ pre = uptoB (backV f len) k) len w := fun l J Jx W hW _ _ hY h0 =>
  backv1_in enc F n hF hro hn l Bs a cap f len S hSb hSs hlen J Jx hY W (below_cell hW hBs) (hP.below hW) h0
end Go.Proofs.YtbkkhafckkndfaaGreat

namespace Go.Proofs.YtbkkhafckkndfaaGreat
open Go Go.RowKit

section
variable {P : Program} {ops : Array Oper} {Q : Exit → Act → World → Prop} {l n : Nat}
theorem upon_round {o : Oper} {a : Act} {K : Act → World → Prop} {r : Result Next} (h : o.upon P a K Q r) : o.uponIn (Fence.wide.inRound l) n P a K Q r := by
  have hno : ((Fence.wide.inRound l).depth.isSome = true → 1 ≤ n) := fun e => by cases e
  cases r with
  | ok x w' =>
    cases x with
    | value v => exact h
    | skip => exact h
    | defer d => exact h
    | enter f args =>
      refine ⟨hno, CallsIn.inRound l ((callsIn_wide.2 h).mono ?_)⟩
      intro e w'' he
      cases e <;> exact he
    | row row args =>
      refine ⟨hno, fun c cs _ => ?_⟩
      obtain ⟨v, w'', r, s⟩ := h c cs
      exact ⟨v, w'', r, (stepsIn_wide.2 s : StepsIn (Machine.fenced P Fence.wide) P _ _)⟩
    | _ => exact h.elim
  | halt x w' => cases x <;> first | exact h | exact h.elim
theorem op_round {o : Oper} {a : Act} {w : World} {K : Act → World → Prop} (hd : ∀ c, o.op ≠ .defer c) (h : o.wp P a w K Q) : o.wpIn (Fence.wide.inRound l) n P a w K Q := by
  refine ⟨fun _ _ => trivial, ?_⟩
  have e : (o.semAt (Fence.wide.inRound l).round a.eval) = execOp a.eval o := Oper.semAt_some l a.eval o hd
  rw [e]
  exact upon_round h
theorem any_round (hQ : ¬ LetsOut Q) (hd : ∀ (i : Nat) o, ops[i]? = some o → ∀ c, o.op ≠ .defer c) : ∀ (fuel : Nat) (listed : Array Bool) (a : Act) (w : World), wpAny P .any ops Q fuel listed a w → wpAnyIn (Fence.wide.inRound l) n P .any ops Q fuel listed a w := by
  intro fuel
  induction fuel with
  | zero => exact fun _ _ _ h => h
  | succ fuel ih =>
    intro listed a w h
    refine ⟨h.1, fun i hi => ?_⟩
    have h2 := h.2 i hi
    unfold wpOp at h2
    unfold wpOpIn
    cases ho : ops[i]? with
    | none => rw [ho] at h2; exact ih _ _ _ h2
    | some o =>
      rw [ho] at h2
      dsimp only at h2 ⊢
      split
      · rename_i hw
        rw [if_pos hw] at h2
        exact Oper.wpIn_mono (fun a w => ih _ a w) (op_round (hd i o ho) (h2.resolve_right fun e => hQ e.2))
      · rename_i hw
        rw [if_neg hw] at h2
        exact ⟨fun _ _ => trivial, ih _ _ _ h2⟩
def noDefer (o : Oper) : Bool := match o.op with | .defer _ => false | _ => true
theorem lat_round {id : Nat} {a : Act} {w : World} (A S : World → Prop) (D : List Nat) (hm : P.follows .mixedOrders = true) (hd : (ops.all noDefer) = true) (hQ : ¬ LetsOut Q) (hS : A w.drew ∧ S w.drew)
    (h : A w.drew ∧ S w.drew → wpLat P .any ops Q A S D ops.size (Array.replicate ops.size false) a w.drew) : (Code.region id ops true).wpIn (Fence.wide.inRound l) n P Q a w :=
  wpIn_region_any hm (any_round hQ (fun i o ho c e => by
    have := Array.all_eq_true.1 hd i (Array.getElem?_eq_some_iff.1 ho).1
    rw [(Array.getElem?_eq_some_iff.1 ho).2] at this
    unfold noDefer at this
    rw [e] at this
    cases this) _ _ _ _ (lat_any _ _ _ _ (h hS)))
end
end Go.Proofs.YtbkkhafckkndfaaGreat

namespace Go.Proofs.YtbkkhafckkndfaaGreat
open Go Go.RowKit Go.Shelf
attribute [local go_sem] Oper.semAt_some

/-- What the map leads to when these have come, each laid over those ahead of it. -/
def foldW (pre : List (Nat × Pr)) : ByteArray → Option Int := pre.foldl (fun f x => updS f x.2.b x.2.n) fun _ => none
theorem foldW_snoc (pre : List (Nat × Pr)) (x : Nat × Pr) : foldW (pre ++ [x]) = updS (foldW pre) x.2.b x.2.n := by simp [foldW]
theorem find_cons (x : Pr) (L : List Pr) (b : ByteArray) : findW (x :: L) b = if x.b = b then some x.n else findW L b := by
  unfold findW
  rw [List.find?_cons]
  by_cases e : x.b = b <;> simp [e]
theorem foldW_back (H : List Pr) : ∀ k, k ≤ H.length → foldW (uptoB (backN H) k) = findW (H.drop (H.length - k)) := by
  intro k
  induction k with
  | zero =>
    intro _
    funext b
    simp [foldW, uptoB, findW]
  | succ k ih =>
    intro hk
    rw [uptoB_succ, foldW_snoc, ih (by omega)]
    funext b
    have hi : H.length - (k + 1) < H.length := by omega
    have e1 : H.drop (H.length - (k + 1)) = H[H.length - (k + 1)] :: H.drop (H.length - k) := by
      rw [List.drop_eq_getElem_cons hi, show H.length - (k + 1) + 1 = H.length - k by omega]
    have e2 : (backN H k).2 = H[H.length - (k + 1)] := by
      unfold backN
      dsimp only
      rw [show H.length - 1 - k = H.length - (k + 1) by omega]
      simp [List.getD, hi]
    rw [e1, find_cons, e2]
    unfold updS
    by_cases e : b = (H[H.length - (k + 1)]).b
    · rw [if_pos e, if_pos e.symm]
    · rw [if_neg e, if_neg (fun q => e q.symm)]
theorem foldW_all (H : List Pr) : ∀ b, foldW (uptoB (backN H) H.length) b = mapF H [] b := by
  intro b
  rw [foldW_back H _ (Nat.le_refl _), Nat.sub_self, List.drop_zero]
  unfold mapF
  cases findW H b <;> simp [findW]
/-- What turns from B on alone. -/
theorem grown_from {A B : World} {row : Option Nat} {n : Nat} (hg : A.grownBy B row) (hr : ∀ r, row = some r → n ≤ r) : But (fun i => n ≤ i) A B := ⟨hg.os, hg.tape, hg.output, hg.size, fun i hi hn => hg.block i hi (fun e => hn (hr i e.symm))⟩
/-- newPlan's own variables, when these have come. -/
structure NewI (w : World) (b : Option Addr) (F : List Int) (cf : Nat) (pre : List (Nat × Pr)) (W : World) : Prop where
  v : V3 W (w.heap.size + 1) (.slice none 0 0) (.map (some w.heap.size)) (.slice b F.length cf)
  c : W.cell? ⟨w.heap.size + 1 + 1, 0, none⟩ = some (.pointer (some ⟨w.heap.size + 1, 0, none⟩))
  m : SMap W w.heap.size (foldW pre)
  t : OfT W 98 (w.heap.size + 1)
  bel : Below w.heap.size w W
theorem NewI.but {w W W' : World} {b : Option Addr} {F : List Int} {cf : Nat} {pre : List (Nat × Pr)} {S : Nat → Prop} (h : NewI w b F cf pre W) (g : But S W W') (hS : ∀ i, S i → w.heap.size + 1 + 1 < i) : NewI w b F cf pre W' := by
  have no : ∀ i, i ≤ w.heap.size + 1 + 1 → ¬ S i := fun i hi e => by have := hS i e; omega
  exact ⟨h.v.but g (no _ (by omega)), g.cell h.c (no _ (Nat.le_refl _)), h.m.heap (g.block _ h.m.lt (no _ (by omega))), h.t.but g (no _ (by omega)), h.bel.trans (g.below (fun i e => by have := hS i e; omega) h.bel.size)⟩
set_option maxRecDepth 100000 in
set_option maxHeartbeats 4000000 in
theorem knew_any (H : List Pr) (F : List Int) (a b : Option Addr) (ch cf : Nat) (w : World) (hH : PrsAt w a H) (hF : NumsAt w b F) (hFc : F.length ≤ cf) (h1 : H.length < 1000000) :
    Calls Tryz.prog 30 #[.slice a H.length ch, .slice b F.length cf] w fun e w' => ∃ p, e = .returned (.pointer (some ⟨p, 0, none⟩)) ∧ PlanK w w' p H [] F := by
  refine (callsIn_wide (n := 10)).1 ?_
  have hmm := @run_makeMap Tryz.prog
  have hf1 : Fence.wide.fn 46 := trivial
  refine callsIn_of_wp_marks Tryz.func30 rfl trivial ?_ rfl
  simp only [Tryz.ntmps30, List.size_toArray, List.length_cons, List.length_nil, Nat.reduceAdd, Nat.reduceSub, Array.replicate_succ, Array.replicate_zero, List.push_toArray, List.append_toArray, List.nil_append, List.cons_append]
  gi_wp2_with (gi_at_call 46; refine (backw_in Fence.wide _ trivial rfl _ _ _ _).mono ?_; rintro e w' ⟨rfl, rfl⟩)
  have A1 : NewI w b F cf [] (((w.alloc (.map #[] 0)).alloc (.cells #[.slice none 0 0, .map (some w.heap.size), .slice b F.length cf] 98)).alloc (.cells #[.pointer (some ⟨w.heap.size + 1, 0, none⟩)] 92)) := by
    have g1 := (Grew.refl ((w.alloc (.map #[] 0)).alloc (.cells #[.slice none 0 0, .map (some w.heap.size), .slice b F.length cf] 98))).alloc (#[.pointer (some ⟨w.heap.size + 1, 0, none⟩)] : Array Value) 92
    have v0 := V3.new (w.alloc (.map #[] 0)) (.slice none 0 0) (.map (some w.heap.size)) (.slice b F.length cf) 98
    have t0 : OfT ((w.alloc (.map #[] 0)).alloc (.cells #[.slice none 0 0, .map (some w.heap.size), .slice b F.length cf] 98)) 98 (w.alloc (.map #[] 0)).heap.size := ⟨_, heap_alloc_new _ _⟩
    rw [World.size_alloc] at v0 t0
    refine ⟨v0.grew g1, ?_, ?_, t0.grew g1, ?_⟩
    · have := new_at ((w.alloc (.map #[] 0)).alloc (.cells #[.slice none 0 0, .map (some w.heap.size), .slice b F.length cf] 98)) [.pointer (some ⟨w.heap.size + 1, 0, none⟩)] 92 (w.heap.size + 1 + 1) (by simp) 0 _ rfl
      exact this
    · have m0 := SMap.made w
      refine m0.heap ?_
      rw [Below.heap_alloc _ _ _ (by simp; omega), Below.heap_alloc _ _ _ (by simp)]
    · exact (((Below.refl _ w).alloc (Nat.le_refl _) _).alloc (by simp) _).alloc (by simp; omega) _
  have hsz : (((w.alloc (.map #[] 0)).alloc (.cells #[.slice none 0 0, .map (some w.heap.size), .slice b F.length cf] 98)).alloc (.cells #[.pointer (some ⟨w.heap.size + 1, 0, none⟩)] 92)).heap.size = w.heap.size + 1 + 1 + 1 := by simp
  generalize ((w.alloc (.map #[] 0)).alloc (.cells #[.slice none 0 0, .map (some w.heap.size), .slice b F.length cf] 98)).alloc (.cells #[.pointer (some ⟨w.heap.size + 1, 0, none⟩)] 92) = W1 at *
  have A2 : NewI w b F cf [] (W1.alloc (.cells #[.slice a H.length ch] 32)) := A1.but (Go.Proofs.YtbkkhafckkndfaaGreat.Grew.but ((Grew.refl W1).alloc _ _)) (S := fun _ => False) (fun _ e => e.elim)
  have hBs : (W1.alloc (.cells #[.slice a H.length ch] 32)).cell? ⟨w.heap.size + 1 + 1 + 1, 0, none⟩ = some (.slice a H.length ch) := new_at W1 [.slice a H.length ch] 32 _ hsz.symm 0 _ rfl
  have hH2 : PrsAt (W1.alloc (.cells #[.slice a H.length ch] 32)) a H := hH.below A2.bel
  have hsz2 : (W1.alloc (.cells #[.slice a H.length ch] 32)).heap.size = w.heap.size + 1 + 1 + 1 + 1 := by rw [World.size_alloc, hsz]
  try simp only [hsz]
  generalize W1.alloc (.cells #[.slice a H.length ch] 32) = W2 at *
  clear A1 hsz hmm hf1
  have hlt : 0 < H.length → ∃ bb off, a = some ⟨bb, off, none⟩ ∧ bb < w.heap.size := fun h0 => hH.lt h0
  obtain ⟨S, hS⟩ : ∃ S : Nat → Prop, S = fun i => i = w.heap.size + 1 + 1 + 1 ∨ (i < w.heap.size ∧ ∃ off, a = some ⟨i, off, none⟩) := ⟨_, rfl⟩
  have hSl : ∀ i, S i → i < W2.heap.size := fun i e => by rw [hS] at e; rcases e with e | ⟨e, _⟩ <;> omega
  have hSn : ∀ i, S i → i ≠ w.heap.size := fun i e => by rw [hS] at e; rcases e with e | ⟨e, _⟩ <;> omega
  have hSb : ∀ bb off, 0 < H.length → a = some ⟨bb, off, none⟩ → S bb := fun bb off h0 e => by
    obtain ⟨b2, o2, e2, h2⟩ := hlt h0
    rw [e] at e2
    simp only [Option.some.injEq, Addr.mk.injEq] at e2
    rw [hS]
    exact .inr ⟨by rw [e2.1]; exact h2, off, e⟩
  have hSs : S (w.heap.size + 1 + 1 + 1) := by rw [hS]; exact .inl rfl
  clear hS
  refine wpIn_rangeFunc_ownH rfl (by omega) (gf := 68) (lb := #[.pointer (some ⟨w.heap.size + 1 + 1 + 1, 0, none⟩)]) rfl trivial (enters_of Tryz.func68 (by kernel_rfl) rfl)
    (backw_stops Fence.wide 9 trivial rfl (by omega) (w.heap.size + 1 + 1 + 1) a ch H S hSb hSs h1 W2 hBs hH2) (fun h g => h.trans g) (fun W l o o' hl h _ _ => KeepB.put hSl W l o o' hl h) (Below.refl _ _) (fun _ => rfl)
    (fun pre W => NewI w b F cf pre W ∧ W2.heap.size ≤ W.heap.size)
    (fun _ _ _ => False)
    (fun s A B row hs hg hr => ⟨hs.1.but (grown_from hg (fun r e => (hr r e).1)) (fun i e => by omega), Nat.le_trans hs.2 hg.size⟩)
    (fun _ _ _ _ _ hs _ _ => hs)
    ⟨A2, Nat.le_refl _⟩
    (fun x a' W => ∃ Bx, W2.heap.size ≤ Bx ∧ W.cell? ⟨Bx, 0, none⟩ = some (.int .i64 x.2.n) ∧ W.cell? ⟨Bx, 1, none⟩ = some (.string x.2.b) ∧ a' = { tmps := #[.slice a H.length ch, .slice b F.length cf, undef, undef, .pointer none, .pointer (some ⟨w.heap.size + 1 + 1, 0, none⟩), undef, .pointer (some ⟨Bx, 0, none⟩), .map (some w.heap.size), .slice b F.length cf, .agg #[.slice none 0 0, .map (some w.heap.size), .slice b F.length cf], .pointer (some ⟨w.heap.size + 1, 0, none⟩), .slice a H.length ch, .func (.func 68) #[] #[.pointer (some ⟨w.heap.size + 1 + 1 + 1, 0, none⟩)], .int .i64 (x.1 : Int), .agg #[.int .i64 x.2.n, .string x.2.b], undef, undef, undef, undef, undef, undef, undef, undef, undef], defers := [] })
    (fun x a' _ X Y row hs hg hr => by obtain ⟨Bx, h0, h1, h2, h3⟩ := hs; exact ⟨Bx, h0, cell_kept h1 hg (fun r e => (hr r e).2), cell_kept h2 hg (fun r e => (hr r e).2), h3⟩)
    ?assign ?body ?done ?stop
  case assign =>
    rintro l pre ⟨xi, xn, xb⟩ W K ⟨hI, hWs⟩ hK
    unfold encN
    dsimp only
    gi_wp2
    have hG := (Grew.refl W).alloc (#[.int .i64 xn, .string xb] : Array Value) 49
    refine hK _ _ ((KeepsOthers.alloc _ _).from _) (KeepB.below hG.below (fun i hi => by have := hSl i hi; omega)) ⟨hI.but (Go.Proofs.YtbkkhafckkndfaaGreat.Grew.but hG) (S := fun _ => False) (fun _ e => e.elim), Nat.le_trans hWs hG.size⟩ ⟨W.heap.size, hWs, ?_, ?_, rfl⟩
    · exact new_at W [.int .i64 xn, .string xb] 49 _ rfl 0 _ rfl
    · exact new_at W [.int .i64 xn, .string xb] 49 _ rfl 1 _ rfl
  case body =>
    rintro l pre ⟨xi, xn, xb⟩ a' W hl ⟨r, hr⟩ ⟨hI, hWs⟩ ⟨Bx, hBx, q1, q2, rfl⟩ hlt
    obtain ⟨⟨c0, c1, c2, z0, z1, z2⟩, hc, hm, ht, hB⟩ := id hI
    dsimp only at q1 q2
    gi_wp2
    have HP : Hid (∃ W3, (Instr.mapUpdate 96 (.map (some w.heap.size)) (.string xb) (.int .i64 xn)).run Tryz.prog W.drew = .ok () W3 ∧ KeepsFrom W2.heap.size W W3 ∧ KeepB S W W3 ∧ NewI w b F cf (pre ++ [(xi, ⟨xn, xb⟩)]) W3 ∧ W2.heap.size ≤ W3.heap.size) := by
      have hmD : SMap W.drew w.heap.size (foldW pre) := hm.heap rfl
      obtain ⟨W3, hput, hM3, hg3⟩ := kput hmD xb xn
      have hg : But (fun i => i = w.heap.size) W W3 := ⟨hg3.os, hg3.tape, hg3.output, hg3.size, fun i hi hn => hg3.block i hi (fun e => hn (by simpa using e))⟩
      refine ⟨W3, hput, KeepsFrom.of_grownBy (row := some w.heap.size) ⟨hg.os, hg.tape, hg.output, hg.size, fun i hi hn => hg.block i hi (fun e => hn (by rw [e]))⟩ (fun j e => by cases e; omega), KeepB.but hg (fun i hi => ⟨by have := hSl i hi; omega, hSn i hi⟩), ?_, Nat.le_trans hWs hg.size⟩
      refine ⟨hI.v.but hg (by omega), hg.cell hI.c (by simp; omega), ?_, hI.t.but hg (by omega), hI.bel.trans (hg.below (fun i e => by omega) hI.bel.size)⟩
      rw [foldW_snoc]
      exact hM3
    have HF : Hid (W.cell? ⟨w.heap.size + 1 + 1, 0, none⟩ = some (.pointer (some ⟨w.heap.size + 1, 0, none⟩)) ∧ W.cell? ⟨w.heap.size + 1, 1, none⟩ = some (.map (some w.heap.size)) ∧ W.cell? ⟨Bx, 0, none⟩ = some (.int .i64 xn) ∧ W.cell? ⟨Bx, 1, none⟩ = some (.string xb)) := ⟨hc, c1, q1, q2⟩
    clear hI hm hc c0 c1 c2 q1 q2 hSl hSn hSb
    -- REGION
    refine lat_round (A := (fun _ => True)) (S := (fun v => v = W.drew)) [8] (by kernel_rfl) (by kernel_rfl) (by rintro ⟨_, _, h⟩; exact h) ?_ (fun hH0 => ?_)
    · exact ⟨trivial, rfl⟩
    refine lat_take (i := 0) (oi := { dst := some 16, op := Go.Op.load 92 (Go.Operand.tmp 5), type := 92, pos := "plan.go:22", after := #[], guard := none }) (v := ?vnw1) rfl (by kernel_rfl) (by kernel_rfl) (by kernel_rfl) (by kernel_rfl) (by kernel_rfl) (fun _ _ _ h => h) (Or.inl ⟨by rfl, ?hynw1⟩) hH0 ?restnw1
    case hynw1 => (intro w hSw; subst hSw; obtain ⟨f1, f2, f3, f4⟩ := HF.out; go_simp; try (with_reducible rfl))
    simp only [Act.put, List.setIfInBounds_toArray, List.set_cons_zero, List.set_cons_succ]
    refine lat_free (i := 1) (oi := { dst := some 17, op := Go.Op.nilCheck (Go.Operand.tmp 16), type := 0, pos := "plan.go:22", after := #[{ on := 0, ground := Go.Ground.data }], guard := none }) (v := ?vnw2) rfl (by kernel_rfl) (by kernel_rfl) (by kernel_rfl) (by kernel_rfl) (fun _ _ _ h => h) (Or.inl ⟨by rfl, ?hynw2⟩) ⟨hH0.1, fun _ => hH0.2⟩ ?restnw2
    case hynw2 => (intro w hAw; skip; go_simp; try (with_reducible rfl))
    simp only [Act.put, List.setIfInBounds_toArray, List.set_cons_zero, List.set_cons_succ]
    refine lat_free (i := 2) (oi := { dst := some 18, op := Go.Op.fieldAddr 98 (Go.Operand.tmp 17) 1, type := 0, pos := "plan.go:22", after := #[{ on := 1, ground := Go.Ground.data }], guard := none }) (v := ?vnw3) rfl (by kernel_rfl) (by kernel_rfl) (by kernel_rfl) (by kernel_rfl) (fun _ _ _ h => h) (Or.inl ⟨by rfl, ?hynw3⟩) ⟨hH0.1, fun _ => hH0.2⟩ ?restnw3
    case hynw3 => (intro w hAw; skip; go_simp; try (with_reducible rfl))
    simp only [Act.put, List.setIfInBounds_toArray, List.set_cons_zero, List.set_cons_succ]
    refine lat_take (i := 3) (oi := { dst := some 19, op := Go.Op.load 96 (Go.Operand.tmp 18), type := 96, pos := "plan.go:22", after := #[{ on := 2, ground := Go.Ground.data }], guard := none }) (v := ?vnw4) rfl (by kernel_rfl) (by kernel_rfl) (by kernel_rfl) (by kernel_rfl) (by kernel_rfl) (fun _ _ _ h => h) (Or.inl ⟨by rfl, ?hynw4⟩) hH0 ?restnw4
    case hynw4 => (intro w hSw; subst hSw; obtain ⟨f1, f2, f3, f4⟩ := HF.out; go_simp; try (with_reducible rfl))
    simp only [Act.put, List.setIfInBounds_toArray, List.set_cons_zero, List.set_cons_succ]
    refine lat_free (i := 4) (oi := { dst := some 20, op := Go.Op.fieldAddr 49 (Go.Operand.tmp 7) 1, type := 0, pos := "plan.go:22", after := #[], guard := none }) (v := ?vnw5) rfl (by kernel_rfl) (by kernel_rfl) (by kernel_rfl) (by kernel_rfl) (fun _ _ _ h => h) (Or.inl ⟨by rfl, ?hynw5⟩) ⟨hH0.1, fun _ => hH0.2⟩ ?restnw5
    case hynw5 => (intro w hAw; skip; go_simp; try (with_reducible rfl))
    simp only [Act.put, List.setIfInBounds_toArray, List.set_cons_zero, List.set_cons_succ]
    refine lat_take (i := 5) (oi := { dst := some 21, op := Go.Op.load 9 (Go.Operand.tmp 20), type := 9, pos := "plan.go:22", after := #[{ on := 4, ground := Go.Ground.data }], guard := none }) (v := ?vnw6) rfl (by kernel_rfl) (by kernel_rfl) (by kernel_rfl) (by kernel_rfl) (by kernel_rfl) (fun _ _ _ h => h) (Or.inl ⟨by rfl, ?hynw6⟩) hH0 ?restnw6
    case hynw6 => (intro w hSw; subst hSw; obtain ⟨f1, f2, f3, f4⟩ := HF.out; go_simp; try (with_reducible rfl))
    simp only [Act.put, List.setIfInBounds_toArray, List.set_cons_zero, List.set_cons_succ]
    refine lat_free (i := 6) (oi := { dst := some 22, op := Go.Op.fieldAddr 49 (Go.Operand.tmp 7) 0, type := 0, pos := "plan.go:22", after := #[], guard := none }) (v := ?vnw7) rfl (by kernel_rfl) (by kernel_rfl) (by kernel_rfl) (by kernel_rfl) (fun _ _ _ h => h) (Or.inl ⟨by rfl, ?hynw7⟩) ⟨hH0.1, fun _ => hH0.2⟩ ?restnw7
    case hynw7 => (intro w hAw; skip; go_simp; try (with_reducible rfl))
    simp only [Act.put, List.setIfInBounds_toArray, List.set_cons_zero, List.set_cons_succ]
    refine lat_take (i := 7) (oi := { dst := some 23, op := Go.Op.load 3 (Go.Operand.tmp 22), type := 3, pos := "plan.go:22", after := #[{ on := 6, ground := Go.Ground.data }], guard := none }) (v := ?vnw8) rfl (by kernel_rfl) (by kernel_rfl) (by kernel_rfl) (by kernel_rfl) (by kernel_rfl) (fun _ _ _ h => h) (Or.inl ⟨by rfl, ?hynw8⟩) hH0 ?restnw8
    case hynw8 => (intro w hSw; subst hSw; obtain ⟨f1, f2, f3, f4⟩ := HF.out; go_simp; try (with_reducible rfl))
    simp only [Act.put, List.setIfInBounds_toArray, List.set_cons_zero, List.set_cons_succ]
    refine lat_one (i := 8) (by kernel_rfl) ?_
    refine lat_write (o := { dst := none, op := Go.Op.mapUpdate 96 (Go.Operand.tmp 19) (Go.Operand.tmp 21) (Go.Operand.tmp 23), type := 0, pos := "plan.go:22", after := #[{ on := 3, ground := Go.Ground.data }, { on := 5, ground := Go.Ground.data }, { on := 7, ground := Go.Ground.data }, { on := 0, ground := Go.Ground.phase }, { on := 1, ground := Go.Ground.phase }, { on := 2, ground := Go.Ground.phase }, { on := 3, ground := Go.Ground.phase }, { on := 4, ground := Go.Ground.phase }, { on := 5, ground := Go.Ground.phase }, { on := 6, ground := Go.Ground.phase }, { on := 7, ground := Go.Ground.phase }], guard := none }) rfl (by kernel_rfl) (fun K hK => ?_)
    obtain ⟨W3, hput, hE⟩ := HP.out
    go_simp
    refine hK.out _ _ (trivial) (fun hHnw9 => ?_)
    clear hK K
    refine lat_done (by kernel_rfl) ?_ _
    exact hE
    -- END
  case done =>
    rintro D ys W hD rfl ⟨hI, hWs⟩ hK
    have hc := hI.c
    gi_wp2
    have hD2 : w.heap.size + 1 + 1 < D := by omega
    have hW : NewI w b F cf (uptoB (backN H) H.length) (W.putObj D (.deferred none)) := hI.but (grown_from (grownBy_putObj' W D (.deferred none)) (fun r e => by cases e; exact Nat.le_refl D)) (fun i e => by omega)
    refine ⟨by simp, .inl ⟨_, _, rfl, run_takeDeferred hK, ?_⟩⟩
    refine ⟨_, results_tmp rfl _ _ _, w.heap.size + 1, rfl, w.heap.size, none, 0, b, cf, hW.v, hW.m.congr (foldW_all H), hF, hFc, World.ownsRow_nil _ _ _ _, hW.bel, by omega, Nat.le_refl _, hW.t⟩
  case stop =>
    rintro D c pre W _ _ h _
    exact h.elim
end Go.Proofs.YtbkkhafckkndfaaGreat

namespace Go.Proofs.YtbkkhafckkndfaaGreat
open Go Go.RowKit Go.Shelf
attribute [local go_sem] Oper.semAt_some

/-- The k-th piece of so many bytes that lie there. -/
def chV (b off sz k : Nat) : Value := .slice (some ⟨b, off + k * 120, none⟩) (min 120 (sz - k * 120)) (min 120 (sz - k * 120))
def cuts (sz : Nat) : Nat := (sz - 1) / 120 + 1
set_option maxRecDepth 100000 in
set_option maxHeartbeats 4000000 in
theorem chunk1_in (n : Nat) (l Bs Bn b off sz cap : Nat) (S : Nat → Prop) (hSs : S Bs) (hSn : S Bn) (hsz : 0 < sz) (hsz2 : sz ≤ 1000) (hcap : sz ≤ cap) (J Jx : List Nat → World → Prop)
    (hY : ∀ pre x W, J pre W → pre.length < cuts sz → YieldAt Fence.wide (n - 1) Tryz.prog l #[chV b off sz x] W fun e W' =>
      (e = .returned (.bool true) ∧ J (pre ++ [x]) W' ∧ KeepB S W W') ∨ (e = .returned (.bool false) ∧ Jx (pre ++ [x]) W'))
    (W : World) (hBs : W.cell? ⟨Bs, 0, none⟩ = some (.slice (some ⟨b, off, none⟩) sz cap)) (hBn : W.cell? ⟨Bn, 0, none⟩ = some (.int .i64 120)) (h0 : J [] W)
    (hJd : ∀ pre W, J pre W → J pre W.drew) :
    CallsIn Fence.wide n Tryz.prog 87 #[.func (.yield l) #[] #[], .pointer (some ⟨Bs, 0, none⟩), .pointer (some ⟨Bn, 0, none⟩)] W fun e W' => (∃ v, e = .returned v) ∧
      ((∃ ys, ys = uptoB id (cuts sz) ∧ J ys W') ∨ (∃ pre, (∃ k, k ≤ cuts sz ∧ pre = uptoB id k) ∧ Jx pre W')) := by
  obtain ⟨m, hm⟩ : ∃ m, cuts sz = m := ⟨_, rfl⟩
  have hm1 : ∀ k, k * 120 < sz ↔ k < m := fun k => by rw [← hm]; unfold cuts; omega
  rw [hm] at hY ⊢
  refine callsIn_of_wp Tryz.func87 rfl trivial ?_ rfl
  simp only [Tryz.ntmps87, List.size_toArray, List.length_cons, List.length_nil, Nat.reduceAdd, Nat.reduceSub, Array.replicate_succ, Array.replicate_zero, List.push_toArray, List.append_toArray, List.nil_append, List.cons_append]
  gi_wp2
  gi_loopw [4] (fun i wr => ∃ k : Nat, k ≤ m ∧ i = .int .i64 ((k * 120 : Nat) : Int) ∧ J (uptoB id k) wr ∧ KeepB S W wr)
    (fun i _ => m * 120 + 120 - (intOf i).toNat)
  case atStart => exact ⟨0, by omega, by simp, h0, KeepB.refl _ _⟩
  case round =>
    obtain ⟨k, hk, rfl, hJs, hK⟩ := hrel
    have hBs' := hK.cell (p := ⟨Bs, 0, none⟩) hSs hBs
    have hBn' := hK.cell (p := ⟨Bn, 0, none⟩) hSn hBn
    by_cases hlt : k < m
    · have hks := (hm1 k).2 hlt
      obtain ⟨q, hq⟩ : ∃ q, k * 120 = q := ⟨_, rfl⟩
      rw [hq] at hks ⊢
      have hqi : (q : Int) < sz := by omega
      have hch : chV b off sz k = .slice (some ⟨b, off + q, none⟩) (min 120 (sz - q)) (min 120 (sz - q)) := by unfold chV; rw [hq]
      obtain ⟨d, hd⟩ : ∃ d, min 120 (sz - q) = d := ⟨_, rfl⟩
      rw [hd] at hch
      have hd2 : min 120 ((sz - q : Nat) : Int) = (d : Int) := by omega
      have hqd : (q : Int) + d ≤ sz := by omega
      have hqd1 : q + d ≤ sz := by omega
      have hqd2 : (q : Int) + d ≤ cap := by omega
      obtain ⟨fn, tmps, assign, body, hy, hR⟩ := hY _ k wr.drew (hJd _ _ hJs) (by rw [uptoB_len]; exact hlt)
      rw [hch] at hy
      have hKd : KeepB S wr wr.drew := ⟨Nat.le_refl _, fun _ _ => rfl⟩
      replace hq : Hid _ := hq
      replace hm1 : Hid _ := hm1
      replace hch : Hid _ := hch
      replace hd : Hid _ := hd
      gi_wp2
      gi_region
      gi_wp2
      refine ⟨fun e => (by cases e), ?_⟩
      refine hR.mono ?_
      rintro e W3 (⟨rfl, hJ3, hk3⟩ | ⟨rfl, hJx3⟩)
      · have hBn3 := ((hK.trans hKd).trans hk3).cell (p := ⟨Bn, 0, none⟩) hSn hBn
        gi_wp2
        go_roundw
        case rel => exact ⟨k + 1, hlt, by have := hq.out; simp; omega, by rw [uptoB_succ]; exact hJ3, (hK.trans hKd).trans hk3⟩
        case measure => have := hq.out; simp [intOf]; omega
      · gi_wp2
        refine bodyPost_ret (results_none rfl _ _ _) rfl ?_
        exact ⟨⟨_, rfl⟩, .inr ⟨_, ⟨k + 1, hlt, by rw [uptoB_succ]; rfl⟩, hJx3⟩⟩
    · have hks : ¬ k * 120 < sz := fun e => hlt ((hm1 k).1 e)
      obtain rfl : k = m := by omega
      obtain ⟨q, hq⟩ : ∃ q, k * 120 = q := ⟨_, rfl⟩
      rw [hq] at hks ⊢
      have hqi : ¬ (q : Int) < sz := by omega
      replace hq : Hid _ := hq
      replace hm1 : Hid _ := hm1
      gi_wp2
      go_end0
      exact ⟨⟨_, rfl⟩, .inl hJs⟩
/-- A value that slices.Chunk handed back gives the pieces, in order. -/
theorem chunk_stops (n Bs Bn b off sz cap : Nat) (S : Nat → Prop) (hSs : S Bs) (hSn : S Bn) (hsz : 0 < sz) (hsz2 : sz ≤ 1000) (hcap : sz ≤ cap) (w : World) (hBs : w.cell? ⟨Bs, 0, none⟩ = some (.slice (some ⟨b, off, none⟩) sz cap)) (hBn : w.cell? ⟨Bn, 0, none⟩ = some (.int .i64 120))
    : SeqStopsK Fence.wide n Tryz.prog 87 #[.pointer (some ⟨Bs, 0, none⟩), .pointer (some ⟨Bn, 0, none⟩)] (fun x : Nat => #[chV b off sz x]) (KeepB S) (fun ys => ys = uptoB id (cuts sz)) (fun pre => ∃ k, k ≤ cuts sz ∧ pre = uptoB id k) (cuts sz) w := fun l J Jx W hW hJ _ hY h0 =>
  chunk1_in n l Bs Bn b off sz cap S hSs hSn hsz hsz2 hcap J Jx hY W (below_cell hW hBs) (below_cell hW hBn) h0 fun pre W h => hJ pre W W.drew none h ⟨rfl, rfl, rfl, Nat.le_refl _, fun _ _ _ => rfl⟩ (fun r e => by cases e)
set_option maxHeartbeats 1000000 in
theorem chunk_in (n : Nat) (a : Option Addr) (len cap : Nat) (w : World) :
    CallsIn Fence.wide n Tryz.prog 70 #[.slice a len cap, .int .i64 120] w fun e w' => e = .returned (.func (.func 87) #[] #[.pointer (some ⟨w.heap.size, 0, none⟩), .pointer (some ⟨w.heap.size + 1, 0, none⟩)]) ∧ w' = (w.alloc (.cells #[.slice a len cap] 60)).alloc (.cells #[.int .i64 120] 3) := by
  refine callsIn_of_wp Tryz.func70 rfl trivial ?_ rfl
  simp only [Tryz.ntmps70, List.size_toArray, List.length_cons, List.length_nil, Nat.reduceAdd, Nat.reduceSub, Array.replicate_succ, Array.replicate_zero, List.push_toArray, List.append_toArray, List.nil_append, List.cons_append]
  gi_wp2
  go_ret
  exact ⟨rfl, rfl⟩
/-- A row of values that lies in a variable. -/
structure RowI (w : World) (b off sz : Nat) (pre : List Nat) (W : World) (v : Value) : Prop where
  c : W.cell? ⟨w.heap.size, 0, none⟩ = some v
  z : W.frozen? ⟨w.heap.size, 0, none⟩ = false
  t : OfT W 149 w.heap.size
  row : W.ownsRow w.heap.size 60 1 v pre.length (pre.map (chV b off sz))
  bel : Below w.heap.size w W
theorem RowI.but {w W W' : World} {b off sz : Nat} {pre : List Nat} {v : Value} {S : Nat → Prop} (h : RowI w b off sz pre W v) (g : But S W W') (hS : ∀ i, S i → w.heap.size < i) (hr : ∀ i, S i → ¬ OfT W 60 i) : RowI w b off sz pre W' v := by
  have hn : ¬ S w.heap.size := fun e => by have := hS _ e; omega
  exact ⟨g.cell h.c hn, g.frozen (cell_block h.c) hn h.z, h.t.but g hn, row_but h.row g (fun i e e2 => hr i e2 (row_ofT h.row e)), h.bel.trans (g.below (fun i e => by have := hS i e; omega) h.bel.size)⟩
theorem row_mid {w W w5 : World} {b off sz : Nat} {pre : List Nat} {v u : Value} (h : RowI w b off sz pre W v) (hg : (W.alloc (.cells #[u] 60)).grownBy w5 v.ownBlock) : w5.cell? ⟨w.heap.size, 0, none⟩ = some v ∧ w5.frozen? ⟨w.heap.size, 0, none⟩ = false ∧ But (fun i => v.ownBlock = some i) W w5 := by
  have B := ((But.refl (fun i => v.ownBlock = some i) W).alloc (.cells #[u] 60)).trans (grown_but hg)
  have hn : ¬ v.ownBlock = some w.heap.size := fun e => absurd (OfT.ne h.t (row_ofT h.row e)) (by decide)
  exact ⟨B.cell h.c hn, B.frozen (cell_block h.c) hn h.z, B⟩
theorem row_end {w W w5 : World} {b off sz : Nat} {pre : List Nat} {v v5 u : Value} {x : Nat} (h : RowI w b off sz pre W v) (hu : u = chV b off sz x) (hg : (W.alloc (.cells #[u] 60)).grownBy w5 v.ownBlock) (hv5 : w5.ownsRow w.heap.size 60 1 v5 (pre.length + 1) (pre.map (chV b off sz) ++ [u])) :
    RowI w b off sz (pre ++ [x]) (w5.setCell ⟨w.heap.size, 0, none⟩ v5) v5 ∧ But (fun i => v.ownBlock = some i ∨ i = w.heap.size) W (w5.setCell ⟨w.heap.size, 0, none⟩ v5) := by
  obtain ⟨q1, q2, B⟩ := row_mid h hg
  have hn : ¬ v.ownBlock = some w.heap.size := fun e => absurd (OfT.ne h.t (row_ofT h.row e)) (by decide)
  have t5 := h.t.but B hn
  have B6 : But (fun i => i = w.heap.size) w5 (w5.setCell ⟨w.heap.size, 0, none⟩ v5) := (But.refl (fun i => i = w.heap.size) w5).set (b := w.heap.size) rfl 0 none _
  have b5 : Below w.heap.size w w5 := h.bel.trans (B.below (fun i e => (h.row.lt i e).1) h.bel.size)
  refine ⟨⟨World.cell?_setCell_same' _ _ _ (by rw [q1]; rfl), by rw [World.frozen?_setCell]; exact q2, t5.set _ _ _, ?_, b5.trans (B6.below (fun i e => by omega) b5.size)⟩, (B.more fun _ _ e => .inl e).trans (B6.more fun _ _ e => .inr e)⟩
  have r6 := row_but hv5 B6 (fun i e e2 => absurd (OfT.ne (e2 ▸ t5) (row_ofT hv5 e)) (by decide))
  rw [hu] at r6
  simpa using r6
set_option maxRecDepth 100000 in
theorem info_kbytes : ∃ (i : TypeInfo) (z : Value), (Tryz.prog).info? 60 = some i ∧ i.zero = some z ∧ z.cells.size = 1 ∧ i.size = 1 ∧ i.bytes = 24 := ⟨_, _, rfl, rfl, rfl, rfl, rfl⟩
set_option maxRecDepth 100000 in
set_option maxHeartbeats 4000000 in
theorem appseq_in (n : Nat) (hn : 5 ≤ n) (Bs Bn b off sz cap : Nat) (w : World) (hsz : 0 < sz) (hsz2 : sz ≤ 1000) (hcap : sz ≤ cap) (hBs : w.cell? ⟨Bs, 0, none⟩ = some (.slice (some ⟨b, off, none⟩) sz cap)) (hBn : w.cell? ⟨Bn, 0, none⟩ = some (.int .i64 120)) :
    CallsIn Fence.wide n Tryz.prog 86 #[.slice none 0 0, .func (.func 87) #[] #[.pointer (some ⟨Bs, 0, none⟩), .pointer (some ⟨Bn, 0, none⟩)]] w fun e w' => ∃ v, e = .returned v ∧ w'.ownsRow w.heap.size 60 1 v (cuts sz) ((uptoB id (cuts sz)).map (chV b off sz)) ∧ Below w.heap.size w w' := by
  obtain ⟨ip, zp, i1, i2, i3, i4, i5⟩ := info_kbytes
  refine callsIn_of_wp_marks Tryz.func86 rfl trivial ?_ rfl
  simp only [Tryz.ntmps86, List.size_toArray, List.length_cons, List.length_nil, Nat.reduceAdd, Nat.reduceSub, Array.replicate_succ, Array.replicate_zero, List.push_toArray, List.append_toArray, List.nil_append, List.cons_append]
  gi_wp2
  have A2 : RowI w b off sz [] (w.alloc (.cells #[.slice none 0 0] 149)) (.slice none 0 0) := ⟨new_at w [.slice none 0 0] 149 _ rfl 0 _ rfl, frozen_of_row _ _ _ _ _ (heap_alloc_new _ _), ⟨_, heap_alloc_new _ _⟩, World.ownsRow_nil _ _ _ _, ((Grew.refl w).alloc _ _).below⟩
  have hBs2 := below_cell ((Grew.refl w).alloc (#[.slice none 0 0] : Array Value) 149).below hBs
  have hBn2 := below_cell ((Grew.refl w).alloc (#[.slice none 0 0] : Array Value) 149).below hBn
  have hls := cell_block hBs
  have hln := cell_block hBn
  have hsz3 : (w.alloc (.cells #[.slice none 0 0] 149)).heap.size = w.heap.size + 1 := World.size_alloc _ _
  generalize w.alloc (.cells #[.slice none 0 0] 149) = W2 at *
  have hSl : ∀ i, (i = Bs ∨ i = Bn) → i < w.heap.size := fun i e => by rcases e with e | e <;> (rw [e]; assumption)
  refine wpIn_rangeFunc_ownG rfl (by omega) (gf := 87) (lb := #[.pointer (some ⟨Bs, 0, none⟩), .pointer (some ⟨Bn, 0, none⟩)]) rfl trivial (enters_of Tryz.func87 (by kernel_rfl) rfl)
    (chunk_stops (n - 1) Bs Bn b off sz cap (fun i => i = Bs ∨ i = Bn) (.inl rfl) (.inr rfl) hsz hsz2 hcap W2 hBs2 hBn2) (fun h g => h.trans g) (fun W l o o' hl h _ _ => KeepB.put (B := W2.heap.size) (fun i e => by have := hSl i e; omega) W l o o' hl h) (Below.refl _ _) (fun _ => rfl)
    (fun pre W => ∃ v, RowI w b off sz pre W v)
    (fun _ _ _ => False)
    (fun s A B row hs hg hr => by
      obtain ⟨v, hv⟩ := hs
      refine ⟨v, hv.but (S := fun i => row = some i) ⟨hg.os, hg.tape, hg.output, hg.size, fun i hi hn => hg.block i hi (fun e => hn e.symm)⟩ (fun i e => by have := (hr i e).1; omega) (fun i e h => ?_)⟩
      obtain ⟨o, ho, hc⟩ := (hr i e).2
      obtain ⟨cs, e2⟩ := h
      rw [ho] at e2
      cases e2
      cases hc)
    (fun _ _ _ _ _ hs _ _ => hs)
    ⟨_, A2⟩
    (fun x => { tmps := #[.slice none 0 0, .func (.func 87) #[] #[.pointer (some ⟨Bs, 0, none⟩), .pointer (some ⟨Bn, 0, none⟩)], .pointer (some ⟨w.heap.size, 0, none⟩), undef, .slice none 0 0, chV b off sz x, .func (.func 87) #[] #[.pointer (some ⟨Bs, 0, none⟩), .pointer (some ⟨Bn, 0, none⟩)], chV b off sz x, undef, undef, undef, undef, undef], defers := [] })
    ?assign ?body ?done ?stop
  case assign =>
    intro l x W K hK
    gi_wp2
    exact hK
  case body =>
    rintro l pre x W ⟨v, hI⟩ hlt
    obtain ⟨c0, z0, ht, hrow, hB⟩ := id hI
    obtain ⟨o1, d, hch⟩ : ∃ o1 d, chV b off sz x = .slice (some ⟨b, o1, none⟩) d d := ⟨_, _, rfl⟩
    rw [hch]
    have hct : cuts sz ≤ 9 := by unfold cuts; omega
    replace hrow : Hid (World.ownsRow W _ _ _ _ _ _) := hrow
    replace hch : Hid _ := hch
    replace hI : Hid _ := hI
    have hBsz := hB.size
    gi_wp2_with (gi_at_builtin; refine wpListIn_append_own_at _ rfl _ _ 149 rfl w.heap.size 60 ip zp 1 24 Tryz.underlying149 i1 i2 i4 i5 i3 (by decide) v pre.length _ rfl (hrow.out.alloc _) ⟨W.heap.size, 0, none⟩ 1 1 [.slice (some ⟨b, o1, none⟩) d d] rfl rfl (cell_one_new _ _ _) (by simp [Value.oneCell']) (by unfold maxLen; omega) (by omega) (by simp; omega) ?_; intro v5 w5 hv5 hg5 _ hl5; obtain ⟨a5, c5, rfl, _⟩ := own_reads hv5; obtain ⟨q1, q2, q3⟩ := row_mid hI.out hg5)
    obtain ⟨r1, r2⟩ := row_end hI.out hch.out.symm hg5 hv5
    have hS2 : ∀ i, (v.ownBlock = some i ∨ i = w.heap.size) → w.heap.size ≤ i := fun i e => by
      rcases e with e | e
      · exact (hI.out.row.lt i e).1
      · omega
    refine ⟨⟨r2.size, fun k o _ hk ho => ?_⟩, KeepB.but r2 (fun i hi => ⟨by have := hSl i hi; omega, fun e => by have := hS2 i e; have := hSl i hi; omega⟩), _, r1⟩
    rw [r2.block k (Array.getElem?_eq_some_iff.1 hk).1 (fun e => ?_), hk]
    have hT : ∃ E, OfT W E k := by
      rcases e with e | e
      · exact ⟨_, row_ofT hI.out.row e⟩
      · exact ⟨_, e ▸ ht⟩
    obtain ⟨E, cs, e2⟩ := hT
    rw [hk] at e2
    cases e2
    cases ho
  case done =>
    rintro D ys W hD rfl ⟨v, hI⟩ hK
    obtain ⟨c0, z0, ht, hrow, hB⟩ := id hI
    gi_wp2
    have hg := grownBy_putObj' W D (.deferred none)
    have hW := hI.but (S := fun i => i = D) ⟨hg.os, hg.tape, hg.output, hg.size, fun i hi hn => hg.block i hi (fun e => hn (by simpa using e))⟩ (fun i e => by omega) (fun i e h => by
      obtain ⟨cs, e2⟩ := h
      rw [e, hK] at e2
      cases e2)
    refine ⟨by simp, .inl ⟨_, _, rfl, run_takeDeferred hK, ?_⟩⟩
    refine ⟨_, results_tmp rfl _ _ _, v, rfl, ?_, hW.bel⟩
    have := hW.row
    rw [uptoB_len] at this
    exact this
  case stop =>
    rintro D c pre W _ _ h _
    exact h.elim
set_option maxHeartbeats 1000000 in
theorem collect_in (n : Nat) (hn : 6 ≤ n) (Bs Bn b off sz cap : Nat) (w : World) (hsz : 0 < sz) (hsz2 : sz ≤ 1000) (hcap : sz ≤ cap) (hBs : w.cell? ⟨Bs, 0, none⟩ = some (.slice (some ⟨b, off, none⟩) sz cap)) (hBn : w.cell? ⟨Bn, 0, none⟩ = some (.int .i64 120)) :
    CallsIn Fence.wide n Tryz.prog 69 #[.func (.func 87) #[] #[.pointer (some ⟨Bs, 0, none⟩), .pointer (some ⟨Bn, 0, none⟩)]] w fun e w' => ∃ v, e = .returned v ∧ w'.ownsRow w.heap.size 60 1 v (cuts sz) ((uptoB id (cuts sz)).map (chV b off sz)) ∧ Below w.heap.size w w' := by
  have hf1 : Fence.wide.fn 86 := trivial
  have h1n : 1 ≤ n := by omega
  refine callsIn_of_wp Tryz.func69 rfl trivial ?_ rfl
  simp only [Tryz.ntmps69, List.size_toArray, List.length_cons, List.length_nil, Nat.reduceAdd, Nat.reduceSub, Array.replicate_succ, Array.replicate_zero, List.push_toArray, List.append_toArray, List.nil_append, List.cons_append]
  gi_wp2_with (gi_at_call 86; refine (appseq_in (n - 1) (by omega) Bs Bn b off sz cap w hsz hsz2 hcap hBs hBn).mono ?_; rintro e w' ⟨v, rfl, h1, h2⟩)
  go_ret
  exact ⟨_, by trivial, h1, h2⟩
end Go.Proofs.YtbkkhafckkndfaaGreat
