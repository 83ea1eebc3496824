/-
  A region that draws its order, whose own operations only read and whose calls only grow the world, walked once, in the order of the text: the library's quiet walk at the class 'Grew M', its remainder shut in a box. Nothing of the program is in sight. A region that draws its order, reads cells, and writes some of these towards its end: what is read may be taken first, if those operations that write (D) wait for it. (What must hold of the world, S, is asked till the first of D has come up.) As JLate, with two sorts of cells: those that nobody in the region writes (A: read at any time), and those that it writes towards its end (S: read ahead of D). The document's own pages of records: key, page, fill, Chain, Link.
-/
import Derived.Test.YtbkkhafckkndfaaGreatPk01
import Derived.Deep.Quiet
import Derived.BigQuiet
import Derived.Test.YtbkkhafckkndfaaGreatRows
import Derived.Deep.RegionHeld
import Derived.Deep.DeepFit
import Derived.OwnWalk
import Derived.Deep.CutRange
import Derived.Deep.QuietTactic
namespace Go.Proofs.YtbkkhafckkndfaaGreat
open Go Go.RowKit

/-- A sentence that no reduction looks into. -/
structure Kept (p : Prop) : Prop where
  out : p
section
variable {P : Program} {ops : Array Oper} {M : World} {Q : Act → Prop} {a : Act} {o : Oper} {rest : List Oper}
theorem kept_region {id : Nat} {R : Exit → Act → World → Prop} {a : Act} (M : World) (hm : P.follows .mixedOrders = true) (hB : Region.lexB .any ops = true)
    (h : Kept (wpQuiet P ops (fun w' => Grew M w') (fun a' => ∀ w', Grew M w' → R .normal a' w') ops.toList a)) : (Code.region id ops true).wp P R a M :=
  wp_region_quiet (C := fun w' => Grew M w') hm hB (Grew.refl M).drew h.out
theorem kept_want (v : Value) (hw : Region.wanted o (yielded ops a.tmps) = true) (h1 : ∀ w', Grew M w' → o.quietAt P a (fun w' => Grew M w') w' v)
    (h2 : Kept (wpQuiet P ops (fun w' => Grew M w') Q rest (a.put o.dst v))) : Kept (wpQuiet P ops (fun w' => Grew M w') Q (o :: rest) a) :=
  ⟨BigFrame.wpQuiet_want hw fun _ hK => ⟨v, h1, hK _ h2.out⟩⟩
theorem kept_skip (hw : Region.wanted o (yielded ops a.tmps) = false) (h : Kept (wpQuiet P ops (fun w' => Grew M w') Q rest (a.put o.dst undef))) : Kept (wpQuiet P ops (fun w' => Grew M w') Q (o :: rest) a) :=
  ⟨BigFrame.wpQuiet_skip hw h.out⟩
theorem kept_nil (h : Q a) : Kept (wpQuiet P ops (fun w' => Grew M w') Q [] a) := ⟨h⟩
end
end Go.Proofs.YtbkkhafckkndfaaGreat

namespace Go.Proofs.YtbkkhafckkndfaaGreat
open Go

section
variable {P : Program} {ops : Array Oper} {Q : Exit → Act → World → Prop} {md : Region.Mode} {S : World → Prop} {D : List Nat}

/-- None of D has come up. -/
def fresh (D : List Nat) (l : Array Bool) : Bool := D.all fun d => !l.getD d false
/-- Whatever order is drawn; S holds as long as none of D has come up. -/
def wpLate (P : Program) (md : Region.Mode) (ops : Array Oper) (Q : Exit → Act → World → Prop) (S : World → Prop) (D : List Nat) : Nat → Array Bool → Act → World → Prop
  | 0, l, a, w => Region.ready md ops l = [] ∧ Q .normal a w
  | n + 1, l, a, w => (Region.ready md ops l = [] → Q .normal a w) ∧ ∀ i ∈ Region.ready md ops l, wpOp P ops Q i (fun b v => (fresh D (l.setIfInBounds i true) = true → S v) ∧ wpLate P md ops Q S D n (l.setIfInBounds i true) b v) a w

theorem late_any : ∀ (n : Nat) (l : Array Bool) (a : Act) (w : World), wpLate P md ops Q S D n l a w → wpAny P md ops Q n l a w := by
  intro n
  induction n with
  | zero => exact fun _ _ _ h => h
  | succ n ih => exact fun l a w h => ⟨h.1, fun i hi => wpOp_mono (fun b v g => ih _ b v g.2) (h.2 i hi)⟩

/-- All of D wait for i, which is none of them. -/
def waits (md : Region.Mode) (ops : Array Oper) (D : List Nat) (i : Nat) : Bool :=
  D.all fun d => d != i && (match ops[d]? with | some o => o.after.any fun e => Region.binds md e && e.on == i | none => false)
theorem waits_spec {i : Nat} (h : waits md ops D i = true) : ∀ d ∈ D, d ≠ i ∧ ∃ o, ops[d]? = some o ∧ ∃ e ∈ o.after, Region.binds md e = true ∧ e.on = i := by
  intro d hd
  have g := List.all_eq_true.1 h d hd
  rw [Bool.and_eq_true] at g
  refine ⟨by simpa using g.1, ?_⟩
  have g2 := g.2
  cases ho : ops[d]? with
  | none => simp [ho] at g2
  | some o =>
    simp only [ho] at g2
    obtain ⟨e, he, k⟩ := Array.any_eq_true'.1 g2
    rw [Bool.and_eq_true] at k
    exact ⟨o, rfl, e, he, k.1, by simpa using k.2⟩
theorem fresh_spec {l : Array Bool} : fresh D l = true ↔ ∀ d ∈ D, l.getD d false = false := by
  unfold fresh
  rw [List.all_eq_true]
  simp
theorem fresh_set {l : Array Bool} {j : Nat} (h : fresh D l = true) (hj : ∀ d ∈ D, d ≠ j) : fresh D (l.setIfInBounds j true) = true := by
  rw [fresh_spec] at *
  intro d hd
  rw [getD_set_ne false (Ne.symm (hj d hd))]
  exact h d hd

theorem late_take {i : Nat} {oi : Oper} {v : Value} {n : Nat} {l : Array Bool} {a : Act} {w : World} (hi : ops[i]? = some oi)
    (hs : Region.noSelect ops = true) (hf0 : Region.free md ops l i = true) (hr0 : (Region.ready md ops l).contains i = true) (hw : waits md ops D i = true) (hfr : fresh D l = true)
    (hQ : ∀ c a w, Q (.panic c) (a.put oi.dst v) w → Q (.panic c) a w) (hy : YieldsIf P ops S oi v a) (hS : S w)
    (h : wpLate P md ops Q S D n (l.setIfInBounds i true) (a.put oi.dst v) w) : wpLate P md ops Q S D (n + 1) l a w := by
  have hw := waits_spec hw
  have hf := fun j oj => Region.free_spec (ops := ops) (md := md) hi hf0 j oj
  have hr : i ∈ Region.ready md ops l := by simpa using hr0
  have sel := Region.noSelect_spec hs
  clear hs hf0 hr0
  revert l a w
  induction n with
  | zero =>
    intro l a w hfr hy hS h hf hr
    refine ⟨fun e => absurd hr (by rw [e]; exact List.not_mem_nil), fun j hj => ?_⟩
    rcases Decidable.em (j = i) with rfl | hji
    · exact hy.wpOp hi hS ⟨fun _ => hS, h⟩
    · exact absurd (ready_mono hj hji) (by rw [h.1]; exact List.not_mem_nil)
  | succ n ih =>
    intro l a w hfr hy hS h hf hr
    refine ⟨fun e => absurd hr (by rw [e]; exact List.not_mem_nil), fun j hj => ?_⟩
    rcases Decidable.em (j = i) with rfl | hji
    · exact hy.wpOp hi hS ⟨fun _ => hS, h⟩
    obtain ⟨hun, oj, hoj, hdone⟩ := mem_ready.1 hj
    have hlt : l.getD i false = false := by
      have := (mem_ready.1 hr).1
      rcases Nat.lt_or_ge i l.size with g | g
      · simp [g] at this ⊢; exact this
      · simp [Array.getElem?_eq_none g] at this
    have hno : ∀ e ∈ oj.after, Region.binds md e = true → e.on ≠ i := fun e he hb hon => by
      have := hdone e he hb
      rw [hon, hlt] at this
      cases this
    have hjd : ∀ d ∈ D, d ≠ j := fun d hd hdj => by
      obtain ⟨_, o, ho, e, he, hb, hon⟩ := hw d hd
      rw [hdj, hoj] at ho
      obtain rfl := Option.some.inj ho
      exact hno e he hb hon
    have hset : ∀ d ∈ D, d ≠ i := fun d hd => (hw d hd).1
    have f1 : fresh D (l.setIfInBounds j true) = true := fresh_set hfr hjd
    have f2 : fresh D ((l.setIfInBounds i true).setIfInBounds j true) = true := fresh_set (fresh_set hfr hset) hjd
    refine wpOp_mono (fun b u g => ⟨fun _ => g.2.1 f2, ih f1 g.1 (g.2.1 f2) ?_ ?_ (ready_mono hr (Ne.symm hji))⟩) (wpOp_putIf hoj (hf j oj hoj hji hun hno) (fun cs b => sel i oi cs b hi) (fun cs b => sel j oj cs b hoj) hQ hy (h.2 j (ready_mono hj hji)))
    · rw [Array.setIfInBounds_comm _ _ hji]
      exact g.2.2
    · intro m om hm hmi hmun hmno
      refine hf m om hm hmi ?_ hmno
      rcases Decidable.em (j = m) with rfl | hjm
      · exact hun
      · rw [getD_set_ne true hjm] at hmun; exact hmun

/-- What is handed to the walk for an operation that comes up: ahead of D's first (S is shown anew), or not. -/
def LateStep (P : Program) (md : Region.Mode) (ops : Array Oper) (Q : Exit → Act → World → Prop) (S : World → Prop) (D : List Nat) (n : Nat) (l : Array Bool) (a : Act) (w : World) (i : Nat) : Prop :=
  wpOp P ops Q i (fun b v => (fresh D (l.setIfInBounds i true) = true → S v) ∧ wpLate P md ops Q S D n (l.setIfInBounds i true) b v) a w
theorem late_run {i : Nat} {o : Oper} {n : Nat} {l : Array Bool} {a : Act} {w : World} (ho : ops[i]? = some o)
    (h : ∀ K : Act → World → Prop, Shut (∀ a w, S w → (S w → wpLate P md ops Q S D n (l.setIfInBounds i true) a w) → K a w) → if Region.wanted o (yielded ops a.tmps) = true then Oper.wp P o a w K Q else K (a.put o.dst undef) w) :
    LateStep P md ops Q S D n l a w i := wpOp_step ho fun K hK => h K fun a w hS hW => hK a w ⟨fun _ => hS, hW hS⟩
theorem late_write {i : Nat} {o : Oper} {n : Nat} {l : Array Bool} {a : Act} {w : World} (ho : ops[i]? = some o) (hl : fresh D (l.setIfInBounds i true) = false)
    (h : ∀ K : Act → World → Prop, Shut (∀ a w, wpLate P md ops Q S D n (l.setIfInBounds i true) a w → K a w) → if Region.wanted o (yielded ops a.tmps) = true then Oper.wp P o a w K Q else K (a.put o.dst undef) w) :
    LateStep P md ops Q S D n l a w i := wpOp_step ho fun K hK => h K fun a w hW => hK a w ⟨fun e => (by rw [hl] at e; cases e), hW⟩
theorem late_one {i : Nat} {n : Nat} {l : Array Bool} {a : Act} {w : World} (hr : Region.ready md ops l = [i]) (h : LateStep P md ops Q S D n l a w i) : wpLate P md ops Q S D (n + 1) l a w := by
  refine ⟨fun e => absurd (e.symm.trans hr) (by simp), fun j hj => ?_⟩
  rw [hr] at hj
  obtain rfl := List.mem_singleton.1 hj
  exact h
theorem late_two {i k : Nat} {n : Nat} {l : Array Bool} {a : Act} {w : World} (hr : Region.ready md ops l = [i, k]) (h : LateStep P md ops Q S D n l a w i) (g : LateStep P md ops Q S D n l a w k) : wpLate P md ops Q S D (n + 1) l a w := by
  refine ⟨fun e => absurd (e.symm.trans hr) (by simp), fun j hj => ?_⟩
  rw [hr] at hj
  rcases List.mem_cons.1 hj with rfl | hj
  · exact h
  · obtain rfl := List.mem_singleton.1 hj
    exact g
theorem late_done {l : Array Bool} {a : Act} {w : World} (hr : Region.ready md ops l = []) (h : Q .normal a w) : ∀ n, wpLate P md ops Q S D n l a w
  | 0 => ⟨hr, h⟩
  | _ + 1 => ⟨fun _ => h, fun i hi => by rw [hr] at hi; cases hi⟩
theorem late_region {id : Nat} {a : Act} {w : World} (D : List Nat) (hm : P.follows .mixedOrders = true) (hS : S w.drew)
    (h : S w.drew → wpLate P .any ops Q S D ops.size (Array.replicate ops.size false) a w.drew) : (Code.region id ops true).wp P Q a w :=
  wp_region_any hm (late_any _ _ _ _ (h hS))
end
end Go.Proofs.YtbkkhafckkndfaaGreat

namespace Go.Proofs.YtbkkhafckkndfaaGreat
open Go

section
variable {P : Program} {ops : Array Oper} {Q : Exit → Act → World → Prop} {md : Region.Mode} {A S : World → Prop} {D : List Nat}

def wpLat (P : Program) (md : Region.Mode) (ops : Array Oper) (Q : Exit → Act → World → Prop) (A S : World → Prop) (D : List Nat) : Nat → Array Bool → Act → World → Prop
  | 0, l, a, w => Region.ready md ops l = [] ∧ Q .normal a w
  | n + 1, l, a, w => (Region.ready md ops l = [] → Q .normal a w) ∧ ∀ i ∈ Region.ready md ops l, wpOp P ops Q i (fun b v => (A v ∧ (fresh D (l.setIfInBounds i true) = true → S v)) ∧ wpLat P md ops Q A S D n (l.setIfInBounds i true) b v) a w
theorem lat_any : ∀ (n : Nat) (l : Array Bool) (a : Act) (w : World), wpLat P md ops Q A S D n l a w → wpAny P md ops Q n l a w := by
  intro n
  induction n with
  | zero => exact fun _ _ _ h => h
  | succ n ih => exact fun l a w h => ⟨h.1, fun i hi => wpOp_mono (fun b v g => ih _ b v g.2) (h.2 i hi)⟩
/-- What reads S is taken first, if all of D wait for it. -/
theorem lat_take {i : Nat} {oi : Oper} {v : Value} {n : Nat} {l : Array Bool} {a : Act} {w : World} (hi : ops[i]? = some oi)
    (hs : Region.noSelect ops = true) (hf0 : Region.free md ops l i = true) (hr0 : (Region.ready md ops l).contains i = true) (hw : waits md ops D i = true) (hfr : fresh D l = true)
    (hQ : ∀ c a w, Q (.panic c) (a.put oi.dst v) w → Q (.panic c) a w) (hy : YieldsIf P ops S oi v a) (hAS : A w ∧ S w)
    (h : wpLat P md ops Q A S D n (l.setIfInBounds i true) (a.put oi.dst v) w) : wpLat P md ops Q A S D (n + 1) l a w := by
  obtain ⟨hA, hS⟩ := hAS
  have hw := waits_spec hw
  have hf := fun j oj => Region.free_spec (ops := ops) (md := md) hi hf0 j oj
  have hr : i ∈ Region.ready md ops l := by simpa using hr0
  have sel := Region.noSelect_spec hs
  clear hs hf0 hr0
  revert l a w
  induction n with
  | zero =>
    intro l a w hfr hy h hA hS hf hr
    refine ⟨fun e => absurd hr (by rw [e]; exact List.not_mem_nil), fun j hj => ?_⟩
    rcases Decidable.em (j = i) with rfl | hji
    · exact hy.wpOp hi hS ⟨⟨hA, fun _ => hS⟩, h⟩
    · exact absurd (ready_mono hj hji) (by rw [h.1]; exact List.not_mem_nil)
  | succ n ih =>
    intro l a w hfr hy h hA hS hf hr
    refine ⟨fun e => absurd hr (by rw [e]; exact List.not_mem_nil), fun j hj => ?_⟩
    rcases Decidable.em (j = i) with rfl | hji
    · exact hy.wpOp hi hS ⟨⟨hA, fun _ => hS⟩, h⟩
    obtain ⟨hun, oj, hoj, hdone⟩ := mem_ready.1 hj
    have hlt : l.getD i false = false := by
      have := (mem_ready.1 hr).1
      rcases Nat.lt_or_ge i l.size with g | g
      · simp [g] at this ⊢; exact this
      · simp [Array.getElem?_eq_none g] at this
    have hno : ∀ e ∈ oj.after, Region.binds md e = true → e.on ≠ i := fun e he hb hon => by
      have := hdone e he hb
      rw [hon, hlt] at this
      cases this
    have hjd : ∀ d ∈ D, d ≠ j := fun d hd hdj => by
      obtain ⟨_, o, ho, e, he, hb, hon⟩ := hw d hd
      rw [hdj, hoj] at ho
      obtain rfl := Option.some.inj ho
      exact hno e he hb hon
    have hset : ∀ d ∈ D, d ≠ i := fun d hd => (hw d hd).1
    have f1 : fresh D (l.setIfInBounds j true) = true := fresh_set hfr hjd
    have f2 : fresh D ((l.setIfInBounds i true).setIfInBounds j true) = true := fresh_set (fresh_set hfr hset) hjd
    refine wpOp_mono (fun b u g => ⟨⟨g.2.1.1, fun _ => g.2.1.2 f2⟩, ih f1 g.1 ?_ g.2.1.1 (g.2.1.2 f2) ?_ (ready_mono hr (Ne.symm hji))⟩) (wpOp_putIf hoj (hf j oj hoj hji hun hno) (fun cs b => sel i oi cs b hi) (fun cs b => sel j oj cs b hoj) hQ hy (h.2 j (ready_mono hj hji)))
    · rw [Array.setIfInBounds_comm _ _ hji]
      exact g.2.2
    · intro m om hm hmi hmun hmno
      refine hf m om hm hmi ?_ hmno
      rcases Decidable.em (j = m) with rfl | hjm
      · exact hun
      · rw [getD_set_ne true hjm] at hmun; exact hmun
/-- What is pure, or reads A, is taken at any time. -/
theorem lat_free {i : Nat} {oi : Oper} {v : Value} {n : Nat} {l : Array Bool} {a : Act} {w : World} (hi : ops[i]? = some oi)
    (hs : Region.noSelect ops = true) (hf0 : Region.free md ops l i = true) (hr0 : (Region.ready md ops l).contains i = true) (hD : (D.all fun d => d != i) = true)
    (hQ : ∀ c a w, Q (.panic c) (a.put oi.dst v) w → Q (.panic c) a w) (hy : YieldsIf P ops A oi v a) (hAS : A w ∧ (fresh D l = true → S w))
    (h : wpLat P md ops Q A S D n (l.setIfInBounds i true) (a.put oi.dst v) w) : wpLat P md ops Q A S D (n + 1) l a w := by
  obtain ⟨hA, hS⟩ := hAS
  have hset : ∀ d ∈ D, d ≠ i := fun d hd => by simpa using List.all_eq_true.1 hD d hd
  have hf := fun j oj => Region.free_spec (ops := ops) (md := md) hi hf0 j oj
  have hr : i ∈ Region.ready md ops l := by simpa using hr0
  have sel := Region.noSelect_spec hs
  have back : ∀ (l : Array Bool), fresh D (l.setIfInBounds i true) = true → fresh D l = true := fun l g => by
    rw [fresh_spec] at *
    intro d hd
    have := g d hd
    rw [getD_set_ne false (Ne.symm (hset d hd))] at this
    exact this
  clear hs hf0 hr0
  revert l a w
  induction n with
  | zero =>
    intro l a w hy h hA hS hf hr
    refine ⟨fun e => absurd hr (by rw [e]; exact List.not_mem_nil), fun j hj => ?_⟩
    rcases Decidable.em (j = i) with rfl | hji
    · exact hy.wpOp hi hA ⟨⟨hA, fun g => hS (back _ g)⟩, h⟩
    · exact absurd (ready_mono hj hji) (by rw [h.1]; exact List.not_mem_nil)
  | succ n ih =>
    intro l a w hy h hA hS hf hr
    refine ⟨fun e => absurd hr (by rw [e]; exact List.not_mem_nil), fun j hj => ?_⟩
    rcases Decidable.em (j = i) with rfl | hji
    · exact hy.wpOp hi hA ⟨⟨hA, fun g => hS (back _ g)⟩, h⟩
    obtain ⟨hun, oj, hoj, hdone⟩ := mem_ready.1 hj
    have hlt : l.getD i false = false := by
      have := (mem_ready.1 hr).1
      rcases Nat.lt_or_ge i l.size with g | g
      · simp [g] at this ⊢; exact this
      · simp [Array.getElem?_eq_none g] at this
    have hno : ∀ e ∈ oj.after, Region.binds md e = true → e.on ≠ i := fun e he hb hon => by
      have := hdone e he hb
      rw [hon, hlt] at this
      cases this
    have fwd : fresh D (l.setIfInBounds j true) = true → fresh D ((l.setIfInBounds i true).setIfInBounds j true) = true := fun g => by
      rw [Array.setIfInBounds_comm _ _ (Ne.symm hji)]
      exact fresh_set g hset
    refine wpOp_mono (fun b u g => ⟨⟨g.2.1.1, fun e => g.2.1.2 (fwd e)⟩, ih g.1 ?_ g.2.1.1 (fun e => g.2.1.2 (fwd e)) ?_ (ready_mono hr (Ne.symm hji))⟩) (wpOp_putIf hoj (hf j oj hoj hji hun hno) (fun cs b => sel i oi cs b hi) (fun cs b => sel j oj cs b hoj) hQ hy (h.2 j (ready_mono hj hji)))
    · rw [Array.setIfInBounds_comm _ _ hji]
      exact g.2.2
    · intro m om hm hmi hmun hmno
      refine hf m om hm hmi ?_ hmno
      rcases Decidable.em (j = m) with rfl | hjm
      · exact hun
      · rw [getD_set_ne true hjm] at hmun; exact hmun

theorem lat_free2 {i : Nat} {oi : Oper} {v : Value} {n : Nat} {l : Array Bool} {a : Act} {w : World} (hi : ops[i]? = some oi)
    (hs : Region.noSelect ops = true) (hf0 : Region.free md ops l i = true) (hr0 : (Region.ready md ops l).contains i = true) (hD : (D.all fun d => d != i) = true) (hl : fresh D l = false)
    (hQ : ∀ c a w, Q (.panic c) (a.put oi.dst v) w → Q (.panic c) a w) (hy : YieldsIf P ops A oi v a) (hA : A w)
    (h : wpLat P md ops Q A S D n (l.setIfInBounds i true) (a.put oi.dst v) w) : wpLat P md ops Q A S D (n + 1) l a w :=
  lat_free hi hs hf0 hr0 hD hQ hy ⟨hA, fun e => by rw [hl] at e; cases e⟩ h

/-- What is handed to the walk for an operation that comes up: ahead of D's first (A and S are shown anew), or not (A alone). -/
def LatStep (P : Program) (md : Region.Mode) (ops : Array Oper) (Q : Exit → Act → World → Prop) (A S : World → Prop) (D : List Nat) (n : Nat) (l : Array Bool) (a : Act) (w : World) (i : Nat) : Prop :=
  wpOp P ops Q i (fun b v => (A v ∧ (fresh D (l.setIfInBounds i true) = true → S v)) ∧ wpLat P md ops Q A S D n (l.setIfInBounds i true) b v) a w
theorem lat_run {i : Nat} {o : Oper} {n : Nat} {l : Array Bool} {a : Act} {w : World} (ho : ops[i]? = some o)
    (h : ∀ K : Act → World → Prop, Shut (∀ a w, A w ∧ S w → (A w ∧ S w → wpLat P md ops Q A S D n (l.setIfInBounds i true) a w) → K a w) → if Region.wanted o (yielded ops a.tmps) = true then Oper.wp P o a w K Q else K (a.put o.dst undef) w) :
    LatStep P md ops Q A S D n l a w i := wpOp_step ho fun K hK => h K fun a w hS hW => hK a w ⟨⟨hS.1, fun _ => hS.2⟩, hW hS⟩
theorem lat_write {i : Nat} {o : Oper} {n : Nat} {l : Array Bool} {a : Act} {w : World} (ho : ops[i]? = some o) (hl : fresh D (l.setIfInBounds i true) = false)
    (h : ∀ K : Act → World → Prop, Shut (∀ a w, A w → (A w → wpLat P md ops Q A S D n (l.setIfInBounds i true) a w) → K a w) → if Region.wanted o (yielded ops a.tmps) = true then Oper.wp P o a w K Q else K (a.put o.dst undef) w) :
    LatStep P md ops Q A S D n l a w i := wpOp_step ho fun K hK => h K fun a w hA hW => hK a w ⟨⟨hA, fun e => (by rw [hl] at e; cases e)⟩, hW hA⟩
theorem lat_one {i : Nat} {n : Nat} {l : Array Bool} {a : Act} {w : World} (hr : Region.ready md ops l = [i]) (h : LatStep P md ops Q A S D n l a w i) : wpLat P md ops Q A S D (n + 1) l a w := by
  refine ⟨fun e => absurd (e.symm.trans hr) (by simp), fun j hj => ?_⟩
  rw [hr] at hj
  obtain rfl := List.mem_singleton.1 hj
  exact h
theorem lat_two {i k : Nat} {n : Nat} {l : Array Bool} {a : Act} {w : World} (hr : Region.ready md ops l = [i, k]) (h : LatStep P md ops Q A S D n l a w i) (g : LatStep P md ops Q A S D n l a w k) : wpLat P md ops Q A S D (n + 1) l a w := by
  refine ⟨fun e => absurd (e.symm.trans hr) (by simp), fun j hj => ?_⟩
  rw [hr] at hj
  rcases List.mem_cons.1 hj with rfl | hj
  · exact h
  · obtain rfl := List.mem_singleton.1 hj
    exact g
theorem lat_done {l : Array Bool} {a : Act} {w : World} (hr : Region.ready md ops l = []) (h : Q .normal a w) : ∀ n, wpLat P md ops Q A S D n l a w
  | 0 => ⟨hr, h⟩
  | _ + 1 => ⟨fun _ => h, fun i hi => by rw [hr] at hi; cases hi⟩
theorem lat_region {id : Nat} {a : Act} {w : World} (A S : World → Prop) (D : List Nat) (hm : P.follows .mixedOrders = true) (hS : A w.drew ∧ S w.drew)
    (h : A w.drew ∧ S w.drew → wpLat P .any ops Q A S D ops.size (Array.replicate ops.size false) a w.drew) : (Code.region id ops true).wp P Q a w :=
  wp_region_any hm (lat_any _ _ _ _ (h hS))
end
end Go.Proofs.YtbkkhafckkndfaaGreat

namespace Go.Proofs.YtbkkhafckkndfaaGreat
open Go Go.RowKit

theorem refkey_any (n : Int) (w : World) : Calls Tryz.prog 64 #[.int .i64 n] w fun e w' => e = .returned (.bool (keyB n)) ∧ w' = w := by
  obtain ⟨k, hk⟩ : ∃ k, keyB n = k := ⟨_, rfl⟩
  rw [hk]
  replace hk : Hid (keyB n = k) := hk
  go_enter Tryz.func64, Tryz.ntmps64
  go_wp2
  all_goals
    go_ret
    refine ⟨ret_bool ?_, rfl⟩
    rw [← hk.out]
    unfold keyB
    simp
    omega
theorem refpage_any (n : Int) (w : World) : Calls Tryz.prog 65 #[.int .i64 n] w fun e w' => e = .returned (.bool (pageB n)) ∧ w' = w := by
  obtain ⟨k, hk⟩ : ∃ k, pageB n = k := ⟨_, rfl⟩
  rw [hk]
  replace hk : Hid (pageB n = k) := hk
  go_enter Tryz.func65, Tryz.ntmps65
  go_wp2
  all_goals
    go_ret
    refine ⟨ret_bool ?_, rfl⟩
    rw [← hk.out]
    unfold pageB
    simp
    omega
/-- A list of bytes as a text. -/
def txt (l : List UInt8) : ByteArray := ⟨l.toArray⟩
theorem txt_size (l : List UInt8) : (txt l).size = l.length := by
  show l.toArray.size = _
  rw [List.size_toArray]
theorem txt_list (s : ByteArray) : txt s.data.toList = s := by
  apply ByteArray.ext
  simp [txt]
theorem list_txt (l : List UInt8) : (txt l).data.toList = l := rfl
theorem txt_append (a b : List UInt8) : txt a ++ txt b = txt (a ++ b) := by
  apply ByteArray.ext
  simp [txt]
theorem txt_inj {a b : List UInt8} (h : txt a = txt b) : a = b := by
  have := congrArg (fun s : ByteArray => s.data.toList) h
  exact this
theorem bigB_txt (v n : Nat) : bigB v n = txt (digs v n) := rfl
theorem zerosB_txt (n : Nat) : zerosB n = txt (List.replicate n 0) := rfl
theorem reffill_any (l : List UInt8) (h : l.length ≤ 128) (w : World) : Calls Tryz.prog 66 #[.string (txt l)] w fun e w' => e = .returned (.string (txt (padL l))) ∧ Grew w w' := by
  have hw : wrap64 (128 - (l.length : Int)) = 128 - l.length := IntWalk.wrap64_in _ ⟨by omega, by omega⟩
  have hz : Hid (∀ W, Calls Tryz.prog 17 #[.int .i64 (128 - (l.length : Int))] W fun e w' => e = .returned (.string (txt (List.replicate (128 - l.length) 0))) ∧ Grew W w') := fun W => by
    have := zeros_any W (128 - (l.length : Int)) (by omega) (by omega)
    rw [show (128 - (l.length : Int)).toNat = 128 - l.length by omega] at this
    exact this
  have hp : txt l ++ txt (List.replicate (128 - l.length) 0) = txt (padL l) := txt_append _ _
  have s1 := txt_size l
  have s2 : (txt (List.replicate (128 - l.length) 0)).size = 128 - l.length := by rw [txt_size, List.length_replicate]
  have hb : ¬ 9223372036854775807 < (txt l).size + (txt (List.replicate (128 - l.length) 0)).size := by rw [s1, s2]; omega
  rw [← hp]
  clear s2 hp
  generalize txt (List.replicate (128 - l.length) 0) = Z at *
  rw [← s1] at hw hz h
  clear s1
  generalize txt l = X at *
  go_enter Tryz.func66, Tryz.ntmps66
  go_wp2_with (first | (go_at_call 17; go_fit (hz.out _); rintro e w1 ⟨rfl, G⟩) | fail)
  go_ret
  exact ⟨rfl, G⟩
/-! ### Pieces -/
def chainV (next : Int) (t : List UInt8) : ByteArray := if chainOk next t then txt (chainL next t) else ByteArray.empty
theorem refchain_any (next : Int) (t : List UInt8) (w : World) : Calls Tryz.prog 42 #[.int .i64 next, .string (txt t)] w fun e w' => e = .returned (.tuple #[.string (chainV next t), .bool (chainOk next t)]) ∧ Grew w w' := by
  have st := txt_size t
  cases hk : chainOk next t with
  | false =>
    have hp : Hid (∀ W, _) := fun W => refpage_any next W
    unfold chainV
    rw [hk]
    have hn : (next = 0 ∨ 2 ≤ next ∧ next < 200) ∧ 1 ≤ t.length ∧ t.length ≤ 120 → False := fun e => by rw [(chainOk_iff next t).2 e] at hk; cases hk
    rw [← st] at hn
    generalize hq : pageB next = q at hp
    have hq' : q = true ↔ 2 ≤ next ∧ next < 200 := by rw [← hq]; exact pageB_iff next
    clear hk hq st
    generalize txt t = X at *
    replace hn : Hid _ := hn
    cases q with
    | true =>
      have hq2 := hq'.1 rfl
      clear hq'
      replace hq2 : Hid _ := hq2
      go_enter Tryz.func42, Tryz.ntmps42
      go_wp2_with (first | (go_at_call 65; go_fit (hp.out _); rintro e w1 ⟨rfl, rfl⟩) | fail)
      all_goals
        first
          | (go_ret2; exact ⟨rfl, Grew.refl _⟩)
          | (exfalso; have hq2 := hq2.out; exact hn.out ⟨by omega, by omega, by omega⟩)
    | false =>
      have hq2 : ¬ (2 ≤ next ∧ next < 200) := fun e => by have := hq'.2 e; cases this
      clear hq'
      replace hq2 : Hid _ := hq2
      go_enter Tryz.func42, Tryz.ntmps42
      go_wp2_with (first | (go_at_call 65; go_fit (hp.out _); rintro e w1 ⟨rfl, rfl⟩) | fail)
      all_goals
        first
          | (go_ret2; exact ⟨rfl, Grew.refl _⟩)
          | (exfalso; have hq2 := hq2.out; exact hn.out ⟨by omega, by omega, by omega⟩)
  | true =>
    have hh := (chainOk_iff next t).1 hk
    have hp : next ≠ 0 → Hid (∀ W, Calls Tryz.prog 65 #[.int .i64 next] W fun e w' => e = .returned (.bool true) ∧ w' = W) := fun h W => by
      have := refpage_any next W
      rw [(pageB_iff next).2 (by omega)] at this
      exact this
    have h1 : Hid (∀ W, Calls Tryz.prog 63 #[.int .i64 next, .int .i64 2] W fun e w' => e = .returned (.string (txt (digs next.toNat 2))) ∧ Grew W w') := fun W => by
      have := refbig_any next.toNat 2 (by omega) (by omega) W
      rw [show ((next.toNat : Nat) : Int) = next by omega] at this
      exact this
    have h2 : Hid (∀ W, Calls Tryz.prog 63 #[.int .i64 ((txt t).size : Int), .int .i64 1] W fun e w' => e = .returned (.string (txt (digs t.length 1))) ∧ Grew W w') := fun W => by
      rw [st]
      exact refbig_any t.length 1 (by omega) (by omega) W
    have h3 : Hid (∀ W, Calls Tryz.prog 66 #[.string ((⟨#[67]⟩ : ByteArray) ++ txt (digs next.toNat 2) ++ txt (digs t.length 1) ++ txt t)] W fun e w' => e = .returned (.string (txt (chainL next t))) ∧ Grew W w') := fun W => by
      rw [show (⟨#[67]⟩ : ByteArray) = txt [67] from rfl, txt_append, txt_append, txt_append]
      have e : [67] ++ digs next.toNat 2 ++ digs t.length 1 ++ t = chainH next t := by simp [chainH]
      rw [e]
      exact reffill_any _ (by rw [chainH_len]; omega) W
    have s1 : (txt (digs next.toNat 2)).size = 2 := by rw [txt_size, digs_len]
    have s2 : (txt (digs t.length 1)).size = 1 := by rw [txt_size, digs_len]
    have hv : chainV next t = txt (chainL next t) := if_pos hk
    rw [hv]
    rw [← st] at hh
    clear st hk hv
    generalize txt (chainL next t) = R at *
    generalize txt (digs next.toNat 2) = A at *
    generalize txt (digs t.length 1) = B at *
    generalize txt t = X at *
    have z1 : ¬ 9223372036854775807 < (⟨#[67]⟩ : ByteArray).size + A.size := by rw [s1]; decide
    have z2 : ¬ 9223372036854775807 < ((⟨#[67]⟩ : ByteArray) ++ A).size + B.size := by rw [ByteArray.size_append, s1, s2]; decide
    have z3 : ¬ 9223372036854775807 < ((⟨#[67]⟩ : ByteArray) ++ A ++ B).size + X.size := by rw [ByteArray.size_append, ByteArray.size_append, s1, s2]; have : (⟨#[67]⟩ : ByteArray).size = 1 := rfl; omega
    have n1 : ¬ (X.size : Int) < 1 := by omega
    have n2 : ¬ (120 : Int) < X.size := by omega
    clear hh
    by_cases h0 : next = 0
    · subst h0
      go_enter Tryz.func42, Tryz.ntmps42
      go_wp2_with (first
        | (go_at_call 63; go_fit (h1.out _); rintro e w1 ⟨rfl, G1⟩)
        | (go_at_call 63; go_fit (h2.out _); rintro e w2 ⟨rfl, G2⟩)
        | (go_at_call 66; go_fit (h3.out _); rintro e w3 ⟨rfl, G3⟩)
        | fail)
      go_ret2
      exact ⟨rfl, G1.trans (G2.trans G3)⟩
    · have hp := hp h0
      go_enter Tryz.func42, Tryz.ntmps42
      go_wp2_with (first
        | (go_at_call 65; go_fit (hp.out _); rintro e w1 ⟨rfl, rfl⟩)
        | (go_at_call 63; go_fit (h1.out _); rintro e w1 ⟨rfl, G1⟩)
        | (go_at_call 63; go_fit (h2.out _); rintro e w2 ⟨rfl, G2⟩)
        | (go_at_call 66; go_fit (h3.out _); rintro e w3 ⟨rfl, G3⟩)
        | fail)
      go_ret2
      exact ⟨rfl, G1.trans (G2.trans G3)⟩
/-! ### Link -/
def linkV (s : ByteArray) : Int × ByteArray := if isLink s.data.toList then (linkN s.data.toList, txt (linkT s.data.toList)) else (0, ByteArray.empty)
theorem at_take {s : ByteArray} {i : Nat} (h : i < s.size) : (s.data.toList.drop i).take 1 = [s[i]] := by
  have hl : i < s.data.toList.length := by rw [Array.length_toList]; exact h
  rw [List.drop_eq_getElem_cons hl, List.take_succ_cons, List.take_zero]
  rfl
theorem ext_list (s : ByteArray) (a b : Nat) : s.extract a b = txt ((s.data.toList.drop a).take (b - a)) := by
  apply ByteArray.ext
  apply Array.toList_inj.1
  simp only [ByteArray.data_extract, Array.toList_extract, List.extract_eq_take_drop, txt]
theorem numR_ext (s : ByteArray) (a b : Nat) : numR (s.extract a b) = wrap64 (valL ((s.data.toList.drop a).take (b - a))) := by rw [ext_list]; rfl
theorem link_cases (s : ByteArray) (h : s.size = 128) : ∃ c0 c3 : Nat, (∀ h, (s[0]'h).toNat = c0) ∧ (∀ h, (s[3]'h).toNat = c3) ∧ c0 < 256 ∧ c3 < 256 ∧ linkN s.data.toList = numR (s.extract 1 3) ∧ txt (linkT s.data.toList) = s.extract 4 (4 + c3) ∧
    isLink s.data.toList = (decide (c0 = 67) && decide (c3 ≤ 120) && (chainOk (linkN s.data.toList) (linkT s.data.toList) && decide (txt (chainL (linkN s.data.toList) (linkT s.data.toList)) = s))) := by
  have h0 := (s[0]'(by omega)).toNat_lt
  have h3 := (s[3]'(by omega)).toNat_lt
  have e3 : valL ((s.data.toList.drop 3).take 1) = (s[3]'(by omega)).toNat := by rw [at_take (by omega), val_one]
  have e0 : s.data.toList.take 1 = [s[0]'(by omega)] := by have := at_take (s := s) (i := 0) (by omega); rwa [List.drop_zero] at this
  refine ⟨(s[0]'(by omega)).toNat, (s[3]'(by omega)).toNat, fun _ => rfl, fun _ => rfl, h0, h3, ?_, ?_, ?_⟩
  · rw [numR_ext]; rfl
  · rw [ext_list, linkT, e3, Nat.add_sub_cancel_left]
  · have hl : s.data.toList.length = 128 := h
    unfold isLink
    rw [hl, e3, e0]
    have q1 : (([s[0]'(by omega)] : List UInt8) == [67]) = decide ((s[0]'(by omega)).toNat = 67) := by
      rw [Bool.eq_iff_iff]
      simp only [beq_iff_eq, List.cons.injEq, and_true, decide_eq_true_eq]
      constructor
      · intro e; rw [e]; rfl
      · intro e; exact UInt8.toNat_inj.1 e
    have q2 : (chainL (linkN s.data.toList) (linkT s.data.toList) == s.data.toList) = decide (txt (chainL (linkN s.data.toList) (linkT s.data.toList)) = s) := by
      rw [Bool.eq_iff_iff]
      simp only [beq_iff_eq, decide_eq_true_eq]
      constructor
      · intro e; rw [e, txt_list]
      · intro e; exact txt_inj (e.trans (txt_list s).symm)
    rw [q1, q2]
    simp
theorem bytes_ne' {a b : ByteArray} (h : ¬ a = b) : (a.toList == b.toList) = false := by
  rw [ByteArray.toList_eq, ByteArray.toList_eq]
  simp only [beq_eq_false_iff_ne, ne_eq]
  exact fun e => h (ByteArray.ext (Array.toList_inj.1 e))
theorem isLink_len {s : ByteArray} (h : ¬ s.size = 128) : isLink s.data.toList = false := by
  cases e : isLink s.data.toList with
  | false => rfl
  | true => exact absurd (isLink_128 e) h
set_option maxHeartbeats 1000000 in
theorem reflink_any (s : ByteArray) (w : World) : Calls Tryz.prog 24 #[.string s] w fun e w' => e = .returned (.tuple #[.int .i64 (linkV s).1, .string (linkV s).2, .bool (isLink s.data.toList)]) ∧ Grew w w' := by
  unfold linkV
  by_cases h : s.size = 128
  · obtain ⟨c0, c3, g0, g3, l0, l3, eN, eT, eL⟩ := link_cases s h
    have hi : (s.size : Int) = 128 := by omega
    by_cases n0 : c0 = 67
    · by_cases n3 : 120 < c3
      · have e : isLink s.data.toList = false := by rw [eL]; simp; omega
        rw [e]
        clear e eL eN eT h
        have n3' : (120 : Int) < c3 := by omega
        subst n0
        go_enter Tryz.func24, Tryz.ntmps24
        go_wp2
        go_ret3
        exact ⟨rfl, Grew.refl _⟩
      · have n3' : ¬ (120 : Int) < c3 := by omega
        have hC : Hid (∀ W, _) := fun W => refchain_any (linkN s.data.toList) (linkT s.data.toList) W
        have hO : Hid (∀ W, _) := fun W => of_any (s.extract 1 3) W (by rw [ByteArray.size_extract]; omega)
        have eL' : isLink s.data.toList = (chainOk (linkN s.data.toList) (linkT s.data.toList) && decide (txt (chainL (linkN s.data.toList) (linkT s.data.toList)) = s)) := by rw [eL, n0]; simp; omega
        rw [eT] at hC ⊢
        rw [eN] at hC eL' ⊢
        have hv : chainV (numR (s.extract 1 3)) (linkT s.data.toList) = if chainOk (numR (s.extract 1 3)) (linkT s.data.toList) then txt (chainL (numR (s.extract 1 3)) (linkT s.data.toList)) else ByteArray.empty := rfl
        rw [hv] at hC
        generalize txt (chainL (numR (s.extract 1 3)) (linkT s.data.toList)) = X at *
        generalize chainOk (numR (s.extract 1 3)) (linkT s.data.toList) = k at *
        generalize numR (s.extract 1 3) = N at *
        rw [eL']
        subst n0
        clear eL eL' eN eT hv h
        have b1 : (4 : Int) + c3 ≤ 128 := by omega
        have b2 : wrap64 (4 + (c3 : Int)) = 4 + c3 := IntWalk.wrap64_in _ ⟨by omega, by omega⟩
        cases k with
        | false =>
          rw [if_neg (by decide)] at hC
          go_enter Tryz.func24, Tryz.ntmps24
          go_upto_region 3 with (fail)
          go_quiet (first | (go_at_call 39; exact Calls.quiet_of_same (hO.out _)) | fail)
          go_wp2_with (first | (go_at_call 42; go_fit (hC.out _); rintro e w1 ⟨rfl, G⟩) | fail)
          go_ret3
          exact ⟨rfl, ((Grew.refl w).drewN _).trans G⟩
        | true =>
          rw [if_pos rfl] at hC
          by_cases hX : X = s
          · subst hX
            simp only [decide_true, Bool.and_self, if_true]
            go_enter Tryz.func24, Tryz.ntmps24
            go_upto_region 3 with (fail)
            go_quiet (first | (go_at_call 39; exact Calls.quiet_of_same (hO.out _)) | fail)
            go_wp2_with (first | (go_at_call 42; go_fit (hC.out _); rintro e w1 ⟨rfl, G⟩) | fail)
            go_ret3
            exact ⟨rfl, ((Grew.refl w).drewN _).trans G⟩
          · have hne := bytes_ne' hX
            rw [decide_eq_false hX]
            clear hX
            simp only [Bool.and_false]
            go_enter Tryz.func24, Tryz.ntmps24
            go_upto_region 3 with (fail)
            go_quiet (first | (go_at_call 39; exact Calls.quiet_of_same (hO.out _)) | fail)
            go_wp2_with (first | (go_at_call 42; go_fit (hC.out _); rintro e w1 ⟨rfl, G⟩) | fail)
            go_ret3
            exact ⟨rfl, ((Grew.refl w).drewN _).trans G⟩
    · have e : isLink s.data.toList = false := by rw [eL]; simp [n0]
      rw [e]
      clear e eL eN eT h
      have n0' : ¬ (c0 : Int) = 67 := by omega
      clear n0
      go_enter Tryz.func24, Tryz.ntmps24
      go_wp2
      go_ret3
      exact ⟨rfl, Grew.refl _⟩
  · have hi : ¬ (s.size : Int) = 128 := by omega
    have e := isLink_len h
    rw [e]
    clear e h
    go_enter Tryz.func24, Tryz.ntmps24
    go_wp2
    go_ret3
    exact ⟨rfl, Grew.refl _⟩
end Go.Proofs.YtbkkhafckkndfaaGreat
