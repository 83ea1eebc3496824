/-
  A region that draws its order, reads cells, and writes some of these towards its end: what is read may be taken first, if those operations that write (D) wait for it. (What must hold of the world, S, is asked till the first of D has come up.)
-/
import Derived.Test.YtjcocmoidboamaaRows
import Derived.Deep.RegionHeld
namespace Go.Proofs.Ytjcocmoidboamaa
open Go

section
variable {P : Program} {ops : Array Oper} {Q : Exit → Act → World → Prop} {md : Region.Mode} {S : World → Prop} {D : List Nat}

/-- None of D has come up. -/
def fresh (D : List Nat) (l : Array Bool) : Bool := D.all fun d => !l.getD d false
/-- Whatever order is drawn; S holds as long as none of D has come up. -/
def wpLate (P : Program) (md : Region.Mode) (ops : Array Oper) (Q : Exit → Act → World → Prop) (S : World → Prop) (D : List Nat) : Nat → Array Bool → Act → World → Prop
  | 0, l, a, w => Region.ready md ops l = [] ∧ Q .normal a w
  | n + 1, l, a, w => (Region.ready md ops l = [] → Q .normal a w) ∧ ∀ i ∈ Region.ready md ops l, wpOp P ops Q i (fun b v => (fresh D (l.setIfInBounds i true) = true → S v) ∧ wpLate P md ops Q S D n (l.setIfInBounds i true) b v) a w

theorem late_any : ∀ (n : Nat) (l : Array Bool) (a : Act) (w : World), wpLate P md ops Q S D n l a w → wpAny P md ops Q n l a w := by
  intro n
  induction n with
  | zero => exact fun _ _ _ h => h
  | succ n ih => exact fun l a w h => ⟨h.1, fun i hi => wpOp_mono (fun b v g => ih _ b v g.2) (h.2 i hi)⟩

/-- All of D wait for i, which is none of them. -/
def waits (md : Region.Mode) (ops : Array Oper) (D : List Nat) (i : Nat) : Bool :=
  D.all fun d => d != i && (match ops[d]? with | some o => o.after.any fun e => Region.binds md e && e.on == i | none => false)
theorem waits_spec {i : Nat} (h : waits md ops D i = true) : ∀ d ∈ D, d ≠ i ∧ ∃ o, ops[d]? = some o ∧ ∃ e ∈ o.after, Region.binds md e = true ∧ e.on = i := by
  intro d hd
  have g := List.all_eq_true.1 h d hd
  rw [Bool.and_eq_true] at g
  refine ⟨by simpa using g.1, ?_⟩
  have g2 := g.2
  cases ho : ops[d]? with
  | none => simp [ho] at g2
  | some o =>
    simp only [ho] at g2
    obtain ⟨e, he, k⟩ := Array.any_eq_true'.1 g2
    rw [Bool.and_eq_true] at k
    exact ⟨o, rfl, e, he, k.1, by simpa using k.2⟩
theorem fresh_spec {l : Array Bool} : fresh D l = true ↔ ∀ d ∈ D, l.getD d false = false := by
  unfold fresh
  rw [List.all_eq_true]
  simp
theorem fresh_set {l : Array Bool} {j : Nat} (h : fresh D l = true) (hj : ∀ d ∈ D, d ≠ j) : fresh D (l.setIfInBounds j true) = true := by
  rw [fresh_spec] at *
  intro d hd
  rw [getD_set_ne false (Ne.symm (hj d hd))]
  exact h d hd

theorem late_take {i : Nat} {oi : Oper} {v : Value} {n : Nat} {l : Array Bool} {a : Act} {w : World} (hi : ops[i]? = some oi)
    (hs : Region.noSelect ops = true) (hf0 : Region.free md ops l i = true) (hr0 : (Region.ready md ops l).contains i = true) (hw : waits md ops D i = true) (hfr : fresh D l = true)
    (hQ : ∀ c a w, Q (.panic c) (a.put oi.dst v) w → Q (.panic c) a w) (hy : YieldsIf P ops S oi v a) (hS : S w)
    (h : wpLate P md ops Q S D n (l.setIfInBounds i true) (a.put oi.dst v) w) : wpLate P md ops Q S D (n + 1) l a w := by
  have hw := waits_spec hw
  have hf := fun j oj => Region.free_spec (ops := ops) (md := md) hi hf0 j oj
  have hr : i ∈ Region.ready md ops l := by simpa using hr0
  have sel := Region.noSelect_spec hs
  clear hs hf0 hr0
  revert l a w
  induction n with
  | zero =>
    intro l a w hfr hy hS h hf hr
    refine ⟨fun e => absurd hr (by rw [e]; exact List.not_mem_nil), fun j hj => ?_⟩
    rcases Decidable.em (j = i) with rfl | hji
    · exact hy.wpOp hi hS ⟨fun _ => hS, h⟩
    · exact absurd (ready_mono hj hji) (by rw [h.1]; exact List.not_mem_nil)
  | succ n ih =>
    intro l a w hfr hy hS h hf hr
    refine ⟨fun e => absurd hr (by rw [e]; exact List.not_mem_nil), fun j hj => ?_⟩
    rcases Decidable.em (j = i) with rfl | hji
    · exact hy.wpOp hi hS ⟨fun _ => hS, h⟩
    obtain ⟨hun, oj, hoj, hdone⟩ := mem_ready.1 hj
    have hlt : l.getD i false = false := by
      have := (mem_ready.1 hr).1
      rcases Nat.lt_or_ge i l.size with g | g
      · simp [g] at this ⊢; exact this
      · simp [Array.getElem?_eq_none g] at this
    have hno : ∀ e ∈ oj.after, Region.binds md e = true → e.on ≠ i := fun e he hb hon => by
      have := hdone e he hb
      rw [hon, hlt] at this
      cases this
    have hjd : ∀ d ∈ D, d ≠ j := fun d hd hdj => by
      obtain ⟨_, o, ho, e, he, hb, hon⟩ := hw d hd
      rw [hdj, hoj] at ho
      obtain rfl := Option.some.inj ho
      exact hno e he hb hon
    have hset : ∀ d ∈ D, d ≠ i := fun d hd => (hw d hd).1
    have f1 : fresh D (l.setIfInBounds j true) = true := fresh_set hfr hjd
    have f2 : fresh D ((l.setIfInBounds i true).setIfInBounds j true) = true := fresh_set (fresh_set hfr hset) hjd
    refine wpOp_mono (fun b u g => ⟨fun _ => g.2.1 f2, ih f1 g.1 (g.2.1 f2) ?_ ?_ (ready_mono hr (Ne.symm hji))⟩) (wpOp_putIf hoj (hf j oj hoj hji hun hno) (fun cs b => sel i oi cs b hi) (fun cs b => sel j oj cs b hoj) hQ hy (h.2 j (ready_mono hj hji)))
    · rw [Array.setIfInBounds_comm _ _ hji]
      exact g.2.2
    · intro m om hm hmi hmun hmno
      refine hf m om hm hmi ?_ hmno
      rcases Decidable.em (j = m) with rfl | hjm
      · exact hun
      · rw [getD_set_ne true hjm] at hmun; exact hmun

/-- What is handed to the walk for an operation that comes up: ahead of D's first (S is shown anew), or not. -/
def LateStep (P : Program) (md : Region.Mode) (ops : Array Oper) (Q : Exit → Act → World → Prop) (S : World → Prop) (D : List Nat) (n : Nat) (l : Array Bool) (a : Act) (w : World) (i : Nat) : Prop :=
  wpOp P ops Q i (fun b v => (fresh D (l.setIfInBounds i true) = true → S v) ∧ wpLate P md ops Q S D n (l.setIfInBounds i true) b v) a w
theorem late_run {i : Nat} {o : Oper} {n : Nat} {l : Array Bool} {a : Act} {w : World} (ho : ops[i]? = some o)
    (h : ∀ K : Act → World → Prop, Shut (∀ a w, S w → (S w → wpLate P md ops Q S D n (l.setIfInBounds i true) a w) → K a w) → if Region.wanted o (yielded ops a.tmps) = true then Oper.wp P o a w K Q else K (a.put o.dst undef) w) :
    LateStep P md ops Q S D n l a w i := wpOp_step ho fun K hK => h K fun a w hS hW => hK a w ⟨fun _ => hS, hW hS⟩
theorem late_write {i : Nat} {o : Oper} {n : Nat} {l : Array Bool} {a : Act} {w : World} (ho : ops[i]? = some o) (hl : fresh D (l.setIfInBounds i true) = false)
    (h : ∀ K : Act → World → Prop, Shut (∀ a w, wpLate P md ops Q S D n (l.setIfInBounds i true) a w → K a w) → if Region.wanted o (yielded ops a.tmps) = true then Oper.wp P o a w K Q else K (a.put o.dst undef) w) :
    LateStep P md ops Q S D n l a w i := wpOp_step ho fun K hK => h K fun a w hW => hK a w ⟨fun e => (by rw [hl] at e; cases e), hW⟩
theorem late_one {i : Nat} {n : Nat} {l : Array Bool} {a : Act} {w : World} (hr : Region.ready md ops l = [i]) (h : LateStep P md ops Q S D n l a w i) : wpLate P md ops Q S D (n + 1) l a w := by
  refine ⟨fun e => absurd (e.symm.trans hr) (by simp), fun j hj => ?_⟩
  rw [hr] at hj
  obtain rfl := List.mem_singleton.1 hj
  exact h
theorem late_two {i k : Nat} {n : Nat} {l : Array Bool} {a : Act} {w : World} (hr : Region.ready md ops l = [i, k]) (h : LateStep P md ops Q S D n l a w i) (g : LateStep P md ops Q S D n l a w k) : wpLate P md ops Q S D (n + 1) l a w := by
  refine ⟨fun e => absurd (e.symm.trans hr) (by simp), fun j hj => ?_⟩
  rw [hr] at hj
  rcases List.mem_cons.1 hj with rfl | hj
  · exact h
  · obtain rfl := List.mem_singleton.1 hj
    exact g
theorem late_done {l : Array Bool} {a : Act} {w : World} (hr : Region.ready md ops l = []) (h : Q .normal a w) : ∀ n, wpLate P md ops Q S D n l a w
  | 0 => ⟨hr, h⟩
  | _ + 1 => ⟨fun _ => h, fun i hi => by rw [hr] at hi; cases hi⟩
theorem late_region {id : Nat} {a : Act} {w : World} (D : List Nat) (hm : P.follows .mixedOrders = true) (hS : S w.drew)
    (h : S w.drew → wpLate P .any ops Q S D ops.size (Array.replicate ops.size false) a w.drew) : (Code.region id ops true).wp P Q a w :=
  wp_region_any hm (late_any _ _ _ _ (h hS))
end
end Go.Proofs.Ytjcocmoidboamaa
