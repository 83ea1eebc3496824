/-
  As JLate, with two sorts of cells: those that nobody in the region writes (A: read at any time), and those that it writes towards its end (S: read ahead of D).
-/
import Derived.Test.YtjcocmoidboamaaJLate
namespace Go.Proofs.Ytjcocmoidboamaa
open Go

section
variable {P : Program} {ops : Array Oper} {Q : Exit → Act → World → Prop} {md : Region.Mode} {A S : World → Prop} {D : List Nat}

def wpLat (P : Program) (md : Region.Mode) (ops : Array Oper) (Q : Exit → Act → World → Prop) (A S : World → Prop) (D : List Nat) : Nat → Array Bool → Act → World → Prop
  | 0, l, a, w => Region.ready md ops l = [] ∧ Q .normal a w
  | n + 1, l, a, w => (Region.ready md ops l = [] → Q .normal a w) ∧ ∀ i ∈ Region.ready md ops l, wpOp P ops Q i (fun b v => (A v ∧ (fresh D (l.setIfInBounds i true) = true → S v)) ∧ wpLat P md ops Q A S D n (l.setIfInBounds i true) b v) a w
theorem lat_any : ∀ (n : Nat) (l : Array Bool) (a : Act) (w : World), wpLat P md ops Q A S D n l a w → wpAny P md ops Q n l a w := by
  intro n
  induction n with
  | zero => exact fun _ _ _ h => h
  | succ n ih => exact fun l a w h => ⟨h.1, fun i hi => wpOp_mono (fun b v g => ih _ b v g.2) (h.2 i hi)⟩
/-- What reads S is taken first, if all of D wait for it. -/
theorem lat_take {i : Nat} {oi : Oper} {v : Value} {n : Nat} {l : Array Bool} {a : Act} {w : World} (hi : ops[i]? = some oi)
    (hs : Region.noSelect ops = true) (hf0 : Region.free md ops l i = true) (hr0 : (Region.ready md ops l).contains i = true) (hw : waits md ops D i = true) (hfr : fresh D l = true)
    (hQ : ∀ c a w, Q (.panic c) (a.put oi.dst v) w → Q (.panic c) a w) (hy : YieldsIf P ops S oi v a) (hAS : A w ∧ S w)
    (h : wpLat P md ops Q A S D n (l.setIfInBounds i true) (a.put oi.dst v) w) : wpLat P md ops Q A S D (n + 1) l a w := by
  obtain ⟨hA, hS⟩ := hAS
  have hw := waits_spec hw
  have hf := fun j oj => Region.free_spec (ops := ops) (md := md) hi hf0 j oj
  have hr : i ∈ Region.ready md ops l := by simpa using hr0
  have sel := Region.noSelect_spec hs
  clear hs hf0 hr0
  revert l a w
  induction n with
  | zero =>
    intro l a w hfr hy h hA hS hf hr
    refine ⟨fun e => absurd hr (by rw [e]; exact List.not_mem_nil), fun j hj => ?_⟩
    rcases Decidable.em (j = i) with rfl | hji
    · exact hy.wpOp hi hS ⟨⟨hA, fun _ => hS⟩, h⟩
    · exact absurd (ready_mono hj hji) (by rw [h.1]; exact List.not_mem_nil)
  | succ n ih =>
    intro l a w hfr hy h hA hS hf hr
    refine ⟨fun e => absurd hr (by rw [e]; exact List.not_mem_nil), fun j hj => ?_⟩
    rcases Decidable.em (j = i) with rfl | hji
    · exact hy.wpOp hi hS ⟨⟨hA, fun _ => hS⟩, h⟩
    obtain ⟨hun, oj, hoj, hdone⟩ := mem_ready.1 hj
    have hlt : l.getD i false = false := by
      have := (mem_ready.1 hr).1
      rcases Nat.lt_or_ge i l.size with g | g
      · simp [g] at this ⊢; exact this
      · simp [Array.getElem?_eq_none g] at this
    have hno : ∀ e ∈ oj.after, Region.binds md e = true → e.on ≠ i := fun e he hb hon => by
      have := hdone e he hb
      rw [hon, hlt] at this
      cases this
    have hjd : ∀ d ∈ D, d ≠ j := fun d hd hdj => by
      obtain ⟨_, o, ho, e, he, hb, hon⟩ := hw d hd
      rw [hdj, hoj] at ho
      obtain rfl := Option.some.inj ho
      exact hno e he hb hon
    have hset : ∀ d ∈ D, d ≠ i := fun d hd => (hw d hd).1
    have f1 : fresh D (l.setIfInBounds j true) = true := fresh_set hfr hjd
    have f2 : fresh D ((l.setIfInBounds i true).setIfInBounds j true) = true := fresh_set (fresh_set hfr hset) hjd
    refine wpOp_mono (fun b u g => ⟨⟨g.2.1.1, fun _ => g.2.1.2 f2⟩, ih f1 g.1 ?_ g.2.1.1 (g.2.1.2 f2) ?_ (ready_mono hr (Ne.symm hji))⟩) (wpOp_putIf hoj (hf j oj hoj hji hun hno) (fun cs b => sel i oi cs b hi) (fun cs b => sel j oj cs b hoj) hQ hy (h.2 j (ready_mono hj hji)))
    · rw [Array.setIfInBounds_comm _ _ hji]
      exact g.2.2
    · intro m om hm hmi hmun hmno
      refine hf m om hm hmi ?_ hmno
      rcases Decidable.em (j = m) with rfl | hjm
      · exact hun
      · rw [getD_set_ne true hjm] at hmun; exact hmun
/-- What is pure, or reads A, is taken at any time. -/
theorem lat_free {i : Nat} {oi : Oper} {v : Value} {n : Nat} {l : Array Bool} {a : Act} {w : World} (hi : ops[i]? = some oi)
    (hs : Region.noSelect ops = true) (hf0 : Region.free md ops l i = true) (hr0 : (Region.ready md ops l).contains i = true) (hD : (D.all fun d => d != i) = true)
    (hQ : ∀ c a w, Q (.panic c) (a.put oi.dst v) w → Q (.panic c) a w) (hy : YieldsIf P ops A oi v a) (hAS : A w ∧ (fresh D l = true → S w))
    (h : wpLat P md ops Q A S D n (l.setIfInBounds i true) (a.put oi.dst v) w) : wpLat P md ops Q A S D (n + 1) l a w := by
  obtain ⟨hA, hS⟩ := hAS
  have hset : ∀ d ∈ D, d ≠ i := fun d hd => by simpa using List.all_eq_true.1 hD d hd
  have hf := fun j oj => Region.free_spec (ops := ops) (md := md) hi hf0 j oj
  have hr : i ∈ Region.ready md ops l := by simpa using hr0
  have sel := Region.noSelect_spec hs
  have back : ∀ (l : Array Bool), fresh D (l.setIfInBounds i true) = true → fresh D l = true := fun l g => by
    rw [fresh_spec] at *
    intro d hd
    have := g d hd
    rw [getD_set_ne false (Ne.symm (hset d hd))] at this
    exact this
  clear hs hf0 hr0
  revert l a w
  induction n with
  | zero =>
    intro l a w hy h hA hS hf hr
    refine ⟨fun e => absurd hr (by rw [e]; exact List.not_mem_nil), fun j hj => ?_⟩
    rcases Decidable.em (j = i) with rfl | hji
    · exact hy.wpOp hi hA ⟨⟨hA, fun g => hS (back _ g)⟩, h⟩
    · exact absurd (ready_mono hj hji) (by rw [h.1]; exact List.not_mem_nil)
  | succ n ih =>
    intro l a w hy h hA hS hf hr
    refine ⟨fun e => absurd hr (by rw [e]; exact List.not_mem_nil), fun j hj => ?_⟩
    rcases Decidable.em (j = i) with rfl | hji
    · exact hy.wpOp hi hA ⟨⟨hA, fun g => hS (back _ g)⟩, h⟩
    obtain ⟨hun, oj, hoj, hdone⟩ := mem_ready.1 hj
    have hlt : l.getD i false = false := by
      have := (mem_ready.1 hr).1
      rcases Nat.lt_or_ge i l.size with g | g
      · simp [g] at this ⊢; exact this
      · simp [Array.getElem?_eq_none g] at this
    have hno : ∀ e ∈ oj.after, Region.binds md e = true → e.on ≠ i := fun e he hb hon => by
      have := hdone e he hb
      rw [hon, hlt] at this
      cases this
    have fwd : fresh D (l.setIfInBounds j true) = true → fresh D ((l.setIfInBounds i true).setIfInBounds j true) = true := fun g => by
      rw [Array.setIfInBounds_comm _ _ (Ne.symm hji)]
      exact fresh_set g hset
    refine wpOp_mono (fun b u g => ⟨⟨g.2.1.1, fun e => g.2.1.2 (fwd e)⟩, ih g.1 ?_ g.2.1.1 (fun e => g.2.1.2 (fwd e)) ?_ (ready_mono hr (Ne.symm hji))⟩) (wpOp_putIf hoj (hf j oj hoj hji hun hno) (fun cs b => sel i oi cs b hi) (fun cs b => sel j oj cs b hoj) hQ hy (h.2 j (ready_mono hj hji)))
    · rw [Array.setIfInBounds_comm _ _ hji]
      exact g.2.2
    · intro m om hm hmi hmun hmno
      refine hf m om hm hmi ?_ hmno
      rcases Decidable.em (j = m) with rfl | hjm
      · exact hun
      · rw [getD_set_ne true hjm] at hmun; exact hmun

theorem lat_free2 {i : Nat} {oi : Oper} {v : Value} {n : Nat} {l : Array Bool} {a : Act} {w : World} (hi : ops[i]? = some oi)
    (hs : Region.noSelect ops = true) (hf0 : Region.free md ops l i = true) (hr0 : (Region.ready md ops l).contains i = true) (hD : (D.all fun d => d != i) = true) (hl : fresh D l = false)
    (hQ : ∀ c a w, Q (.panic c) (a.put oi.dst v) w → Q (.panic c) a w) (hy : YieldsIf P ops A oi v a) (hA : A w)
    (h : wpLat P md ops Q A S D n (l.setIfInBounds i true) (a.put oi.dst v) w) : wpLat P md ops Q A S D (n + 1) l a w :=
  lat_free hi hs hf0 hr0 hD hQ hy ⟨hA, fun e => by rw [hl] at e; cases e⟩ h

/-- What is handed to the walk for an operation that comes up: ahead of D's first (A and S are shown anew), or not (A alone). -/
def LatStep (P : Program) (md : Region.Mode) (ops : Array Oper) (Q : Exit → Act → World → Prop) (A S : World → Prop) (D : List Nat) (n : Nat) (l : Array Bool) (a : Act) (w : World) (i : Nat) : Prop :=
  wpOp P ops Q i (fun b v => (A v ∧ (fresh D (l.setIfInBounds i true) = true → S v)) ∧ wpLat P md ops Q A S D n (l.setIfInBounds i true) b v) a w
theorem lat_run {i : Nat} {o : Oper} {n : Nat} {l : Array Bool} {a : Act} {w : World} (ho : ops[i]? = some o)
    (h : ∀ K : Act → World → Prop, Shut (∀ a w, A w ∧ S w → (A w ∧ S w → wpLat P md ops Q A S D n (l.setIfInBounds i true) a w) → K a w) → if Region.wanted o (yielded ops a.tmps) = true then Oper.wp P o a w K Q else K (a.put o.dst undef) w) :
    LatStep P md ops Q A S D n l a w i := wpOp_step ho fun K hK => h K fun a w hS hW => hK a w ⟨⟨hS.1, fun _ => hS.2⟩, hW hS⟩
theorem lat_write {i : Nat} {o : Oper} {n : Nat} {l : Array Bool} {a : Act} {w : World} (ho : ops[i]? = some o) (hl : fresh D (l.setIfInBounds i true) = false)
    (h : ∀ K : Act → World → Prop, Shut (∀ a w, A w → (A w → wpLat P md ops Q A S D n (l.setIfInBounds i true) a w) → K a w) → if Region.wanted o (yielded ops a.tmps) = true then Oper.wp P o a w K Q else K (a.put o.dst undef) w) :
    LatStep P md ops Q A S D n l a w i := wpOp_step ho fun K hK => h K fun a w hA hW => hK a w ⟨⟨hA, fun e => (by rw [hl] at e; cases e)⟩, hW hA⟩
theorem lat_one {i : Nat} {n : Nat} {l : Array Bool} {a : Act} {w : World} (hr : Region.ready md ops l = [i]) (h : LatStep P md ops Q A S D n l a w i) : wpLat P md ops Q A S D (n + 1) l a w := by
  refine ⟨fun e => absurd (e.symm.trans hr) (by simp), fun j hj => ?_⟩
  rw [hr] at hj
  obtain rfl := List.mem_singleton.1 hj
  exact h
theorem lat_two {i k : Nat} {n : Nat} {l : Array Bool} {a : Act} {w : World} (hr : Region.ready md ops l = [i, k]) (h : LatStep P md ops Q A S D n l a w i) (g : LatStep P md ops Q A S D n l a w k) : wpLat P md ops Q A S D (n + 1) l a w := by
  refine ⟨fun e => absurd (e.symm.trans hr) (by simp), fun j hj => ?_⟩
  rw [hr] at hj
  rcases List.mem_cons.1 hj with rfl | hj
  · exact h
  · obtain rfl := List.mem_singleton.1 hj
    exact g
theorem lat_done {l : Array Bool} {a : Act} {w : World} (hr : Region.ready md ops l = []) (h : Q .normal a w) : ∀ n, wpLat P md ops Q A S D n l a w
  | 0 => ⟨hr, h⟩
  | _ + 1 => ⟨fun _ => h, fun i hi => by rw [hr] at hi; cases hi⟩
theorem lat_region {id : Nat} {a : Act} {w : World} (A S : World → Prop) (D : List Nat) (hm : P.follows .mixedOrders = true) (hS : A w.drew ∧ S w.drew)
    (h : A w.drew ∧ S w.drew → wpLat P .any ops Q A S D ops.size (Array.replicate ops.size false) a w.drew) : (Code.region id ops true).wp P Q a w :=
  wp_region_any hm (lat_any _ _ _ _ (h hS))
end
end Go.Proofs.Ytjcocmoidboamaa
