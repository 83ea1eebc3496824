/-
  Maps of pairs and of ints that the statements fill with true: what is put in is there, and nothing else.
-/
import Derived.Test.YtflffgjldoipfaaPSame
import Derived.MapKept
namespace Go.Proofs.Ytflffgjldoipfaa
open Go.RowKit

/-- A map that lies in memory, whose keys are these, each with true. -/
def MapHas {α : Type} (w : World) (mb : Nat) (f : α → Value) (F : List α) : Prop :=
  ∃ (es : Array MapEntry) (c : Nat), w.heap[mb]? = some (.map es c) ∧ es.toList.map (fun e => (e.key, e.val)) = F.map fun p => (f p, Value.bool true)

theorem MapHas.heap {α : Type} {w w' : World} {mb : Nat} {f : α → Value} {F : List α} (h : MapHas w mb f F) (g : w'.heap[mb]? = w.heap[mb]?) : MapHas w' mb f F := by
  obtain ⟨es, c, h1, h2⟩ := h
  exact ⟨es, c, g.trans h1, h2⟩
theorem MapHas.lt {α : Type} {w : World} {mb : Nat} {f : α → Value} {F : List α} (h : MapHas w mb f F) : mb < w.heap.size := by
  obtain ⟨es, c, h1, h2⟩ := h
  exact (Array.getElem?_eq_some_iff.1 h1).1

/-- A pair as the code has it. -/
def pv (p : Nat × Nat) : Value := .agg #[.int .i64 (p.1 : Int), .int .i64 (p.2 : Int)]
theorem pv_inj {p q : Nat × Nat} (h : pv p = pv q) : p = q := by
  simp [pv] at h
  exact Prod.ext (by omega) (by omega)

theorem equal_pair (p q : Nat × Nat) (w : World) : (Op.equal 50 (pv p) (pv q)).run Try.prog w = .ok (decide (p = q)) w := by
  have hu := run_underlying Try.underlying50 w
  have hd : ∀ t x y, Op.equal t x y = Op.equalIn (9998 + 1 + 1) t x y := fun _ _ _ => rfl
  obtain ⟨a, b⟩ := p
  obtain ⟨c, d⟩ := q
  simp only [hd, pv]
  rw [Op.equalIn]
  simp [go_sem, hu]
  by_cases h1 : a = c <;> by_cases h2 : b = d <;> simp [h1, h2] <;> omega

theorem ask_pair (p : Nat × Nat) (w : World) : ∀ (es : List MapEntry) (F : List (Nat × Nat)) (i : Nat), es.map (fun e => (e.key, e.val)) = F.map (fun q => (pv q, Value.bool true)) →
    (p ∉ F ∧ (Instr.findAsking 50 (pv p) es i).run Try.prog w = .ok none w) ∨ (p ∈ F ∧ ∃ j, (Instr.findAsking 50 (pv p) es i).run Try.prog w = .ok (some (j, .bool true)) w)
  | [], F, i, h => by
    have hF : F = [] := by cases F <;> simp at h ⊢
    subst hF
    exact .inl ⟨by simp, rfl⟩
  | e :: es, [], i, h => by simp at h
  | e :: es, q :: F, i, h => by
    simp only [List.map_cons, List.cons.injEq, Prod.mk.injEq] at h
    obtain ⟨⟨hk, hv⟩, hr⟩ := h
    have heq := equal_pair p q w
    by_cases hpq : p = q
    · subst hpq
      refine .inr ⟨by simp, i, ?_⟩
      simp [Instr.findAsking, hk, hv, heq]
    · rcases ask_pair p w es F (i + 1) hr with ⟨h1, h2⟩ | ⟨h1, j, h2⟩
      · exact .inl ⟨by simp [hpq, h1], by simp [Instr.findAsking, hk, heq, hpq, h2]⟩
      · exact .inr ⟨by simp [h1], j, by simp [Instr.findAsking, hk, heq, hpq, h2]⟩
theorem find_pair (p : Nat × Nat) (w : World) (es : List MapEntry) (F : List (Nat × Nat)) (h : es.map (fun e => (e.key, e.val)) = F.map (fun q => (pv q, Value.bool true))) :
    (p ∉ F ∧ (Instr.findKey 50 (pv p) es).run Try.prog w = .ok none w) ∨ (p ∈ F ∧ ∃ j, (Instr.findKey 50 (pv p) es).run Try.prog w = .ok (some (j, .bool true)) w) := by
  have hu := run_underlying Try.underlying50 w
  cases es with
  | nil =>
    have hF : F = [] := by cases F <;> simp at h ⊢
    subst hF
    exact .inl ⟨by simp, by simp [Instr.findKey, hu, Instr.findNow]⟩
  | cons e es =>
    cases F with
    | nil => simp at h
    | cons q F =>
      have hk : e.key = pv q := by simp only [List.map_cons, List.cons.injEq, Prod.mk.injEq] at h; exact h.1.1
      have hn : ∀ fs, Instr.findNow (.struct fs) (pv p) (e :: es) 0 = none := by
        intro fs; simp [Instr.findNow, Instr.sameNow]
      have e : (Instr.findKey 50 (pv p) (e :: es)).run Try.prog w = (Instr.findAsking 50 (pv p) (e :: es) 0).run Try.prog w := by
        simp [Instr.findKey, hu, hn]
      rw [e]
      exact ask_pair p w _ _ 0 h
theorem check_pair (b : Bool) (p : Nat × Nat) (w : World) : (Instr.checkKey b 10000 50 (pv p)).run Try.prog w = .ok () w := by
  have hu := run_underlying Try.underlying50 w
  have hc : ∀ (v : Int) (w : World), (Instr.checkKey b 9999 3 (.int .i64 v)).run Try.prog w = .ok () w := fun v w => MapKept.run_checkKey (P := Try.prog) (w := w) (k := .int .i64 v) Try.underlying3 rfl b 9998
  show (Instr.checkKey b (9999 + 1) 50 (pv p)).run Try.prog w = .ok () w
  rw [Instr.checkKey]
  simp [go_sem, hu, pv, hc]
theorem put_pair {w : World} {mb : Nat} {F : List (Nat × Nat)} {p : Nat × Nat} (h : MapHas w mb pv F) (hp : p ∉ F) :
    ∃ w', (Instr.mapUpdate 52 (.map (some mb)) (pv p) (.bool true)).run Try.prog w = .ok () w' ∧ MapHas w' mb pv (F ++ [p]) ∧ w.grownBy w' (some mb) := by
  obtain ⟨es, c, hb, he⟩ := h
  have h1 := fun u => run_underlying (P := Try.prog) Try.underlying52 u
  have h2 := MapKept.run_getObj_map (P := Try.prog) hb
  have h3 := MapKept.run_setObj_map (P := Try.prog) (.map (es.push { key := pv p, val := .bool true, born := c }) (c + 1)) hb
  have h4 := check_pair false p w
  rcases find_pair p w es.toList F he with ⟨_, h5⟩ | ⟨h5, _⟩
  · have hlt := (Array.getElem?_eq_some_iff.1 hb).1
    refine ⟨{ w with heap := w.heap.setIfInBounds mb (.map (es.push { key := pv p, val := .bool true, born := c }) (c + 1)) }, ?_, ⟨es.push { key := pv p, val := .bool true, born := c }, c + 1, by simp [hlt], by simp [he]⟩, ⟨rfl, rfl, rfl, by simp, fun k _ hk => ?_⟩⟩
    · simp [Instr.mapUpdate, h1, h2, h3, h4, h5, Result.andThen]
    · have : mb ≠ k := fun e => hk (by rw [e])
      simp [this]
  · exact absurd h5 hp
theorem get_pair {w : World} {mb : Nat} {F : List (Nat × Nat)} {p : Nat × Nat} (h : MapHas w mb pv F) (hp : p ∈ F) :
    (Instr.lookup 52 (.map (some mb)) (pv p) false).run Try.prog w = .ok (.bool true) w := by
  obtain ⟨es, c, hb, he⟩ := h
  have h1 := fun u => run_underlying (P := Try.prog) Try.underlying52 u
  have h2 := MapKept.run_getObj_map (P := Try.prog) hb
  have h4 := fun b => check_pair b p w
  rcases find_pair p w es.toList F he with ⟨h5, _⟩ | ⟨_, j, h5⟩
  · exact absurd hp h5
  · simp [Instr.lookup, h1, h2, h4, h5, Result.andThen]

/-! the same of ints -/
theorem now_int (p : Nat) : ∀ (es : List MapEntry) (F : List Nat) (i : Nat), es.map (fun e => (e.key, e.val)) = F.map (fun q => (natV q, Value.bool true)) →
    (p ∉ F ∧ Instr.findNow (.int .i64) (natV p) es i = some none) ∨ (p ∈ F ∧ ∃ j, Instr.findNow (.int .i64) (natV p) es i = some (some (j, .bool true)))
  | [], F, i, h => by
    have hF : F = [] := by cases F <;> simp at h ⊢
    subst hF
    exact .inl ⟨by simp, rfl⟩
  | e :: es, [], i, h => by simp at h
  | e :: es, q :: F, i, h => by
    simp only [List.map_cons, List.cons.injEq, Prod.mk.injEq] at h
    obtain ⟨⟨hk, hv⟩, hr⟩ := h
    by_cases hpq : p = q
    · subst hpq
      refine .inr ⟨by simp, i, ?_⟩
      simp [Instr.findNow, Instr.sameNow, hk, hv, natV]
    · have hpq' : ¬ (p : Int) = (q : Int) := by omega
      have hs : Instr.sameNow (.int .i64) (natV p) e.key = some false := by simp [Instr.sameNow, hk, natV, hpq']
      rcases now_int p es F (i + 1) hr with ⟨h1, h2⟩ | ⟨h1, j, h2⟩
      · exact .inl ⟨by simp [hpq, h1], by rw [Instr.findNow, hs]; exact h2⟩
      · exact .inr ⟨by simp [h1], j, by rw [Instr.findNow, hs]; exact h2⟩
theorem put_int {w : World} {mb : Nat} {F : List Nat} {p : Nat} (h : MapHas w mb natV F) (hp : p ∉ F) :
    ∃ w', (Instr.mapUpdate 45 (.map (some mb)) (natV p) (.bool true)).run Try.prog w = .ok () w' ∧ MapHas w' mb natV (F ++ [p]) ∧ w.grownBy w' (some mb) := by
  obtain ⟨es, c, hb, he⟩ := h
  have h1 := fun u => run_underlying (P := Try.prog) Try.underlying45 u
  have h2 := MapKept.run_getObj_map (P := Try.prog) hb
  have h3 := MapKept.run_setObj_map (P := Try.prog) (.map (es.push { key := natV p, val := .bool true, born := c }) (c + 1)) hb
  have h4 := MapKept.run_checkKey (P := Try.prog) (w := w) (k := natV p) Try.underlying3 rfl false 9999
  rcases now_int p es.toList F 0 he with ⟨_, hf⟩ | ⟨h5, _⟩
  · have h5 := MapKept.run_findKey (P := Try.prog) (w := w) Try.underlying3 hf
    have hlt := (Array.getElem?_eq_some_iff.1 hb).1
    refine ⟨{ w with heap := w.heap.setIfInBounds mb (.map (es.push { key := natV p, val := .bool true, born := c }) (c + 1)) }, ?_, ⟨es.push { key := natV p, val := .bool true, born := c }, c + 1, by simp [hlt], by simp [he]⟩, ⟨rfl, rfl, rfl, by simp, fun k _ hk => ?_⟩⟩
    · simp [Instr.mapUpdate, h1, h2, h3, h4, h5, Result.andThen]
    · have : mb ≠ k := fun e => hk (by rw [e])
      simp [this]
  · exact absurd h5 hp
theorem none_int {w : World} {mb : Nat} {F : List Nat} {p : Nat} (h : MapHas w mb natV F) (hp : p ∉ F) :
    (Instr.lookup 45 (.map (some mb)) (natV p) false).run Try.prog w = .ok (.bool false) w := by
  obtain ⟨es, c, hb, he⟩ := h
  have h1 := fun u => run_underlying (P := Try.prog) Try.underlying45 u
  have h2 := MapKept.run_getObj_map (P := Try.prog) hb
  have h4 := fun b => MapKept.run_checkKey (P := Try.prog) (w := w) (k := natV p) Try.underlying3 rfl b 9999
  have hz : (zeroValue 4).run Try.prog w = .ok (.bool false) w := by kernel_rfl
  rcases now_int p es.toList F 0 he with ⟨_, hf⟩ | ⟨h5, _⟩
  · have h5 := MapKept.run_findKey (P := Try.prog) (w := w) Try.underlying3 hf
    simp [Instr.lookup, h1, h2, h4, h5, hz, Result.andThen]
  · exact absurd h5 hp
end Go.Proofs.Ytflffgjldoipfaa
