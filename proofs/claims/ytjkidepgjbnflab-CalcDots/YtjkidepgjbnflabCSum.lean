/-
  calc's reckon, Sum and Dot: the sum one by one, the sum of products, or the error of the first that fails.
-/
import Derived.Test.YtjkidepgjbnflabCSound
import Derived.LoopTactic
namespace Go.Proofs.Ytjkidepgjbnflab
open Go.RowKit

theorem mk_func (fn : Fn) (first cap : Array Value) (w : World) : (Instr.makeFunc fn first cap).run Try.prog w = .ok (.func fn first cap) w := rfl

theorem reck1_ok (F : Nat) (cap : Array Value) (f a : Addr) (v u : Int) (w : World) (hF : ∀ w, (callFunc F cap).run Try.prog w = .ok (.enter F cap) w)
    (hf : w.cell? f = some (.func (.func F) #[] cap)) (ha : w.cell? a = some (.int .i64 u)) (hz : w.frozen? a = false)
    (h : Calls Try.prog F cap w fun e w1 => e = .returned (.int .i64 v) ∧ Grew w w1) :
    Calls Try.prog 25 #[.pointer (some f), .pointer (some a)] w fun e w' => e = .returned (.tuple #[]) ∧ ∃ w1, Grew w w1 ∧ w' = w1.setCell a (.int .i64 v) := by
  go_enter Try.func25, Try.ntmps25
  go_wp2
  refine h.mono ?_
  rintro e w1 ⟨rfl, G⟩
  have hc := G.cell ha
  have hz' := G.frozen hz
  go_wp2
  go_end0
  exact ⟨rfl, w1, G, rfl⟩

theorem reck1_bad (F : Nat) (cap : Array Value) (f a : Addr) (x : Int) (w : World) (hF : ∀ w, (callFunc F cap).run Try.prog w = .ok (.enter F cap) w)
    (hf : w.cell? f = some (.func (.func F) #[] cap))
    (h : Calls Try.prog F cap w fun e w1 => e = .panicked [fault x] ∧ Grew w w1) :
    Calls Try.prog 25 #[.pointer (some f), .pointer (some a)] w fun e w' => e = .panicked [fault x] ∧ Grew w w' := by
  go_enter Try.func25, Try.ntmps25
  go_wp2
  refine h.mono ?_
  rintro e w1 ⟨rfl, G⟩
  exact ⟨rfl, rfl, G⟩

theorem reckon_any (F : Nat) (cap : Array Value) (w : World) (r : Int × Int) (hr : ¬ r.2 = 0 → r.1 = 0) (hF : ∀ w, (callFunc F cap).run Try.prog w = .ok (.enter F cap) w)
    (h : ∀ W, Grew w W → Calls Try.prog F cap W fun e w1 => e = outR r ∧ Grew W w1) :
    Calls Try.prog 15 #[.func (.func F) #[] cap] w fun e w' => e = .returned (.tuple #[.int .i64 r.1, .int .i64 r.2]) ∧ Grew w w' := by
  have hmf := mk_func
  go_enter Try.func15, Try.ntmps15
  go_wp2_with (fail)
  refine try_wp 25 _ _ _ (fun _ => by simp [go_sem]) ?_
  obtain ⟨W3, hW3⟩ : ∃ W3, W3 = ((w.alloc (.cells #[.func (.func F) #[] cap] 34)).alloc (.cells #[.int .i64 0] 24)).alloc (.cells #[.int .i64 0] 25) := ⟨_, rfl⟩
  have G3 : Grew w W3 := by rw [hW3]; exact (((Grew.refl w).alloc _ _).alloc _ _).alloc _ _
  have c0 : W3.cell? ⟨w.heap.size, 0, none⟩ = some (.func (.func F) #[] cap) := by rw [hW3]; simp [go_sem]
  have c1 : W3.cell? ⟨w.heap.size + 1, 0, none⟩ = some (.int .i64 0) := by rw [hW3]; simp [go_sem]
  have c2 : W3.cell? ⟨w.heap.size + 2, 0, none⟩ = some (.int .i64 0) := by rw [hW3]; simp [go_sem]
  have hs : ((w.alloc (.cells #[.func (.func F) #[] cap] 34)).alloc (.cells #[.int .i64 0] 24)).heap.size = w.heap.size + 2 := by simp [go_sem]
  rw [← hW3, hs]
  clear hW3 hs
  by_cases hx : r.2 = 0
  · refine (reck1_ok F cap _ _ r.1 0 W3 hF c0 c1 (G3.free (by simp)) ((h _ G3).mono fun e w1 ⟨h1, h2⟩ => ⟨by rw [h1]; exact if_pos hx, h2⟩)).mono ?_
    rintro e w' ⟨rfl, w1, G1, rfl⟩
    have G4 := (G3.trans G1).setCell (a := ⟨w.heap.size + 1, 0, none⟩) (by simp) (.int .i64 r.1)
    refine ⟨?_, G4.free (by simp), 0, .inl ⟨rfl, rfl⟩, fun W hP => ?_⟩
    · exact (past_setCell _ _ _ _ _).cell (by simp) (G1.cell c2)
    have G5 := hP.grew w (by simp) G4
    have c3 := hP.cell (p := ⟨w.heap.size + 1, 0, none⟩) (by simp) (World.cell?_setCell_same _ _ _ (G1.cell c1))
    have z3 := G5.free (p := ⟨w.heap.size + 1, 0, none⟩) (by simp)
    have hx' : Hid (r.2 = 0) := hx
    clear hx
    clear hP G1 c0 c1 c2 h hr
    go_wp2
    have hx2 : r.2 = 0 := hx'
    have c4 := World.cell?_setCell_same _ _ (.int .i64 r.1) c3
    simp [bodyPost, results, Try.results15, go_sem, c4, hx2]
    exact G5.setCell (by simp) _
  · refine (reck1_bad F cap _ _ r.2 W3 hF c0 ((h _ G3).mono fun e w1 ⟨h1, h2⟩ => ⟨by rw [h1]; exact if_neg hx, h2⟩)).mono ?_
    rintro e w1 ⟨rfl, G1⟩
    have G4 := G3.trans G1
    refine ⟨G1.cell c2, G4.free (by simp), r.2, .inr rfl, fun W hP => ?_⟩
    have G5 := hP.grew w (by simp) G4
    have c3 := hP.cell (p := ⟨w.heap.size + 1, 0, none⟩) (by simp) (G1.cell c1)
    have z3 := G5.free (p := ⟨w.heap.size + 1, 0, none⟩) (by simp)
    have hx' : Hid (r.1 = 0) := hr hx
    clear hP G1 c0 c1 c2 h hr hx
    go_wp2
    have hx2 : r.1 = 0 := hx'
    have c4 := World.cell?_setCell_same _ _ (.int .i64 0) c3
    simp [bodyPost, results, Try.results15, go_sem, c4, hx2]
    exact G5.setCell (by simp) _

/-- The sum from s on, one by one, or the first error. -/
def sumR : Int → List Int → Int × Int
  | s, [] => (s, 0)
  | s, x :: l => if (addR s x).2 = 0 then sumR (addR s x).1 l else addR s x

/-- The sum of products from s on, or the first error. -/
def dotR : Int → List Int → List Int → Int × Int
  | s, x :: l, y :: m => if (mulR x y).2 = 0 then (if (addR s (mulR x y).1).2 = 0 then dotR (addR s (mulR x y).1).1 l m else addR s (mulR x y).1) else mulR x y
  | s, _, _ => (s, 0)

theorem inR_fit {x : Int} (h : (inR x).2 = 0) : inF (inR x).1 ∧ (inR x).1 = x := by
  unfold inR at *
  split at h
  · rename_i g; rw [if_pos g]; exact ⟨g, rfl⟩
  · simp at h
theorem inR_bad {x : Int} (h : ¬ (inR x).2 = 0) : inR x = (0, 3) := by
  unfold inR at *
  split at h
  · exact absurd rfl h
  · rename_i g; rw [if_neg g]

theorem sumR_step (l : List Int) (k : Nat) (hk : k < l.length) (s : Int) :
    sumR s (l.drop k) = if (addR s (l.getD k 0)).2 = 0 then sumR (addR s (l.getD k 0)).1 (l.drop (k + 1)) else addR s (l.getD k 0) := by
  rw [List.drop_eq_getElem_cons hk, sumR]
  simp [List.getD, List.getElem?_eq_getElem hk]

theorem sum1_any (p : Addr) (a : Option Addr) (cap : Nat) (l : List Int) (w : World) (hp : w.cell? p = some (.slice a l.length cap)) (hr : Row w a l) :
    Calls Try.prog 16 #[.pointer (some p)] w fun e w' => e = outR (sumR 0 l) ∧ w' = w := by
  obtain ⟨h1, h2, h3⟩ := hr
  go_enter Try.func16, Try.ntmps16
  go_wp2
  go_loop [2, 7] (fun s i => ∃ (k : Nat) (x : Int), k ≤ l.length ∧ i = .int .i64 k ∧ s = .int .i64 x ∧ inF x ∧ sumR 0 l = sumR x (l.drop k)) (fun _ i => l.length - (intOf i).toNat)
  case atStart => exact ⟨0, 0, by omega, rfl, rfl, ⟨by omega, by omega⟩, rfl⟩
  case round =>
    obtain ⟨k, x, hk, rfl, rfl, hx, hs⟩ := hrel
    have HS : Hid (sumR 0 l = sumR x (l.drop k)) := hs
    clear hs
    by_cases hlt : k < l.length
    · obtain ⟨b, off, rfl, h4⟩ : ∃ b off, a = some ⟨b, off, none⟩ ∧ ∀ i, i < l.length → w.cell? ⟨b, off + i, none⟩ = some (.int .i64 (l.getD i 0)) := h3.resolve_left (fun e => by simp [e] at hlt)
      obtain ⟨y, hy⟩ : ∃ y, y = l.getD k 0 := ⟨_, rfl⟩
      have hcell := h4 k hlt
      rw [← hy] at hcell
      have fy : inF y := by rw [hy]; simp [List.getD, List.getElem?_eq_getElem hlt]; exact h2 _ (List.getElem_mem hlt)
      have hst : Hid (sumR 0 l = if (addR x y).2 = 0 then sumR (addR x y).1 (l.drop (k + 1)) else addR x y) := by
        have := sumR_step l k hlt x
        rw [← hy] at this
        exact HS.out.trans this
      have hi : (k : Int) < (l.length : Int) := by omega
      clear h4 h3 h2 hy
      by_cases hadd : (addR x y).2 = 0
      · have ho : outR (addR x y) = .returned (.int .i64 (addR x y).1) := if_pos hadd
        go_wp2_with (first
          | (go_at_call 13; refine (cadd_any _ _ _ hx fy).mono ?_; rintro e w' ⟨rfl, rfl⟩; rw [ho]))
        refine ⟨⟨k + 1, (addR x y).1, by omega, rfl, rfl, (inR_fit hadd).1, ?_⟩, ?_⟩
        · rw [hst.out, if_pos hadd]
        · simp [intOf]; omega
      · have ho : outR (addR x y) = .panicked [fault (addR x y).2] := if_neg hadd
        go_wp2_with (first
          | (go_at_call 13; refine (cadd_any _ _ _ hx fy).mono ?_; rintro e w' ⟨rfl, rfl⟩; rw [ho]))
        refine ⟨rfl, ?_, rfl⟩
        rw [hst.out, if_neg hadd, ho]
    · have hi : ¬ (k : Int) < (l.length : Int) := by omega
      go_wp2
      go_ret
      refine ⟨?_, rfl⟩
      rw [HS.out, List.drop_eq_nil_of_le (by omega)]
      rfl

theorem sumR_zero : ∀ (l : List Int) (s : Int), ¬ (sumR s l).2 = 0 → (sumR s l).1 = 0
  | [], _, h => absurd rfl h
  | x :: l, s, h => by
    rw [sumR] at *
    split at h
    · rename_i g; rw [if_pos g]; exact sumR_zero l _ h
    · rename_i g; rw [if_neg g, addR, inR_bad g]

theorem sum_any (a : Option Addr) (cap : Nat) (l : List Int) (w : World) (hr : Row w a l) :
    Calls Try.prog 6 #[.slice a l.length cap] w fun e w' => e = .returned (.tuple #[.int .i64 (sumR 0 l).1, .int .i64 (sumR 0 l).2]) ∧ Grew w w' := by
  have hmf := mk_func
  go_enter Try.func6, Try.ntmps6
  go_wp2_with (first
    | (go_at_call 15; refine (reckon_any _ _ _ (sumR 0 l) (sumR_zero l 0) (fun _ => by simp [go_sem]) ?_).mono ?_))
  · intro W G
    have G1 : Grew w W := ((Grew.refl w).alloc _ _).trans G
    refine (sum1_any ⟨w.heap.size, 0, none⟩ a cap l W (G.cell (by simp)) (hr.grew G1)).mono ?_
    rintro e w' ⟨rfl, rfl⟩
    exact ⟨rfl, Grew.refl _⟩
  · rintro e w' ⟨rfl, G⟩
    have G1 : Grew w w' := ((Grew.refl w).alloc _ _).trans G
    clear G hr
    go_wp2
    go_ret2
    exact ⟨rfl, G1⟩

end Go.Proofs.Ytjkidepgjbnflab
