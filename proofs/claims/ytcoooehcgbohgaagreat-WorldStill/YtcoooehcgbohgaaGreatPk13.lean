/-
  What the statements' own looks answer: two lists of bodies, two worlds that are the same are told so. world.Run and world.Step as the statements call them; the step that fails is the first one that does; steps one behind the other. A place as an argument: its data opened, and shut again. A body as an argument: its data opened, and shut again. Lists of bodies and of joints as arguments: what lies in memory.
-/
import Derived.Test.YtcoooehcgbohgaaGreatPk12
import Derived.Test.YtcoooehcgbohgaaGreatPk03
import Derived.Test.YtcoooehcgbohgaaGreatRows
import Derived.Test.YtcoooehcgbohgaaGreatPk01
import Derived.Lib.SmallJoins
import Derived.ProofKit
import Derived.OpenShut
import Derived.Test.YtcoooehcgbohgaaGreatPk02
import Derived.Test.YtcoooehcgbohgaaGreatPk06
import Derived.Deep.Slices
import Derived.ChangeOld
namespace Go.Proofs.YtcoooehcgbohgaaGreat
open Go Go.RowKit

theorem drew_below {B : Nat} {w w' : World} (h : Below B w w') (n : Nat) : Below B w (w'.drewN n) := ⟨h.os, h.tape, h.output, h.size, h.block⟩
theorem grew_below {B : Nat} {w w' W : World} (h : Below B w w') (g : Grew w' W) (hB : B ≤ w'.heap.size) : Below B w W := h.trans (g.below.mono hB)
theorem same_joint (j : Jt) (w : World) : (binOp .neq 75 (.agg #[.int .i64 j.a, .int .i64 j.b, .int .i64 j.n]) (.agg #[.int .i64 j.a, .int .i64 j.b, .int .i64 j.n])).run Tryz.prog w = .ok (.bool false) w := by
  have hu := run_underlying Tryz.underlying75 w
  have hd : ∀ t x y, Op.equal t x y = Op.equalIn (9998 + 1 + 1) t x y := fun _ _ _ => rfl
  simp only [binOp, hd]
  rw [Op.equalIn]
  simp [go_sem, hu]

set_option maxRecDepth 10000 in
set_option maxHeartbeats 2000000 in
theorem samebodies_any (L : List Bd) (a b : Option Addr) (c d : Nat) (w : World) (hL : Bodies w a L) (hM : Bodies w b L) (hn : L.length ≤ 500) :
    Calls Tryz.prog 8 #[.slice a L.length c, .slice b L.length d] w fun e w' => e = .returned (.bool true) ∧ Below w.heap.size w w' := by
  go_enter Tryz.func8, Tryz.ntmps8
  go_wp2_with (fail)
  go_loopw [5] (fun i wr => ∃ k : Nat, k ≤ L.length ∧ i = .int .i64 k ∧ Below w.heap.size w wr) (fun i _ => L.length - (intOf i).toNat)
  case atStart => exact ⟨0, by omega, rfl, Below.refl _ _⟩
  case round =>
    obtain ⟨k, hk, rfl, hB⟩ := hrel
    by_cases hlt : k < L.length
    · have hi : (k : Int) < (L.length : Int) := by omega
      obtain ⟨p, o, rfl, hc⟩ := (hL.below hB).block hlt
      obtain ⟨q, u, rfl, hd⟩ := (hM.below hB).block hlt
      have hs := same_bodyS (bd L k)
      obtain ⟨B, eB⟩ : ∃ B, bd L k = B := ⟨_, rfl⟩
      rw [eB] at hc hd hs
      unfold Bd.val at hs
      clear eB
      obtain ⟨c0, c1, c2, c3, c4, c5, c6, c7⟩ := hc
      obtain ⟨d0, d1, d2, d3, d4, d5, d6, d7⟩ := hd
      go_upto_region 6 with (fail)
      go_quiet (fail)
      go_wp2_with (fail)
      refine ⟨⟨k + 1, by omega, rfl, drew_below hB _⟩, ?_⟩
      simp [intOf]; omega
    · have hi : ¬ (k : Int) < (L.length : Int) := by omega
      obtain rfl : k = L.length := by omega
      go_wp2_with (fail)
      go_ret
      exact ⟨rfl, hB⟩

end Go.Proofs.YtcoooehcgbohgaaGreat

namespace Go.Proofs.YtcoooehcgbohgaaGreat
open Go Go.RowKit

/-- What a call of Run leaves. -/
def RanTo (x y : Int) (r : (List Bd × Int) × Int) (J : List Jt) (W : World) (e : Ending) (w' : World) : Prop := Below W.heap.size W w' ∧
  ((r.2 = 0 ∧ r.1.2 = 0 ∧ ∃ a' c' b' d', e = .returned (.tuple #[.agg #[.int .i64 x, .int .i64 y, .slice a' r.1.1.length c', .slice b' J.length d'], .int .i64 0, .int .i64 0]) ∧ Bodies w' a' r.1.1 ∧ Joints w' b' J) ∨
   (¬ r.2 = 0 ∧ e = .returned (.tuple #[.agg #[.int .i64 0, .int .i64 0, .slice none 0 0, .slice none 0 0], .int .i64 r.1.2, .int .i64 r.2])))
theorem runv_any (x y : Int) (hx : inF x) (hy : inF y) (L : List Bd) (J : List Jt) (N : Int) (a : Option Addr) (c : Nat) (b : Option Addr) (d : Nat) (w : World) (hL : Bodies w a L) (hJ : Joints w b J) (hn : L.length ≤ 500) (hm : J.length ≤ 500) :
    Calls Tryz.prog 7 #[.agg #[.int .i64 x, .int .i64 y, .slice a L.length c, .slice b J.length d], .int .i64 N] w (RanTo x y (runE x y J L N) J w) := by
  refine (run_any x y hx hy L J N a c b d w hL hJ hn (by omega)).mono ?_
  rintro e w' ⟨h1, ⟨h2, h3, a', c', b', d', h4, h5, h6, _⟩ | ⟨h2, h3⟩⟩
  · exact ⟨h1, .inl ⟨h2, h3, a', c', b', d', h4, h5, h6⟩⟩
  · exact ⟨h1, .inr ⟨h2, h3⟩⟩
def StepsTo (x y : Int) (r : List Bd × Int) (J : List Jt) (W : World) (e : Ending) (w' : World) : Prop := Below W.heap.size W w' ∧
  ((r.2 = 0 ∧ ∃ a' c' b' d', e = .returned (.tuple #[.agg #[.int .i64 x, .int .i64 y, .slice a' r.1.length c', .slice b' J.length d'], .int .i64 0]) ∧ Bodies w' a' r.1 ∧ Joints w' b' J) ∨
   (¬ r.2 = 0 ∧ e = .returned (.tuple #[.agg #[.int .i64 0, .int .i64 0, .slice none 0 0, .slice none 0 0], .int .i64 r.2])))
theorem stepv_any (x y : Int) (hx : inF x) (hy : inF y) (L : List Bd) (J : List Jt) (a : Option Addr) (c : Nat) (b : Option Addr) (d : Nat) (w : World) (hL : Bodies w a L) (hJ : Joints w b J) (hn : L.length ≤ 500) (hm : J.length ≤ 500) :
    Calls Tryz.prog 9 #[.agg #[.int .i64 x, .int .i64 y, .slice a L.length c, .slice b J.length d]] w (StepsTo x y (stepE x y J L) J w) := by
  refine (step_any x y hx hy L J a c b d w hL hJ hn (by omega)).mono ?_
  rintro e w' ⟨h1, ⟨h2, a', c', b', d', h4, h5, h6, _⟩ | ⟨h2, h3⟩⟩
  · exact ⟨h1, .inl ⟨h2, a', c', b', d', h4, h5, h6⟩⟩
  · exact ⟨h1, .inr ⟨h2, h3⟩⟩
/-- A call of Run whose answer is known. -/
theorem ran_ok {x y : Int} {C : List Bd} {J : List Jt} {W : World} {P : Program} {f : Nat} {args : Array Value} (h : Calls P f args W (RanTo x y ((C, 0), 0) J W)) :
    Calls P f args W fun e w' => Below W.heap.size W w' ∧ ∃ a' c' b' d', e = .returned (.tuple #[.agg #[.int .i64 x, .int .i64 y, .slice a' C.length c', .slice b' J.length d'], .int .i64 0, .int .i64 0]) ∧ Bodies w' a' C ∧ Joints w' b' J := by
  refine h.mono ?_
  rintro e w' ⟨h1, ⟨_, _, h2⟩ | ⟨h2, _⟩⟩
  · exact ⟨h1, h2⟩
  · exact absurd rfl h2
theorem ran_no {x y : Int} {r : (List Bd × Int) × Int} {J : List Jt} {W : World} {P : Program} {f : Nat} {args : Array Value} (h : Calls P f args W (RanTo x y r J W)) (g : ¬ r.2 = 0) :
    Calls P f args W fun e w' => Below W.heap.size W w' ∧ e = .returned (.tuple #[.agg #[.int .i64 0, .int .i64 0, .slice none 0 0, .slice none 0 0], .int .i64 r.1.2, .int .i64 r.2]) := by
  refine h.mono ?_
  rintro e w' ⟨h1, ⟨h2, _⟩ | ⟨_, h2⟩⟩
  · exact absurd h2 g
  · exact ⟨h1, h2⟩
theorem stepped_no {x y : Int} {r : List Bd × Int} {J : List Jt} {W : World} {P : Program} {f : Nat} {args : Array Value} (h : Calls P f args W (StepsTo x y r J W)) (g : ¬ r.2 = 0) :
    Calls P f args W fun e w' => Below W.heap.size W w' ∧ e = .returned (.tuple #[.agg #[.int .i64 0, .int .i64 0, .slice none 0 0, .slice none 0 0], .int .i64 r.2]) := by
  refine h.mono ?_
  rintro e w' ⟨h1, ⟨h2, _⟩ | ⟨_, h2⟩⟩
  · exact absurd h2 g
  · exact ⟨h1, h2⟩

theorem box_after {w V : World} {x y : Int} (U : Below (w.alloc (.cells #[.int .i64 x, .int .i64 y] 26)).heap.size (w.alloc (.cells #[.int .i64 x, .int .i64 y] 26)) V) : At V w.heap.size x y ∧ w.heap.size < V.heap.size := by
  have hs := U.size
  have e : (w.alloc (.cells #[.int .i64 x, .int .i64 y] 26)).heap.size = w.heap.size + 1 := by simp
  refine ⟨⟨(U.cell (by simp)).trans (by simp [go_sem]), (U.cell (by simp)).trans (by simp [go_sem])⟩, by omega⟩

theorem w4_after {w V : World} {x y : Int} {a : Option Addr} {n c : Nat} {b : Option Addr} {m d : Nat} (U : Below (w.alloc (.cells #[.int .i64 x, .int .i64 y, .slice a n c, .slice b m d] 39)).heap.size (w.alloc (.cells #[.int .i64 x, .int .i64 y, .slice a n c, .slice b m d] 39)) V) : W4 V w.heap.size x y a n c b m d ∧ w.heap.size < V.heap.size := by
  have hs := U.size
  have e : (w.alloc (.cells #[.int .i64 x, .int .i64 y, .slice a n c, .slice b m d] 39)).heap.size = w.heap.size + 1 := by simp
  have h : W4 (w.alloc (.cells #[.int .i64 x, .int .i64 y, .slice a n c, .slice b m d] 39)) w.heap.size x y a n c b m d := by constructor <;> simp [go_sem]
  exact ⟨h.heap (U.block _ (by omega)), by omega⟩
theorem W4.later {w V : World} {q : Nat} {x y : Int} {a : Option Addr} {n c : Nat} {b : Option Addr} {m d : Nat} (h : W4 w q x y a n c b m d) {o : Obj} (U : Below (w.alloc o).heap.size (w.alloc o) V) : W4 V q x y a n c b m d ∧ q < V.heap.size := by
  have hs := U.size
  have e : (w.alloc o).heap.size = w.heap.size + 1 := by simp
  have hq := h.size
  have h2 : W4 (w.alloc o) q x y a n c b m d := h.heap (Below.heap_alloc _ _ _ hq)
  exact ⟨h2.heap (U.block _ (by omega)), by omega⟩

/-! ### Plain numbers -/
theorem goE_err : ∀ {m k : Nat} {x y : Int} {J : List Jt} {L : List Bd}, ¬ (goE x y J m k L).2 = 0 → ∃ j C, j < m ∧ (goE x y J m k L).1 = ([], (k : Int) + j + 1) ∧ goE x y J j k L = ((C, 0), 0) ∧ (stepE x y J C).2 = (goE x y J m k L).2
  | 0, _, _, _, _, _, h => absurd rfl h
  | m + 1, k, x, y, J, L, h => by
    by_cases e : (stepE x y J L).2 = 0
    · have e1 : goE x y J (m + 1) k L = goE x y J m (k + 1) (stepE x y J L).1 := if_pos e
      rw [e1] at h ⊢
      obtain ⟨j, C, h1, h2, h3, h4⟩ := goE_err h
      refine ⟨j + 1, C, by omega, ?_, ?_, h4⟩
      · rw [h2, show ((k + 1 : Nat) : Int) + j + 1 = (k : Int) + ((j + 1 : Nat) : Int) + 1 by omega]
      · have e2 : goE x y J (j + 1) k L = goE x y J j (k + 1) (stepE x y J L).1 := if_pos e
        rw [e2, h3]
    · have e1 : goE x y J (m + 1) k L = (([], (k : Int) + 1), (stepE x y J L).2) := if_neg e
      exact ⟨0, L, by omega, by rw [e1]; simp, rfl, by rw [e1]⟩
theorem goE_one {m : Nat} {x y : Int} {J : List Jt} : ∀ {k : Nat} {L : List Bd}, (goE x y J m k L).2 = 0 → (goE x y J m k L).1.2 = 0 := by
  induction m with
  | zero => exact fun _ => rfl
  | succ m ih =>
    intro k L h
    by_cases e : (stepE x y J L).2 = 0
    · have e1 : goE x y J (m + 1) k L = goE x y J m (k + 1) (stepE x y J L).1 := if_pos e
      rw [e1] at h ⊢
      exact ih h
    · have e1 : goE x y J (m + 1) k L = (([], (k : Int) + 1), (stepE x y J L).2) := if_neg e
      rw [e1] at h
      exact absurd h e
/-- Steps one behind the other. -/
theorem goE_add {x y : Int} {J : List Jt} : ∀ {m n k : Nat} {L C : List Bd}, goE x y J m k L = ((C, 0), 0) → goE x y J (m + n) k L = goE x y J n (k + m) C
  | 0, n, k, L, C, h => by
    have h : ((L, (0 : Int)), (0 : Int)) = ((C, 0), 0) := h
    cases h
    rw [Nat.zero_add, Nat.add_zero]
  | m + 1, n, k, L, C, h => by
    by_cases e : (stepE x y J L).2 = 0
    · have e1 : goE x y J (m + 1) k L = goE x y J m (k + 1) (stepE x y J L).1 := if_pos e
      rw [e1] at h
      have e2 : goE x y J (m + 1 + n) k L = goE x y J (m + n) (k + 1) (stepE x y J L).1 := by
        rw [show m + 1 + n = (m + n) + 1 by omega]
        exact if_pos e
      rw [e2, goE_add h, show k + 1 + m = k + (m + 1) by omega]
    · have e1 : goE x y J (m + 1) k L = (([], (k : Int) + 1), (stepE x y J L).2) := if_neg e
      rw [e1] at h
      exact absurd (congrArg Prod.snd h) e
theorem goE_shift {x y : Int} {J : List Jt} : ∀ {m k i : Nat} {L : List Bd}, (goE x y J m (k + i) L).2 = (goE x y J m k L).2 ∧ ((goE x y J m k L).2 = 0 → goE x y J m (k + i) L = goE x y J m k L) ∧ (¬ (goE x y J m k L).2 = 0 → (goE x y J m (k + i) L).1.2 = (goE x y J m k L).1.2 + i)
  | 0, _, _, _ => ⟨rfl, fun _ => rfl, fun h => absurd rfl h⟩
  | m + 1, k, i, L => by
    by_cases e : (stepE x y J L).2 = 0
    · have e1 : goE x y J (m + 1) k L = goE x y J m (k + 1) (stepE x y J L).1 := if_pos e
      have e2 : goE x y J (m + 1) (k + i) L = goE x y J m (k + 1 + i) (stepE x y J L).1 := by
        rw [show k + 1 + i = k + i + 1 by omega]
        exact if_pos e
      rw [e1, e2]
      exact goE_shift
    · have e1 : goE x y J (m + 1) k L = (([], (k : Int) + 1), (stepE x y J L).2) := if_neg e
      have e2 : goE x y J (m + 1) (k + i) L = (([], ((k + i : Nat) : Int) + 1), (stepE x y J L).2) := if_neg e
      rw [e1, e2]
      exact ⟨rfl, fun h => absurd h e, fun _ => by simp only; omega⟩
/-- What stays right through steps. -/
theorem goE_keep {x y : Int} {J : List Jt} : ∀ {m k : Nat} {L C : List Bd}, (∀ z ∈ L, z.ok) → goE x y J m k L = ((C, 0), 0) → Keep L C ∧ (0 < m → rightW x y C J = true)
  | 0, k, L, C, h, e => by
    have e : ((L, (0 : Int)), (0 : Int)) = ((C, 0), 0) := e
    cases e
    exact ⟨Keep.refl h, fun h => absurd h (by omega)⟩
  | m + 1, k, L, C, h, g => by
    by_cases e : (stepE x y J L).2 = 0
    · have e1 : goE x y J (m + 1) k L = goE x y J m (k + 1) (stepE x y J L).1 := if_pos e
      rw [e1] at g
      have hk := step_keep h e
      obtain ⟨h1, h2⟩ := goE_keep hk.ok g
      refine ⟨hk.trans h1, fun _ => ?_⟩
      by_cases hm : 0 < m
      · exact h2 hm
      · obtain rfl : m = 0 := by omega
        have g : (((stepE x y J L).1, (0 : Int)), (0 : Int)) = ((C, 0), 0) := g
        have := congrArg (fun t => t.1.1) g
        simp only at this
        rw [← this]
        exact step_right h e
    · have e1 : goE x y J (m + 1) k L = (([], (k : Int) + 1), (stepE x y J L).2) := if_neg e
      rw [e1] at g
      exact absurd (congrArg Prod.snd g) e
theorem runE_ok {x y : Int} {J : List Jt} {L : List Bd} {N : Int} (h : (runE x y J L N).2 = 0) : (runE x y J L N) = (((runE x y J L N).1.1, 0), 0) := by
  refine Prod.ext (Prod.ext rfl ?_) h
  unfold runE at *
  split
  · rfl
  · rename_i h1
    rw [if_neg h1] at h
    split
    · split <;> rfl
    · rename_i h2
      rw [if_neg h2] at h
      exact goE_one h
/-- Of a run that goes through. -/
theorem runE_keep {x y : Int} {J : List Jt} {L C : List Bd} {n : Nat} (hn : n ≤ 200) (h : ∀ z ∈ L, z.ok) (e : runE x y J L n = ((C, 0), 0)) : Keep L C ∧ rightW x y C J = true := by
  by_cases h0 : n = 0
  · subst h0
    have e : restE x y J L = ((C, 0), 0) := e
    unfold restE at e
    split at e
    · rename_i hr
      cases e
      exact ⟨Keep.refl h, hr⟩
    · exact absurd (show (9 : Int) = 0 from congrArg Prod.snd e) (by decide)
  · rw [runE_go (by omega) hn] at e
    obtain ⟨h1, h2⟩ := goE_keep h e
    exact ⟨h1, h2 (by omega)⟩
theorem runE_right {x y : Int} {J : List Jt} {L C : List Bd} {n : Nat} (hn : n ≤ 200) (e : runE x y J L n = ((C, 0), 0)) : rightW x y L J = true := by
  by_cases h0 : n = 0
  · subst h0
    have e : restE x y J L = ((C, 0), 0) := e
    unfold restE at e
    split at e
    · assumption
    · exact absurd (show (9 : Int) = 0 from congrArg Prod.snd e) (by decide)
  · rw [runE_go (by omega) hn] at e
    obtain ⟨m, rfl⟩ : ∃ m, n = m + 1 := ⟨n - 1, by omega⟩
    by_cases g : (stepE x y J L).2 = 0
    · exact (step_inv g).1
    · have e1 : goE x y J (m + 1) 0 L = (([], ((0 : Nat) : Int) + 1), (stepE x y J L).2) := if_neg g
      rw [e1] at e
      exact absurd (congrArg Prod.snd e) g
theorem runE_len {x y : Int} {J : List Jt} {L C : List Bd} {n : Nat} (hn : n ≤ 200) (h : ∀ z ∈ L, z.ok) (e : runE x y J L n = ((C, 0), 0)) : C.length = L.length := (runE_keep hn h e).1.len
end Go.Proofs.YtcoooehcgbohgaaGreat

namespace Go.Proofs.YtcoooehcgbohgaaGreat
open Go.ChangeShapes Go.WideShapes Go.ChangeAt Go.RowKit Go.Joins

theorem cells_vec : Tryz.prog.cellsOf 26 = 2 := by kernel_rfl
section
variable {H : Type} {enc : TypeId × Value → H} {W : World} {base : Nat} {spare : Nat → Bool} {held : Bool}
set_option maxRecDepth 100000 in
theorem open_vec {r : Reach} {b0 : Nat} {v : Value} {d : DataW H} {ps : List MemPlace} (hval : Value.okWide Tryz.prog W r b0 26 v) (h : DataW.Trod enc Tryz.prog W base spare held 26 v d ps) :
    ∃ x y : Int, v = vec x y ∧ d = .agg [.lit (.int .i64 x), .lit (.int .i64 y)] ∧ ps = [] ∧ inF x ∧ inF y := by
  obtain ⟨c0, c1, y0, y1, m, rfl, rfl, rfl, hy0, hy1⟩ := open_agg2 Tryz.underlying26 (by kernel_rfl) cells_vec hval h
  obtain ⟨a, e0, rfl, wa⟩ := DataW.trod_int Tryz.underlying24 hy0
  obtain ⟨b, e1, rfl, wb⟩ := DataW.trod_int Tryz.underlying24 hy1
  simp at e0 e1
  subst e0 e1
  exact ⟨a, b, rfl, rfl, rfl, inF_wf wa, inF_wf wb⟩
theorem wf_inF {x : Int} (h : inF x) : (Lit.int .i64 x).wf = true := by
  unfold inF at h
  simp [Lit.wf, IntKind.min, IntKind.max, IntKind.signed, IntKind.bits]
  omega
set_option maxRecDepth 100000 in
theorem shut_vec {x y : Int} (hx : inF x) (hy : inF y) : DataW.Trod enc Tryz.prog W base spare held 26 (vec x y) (.agg [.lit (.int .i64 x), .lit (.int .i64 y)]) [] :=
  shut_agg2 (y0 := (.lit (.int .i64 x), [])) (y1 := (.lit (.int .i64 y), [])) Tryz.underlying26 (by kernel_rfl) cells_vec ⟨1, by simp [DataW.trod, Tryz.underlying24, wf_inF hx]⟩ ⟨1, by simp [DataW.trod, Tryz.underlying24, wf_inF hy]⟩
theorem cells_fix : Tryz.prog.cellsOf 24 = 1 := by kernel_rfl
theorem cells_int : Tryz.prog.cellsOf 3 = 1 := by kernel_rfl
theorem trod_fix {n : Nat} {c : Value} {y : DataW H × List MemPlace} (h : DataW.trod enc Tryz.prog W base spare held n 24 [c] = some y) : ∃ a, c = .int .i64 a ∧ y = (.lit (.int .i64 a), []) ∧ inF a := by
  obtain ⟨a, e0, rfl, wa⟩ := DataW.trod_int Tryz.underlying24 h
  simp at e0
  exact ⟨a, e0, rfl, inF_wf wa⟩
theorem trod_int1 {n : Nat} {c : Value} {y : DataW H × List MemPlace} (h : DataW.trod enc Tryz.prog W base spare held n 3 [c] = some y) : ∃ a, c = .int .i64 a ∧ y = (.lit (.int .i64 a), []) ∧ inF a := by
  obtain ⟨a, e0, rfl, wa⟩ := DataW.trod_int Tryz.underlying3 h
  simp at e0
  exact ⟨a, e0, rfl, inF_wf wa⟩
theorem trod_vec {n : Nat} {c d : Value} {y : DataW H × List MemPlace} (h : DataW.trod enc Tryz.prog W base spare held n 26 [c, d] = some y) :
    ∃ a b, c = .int .i64 a ∧ d = .int .i64 b ∧ y = (.agg [.lit (.int .i64 a), .lit (.int .i64 b)], []) ∧ inF a ∧ inF b := by
  obtain ⟨y0, y1, m, rfl, _, h0, h1⟩ := trod_struct2 Tryz.underlying26 h
  simp only [cells_fix] at h0 h1
  obtain ⟨a, rfl, rfl, fa⟩ := trod_fix (c := c) (by simpa using h0)
  obtain ⟨b, rfl, rfl, fb⟩ := trod_fix (c := d) (by simpa using h1)
  exact ⟨a, b, rfl, rfl, rfl, fa, fb⟩
theorem shut_fixC {x : Int} (h : inF x) (n : Nat) : DataW.trod enc Tryz.prog W base spare held (n + 1) 24 [.int .i64 x] = some (.lit (.int .i64 x), []) := by
  simp [DataW.trod, Tryz.underlying24, wf_inF h]
theorem shut_intC {x : Int} (h : inF x) (n : Nat) : DataW.trod enc Tryz.prog W base spare held (n + 1) 3 [.int .i64 x] = some (.lit (.int .i64 x), []) := by
  simp [DataW.trod, Tryz.underlying3, wf_inF h]
theorem shut_vecC {x y : Int} (hx : inF x) (hy : inF y) (n : Nat) : DataW.trod enc Tryz.prog W base spare held (n + 2) 26 [.int .i64 x, .int .i64 y] = some (.agg [.lit (.int .i64 x), .lit (.int .i64 y)], []) :=
  trod_struct2_mk (n := n + 1) (y0 := (.lit (.int .i64 x), [])) (y1 := (.lit (.int .i64 y), [])) Tryz.underlying26 (by rw [cells_vec]; rfl) (by simp only [cells_fix]; exact shut_fixC hx n) (by simp only [cells_fix]; exact shut_fixC hy n)
end
end Go.Proofs.YtcoooehcgbohgaaGreat

namespace Go.Proofs.YtcoooehcgbohgaaGreat
open Go.ChangeShapes Go.WideShapes Go.ChangeAt Go.RowKit Go.Joins

theorem array8 {α : Type} {cs : Array α} (h : cs.size = 8) : ∃ c0 c1 c2 c3 c4 c5 c6 c7, cs = #[c0, c1, c2, c3, c4, c5, c6, c7] := by
  obtain ⟨l⟩ := cs
  match l, h with
  | [c0, c1, c2, c3, c4, c5, c6, c7], _ => exact ⟨c0, c1, c2, c3, c4, c5, c6, c7, rfl⟩
section
variable {H : Type} {enc : TypeId × Value → H} {P : Program} {W : World} {base : Nat} {spare : Nat → Bool} {held : Bool}
set_option maxRecDepth 100000 in
theorem trod_struct5 {t : TypeId} {f0 f1 f2 f3 f4 : Field} {fuel : Nat} {cs : List Value} {x : DataW H × List MemPlace} (ht : P.underlying t = some (.struct #[f0, f1, f2, f3, f4])) (h : DataW.trod enc P W base spare held fuel t cs = some x) :
    ∃ y0 y1 y2 y3 y4 n, x = (.agg [y0.1, y1.1, y2.1, y3.1, y4.1], y0.2 ++ (y1.2 ++ (y2.2 ++ (y3.2 ++ y4.2)))) ∧ cs.length = P.cellsOf t ∧ DataW.trod enc P W base spare held n f0.type ((cs.drop f0.offset).take (P.cellsOf f0.type)) = some y0 ∧
      DataW.trod enc P W base spare held n f1.type ((cs.drop f1.offset).take (P.cellsOf f1.type)) = some y1 ∧ DataW.trod enc P W base spare held n f2.type ((cs.drop f2.offset).take (P.cellsOf f2.type)) = some y2 ∧
      DataW.trod enc P W base spare held n f3.type ((cs.drop f3.offset).take (P.cellsOf f3.type)) = some y3 ∧ DataW.trod enc P W base spare held n f4.type ((cs.drop f4.offset).take (P.cellsOf f4.type)) = some y4 := by
  obtain ⟨xs, n, _, rfl, hl, hlen, hf⟩ := DataW.trod_struct ht h
  match xs, hlen with
  | [y0, y1, y2, y3, y4], _ => exact ⟨y0, y1, y2, y3, y4, n, by simp, hl, by simpa using hf 0 f0 rfl, by simpa using hf 1 f1 rfl, by simpa using hf 2 f2 rfl, by simpa using hf 3 f3 rfl, by simpa using hf 4 f4 rfl⟩
end
section
variable {H : Type} {enc : TypeId × Value → H} {W : World} {base : Nat} {spare : Nat → Bool} {held : Bool}
set_option maxRecDepth 100000 in
theorem cells_body : Tryz.prog.cellsOf 28 = 8 := by kernel_rfl
/-- A body's data. -/
def Bd.dat {H : Type} (B : Bd) : DataW H := .agg [.lit (.int .i64 B.s), .agg [.lit (.int .i64 B.a), .lit (.int .i64 B.b)], .lit (.int .i64 B.m), .agg [.lit (.int .i64 B.p), .lit (.int .i64 B.q)], .agg [.lit (.int .i64 B.u), .lit (.int .i64 B.v)]]
set_option maxRecDepth 100000 in
theorem trod_body {n : Nat} {c0 c1 c2 c3 c4 c5 c6 c7 : Value} {y : DataW H × List MemPlace} (h : DataW.trod enc Tryz.prog W base spare held n 28 [c0, c1, c2, c3, c4, c5, c6, c7] = some y) :
    ∃ B : Bd, [c0, c1, c2, c3, c4, c5, c6, c7] = B.row ∧ y = (B.dat, []) ∧ B.ok := by
  obtain ⟨y0, y1, y2, y3, y4, m, rfl, _, h0, h1, h2, h3, h4⟩ := trod_struct5 Tryz.underlying28 h
  simp only [cells_fix, cells_int, cells_vec] at h0 h1 h2 h3 h4
  obtain ⟨s, rfl, rfl, fs⟩ := trod_int1 (c := c0) (by simpa using h0)
  obtain ⟨a, b, rfl, rfl, rfl, fa, fb⟩ := trod_vec (c := c1) (d := c2) (by simpa using h1)
  obtain ⟨m, rfl, rfl, fm⟩ := trod_fix (c := c3) (by simpa using h2)
  obtain ⟨p, q, rfl, rfl, rfl, fp, fq⟩ := trod_vec (c := c4) (d := c5) (by simpa using h3)
  obtain ⟨u, v, rfl, rfl, rfl, fu, fv⟩ := trod_vec (c := c6) (d := c7) (by simpa using h4)
  exact ⟨⟨s, a, b, m, p, q, u, v⟩, rfl, rfl, ⟨fs, fa, fb, fm, fp, fq, fu, fv⟩⟩
set_option maxRecDepth 100000 in
theorem open_body {r : Reach} {b0 : Nat} {v : Value} {d : DataW H} {ps : List MemPlace} (hval : Value.okWide Tryz.prog W r b0 28 v) (h : DataW.Trod enc Tryz.prog W base spare held 28 v d ps) :
    ∃ B : Bd, v = B.val ∧ d = B.dat ∧ ps = [] ∧ B.ok := by
  obtain ⟨cs, rfl, hsz⟩ := okWide_struct Tryz.underlying28 hval
  obtain ⟨c0, c1, c2, c3, c4, c5, c6, c7, rfl⟩ := array8 (hsz.trans cells_body)
  obtain ⟨fuel, hf⟩ := h
  obtain ⟨B, e, hy, ok⟩ := trod_body (n := fuel) (by simpa [Value.cells] using hf)
  simp only [Prod.mk.injEq] at hy
  refine ⟨B, ?_, hy.1, hy.2, ok⟩
  simp [Bd.val, Bd.row] at e ⊢
  exact e
set_option maxRecDepth 100000 in
theorem shut_bodyC {B : Bd} (h : B.ok) (n : Nat) : DataW.trod enc Tryz.prog W base spare held (n + 3) 28 B.row = some (B.dat, []) := by
  have := trod_struct_mk (enc := enc) (w := W) (base := base) (spare := spare) (held := held) (n := n + 2) (cs := B.row) (xs := [(.lit (.int .i64 B.s), []), (.agg [.lit (.int .i64 B.a), .lit (.int .i64 B.b)], []), (.lit (.int .i64 B.m), []), (.agg [.lit (.int .i64 B.p), .lit (.int .i64 B.q)], []), (.agg [.lit (.int .i64 B.u), .lit (.int .i64 B.v)], [])]) Tryz.underlying28 (by rw [cells_body]; rfl)
    (by simp [cells_fix, cells_int, cells_vec, Bd.row, shut_fixC h.m, shut_intC h.s, shut_vecC h.a h.b, shut_vecC h.p h.q, shut_vecC h.u h.v])
  simpa [Bd.dat] using this
set_option maxRecDepth 100000 in
theorem shut_body {B : Bd} (h : B.ok) : DataW.Trod enc Tryz.prog W base spare held 28 B.val B.dat [] := ⟨3, shut_bodyC h 0⟩
end
end Go.Proofs.YtcoooehcgbohgaaGreat

namespace Go.Proofs.YtcoooehcgbohgaaGreat
open Go.ChangeShapes Go.WideShapes Go.ChangeAt Go.RowKit Go.Joins

section
variable {H : Type} {enc : TypeId × Value → H} {P : Program} {W : World} {base : Nat} {spare : Nat → Bool} {held : Bool}
set_option maxRecDepth 100000 in
theorem trod_struct3 {t : TypeId} {f0 f1 f2 : Field} {fuel : Nat} {cs : List Value} {x : DataW H × List MemPlace} (ht : P.underlying t = some (.struct #[f0, f1, f2])) (h : DataW.trod enc P W base spare held fuel t cs = some x) :
    ∃ y0 y1 y2 n, x = (.agg [y0.1, y1.1, y2.1], y0.2 ++ (y1.2 ++ y2.2)) ∧ DataW.trod enc P W base spare held n f0.type ((cs.drop f0.offset).take (P.cellsOf f0.type)) = some y0 ∧
      DataW.trod enc P W base spare held n f1.type ((cs.drop f1.offset).take (P.cellsOf f1.type)) = some y1 ∧ DataW.trod enc P W base spare held n f2.type ((cs.drop f2.offset).take (P.cellsOf f2.type)) = some y2 := by
  obtain ⟨xs, n, _, rfl, hl, hlen, hf⟩ := DataW.trod_struct ht h
  match xs, hlen with
  | [y0, y1, y2], _ => exact ⟨y0, y1, y2, n, by simp, by simpa using hf 0 f0 rfl, by simpa using hf 1 f1 rfl, by simpa using hf 2 f2 rfl⟩
end
section
variable {H : Type} {enc : TypeId × Value → H} {W : World} {base : Nat} {spare : Nat → Bool} {held : Bool}
set_option maxRecDepth 100000 in
theorem cells_joint : Tryz.prog.cellsOf 75 = 3 := by kernel_rfl
set_option maxRecDepth 100000 in
theorem trod_joint {n : Nat} {c0 c1 c2 : Value} {y : DataW H × List MemPlace} (h : DataW.trod enc Tryz.prog W base spare held n 75 [c0, c1, c2] = some y) :
    ∃ j : Jt, [c0, c1, c2] = j.row ∧ j.ok := by
  obtain ⟨y0, y1, y2, m, rfl, h0, h1, h2⟩ := trod_struct3 Tryz.underlying75 h
  simp only [cells_fix, cells_int] at h0 h1 h2
  obtain ⟨a, rfl, _, fa⟩ := trod_int1 (c := c0) (by simpa using h0)
  obtain ⟨b, rfl, _, fb⟩ := trod_int1 (c := c1) (by simpa using h1)
  obtain ⟨l, rfl, _, fl⟩ := trod_fix (c := c2) (by simpa using h2)
  exact ⟨⟨a, b, l⟩, rfl, ⟨fa, fb, fl⟩⟩
set_option maxRecDepth 100000 in
theorem open_bodies {a : Option Addr} {len cap : Nat} {d : DataW H} {ps : List MemPlace} (h : DataW.Trod enc Tryz.prog W base spare held 22 (.slice a len cap) d ps) : ∃ L : List Bd, L.length = len ∧ Bodies W a L := by
  obtain ⟨fuel, hf⟩ := h
  rcases Go.Deep.open_slice Tryz.underlying22 hf with ⟨hcs, _⟩ | ⟨x, l, c, m, n, D, Pl, hcs, _, hl, _, hm, _, hx⟩
  · simp [Value.cells] at hcs
    obtain ⟨rfl, rfl, rfl⟩ := hcs
    exact ⟨[], rfl, fun x hx => absurd hx (by simp), .inl rfl⟩
  · simp [Value.cells] at hcs
    obtain ⟨rfl, rfl, rfl⟩ := hcs
    have hlm : len ≤ m := by rw [hm]; split <;> omega
    have each : ∀ i, i < len → ∃ b : Bd, b.ok ∧ ∀ c, c < 8 → W.cell? (x.add (i * 8 + c)) = b.row[c]? := by
      intro i hi
      obtain ⟨cs', h1, h2⟩ := hx i (by omega)
      rw [cells_body] at h1
      obtain ⟨_, hlen, hcell⟩ := World.cells?_some h1
      match cs', hlen with
      | [c0, c1, c2, c3, c4, c5, c6, c7], _ =>
        obtain ⟨b, e, _, ok⟩ := trod_body h2
        refine ⟨b, ok, fun c hc => ?_⟩
        have := hcell c hc
        rw [Go.Deep.add_add] at this
        rw [this, e]
    letI : Inhabited Bd := ⟨noB⟩
    obtain ⟨q, hq⟩ := Go.Deep.choose_lt each
    refine ⟨(List.range len).map q, by simp, fun y hy => ?_, ?_⟩
    · obtain ⟨i, hi, rfl⟩ := List.mem_map.1 hy
      exact (hq i (List.mem_range.1 hi)).1
    · by_cases h0 : len = 0
      · left; rw [h0]; rfl
      · right
        obtain ⟨b, off, spot⟩ := x
        have hs : spot = none := by
          have h1 := (hq 0 (by omega)).2 0 (by omega)
          have h2 := World.cell?_spot (v := .int .i64 (q 0).s) (by simpa [Bd.row] using h1)
          cases spot with
          | none => rfl
          | some s => simp [Addr.add] at h2
        subst hs
        refine ⟨b, off, rfl, fun i hi => ?_⟩
        have hi' : i < len := by simpa using hi
        have hb : bd ((List.range len).map q) i = q i := by simp [bd, List.getD, hi']
        have h1 := (hq i hi').2
        rw [hb]
        have k : ∀ c, c < 8 → W.cell? ⟨b, off + i * 8 + c, none⟩ = (q i).row[c]? := fun c hc => by
          have := h1 c hc
          rw [add_plain] at this
          rw [Nat.add_assoc]
          exact this
        exact ⟨k 0 (by omega), k 1 (by omega), k 2 (by omega), k 3 (by omega), k 4 (by omega), k 5 (by omega), k 6 (by omega), k 7 (by omega)⟩
set_option maxRecDepth 100000 in
theorem open_joints {a : Option Addr} {len cap : Nat} {d : DataW H} {ps : List MemPlace} (h : DataW.Trod enc Tryz.prog W base spare held 37 (.slice a len cap) d ps) : ∃ J : List Jt, J.length = len ∧ Joints W a J := by
  obtain ⟨fuel, hf⟩ := h
  rcases Go.Deep.open_slice Tryz.underlying37 hf with ⟨hcs, _⟩ | ⟨x, l, c, m, n, D, Pl, hcs, _, hl, _, hm, _, hx⟩
  · simp [Value.cells] at hcs
    obtain ⟨rfl, rfl, rfl⟩ := hcs
    exact ⟨[], rfl, fun x hx => absurd hx (by simp), .inl rfl⟩
  · simp [Value.cells] at hcs
    obtain ⟨rfl, rfl, rfl⟩ := hcs
    have hlm : len ≤ m := by rw [hm]; split <;> omega
    have each : ∀ i, i < len → ∃ b : Jt, b.ok ∧ ∀ c, c < 3 → W.cell? (x.add (i * 3 + c)) = b.row[c]? := by
      intro i hi
      obtain ⟨cs', h1, h2⟩ := hx i (by omega)
      rw [cells_joint] at h1
      obtain ⟨_, hlen, hcell⟩ := World.cells?_some h1
      match cs', hlen with
      | [c0, c1, c2], _ =>
        obtain ⟨b, e, ok⟩ := trod_joint h2
        refine ⟨b, ok, fun c hc => ?_⟩
        have := hcell c hc
        rw [Go.Deep.add_add] at this
        rw [this, e]
    letI : Inhabited Jt := ⟨⟨0, 0, 0⟩⟩
    obtain ⟨q, hq⟩ := Go.Deep.choose_lt each
    refine ⟨(List.range len).map q, by simp, fun y hy => ?_, ?_⟩
    · obtain ⟨i, hi, rfl⟩ := List.mem_map.1 hy
      exact (hq i (List.mem_range.1 hi)).1
    · by_cases h0 : len = 0
      · left; rw [h0]; rfl
      · right
        obtain ⟨b, off, spot⟩ := x
        have hs : spot = none := by
          have h1 := (hq 0 (by omega)).2 0 (by omega)
          have h2 := World.cell?_spot (v := .int .i64 (q 0).a) (by simpa [Jt.row] using h1)
          cases spot with
          | none => rfl
          | some s => simp [Addr.add] at h2
        subst hs
        refine ⟨b, off, rfl, fun i hi => ?_⟩
        have hi' : i < len := by simpa using hi
        have hb : jt ((List.range len).map q) i = q i := by simp [jt, List.getD, hi']
        have h1 := (hq i hi').2
        rw [hb]
        have k : ∀ c, c < 3 → W.cell? ⟨b, off + i * 3 + c, none⟩ = (q i).row[c]? := fun c hc => by
          have := h1 c hc
          rw [add_plain] at this
          rw [Nat.add_assoc]
          exact this
        exact ⟨k 0 (by omega), k 1 (by omega), k 2 (by omega)⟩
end
end Go.Proofs.YtcoooehcgbohgaaGreat
