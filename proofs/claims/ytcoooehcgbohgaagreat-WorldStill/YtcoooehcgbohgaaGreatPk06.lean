/-
  Plain numbers, no program in sight: what chapter 11's calls answer. Nothing is claimed here. Plain numbers, no program in sight: what chapter 12's calls answer. Nothing is claimed here. Lists of bodies and of joints that lie in memory: to be read (Bodies, Joints), or a call's own (Own). Try of what writes blocks of its own: as try_wp, where nothing is told of the blocks' marks (But). Which worlds may be: what package world's own looks answer; nothing that was there is written. As JLate, with two sorts of cells: those that nobody in the region writes (A: read at any time), and those that it writes towards its end (S: read ahead of D). What slices.Clone does of bodies and joints, and world.copied of a world: the same in slices of their own; nothing that was there is written. Plain numbers, no program in sight: what chapter 11's calls keep. Nothing is claimed here. Plain numbers, no program in sight: what a step keeps of the bodies; which errors it may have. What world.fall does: the bodies as the plain function says, or a panic of a Fault; their block alone is written.
-/
import Derived.Test.YtcoooehcgbohgaaGreatPk03
import Derived.Test.YtcoooehcgbohgaaGreatPk01
import Derived.OwnWalk
import Derived.Deep.QuietTactic
import Derived.BigQuiet
import Derived.Deep.CutRange
import Derived.Deep.CutBlock
import Derived.Test.YtcoooehcgbohgaaGreatPk05
namespace Go.Proofs.YtcoooehcgbohgaaGreat
open Go Go.RowKit

theorem behind_ok {r : Int × Int} {f : Int → Int × Int} (h : r.2 = 0) : behind r f = f r.1 := if_pos h
theorem behind_no {r : Int × Int} {f : Int → Int × Int} (h : ¬ r.2 = 0) : behind r f = (0, r.2) := if_neg h

def noB : Bd := ⟨0, 0, 0, 0, 0, 0, 0, 0⟩
/-- A body with another Mom, with another place. -/
def Bd.mom (A : Bd) (x y : Int) : Bd := ⟨A.s, A.a, A.b, A.m, A.p, A.q, x, y⟩
def Bd.pos (A : Bd) (x y : Int) : Bd := ⟨A.s, A.a, A.b, A.m, x, y, A.u, A.v⟩
theorem Bd.ok.mom {A : Bd} (h : A.ok) {x y : Int} (hx : inF x) (hy : inF y) : (A.mom x y).ok := ⟨h.s, h.a, h.b, h.m, h.p, h.q, hx, hy⟩
theorem Bd.ok.pos {A : Bd} (h : A.ok) {x y : Int} (hx : inF x) (hy : inF y) : (A.pos x y).ok := ⟨h.s, h.a, h.b, h.m, hx, hy, h.u, h.v⟩

/-- Two bodies, asked where there is no error so far. -/
def ifP (k : Int) (r : (Bd × Bd) × Int) : (Bd × Bd) × Int := if k = 0 then r else ((noB, noB), k)
theorem ifP_ok {k : Int} (h : k = 0) (r : (Bd × Bd) × Int) : ifP k r = r := if_pos h
theorem ifP_no {k : Int} (h : ¬ k = 0) (r : (Bd × Bd) × Int) : ifP k r = ((noB, noB), k) := if_neg h
/-- How a call ends that answers two bodies, or throws. -/
def outP (t : (Bd × Bd) × Int) : Ending := if t.2 = 0 then .returned (.tuple #[t.1.1.val, t.1.2.val]) else .panicked [fault t.2]
theorem outP_no {k : Int} (h : ¬ k = 0) (r : (Bd × Bd) × Int) : outP (ifP k r) = .panicked [fault k] := by rw [ifP_no h]; exact if_neg h
theorem outP_yes (A B : Bd) : outP ((A, B), 0) = .returned (.tuple #[A.val, B.val]) := rfl

/-- A body that got a place of two numbers, or their error. -/
def put (t : Int × Int × Int) (f : Int → Int → Bd) : Bd × Int := if t.2.2 = 0 then (f t.1 t.2.1, 0) else (noB, t.2.2)
theorem put_ok {t : Int × Int × Int} (h : t.2.2 = 0) (f : Int → Int → Bd) : put t f = (f t.1 t.2.1, 0) := if_pos h
theorem put_no {t : Int × Int × Int} (h : ¬ t.2.2 = 0) (f : Int → Int → Bd) : put t f = (noB, t.2.2) := if_neg h
def lessV (A : Bd) (x y : Int) : Int × Int × Int := two (subR A.u x) (subR A.v y)
def plusV (A : Bd) (x y : Int) : Int × Int × Int := two (addR A.u x) (addR A.v y)
def lessM (A : Bd) (x y : Int) : Bd × Int := if A.m = 0 then (A, 0) else put (lessV A x y) A.mom
def plusM (A : Bd) (x y : Int) : Bd × Int := if A.m = 0 then (A, 0) else put (plusV A x y) A.mom
/-- What Apply answers. -/
def applyR (A B : Bd) (x y : Int) : (Bd × Bd) × Int := ifP (lessM A x y).2 (ifP (plusM B x y).2 (((lessM A x y).1, (plusM B x y).1), 0))

/-- What both are in lightness; how fast B goes away from A along (x, y). -/
def kR (A B : Bd) : Int × Int := behind (lightR A) fun a => behind (lightR B) fun b => addR a b
def ifV (k : Int) (t : Int × Int × Int) : Int × Int × Int := if k = 0 then t else (0, 0, k)
theorem ifV_ok {k : Int} (h : k = 0) (t : Int × Int × Int) : ifV k t = t := if_pos h
theorem ifV_no {k : Int} (h : ¬ k = 0) (t : Int × Int × Int) : ifV k t = (0, 0, k) := if_neg h
def diffV (s t : Int × Int × Int) : Int × Int × Int := ifV s.2.2 (ifV t.2.2 (two (subR s.1 t.1) (subR s.2.1 t.2.1)))
def ifN (k : Int) (t : Int × Int) : Int × Int := if k = 0 then t else (0, k)
theorem ifN_ok {k : Int} (h : k = 0) (t : Int × Int) : ifN k t = t := if_pos h
theorem ifN_no {k : Int} (h : ¬ k = 0) (t : Int × Int) : ifN k t = (0, k) := if_neg h
theorem outR_no {k : Int} (h : ¬ k = 0) (t : Int × Int) : outR (ifN k t) = .panicked [fault k] := by rw [ifN_no h]; exact if_neg h
def vR (A B : Bd) (x y : Int) : Int × Int := ifN (speedR B).2.2 (ifN (speedR A).2.2 (ifN (two (subR (speedR B).1 (speedR A).1) (subR (speedR B).2.1 (speedR A).2.1)).2.2 (dotV (two (subR (speedR B).1 (speedR A).1) (subR (speedR B).2.1 (speedR A).2.1)).1 (two (subR (speedR B).1 (speedR A).1) (subR (speedR B).2.1 (speedR A).2.1)).2.1 x y)))
def scaleV (x y j : Int) : Int × Int × Int := two (mulR x j) (mulR y j)

/-- The push of a contact, where they go towards one another: w, w turned, j, the push. -/
def halfR (v : Int) : Int × Int := addR v (v.tdiv 2)
def turnR (v : Int) : Int × Int := subR 0 (halfR v).1
def jR (v k : Int) : Int × Int := divR (turnR v).1 k
def pushR (A B : Bd) (x y v k : Int) : (Bd × Bd) × Int := ifP (halfR v).2 (ifP (turnR v).2 (ifP (jR v k).2 (ifP (scaleV x y (jR v k).1).2.2 (applyR A B (scaleV x y (jR v k).1).1 (scaleV x y (jR v k).1).2.1))))
def metR (A B : Bd) (x y v k : Int) : (Bd × Bd) × Int := if v < 0 then pushR A B x y v k else ((A, B), 0)
/-- How far a body is put, and where. -/
def offR (A : Bd) (c : Int) : Int × Int := mulR c (lightR A).1
def offV (A : Bd) (x y c : Int) : Int × Int × Int := scaleV x y (offR A c).1
def backV (A : Bd) (x y c : Int) : Int × Int × Int := two (subR A.p (offV A x y c).1) (subR A.q (offV A x y c).2.1)
def forthV (A : Bd) (x y c : Int) : Int × Int × Int := two (addR A.p (offV A x y c).1) (addR A.q (offV A x y c).2.1)
def apartR (A B : Bd) (x y c : Int) : (Bd × Bd) × Int :=
  ifP (lightR A).2 (ifP (offR A c).2 (ifP (offV A x y c).2.2 (ifP (backV A x y c).2.2 (
  ifP (lightR B).2 (ifP (offR B c).2 (ifP (offV B x y c).2.2 (ifP (forthV B x y c).2.2 ((A.pos (backV A x y c).1 (backV A x y c).2.1, B.pos (forthV B x y c).1 (forthV B x y c).2.1), 0))))))))
def cR (d k : Int) : Int × Int := divR (d.tdiv 2) k
def thenR (r : (Bd × Bd) × Int) (x y d k : Int) : (Bd × Bd) × Int := ifP r.2 (ifP (cR d k).2 (apartR r.1.1 r.1.2 x y (cR d k).1))
/-- What Contact answers. -/
def contactR (A B : Bd) (h : Ht) : (Bd × Bd) × Int :=
  ifP (kR A B).2 (if (kR A B).1 = 0 then ((A, B), 0) else ifP (vR A B h.x h.y).2 (thenR (metR A B h.x h.y (vR A B h.x h.y).1 (kR A B).1) h.x h.y h.d (kR A B).1))

/-- What Joint answers. -/
def wayV (A B : Bd) : Int × Int × Int := two (subR B.p A.p) (subR B.q A.q)
def pullR (v l n : Int) : Int × Int := ifN (subR l n).2 (ifN (mulR (subR l n).1 34359738368).2 (addR v (mulR (subR l n).1 34359738368).1))
def heldR (A B : Bd) (x y t k : Int) : (Bd × Bd) × Int := ifP (subR 0 t).2 (ifP (divR (subR 0 t).1 k).2 (ifP (scaleV x y (divR (subR 0 t).1 k).1).2.2 (applyR A B (scaleV x y (divR (subR 0 t).1 k).1).1 (scaleV x y (divR (subR 0 t).1 k).1).2.1)))
def heldU (A B : Bd) (u : (Int × Int) × Int × Int) (n : Int) : (Bd × Bd) × Int :=
  ifP u.2.2 (if u.2.1 = 0 then ((A, B), 0) else ifP (kR A B).2 (if (kR A B).1 = 0 then ((A, B), 0) else
  ifP (vR A B u.1.1 u.1.2).2 (ifP (pullR (vR A B u.1.1 u.1.2).1 u.2.1 n).2 (heldR A B u.1.1 u.1.2 (pullR (vR A B u.1.1 u.1.2).1 u.2.1 n).1 (kR A B).1))))
def jointR (A B : Bd) (n : Int) : (Bd × Bd) × Int := ifP (wayV A B).2.2 (heldU A B (unitR (wayV A B).1 (wayV A B).2.1) n)

/-! ### All of these are int64s -/
theorem lightR_in (A : Bd) : inF (lightR A).1 := by unfold lightR; split; exact inF0; exact (divR_in _ _).1
theorem speedR_in (A : Bd) : inF (speedR A).1 ∧ inF (speedR A).2.1 := by unfold speedR; split; exact ⟨inF0, inF0⟩; exact two_in (divR_in _ _).1 (divR_in _ _).1
theorem kR_in (A B : Bd) : inF (kR A B).1 := behind_in (behind_in (addR_in _ _))
theorem ifN_in {k : Int} {t : Int × Int} (h : inF t.1) : inF (ifN k t).1 := by unfold ifN; split; exact h; exact inF0
theorem dotV_in (x y u v : Int) : inF (dotV x y u v).1 := by
  unfold dotV
  split
  · split
    · exact addR_in _ _
    · exact inF0
  · exact inF0
theorem vR_in (A B : Bd) (x y : Int) : inF (vR A B x y).1 := ifN_in (ifN_in (ifN_in (dotV_in _ _ _ _)))
theorem scaleV_in (x y j : Int) : inF (scaleV x y j).1 ∧ inF (scaleV x y j).2.1 := two_in (mulR_in _ _).1 (mulR_in _ _).1
theorem tdiv2_in {v : Int} (h : inF v) : inF (v.tdiv 2) := tdiv_in h (by decide) (by omega)
theorem put_in {t : Int × Int × Int} {f : Int → Int → Bd} (h : (f t.1 t.2.1).ok) : (put t f).1.ok := by
  unfold put
  split
  · exact h
  · exact ⟨inF0, inF0, inF0, inF0, inF0, inF0, inF0, inF0⟩
theorem lessM_in {A : Bd} (h : A.ok) (x y : Int) : (lessM A x y).1.ok := by
  unfold lessM
  split
  · exact h
  · exact put_in (h.mom (two_in (subR_in _ _) (subR_in _ _)).1 (two_in (subR_in _ _) (subR_in _ _)).2)
theorem plusM_in {A : Bd} (h : A.ok) (x y : Int) : (plusM A x y).1.ok := by
  unfold plusM
  split
  · exact h
  · exact put_in (h.mom (two_in (addR_in _ _) (addR_in _ _)).1 (two_in (addR_in _ _) (addR_in _ _)).2)
theorem noB_ok : noB.ok := ⟨inF0, inF0, inF0, inF0, inF0, inF0, inF0, inF0⟩
theorem ifP_in {k : Int} {r : (Bd × Bd) × Int} (h : r.1.1.ok ∧ r.1.2.ok) : (ifP k r).1.1.ok ∧ (ifP k r).1.2.ok := by
  unfold ifP
  split
  · exact h
  · exact ⟨noB_ok, noB_ok⟩
theorem applyR_in {A B : Bd} (h : A.ok) (g : B.ok) (x y : Int) : (applyR A B x y).1.1.ok ∧ (applyR A B x y).1.2.ok := ifP_in (ifP_in ⟨lessM_in h x y, plusM_in g x y⟩)
theorem metR_in {A B : Bd} (h : A.ok) (g : B.ok) (x y v k : Int) : (metR A B x y v k).1.1.ok ∧ (metR A B x y v k).1.2.ok := by
  unfold metR
  split
  · exact ifP_in (ifP_in (ifP_in (ifP_in (applyR_in h g _ _))))
  · exact ⟨h, g⟩
end Go.Proofs.YtcoooehcgbohgaaGreat

namespace Go.Proofs.YtcoooehcgbohgaaGreat
open Go Go.RowKit

/-- A joint: its two ends, its length. -/
structure Jt where
  a : Int
  b : Int
  n : Int
/-- .. as the code has it. -/
def Jt.val (j : Jt) : Value := .agg #[.int .i64 j.a, .int .i64 j.b, .int .i64 j.n]
/-- .. its cells. -/
def Jt.row (j : Jt) : List Value := [.int .i64 j.a, .int .i64 j.b, .int .i64 j.n]
structure Jt.ok (j : Jt) : Prop where
  a : inF j.a
  b : inF j.b
  n : inF j.n

def bd (L : List Bd) (i : Nat) : Bd := L.getD i noB
def jt (J : List Jt) (i : Nat) : Jt := J.getD i ⟨0, 0, 0⟩
theorem bd_get {L : List Bd} {i : Nat} (h : i < L.length) : L[i]? = some (bd L i) := by simp [bd, List.getD, h]
theorem jt_get {J : List Jt} {i : Nat} (h : i < J.length) : J[i]? = some (jt J i) := by simp [jt, List.getD, h]
theorem bd_mem {L : List Bd} {i : Nat} (h : i < L.length) : bd L i ∈ L := List.mem_of_getElem? (bd_get h)
theorem jt_mem {J : List Jt} {i : Nat} (h : i < J.length) : jt J i ∈ J := List.mem_of_getElem? (jt_get h)
theorem bd_set {L : List Bd} {i : Nat} (h : i < L.length) (B : Bd) : bd (L.set i B) i = B := by simp [bd, List.getD, h]
theorem bd_far {L : List Bd} {i k : Nat} (h : i ≠ k) (B : Bd) : bd (L.set i B) k = bd L k := by simp [bd, List.getD, List.getElem?_set_ne h]
theorem set_bd {L : List Bd} {i : Nat} (h : i < L.length) : L.set i (bd L i) = L := by
  apply List.ext_getElem?
  intro j
  rw [List.getElem?_set]
  by_cases e : i = j
  · subst e; rw [if_pos rfl, if_pos h, bd_get h]
  · rw [if_neg e]
theorem bd_ext {L M : List Bd} (hl : L.length = M.length) (h : ∀ i, i < L.length → bd L i = bd M i) : L = M := by
  apply List.ext_getElem?
  intro j
  by_cases hj : j < L.length
  · rw [bd_get hj, bd_get (by omega), h j hj]
  · rw [List.getElem?_eq_none (by omega), List.getElem?_eq_none (by omega)]
theorem ok_set {L : List Bd} (h : ∀ x ∈ L, x.ok) {B : Bd} (hB : B.ok) (i : Nat) : ∀ x ∈ L.set i B, x.ok := by
  intro x hx
  rcases List.mem_or_eq_of_mem_set hx with g | rfl
  · exact h x g
  · exact hB

/-- What is done at k, k + 1 .. (m times), up to the first error. -/
def upE (f : Nat → List Bd → List Bd × Int) : Nat → Nat → List Bd → List Bd × Int
  | 0, _, L => (L, 0)
  | m + 1, k, L => if (f k L).2 = 0 then upE f m (k + 1) (f k L).1 else ([], (f k L).2)
theorem upE_end (f : Nat → List Bd → List Bd × Int) (k : Nat) (L : List Bd) : upE f 0 k L = (L, 0) := rfl
theorem upE_ok {f : Nat → List Bd → List Bd × Int} {n k : Nat} {L : List Bd} (h : k < n) (g : (f k L).2 = 0) : upE f (n - k) k L = upE f (n - (k + 1)) (k + 1) (f k L).1 := by
  rw [show n - k = (n - (k + 1)) + 1 by omega]
  exact if_pos g
theorem upE_no {f : Nat → List Bd → List Bd × Int} {n k : Nat} {L : List Bd} (h : k < n) (g : ¬ (f k L).2 = 0) : upE f (n - k) k L = ([], (f k L).2) := by
  rw [show n - k = (n - (k + 1)) + 1 by omega]
  exact if_neg g
/-- What each turn keeps all of them keep. -/
theorem upE_inv {f : Nat → List Bd → List Bd × Int} {I : List Bd → Prop} : ∀ {m k : Nat} {L : List Bd}, (∀ j C, k ≤ j → j < k + m → I C → (f j C).2 = 0 → I (f j C).1) → I L → (upE f m k L).2 = 0 → I (upE f m k L).1
  | 0, _, _, _, h, _ => h
  | m + 1, k, L, hf, h, g => by
    unfold upE at g ⊢
    by_cases e : (f k L).2 = 0
    · rw [if_pos e] at g ⊢
      exact upE_inv (fun j C h1 h2 => hf j C (by omega) (by omega)) (hf k L (by omega) (by omega) h e) g
    · rw [if_neg e] at g; exact absurd g e

def thenE (r : List Bd × Int) (f : List Bd → List Bd × Int) : List Bd × Int := if r.2 = 0 then f r.1 else ([], r.2)
theorem thenE_ok {r : List Bd × Int} {f : List Bd → List Bd × Int} (h : r.2 = 0) : thenE r f = f r.1 := if_pos h
theorem thenE_no {r : List Bd × Int} {f : List Bd → List Bd × Int} (h : ¬ r.2 = 0) : thenE r f = ([], r.2) := if_neg h
theorem thenE_inv {r : List Bd × Int} {f : List Bd → List Bd × Int} (h : (thenE r f).2 = 0) : r.2 = 0 ∧ thenE r f = f r.1 := by
  by_cases e : r.2 = 0
  · exact ⟨e, if_pos e⟩
  · unfold thenE at h; rw [if_neg e] at h; exact absurd h e

/-- A body that is put at i; two that are put at a and b; or the error. -/
def putE (L : List Bd) (i : Nat) (r : Bd × Int) : List Bd × Int := if r.2 = 0 then (L.set i r.1, 0) else ([], r.2)
def pairE (L : List Bd) (a b : Nat) (r : (Bd × Bd) × Int) : List Bd × Int := if r.2 = 0 then ((L.set a r.1.1).set b r.1.2, 0) else ([], r.2)
theorem putE_inv {L : List Bd} {i : Nat} {r : Bd × Int} (h : (putE L i r).2 = 0) : r.2 = 0 ∧ putE L i r = (L.set i r.1, 0) := by
  by_cases e : r.2 = 0
  · exact ⟨e, if_pos e⟩
  · unfold putE at h; rw [if_neg e] at h; exact absurd h e
theorem pairE_inv {L : List Bd} {a b : Nat} {r : (Bd × Bd) × Int} (h : (pairE L a b r).2 = 0) : r.2 = 0 ∧ pairE L a b r = ((L.set a r.1.1).set b r.1.2, 0) := by
  by_cases e : r.2 = 0
  · exact ⟨e, if_pos e⟩
  · unfold pairE at h; rw [if_neg e] at h; exact absurd h e

/-- 1. What gravity gives. -/
def shareV (t : Int × Int × Int) : Int × Int × Int := ifV t.2.2 (two (partR t.1 64) (partR t.2.1 64))
def gainV (x y m : Int) : Int × Int × Int := shareV (scaleV x y m)
def fallV (x y : Int) (B : Bd) : Int × Int × Int := ifV (gainV x y B.m).2.2 (two (addR B.u (gainV x y B.m).1) (addR B.v (gainV x y B.m).2.1))
def fallB (x y : Int) (B : Bd) : Bd × Int := if B.m = 0 then (B, 0) else put (fallV x y B) B.mom
def fallE (x y : Int) (i : Nat) (L : List Bd) : List Bd × Int := putE L i (fallB x y (bd L i))
/-- 2. The joints, one after another. -/
def jointE (J : List Jt) (k : Nat) (L : List Bd) : List Bd × Int := pairE L (jt J k).a.toNat (jt J k).b.toNat (jointR (bd L (jt J k).a.toNat) (bd L (jt J k).b.toNat) (jt J k).n)
def pullE (J : List Jt) (L : List Bd) : List Bd × Int := upE (jointE J) J.length 0 L
/-- 3. The boxes, and those that touch. -/
def boxE : List Bd → List Bx × Int
  | [] => ([], 0)
  | B :: L => if (boxR B).2 = 0 then (if (boxE L).2 = 0 then ((boxR B).1 :: (boxE L).1, 0) else ([], (boxE L).2)) else ([], (boxR B).2)
def pr (P : List (Nat × Nat)) (k : Nat) : Nat × Nat := P.getD k (0, 0)
def hitE (P : List (Nat × Nat)) (k : Nat) (L : List Bd) : List Bd × Int :=
  if (hitR (bd L (pr P k).1) (bd L (pr P k).2)).2 = 0 then
    (if (hitR (bd L (pr P k).1) (bd L (pr P k).2)).1.2 = true then pairE L (pr P k).1 (pr P k).2 (contactR (bd L (pr P k).1) (bd L (pr P k).2) (hitR (bd L (pr P k).1) (bd L (pr P k).2)).1.1) else (L, 0))
  else ([], (hitR (bd L (pr P k).1) (bd L (pr P k).2)).2)
def bounceE (L : List Bd) : List Bd × Int := if (boxE L).2 = 0 then upE (hitE (prs (boxE L).1)) (prs (boxE L).1).length 0 L else ([], (boxE L).2)
/-- 4. Where each goes. -/
def moveV (B : Bd) : Int × Int × Int := ifV (shareV (speedR B)).2.2 (two (addR B.p (shareV (speedR B)).1) (addR B.q (shareV (speedR B)).2.1))
def moveB (B : Bd) : Bd × Int := if B.m = 0 then (B, 0) else put (moveV B) B.pos
def moveE (i : Nat) (L : List Bd) : List Bd × Int := putE L i (moveB (bd L i))

def fallsE (x y : Int) (L : List Bd) : List Bd × Int := upE (fallE x y) L.length 0 L
def roundE (J : List Jt) (L : List Bd) : List Bd × Int := upE (fun _ => pullE J) 4 0 L
def movesE (L : List Bd) : List Bd × Int := upE moveE L.length 0 L
/-- All four. -/
def advE (x y : Int) (J : List Jt) (L : List Bd) : List Bd × Int := thenE (fallsE x y L) fun A => thenE (roundE J A) fun B => thenE (bounceE B) movesE

/-- Which worlds may be. -/
def rightJ (n : Nat) (j : Jt) : Bool := decide (0 ≤ j.a ∧ j.a < n ∧ 0 ≤ j.b ∧ j.b < n ∧ ¬ j.a = j.b ∧ 0 ≤ j.n ∧ j.n ≤ 4294967296000)
def rightG (x : Int) : Bool := decide (-4294967296000 ≤ x ∧ x ≤ 4294967296000)
def rightW (x y : Int) (L : List Bd) (J : List Jt) : Bool := L.all rightB && J.all (rightJ L.length) && (rightG x && rightG y)
def endE (L : List Bd) : List Bd × Int := if L.all rightB = true then (L, 0) else ([], 3)
/-- What Step answers. -/
def stepE (x y : Int) (J : List Jt) (L : List Bd) : List Bd × Int := if rightW x y L J = true then thenE (advE x y J L) endE else ([], 9)
/-- What Run answers: the bodies, at which step, the error. -/
def goE (x y : Int) (J : List Jt) : Nat → Nat → List Bd → (List Bd × Int) × Int
  | 0, _, L => ((L, 0), 0)
  | m + 1, k, L => if (stepE x y J L).2 = 0 then goE x y J m (k + 1) (stepE x y J L).1 else (([], (k : Int) + 1), (stepE x y J L).2)
def runE (x y : Int) (J : List Jt) (L : List Bd) (n : Int) : (List Bd × Int) × Int :=
  if n < 0 ∨ 200 < n then (([], 0), 9) else if n = 0 then (if rightW x y L J = true then ((L, 0), 0) else (([], 0), 9)) else goE x y J n.toNat 0 L
/-- What Momentum answers. -/
def sumE : List Bd → Int → Int → Int × Int × Int
  | [], x, y => (x, y, 0)
  | B :: L, x, y => if (two (addR x B.u) (addR y B.v)).2.2 = 0 then sumE L (two (addR x B.u) (addR y B.v)).1 (two (addR x B.u) (addR y B.v)).2.1 else (0, 0, (two (addR x B.u) (addR y B.v)).2.2)
end Go.Proofs.YtcoooehcgbohgaaGreat

namespace Go.Proofs.YtcoooehcgbohgaaGreat
open Go Go.RowKit

theorem flat_at {α : Type} (f : α → List Value) (k : Nat) (hk : ∀ x, (f x).length = k) : ∀ (L : List α) (i : Nat) (x : α), L[i]? = some x → ∀ c, c < k → (L.flatMap f)[i * k + c]? = (f x)[c]?
  | y :: L, 0, x, hx, c, hc => by
    obtain rfl : y = x := by simpa using hx
    rw [List.flatMap_cons, List.getElem?_append_left (by rw [hk]; omega)]
    simp
  | y :: L, i + 1, x, hx, c, hc => by
    have e : (i + 1) * k + c = k + (i * k + c) := by rw [Nat.add_mul]; omega
    rw [List.flatMap_cons, List.getElem?_append_right (by rw [hk, e]; omega), hk, e, Nat.add_sub_cancel_left]
    exact flat_at f k hk L i x (by simpa using hx) c hc
theorem flat_len {α : Type} (f : α → List Value) (k : Nat) (hk : ∀ x, (f x).length = k) (L : List α) : (L.flatMap f).length = L.length * k := by
  induction L with
  | nil => simp
  | cons x L ih => rw [List.flatMap_cons, List.length_append, ih, hk, List.length_cons, Nat.add_mul]; omega
theorem flat_mom (x y : Int) : ∀ (L : List Bd) (i : Nat), i < L.length → ((L.flatMap Bd.row).set (i * 8 + 6) (.int .i64 x)).set (i * 8 + 7) (.int .i64 y) = (L.set i ((bd L i).mom x y)).flatMap Bd.row
  | B :: L, 0, _ => by simp [Bd.row, Bd.mom, bd]
  | B :: L, i + 1, h => by
    have hi : i < L.length := by simpa using h
    have e : bd (B :: L) (i + 1) = bd L i := by simp [bd]
    rw [List.flatMap_cons, show (i + 1) * 8 + 6 = 8 + (i * 8 + 6) by omega, show (i + 1) * 8 + 7 = 8 + (i * 8 + 7) by omega,
      List.set_append_right _ _ (by simp [Bd.row]), List.set_append_right _ _ (by simp [Bd.row]), e, List.set_cons_succ, List.flatMap_cons]
    rw [show 8 + (i * 8 + 6) - B.row.length = i * 8 + 6 by simp [Bd.row], show 8 + (i * 8 + 7) - B.row.length = i * 8 + 7 by simp [Bd.row], flat_mom x y L i hi]
theorem flat_pos (x y : Int) : ∀ (L : List Bd) (i : Nat), i < L.length → ((L.flatMap Bd.row).set (i * 8 + 4) (.int .i64 x)).set (i * 8 + 5) (.int .i64 y) = (L.set i ((bd L i).pos x y)).flatMap Bd.row
  | B :: L, 0, _ => by simp [Bd.row, Bd.pos, bd]
  | B :: L, i + 1, h => by
    have hi : i < L.length := by simpa using h
    have e : bd (B :: L) (i + 1) = bd L i := by simp [bd]
    rw [List.flatMap_cons, show (i + 1) * 8 + 4 = 8 + (i * 8 + 4) by omega, show (i + 1) * 8 + 5 = 8 + (i * 8 + 5) by omega,
      List.set_append_right _ _ (by simp [Bd.row]), List.set_append_right _ _ (by simp [Bd.row]), e, List.set_cons_succ, List.flatMap_cons]
    rw [show 8 + (i * 8 + 4) - B.row.length = i * 8 + 4 by simp [Bd.row], show 8 + (i * 8 + 5) - B.row.length = i * 8 + 5 by simp [Bd.row], flat_pos x y L i hi]
def sets (xs : List Value) (o : Nat) (B : Bd) : List Value :=
  (((((((xs.set o (.int .i64 B.s)).set (o + 1) (.int .i64 B.a)).set (o + 2) (.int .i64 B.b)).set (o + 3) (.int .i64 B.m)).set (o + 4) (.int .i64 B.p)).set (o + 5) (.int .i64 B.q)).set (o + 6) (.int .i64 B.u)).set (o + 7) (.int .i64 B.v)
theorem sets_far (l m : List Value) (o k : Nat) (h : l.length = k) (B : Bd) : sets (l ++ m) (k + o) B = l ++ sets m o B := by
  unfold sets
  simp only [show k + o + 1 = k + (o + 1) by omega, show k + o + 2 = k + (o + 2) by omega, show k + o + 3 = k + (o + 3) by omega, show k + o + 4 = k + (o + 4) by omega, show k + o + 5 = k + (o + 5) by omega, show k + o + 6 = k + (o + 6) by omega, show k + o + 7 = k + (o + 7) by omega]
  have e : ∀ (r : List Value) (j : Nat) (v : Value), (l ++ r).set (k + j) v = l ++ r.set j v := fun r j v => by
    rw [List.set_append_right _ _ (by omega), h, Nat.add_sub_cancel_left]
  simp only [e]
theorem flat_sets (C : Bd) : ∀ (L : List Bd) (i : Nat), i < L.length → sets (L.flatMap Bd.row) (i * 8) C = (L.set i C).flatMap Bd.row
  | B :: L, 0, _ => by simp [sets, Bd.row]
  | B :: L, i + 1, h => by
    have hi : i < L.length := by simpa using h
    rw [List.flatMap_cons, show (i + 1) * 8 = 8 + i * 8 by omega, sets_far _ _ _ 8 (by simp [Bd.row]), flat_sets C L i hi, List.set_cons_succ, List.flatMap_cons]

/-- A body that lies at ⟨b, o⟩. -/
structure BatO (w : World) (b o : Nat) (B : Bd) : Prop where
  c0 : w.cell? ⟨b, o, none⟩ = some (.int .i64 B.s)
  c1 : w.cell? ⟨b, o + 1, none⟩ = some (.int .i64 B.a)
  c2 : w.cell? ⟨b, o + 2, none⟩ = some (.int .i64 B.b)
  c3 : w.cell? ⟨b, o + 3, none⟩ = some (.int .i64 B.m)
  c4 : w.cell? ⟨b, o + 4, none⟩ = some (.int .i64 B.p)
  c5 : w.cell? ⟨b, o + 5, none⟩ = some (.int .i64 B.q)
  c6 : w.cell? ⟨b, o + 6, none⟩ = some (.int .i64 B.u)
  c7 : w.cell? ⟨b, o + 7, none⟩ = some (.int .i64 B.v)
theorem BatO.heap {w W : World} {b o : Nat} {B : Bd} (h : BatO w b o B) (g : W.heap[b]? = w.heap[b]?) : BatO W b o B := by
  have k : ∀ o s, W.cell? ⟨b, o, s⟩ = w.cell? ⟨b, o, s⟩ := fun o s => cell_of_heap g
  exact ⟨(k _ _).trans h.c0, (k _ _).trans h.c1, (k _ _).trans h.c2, (k _ _).trans h.c3, (k _ _).trans h.c4, (k _ _).trans h.c5, (k _ _).trans h.c6, (k _ _).trans h.c7⟩
theorem BatO.size {w : World} {b o : Nat} {B : Bd} (h : BatO w b o B) : b < w.heap.size := cell_block h.c0
theorem BatO.grew {w W : World} {b o : Nat} {B : Bd} (h : BatO w b o B) (g : Grew w W) : BatO W b o B := h.heap (g.heap h.size)
/-- A joint that lies at ⟨b, o⟩. -/
structure JatO (w : World) (b o : Nat) (j : Jt) : Prop where
  c0 : w.cell? ⟨b, o, none⟩ = some (.int .i64 j.a)
  c1 : w.cell? ⟨b, o + 1, none⟩ = some (.int .i64 j.b)
  c2 : w.cell? ⟨b, o + 2, none⟩ = some (.int .i64 j.n)
theorem JatO.heap {w W : World} {b o : Nat} {j : Jt} (h : JatO w b o j) (g : W.heap[b]? = w.heap[b]?) : JatO W b o j := by
  have k : ∀ o s, W.cell? ⟨b, o, s⟩ = w.cell? ⟨b, o, s⟩ := fun o s => cell_of_heap g
  exact ⟨(k _ _).trans h.c0, (k _ _).trans h.c1, (k _ _).trans h.c2⟩
theorem JatO.size {w : World} {b o : Nat} {j : Jt} (h : JatO w b o j) : b < w.heap.size := cell_block h.c0
theorem JatO.grew {w W : World} {b o : Nat} {j : Jt} (h : JatO w b o j) (g : Grew w W) : JatO W b o j := h.heap (g.heap h.size)

/-- Bodies, joints that lie in memory, one behind the other. -/
structure Bodies (w : World) (a : Option Addr) (L : List Bd) : Prop where
  ok : ∀ x ∈ L, x.ok
  at' : L = [] ∨ ∃ b off, a = some ⟨b, off, none⟩ ∧ ∀ i, i < L.length → BatO w b (off + i * 8) (bd L i)
structure Joints (w : World) (a : Option Addr) (J : List Jt) : Prop where
  ok : ∀ x ∈ J, x.ok
  at' : J = [] ∨ ∃ b off, a = some ⟨b, off, none⟩ ∧ ∀ i, i < J.length → JatO w b (off + i * 3) (jt J i)
theorem Bodies.heap {w W : World} {a : Option Addr} {L : List Bd} (h : Bodies w a L) (g : ∀ i, i < w.heap.size → W.heap[i]? = w.heap[i]?) : Bodies W a L := by
  refine ⟨h.ok, ?_⟩
  rcases h.at' with e | ⟨b, off, e, k⟩
  · exact .inl e
  · exact .inr ⟨b, off, e, fun i hi => (k i hi).heap (g _ (k i hi).size)⟩
theorem Joints.heap {w W : World} {a : Option Addr} {J : List Jt} (h : Joints w a J) (g : ∀ i, i < w.heap.size → W.heap[i]? = w.heap[i]?) : Joints W a J := by
  refine ⟨h.ok, ?_⟩
  rcases h.at' with e | ⟨b, off, e, k⟩
  · exact .inl e
  · exact .inr ⟨b, off, e, fun i hi => (k i hi).heap (g _ (k i hi).size)⟩
theorem Bodies.grew {w W : World} {a : Option Addr} {L : List Bd} (h : Bodies w a L) (g : Grew w W) : Bodies W a L := h.heap fun _ hi => g.heap hi
theorem Joints.grew {w W : World} {a : Option Addr} {J : List Jt} (h : Joints w a J) (g : Grew w W) : Joints W a J := h.heap fun _ hi => g.heap hi
theorem Bodies.below {w W : World} {a : Option Addr} {L : List Bd} (h : Bodies w a L) (g : Below w.heap.size w W) : Bodies W a L := h.heap fun i hi => g.block i hi
theorem Joints.below {w W : World} {a : Option Addr} {J : List Jt} (h : Joints w a J) (g : Below w.heap.size w W) : Joints W a J := h.heap fun i hi => g.block i hi
theorem Bodies.block {w : World} {a : Option Addr} {L : List Bd} (h : Bodies w a L) {i : Nat} (hi : i < L.length) : ∃ b off, a = some ⟨b, off, none⟩ ∧ BatO w b (off + i * 8) (bd L i) := by
  rcases h.at' with e | ⟨b, off, e, k⟩
  · rw [e] at hi; simp at hi
  · exact ⟨b, off, e, k i hi⟩
theorem Joints.block {w : World} {a : Option Addr} {J : List Jt} (h : Joints w a J) {i : Nat} (hi : i < J.length) : ∃ b off, a = some ⟨b, off, none⟩ ∧ JatO w b (off + i * 3) (jt J i) := by
  rcases h.at' with e | ⟨b, off, e, k⟩
  · rw [e] at hi; simp at hi
  · exact ⟨b, off, e, k i hi⟩

/-! ### A call's own -/
/-- The bodies L, in block g, that the call may write. -/
structure Own (w : World) (base : Nat) (a : Option Addr) (g cap : Nat) (L : List Bd) : Prop where
  ok : ∀ x ∈ L, x.ok
  row : w.ownsRow base 28 8 (.slice a L.length cap) L.length (L.flatMap Bd.row)
  at' : (a = none ∧ L = []) ∨ a = some ⟨g, 0, none⟩
theorem Own.grew {w W : World} {base : Nat} {a : Option Addr} {g cap : Nat} {L : List Bd} (h : Own w base a g cap L) (G : Grew w W) : Own W base a g cap L := ⟨h.ok, row_grew h.row G, h.at'⟩
theorem Own.got {w : World} {base : Nat} {a : Option Addr} {g cap : Nat} {L : List Bd} (h : Own w base a g cap L) {i : Nat} (hi : i < L.length) : a = some ⟨g, 0, none⟩ := by
  rcases h.at' with ⟨_, e⟩ | e
  · rw [e] at hi; simp at hi
  · exact e
theorem Own.but {S : Nat → Prop} {w W : World} {base : Nat} {a : Option Addr} {g cap : Nat} {L : List Bd} (h : Own w base a g cap L) (G : But S w W) (hg : ¬ S g) : Own W base a g cap L := by
  refine ⟨h.ok, row_but h.row G fun i hi => ?_, h.at'⟩
  rcases h.at' with ⟨rfl, _⟩ | rfl
  · cases hi
  · cases hi; exact hg
theorem Own.base {w : World} {base base' : Nat} {a : Option Addr} {g cap : Nat} {L : List Bd} (h : Own w base a g cap L) (hb : base' ≤ base) : Own w base' a g cap L := ⟨h.ok, row_base h.row hb, h.at'⟩
theorem Own.lt {w : World} {base : Nat} {a : Option Addr} {g cap : Nat} {L : List Bd} (h : Own w base a g cap L) {i : Nat} (hi : i < L.length) : base ≤ g ∧ g < w.heap.size := by
  have e := h.got hi
  have k := h.row.lt g (by rw [e]; rfl)
  exact k
theorem Own.cells {w : World} {base : Nat} {a : Option Addr} {g cap : Nat} {L : List Bd} (h : Own w base a g cap L) {i : Nat} (hi : i < L.length) : BatO w g (i * 8) (bd L i) := by
  have e := h.got hi
  have r := h.row
  rw [e] at r
  have k : ∀ c, c < 8 → w.cell? ⟨g, i * 8 + c, none⟩ = (bd L i).row[c]? := fun c hc => by
    rw [r.cellAt _ (by omega), flat_at Bd.row 8 (fun _ => rfl) L i _ (bd_get hi) c hc]
  exact ⟨k 0 (by omega), k 1 (by omega), k 2 (by omega), k 3 (by omega), k 4 (by omega), k 5 (by omega), k 6 (by omega), k 7 (by omega)⟩
theorem Own.free {w : World} {base : Nat} {a : Option Addr} {g cap : Nat} {L : List Bd} (h : Own w base a g cap L) {i : Nat} (hi : i < L.length) (k : Nat) : w.frozen? ⟨g, k, none⟩ = false := by
  have e := h.got hi
  have r := h.row
  rw [e] at r
  exact r.frozenAt k
theorem Own.bodies {w : World} {base : Nat} {a : Option Addr} {g cap : Nat} {L : List Bd} (h : Own w base a g cap L) : Bodies w a L := by
  refine ⟨h.ok, ?_⟩
  rcases h.at' with ⟨_, e⟩ | e
  · exact .inl e
  · exact .inr ⟨g, 0, e, fun i hi => by rw [Nat.zero_add]; exact h.cells hi⟩
theorem Own.mom {w : World} {base : Nat} {a : Option Addr} {g cap : Nat} {L : List Bd} (h : Own w base a g cap L) {i : Nat} (hi : i < L.length) {x y : Int} (hx : inF x) (hy : inF y) :
    Own ((w.setCell ⟨g, i * 8 + 6, none⟩ (.int .i64 x)).setCell ⟨g, i * 8 + 7, none⟩ (.int .i64 y)) base a g cap (L.set i ((bd L i).mom x y)) := by
  have e := h.got hi
  have r := h.row
  rw [e] at r
  refine ⟨ok_set h.ok ((h.ok _ (bd_mem hi)).mom hx hy) i, ?_, .inr e⟩
  rw [e, List.length_set, ← flat_mom x y L i hi]
  exact ((r.stored _ _).1.stored _ _).1
theorem Own.pos {w : World} {base : Nat} {a : Option Addr} {g cap : Nat} {L : List Bd} (h : Own w base a g cap L) {i : Nat} (hi : i < L.length) {x y : Int} (hx : inF x) (hy : inF y) :
    Own ((w.setCell ⟨g, i * 8 + 4, none⟩ (.int .i64 x)).setCell ⟨g, i * 8 + 5, none⟩ (.int .i64 y)) base a g cap (L.set i ((bd L i).pos x y)) := by
  have e := h.got hi
  have r := h.row
  rw [e] at r
  refine ⟨ok_set h.ok ((h.ok _ (bd_mem hi)).pos hx hy) i, ?_, .inr e⟩
  rw [e, List.length_set, ← flat_pos x y L i hi]
  exact ((r.stored _ _).1.stored _ _).1
/-- A body laid at ⟨g, o⟩. -/
def layO (V : World) (b o : Nat) (B : Bd) : World := (((((((V.setCell ⟨b, o, none⟩ (.int .i64 B.s)).setCell ⟨b, o + 1, none⟩ (.int .i64 B.a)).setCell ⟨b, o + 2, none⟩ (.int .i64 B.b)).setCell ⟨b, o + 3, none⟩ (.int .i64 B.m)).setCell ⟨b, o + 4, none⟩ (.int .i64 B.p)).setCell ⟨b, o + 5, none⟩ (.int .i64 B.q)).setCell ⟨b, o + 6, none⟩ (.int .i64 B.u)).setCell ⟨b, o + 7, none⟩ (.int .i64 B.v)
theorem Own.lay {w : World} {base : Nat} {a : Option Addr} {g cap : Nat} {L : List Bd} (h : Own w base a g cap L) {i : Nat} (hi : i < L.length) {B : Bd} (hB : B.ok) :
    Own (layO w g (i * 8) B) base a g cap (L.set i B) := by
  have e := h.got hi
  have r := h.row
  rw [e] at r
  refine ⟨ok_set h.ok hB i, ?_, .inr e⟩
  rw [e, List.length_set, ← flat_sets B L i hi]
  exact ((((((((r.stored _ _).1.stored _ _).1.stored _ _).1.stored _ _).1.stored _ _).1.stored _ _).1.stored _ _).1.stored _ _).1
theorem but_lay {S : Nat → Prop} {W V : World} (U : But S W V) {b : Nat} (hb : S b) (o : Nat) (B : Bd) : But S W (layO V b o B) := by
  unfold layO
  exact ((((((((U.set hb _ _ _).set hb _ _ _).set hb _ _ _).set hb _ _ _).set hb _ _ _).set hb _ _ _).set hb _ _ _).set hb _ _ _)
end Go.Proofs.YtcoooehcgbohgaaGreat

namespace Go.Proofs.YtcoooehcgbohgaaGreat
open Go.RowKit

theorem catch_fault2 (p : Addr) (x y : Int) (older : List PanicEntry) (w : World) (hc : w.cell? p = some (.int .i64 y)) (hz : w.frozen? p = false) :
    CallsD Tryz.prog 40 #[.pointer (some p)] (.panicking (fault x :: older)) w fun e u' w' =>
      e = .returned (.tuple #[]) ∧ u' = .panicking ({ v := .iface 89 (.agg #[.int .i64 x]), recovered := true } :: older) ∧ w'.cell? p = some (.int .i64 x) ∧ But (fun n => n = p.block) w w' := by
  refine callsD_of_wpS Tryz.func40 rfl fun c₀ cs hu => ?_
  apply wpS_seq
  apply wpS_region
  simp [wpOpsS, go_sem, recoverD, hu, fault, Tryz.ntmps40, Exit.thenS]
  refine wpS_of_wp ?_
  go_wp2_with (first
    | (go_at_call 41; refine (errno_fault _ _).mono ?_; rintro e w' ⟨rfl, G⟩; have hc' := G.cell hc; have hz' := G.frozen hz))
  simp [bodyPostS, results, Tryz.results40]
  exact ⟨World.cell?_setCell_same _ _ _ hc', (Grew.but (S := fun n => n = p.block) G).set rfl p.off p.spot _⟩

theorem try_wp2 (F : Nat) (cap : Array Value) (w : World) (R : Ending → World → Prop) (hF : ∀ w, (callFunc F cap).run Tryz.prog w = .ok (.enter F cap) w)
    (h : Calls Tryz.prog F cap (w.alloc (.cells #[.int .i64 0] 30)) fun e w1 => w1.cell? ⟨w.heap.size, 0, none⟩ = some (.int .i64 0) ∧ w1.frozen? ⟨w.heap.size, 0, none⟩ = false ∧
      ∃ x, (e = .returned (.tuple #[]) ∧ x = 0 ∨ e = .panicked [fault x]) ∧ ∀ W, But (fun n => n = w.heap.size) w1 W → R (.returned (.int .i64 x)) W) :
    Calls Tryz.prog 24 #[.func (.func F) #[] cap] w R := by
  have hmf : ∀ (fn : Fn) (first cap : Array Value) (w : World), (Instr.makeFunc fn first cap).run Tryz.prog w = .ok (.func fn first cap) w := fun _ _ _ _ => rfl
  have hn := ne_nil
  go_enter_defers Tryz.func24, Tryz.ntmps24
  go_wp2
  refine h.mono ?_
  rintro e w1 ⟨hc, hz, x, (⟨rfl, rfl⟩ | rfl), hR⟩
  · go_wp2
    refine leaves_cons (f := 40) (args := #[.pointer (some ⟨w.heap.size, 0, none⟩)]) (by simp) (by simp [go_sem]) ?_
    refine (catch_none _ _).mono ?_
    rintro e u' w'' ⟨rfl, rfl, rfl⟩
    simp [Leaves, settle, results, Tryz.results24, go_sem, World.cell?_setCell_same _ _ _ hc]
    exact hR _ (But.set (S := fun n => n = w.heap.size) (But.refl _ _) (b := w.heap.size) rfl _ _ _)
  · refine leaves_cons (f := 40) (args := #[.pointer (some ⟨w.heap.size, 0, none⟩)]) (by simp) (by simp [go_sem]) ?_
    refine (catch_fault2 _ x 0 [] _ hc hz).mono ?_
    rintro e u' w'' ⟨rfl, rfl, hc', hP⟩
    simp [Leaves, settle, results, Tryz.results24, go_sem, hc']
    exact hR _ hP

/-- Try of what writes S alone: its error, and what holds behind it. -/
theorem try_but {S : Nat → Prop} {P : Int → World → Prop} (F : Nat) (cap : Array Value) (w : World) (hF : ∀ w, (callFunc F cap).run Tryz.prog w = .ok (.enter F cap) w)
    (hS : ∀ n, S n → n < w.heap.size) (hP : ∀ x W W', (∀ i, i < w.heap.size → W'.heap[i]? = W.heap[i]?) → P x W → P x W')
    (h : ∀ W0, Grew w W0 → Calls Tryz.prog F cap W0 fun e w1 => But S W0 w1 ∧ ∃ x, (e = .returned (.tuple #[]) ∧ x = 0 ∨ e = .panicked [fault x]) ∧ P x w1) :
    Calls Tryz.prog 24 #[.func (.func F) #[] cap] w fun e w' => But S w w' ∧ ∃ x, e = .returned (.int .i64 x) ∧ P x w' := by
  refine try_wp2 F cap w _ hF ?_
  have G := (Grew.refl w).alloc #[.int .i64 0] 30
  refine (h _ G).mono ?_
  rintro e w1 ⟨hW, x, he, hx⟩
  have hn : ¬ S w.heap.size := fun e => Nat.lt_irrefl _ (hS _ e)
  have hc : (w.alloc (.cells #[.int .i64 0] 30)).cell? ⟨w.heap.size, 0, none⟩ = some (.int .i64 0) := by simp
  refine ⟨hW.cell hc hn, hW.frozen (cell_block hc) hn (by simp), x, he, fun W hp => ⟨⟨hp.os.trans (hW.os), hp.tape.trans (hW.tape.trans G.tape), hp.output.trans (hW.output), ?_, fun i hi hi' => ?_⟩, x, rfl, ?_⟩⟩
  · exact Nat.le_trans G.size (Nat.le_trans hW.size hp.size)
  · rw [hp.block i (Nat.lt_of_lt_of_le (Nat.lt_of_lt_of_le hi G.size) hW.size) (by omega), hW.block i (Nat.lt_of_lt_of_le hi G.size) hi', G.heap hi]
  · exact hP x w1 W (fun i hi => hp.block i (Nat.lt_of_lt_of_le (Nat.lt_of_lt_of_le hi G.size) hW.size) (by omega)) hx
end Go.Proofs.YtcoooehcgbohgaaGreat

namespace Go.Proofs.YtcoooehcgbohgaaGreat
open Go.RowKit

theorem all_bd {L : List Bd} (h : ∀ j, j < L.length → rightB (bd L j) = true) : L.all rightB = true := by
  rw [List.all_eq_true]
  intro x hx
  obtain ⟨i, hi, rfl⟩ := List.mem_iff_getElem.1 hx
  have := h i hi
  rw [show bd L i = L[i] by simp [bd, List.getD, hi]] at this
  exact this
theorem not_bd {L : List Bd} {k : Nat} (hk : k < L.length) (h : rightB (bd L k) = false) : L.all rightB = false := by
  rw [List.all_eq_false]
  exact ⟨_, bd_mem hk, by rw [h]; decide⟩
theorem all_jt {J : List Jt} {n : Nat} (h : ∀ j, j < J.length → rightJ n (jt J j) = true) : J.all (rightJ n) = true := by
  rw [List.all_eq_true]
  intro x hx
  obtain ⟨i, hi, rfl⟩ := List.mem_iff_getElem.1 hx
  have := h i hi
  rw [show jt J i = J[i] by simp [jt, List.getD, hi]] at this
  exact this
theorem not_jt {J : List Jt} {n k : Nat} (hk : k < J.length) (h : rightJ n (jt J k) = false) : J.all (rightJ n) = false := by
  rw [List.all_eq_false]
  exact ⟨_, jt_mem hk, by rw [h]; decide⟩
theorem upto_more {p : Nat → Prop} {k : Nat} (h : ∀ j, j < k → p j) (g : p k) : ∀ j, j < k + 1 → p j := by
  intro j hj
  by_cases e : j = k
  · rw [e]; exact g
  · exact h j (by omega)

set_option maxHeartbeats 2000000 in
theorem rightbodies_any (L : List Bd) (a : Option Addr) (cap : Nat) (w : World) (hL : Bodies w a L) (hn : L.length ≤ 1000) :
    Calls Tryz.prog 27 #[.slice a L.length cap] w fun e w' => e = .returned (.bool (L.all rightB)) ∧ Grew w w' := by
  go_enter Tryz.func27, Tryz.ntmps27
  go_wp2_with (fail)
  go_loopw [7] (fun i wr => ∃ k : Nat, k ≤ L.length ∧ i = .int .i64 k ∧ Grew w wr ∧ Hid (∀ j, j < k → rightB (bd L j) = true)) (fun i _ => L.length - (intOf i).toNat)
  case atStart => exact ⟨0, by omega, rfl, Grew.refl w, fun j hj => by omega⟩
  case round =>
    obtain ⟨k, hk, rfl, hG, hall⟩ := hrel
    by_cases hlt : k < L.length
    · have hi : (k : Int) < (L.length : Int) := by omega
      obtain ⟨b, off, rfl, hc⟩ := hL.block hlt
      obtain ⟨c0, c1, c2, c3, c4, c5, c6, c7⟩ := hc.grew hG
      obtain ⟨r, hr⟩ : ∃ r, rightB (bd L k) = r := ⟨_, rfl⟩
      have HR : Hid (∀ W, Calls Tryz.prog 46 #[(bd L k).val] W fun e w' => e = .returned (.bool r) ∧ Grew W w') := fun W => by rw [← hr]; exact shape_right (bd L k) W
      have HB : Hid (rightB (bd L k) = r) := hr
      clear hr hc
      unfold Bd.val at HR
      obtain ⟨B, eB⟩ : ∃ B, bd L k = B := ⟨_, rfl⟩
      rw [eB] at c0 c1 c2 c3 c4 c5 c6 c7 HR
      clear eB
      have G2 : Hid (∀ c, Grew w (wr.alloc (.cells c 28))) := fun c => hG.alloc c _
      cases r
      · go_wp2_with (first
          | (go_at_call 46; go_fit (HR.out _); rintro e V ⟨rfl, U⟩))
        go_ret
        exact ⟨ret_bool (not_bd hlt HB.out).symm, (G2.out _).trans U⟩
      · go_wp2_with (first
          | (go_at_call 46; go_fit (HR.out _); rintro e V ⟨rfl, U⟩))
        refine ⟨⟨k + 1, by omega, rfl, (G2.out _).trans U, upto_more hall.out HB.out⟩, ?_⟩
        simp [intOf]; omega
    · have hi : ¬ (k : Int) < (L.length : Int) := by omega
      obtain rfl : k = L.length := by omega
      have HA : Hid (L.all rightB = true) := all_bd hall.out
      clear hall
      go_wp2_with (fail)
      go_ret
      exact ⟨ret_bool HA.out.symm, hG⟩

def placeB (i n : Int) : Bool := decide (0 ≤ i ∧ i < n)
theorem place_any (i n : Int) (w : World) : Calls Tryz.prog 54 #[.int .i64 i, .int .i64 n] w fun e w' => e = .returned (.bool (placeB i n)) ∧ w' = w := by
  unfold placeB
  by_cases h : 0 ≤ i <;> by_cases g : i < n
  all_goals
    go_enter Tryz.func54, Tryz.ntmps54
    go_wp2_with (fail)
    go_ret
    exact ⟨ret_bool (by simp [h, g]), rfl⟩
theorem rightpull_any (x : Int) (w : World) : Calls Tryz.prog 55 #[.int .i64 x] w fun e w' => e = .returned (.bool (rightG x)) ∧ w' = w := by
  unfold rightG
  by_cases h : -4294967296000 ≤ x <;> by_cases g : x ≤ 4294967296000
  all_goals
    go_enter Tryz.func55, Tryz.ntmps55
    go_wp2_with (fail)
    go_ret
    exact ⟨ret_bool (by simp [h, g]), rfl⟩
theorem rightgravity_any (x y : Int) (w : World) : Calls Tryz.prog 37 #[vec x y] w fun e w' => e = .returned (.bool (rightG x && rightG y)) ∧ Grew w w' := by
  have H1 : Hid (∀ x W, Calls Tryz.prog 55 #[.int .i64 x] W fun e w' => e = .returned (.bool (rightG x)) ∧ w' = W) := rightpull_any
  have G : Hid (∀ c, Grew w (w.alloc (.cells c 26))) := fun c => (Grew.refl w).alloc c _
  unfold vec
  by_cases h : rightG x = true
  all_goals
    go_enter Tryz.func37, Tryz.ntmps37
    go_wp2_with (first
      | (go_at_call 55; go_fit (H1.out _ _); rintro e V ⟨rfl, rfl⟩))
    go_ret
    exact ⟨ret_bool (by simp [h]), G.out _⟩

theorem rightJ_eq (n : Nat) (j : Jt) : rightJ n j = (placeB j.a n && (placeB j.b n && (!decide (j.a = j.b) && (!decide (j.n < 0) && !decide (4294967296000 < j.n))))) := by
  unfold rightJ placeB
  rw [Bool.eq_iff_iff]
  simp
  omega

set_option maxHeartbeats 4000000 in
theorem rightjoints_any (J : List Jt) (n : Nat) (a : Option Addr) (cap : Nat) (w : World) (hJ : Joints w a J) (hn : J.length ≤ 1000) :
    Calls Tryz.prog 36 #[.slice a J.length cap, .int .i64 n] w fun e w' => e = .returned (.bool (J.all (rightJ n))) ∧ Grew w w' := by
  have H1 : Hid (∀ i (n : Nat) W, Calls Tryz.prog 54 #[.int .i64 i, .int .i64 n] W fun e w' => e = .returned (.bool (placeB i n)) ∧ w' = W) := fun i n W => place_any i n W
  go_enter Tryz.func36, Tryz.ntmps36
  go_wp2_with (fail)
  go_loopw [9] (fun i wr => ∃ k : Nat, k ≤ J.length ∧ i = .int .i64 k ∧ Grew w wr ∧ Hid (∀ j, j < k → rightJ n (jt J j) = true)) (fun i _ => J.length - (intOf i).toNat)
  case atStart => exact ⟨0, by omega, rfl, Grew.refl w, fun j hj => by omega⟩
  case round =>
    obtain ⟨k, hk, rfl, hG, hall⟩ := hrel
    by_cases hlt : k < J.length
    · have hi : (k : Int) < (J.length : Int) := by omega
      obtain ⟨b, off, rfl, hc⟩ := hJ.block hlt
      obtain ⟨c0, c1, c2⟩ := hc.grew hG
      have HB : Hid (rightJ n (jt J k) = (placeB (jt J k).a n && (placeB (jt J k).b n && (!decide ((jt J k).a = (jt J k).b) && (!decide ((jt J k).n < 0) && !decide (4294967296000 < (jt J k).n)))))) := rightJ_eq _ _
      have HN : Hid (rightJ n (jt J k) = false → J.all (rightJ n) = false) := not_jt hlt
      have HM : Hid (rightJ n (jt J k) = true → ∀ j, j < k + 1 → rightJ n (jt J j) = true) := fun g => upto_more hall.out g
      clear hall hc
      obtain ⟨R, eR⟩ : ∃ R, rightJ n (jt J k) = R := ⟨_, rfl⟩
      rw [eR] at HB HN HM
      obtain ⟨j, ej⟩ : ∃ j, jt J k = j := ⟨_, rfl⟩
      rw [ej] at c0 c1 c2 HB
      clear ej eR
      have G2 : Hid (∀ c, Grew w (wr.alloc (.cells c 75))) := fun c => hG.alloc c _
      by_cases h1 : placeB j.a n = true
      rotate_left
      · go_wp2_with (first
          | (go_at_call 54; go_fit (H1.out _ _ _); rintro e V ⟨rfl, rfl⟩))
        go_ret
        exact ⟨ret_bool (HN.out (by rw [HB.out]; simp [h1])).symm, G2.out _⟩
      by_cases h2 : placeB j.b n = true
      rotate_left
      · go_wp2_with (first
          | (go_at_call 54; go_fit (H1.out _ _ _); rintro e V ⟨rfl, rfl⟩))
        go_ret
        exact ⟨ret_bool (HN.out (by rw [HB.out]; simp [h2])).symm, G2.out _⟩
      by_cases h3 : j.a = j.b
      · go_wp2_with (first
          | (go_at_call 54; go_fit (H1.out _ _ _); rintro e V ⟨rfl, rfl⟩))
        go_ret
        exact ⟨ret_bool (HN.out (by rw [HB.out]; simp [h3])).symm, G2.out _⟩
      by_cases h4 : j.n < 0
      · go_wp2_with (first
          | (go_at_call 54; go_fit (H1.out _ _ _); rintro e V ⟨rfl, rfl⟩))
        go_ret
        exact ⟨ret_bool (HN.out (by rw [HB.out]; simp [h4])).symm, G2.out _⟩
      by_cases h5 : 4294967296000 < j.n
      · go_wp2_with (first
          | (go_at_call 54; go_fit (H1.out _ _ _); rintro e V ⟨rfl, rfl⟩))
        go_ret
        exact ⟨ret_bool (HN.out (by rw [HB.out]; simp [h5])).symm, G2.out _⟩
      have h6 : (j.a == j.b) = false := by simpa using h3
      have HT : Hid (R = true) := by show R = true; rw [HB.out]; simp [h1, h2, h3, h4, h5]
      clear h3
      go_wp2_with (first
        | (go_at_call 54; go_fit (H1.out _ _ _); rintro e V ⟨rfl, rfl⟩))
      refine ⟨⟨k + 1, by omega, rfl, G2.out _, HM.out HT.out⟩, ?_⟩
      simp [intOf]; omega
    · have hi : ¬ (k : Int) < (J.length : Int) := by omega
      obtain rfl : k = J.length := by omega
      have HA : Hid (J.all (rightJ n) = true) := all_jt hall.out
      clear hall
      go_wp2_with (fail)
      go_ret
      exact ⟨ret_bool HA.out.symm, hG⟩

/-- A world as the code has it. -/
def worldV (x y : Int) (a : Option Addr) (n c : Nat) (b : Option Addr) (m d : Nat) : Value := .agg #[.int .i64 x, .int .i64 y, .slice a n c, .slice b m d]
set_option maxHeartbeats 2000000 in
theorem right_any (x y : Int) (L : List Bd) (J : List Jt) (a : Option Addr) (c : Nat) (b : Option Addr) (d : Nat) (w : World) (hL : Bodies w a L) (hJ : Joints w b J) (hn : L.length ≤ 1000) (hm : J.length ≤ 1000) :
    Calls Tryz.prog 22 #[worldV x y a L.length c b J.length d] w fun e w' => e = .returned (.bool (rightW x y L J)) ∧ Grew w w' := by
  have G : Hid (∀ c, Grew w (w.alloc (.cells c 39))) := fun c => (Grew.refl w).alloc c _
  have H1 : Hid (∀ W, Grew w W → Calls Tryz.prog 27 #[.slice a L.length c] W fun e w' => e = .returned (.bool (L.all rightB)) ∧ Grew W w') := fun W g => rightbodies_any L a c W (hL.grew g) hn
  have H2 : Hid (∀ W, Grew w W → Calls Tryz.prog 36 #[.slice b J.length d, .int .i64 L.length] W fun e w' => e = .returned (.bool (J.all (rightJ L.length))) ∧ Grew W w') := fun W g => rightjoints_any J L.length b d W (hJ.grew g) hm
  have H3 : Hid (∀ W, Calls Tryz.prog 37 #[vec x y] W fun e w' => e = .returned (.bool (rightG x && rightG y)) ∧ Grew W w') := fun W => rightgravity_any x y W
  unfold worldV rightW
  unfold vec at H3
  generalize L.all rightB = p at *
  generalize J.all (rightJ L.length) = q at *
  generalize (rightG x && rightG y) = r at *
  cases p
  · go_enter Tryz.func22, Tryz.ntmps22
    go_wp2_with (first
      | (go_at_call 27; go_fit (H1.out _ (G.out _)); rintro e V ⟨rfl, U⟩))
    go_ret
    exact ⟨ret_bool rfl, (G.out _).trans U⟩
  cases q
  · go_enter Tryz.func22, Tryz.ntmps22
    go_wp2_with (first
      | (go_at_call 27; go_fit (H1.out _ (G.out _)); rintro e V ⟨rfl, U⟩; have G1 : Hid (Grew w V) := (G.out _).trans U; have k0 := U.cell (p := ⟨w.heap.size, 2, none⟩) (v := .slice a L.length c) (by simp [go_sem]); have k1 := U.cell (p := ⟨w.heap.size, 3, none⟩) (v := .slice b J.length d) (by simp [go_sem]))
      | (go_at_call 36; go_fit (H2.out _ G1.out); rintro e V2 ⟨rfl, U2⟩))
    go_ret
    exact ⟨ret_bool rfl, G1.out.trans U2⟩
  go_enter Tryz.func22, Tryz.ntmps22
  go_wp2_with (first
    | (go_at_call 27; go_fit (H1.out _ (G.out _)); rintro e V ⟨rfl, U⟩; have G1 : Hid (Grew w V) := (G.out _).trans U; have k0 := U.cell (p := ⟨w.heap.size, 2, none⟩) (v := .slice a L.length c) (by simp [go_sem]); have k1 := U.cell (p := ⟨w.heap.size, 3, none⟩) (v := .slice b J.length d) (by simp [go_sem]); have k2 := U.cell (p := ⟨w.heap.size, 0, none⟩) (v := .int .i64 x) (by simp [go_sem]); have k3 := U.cell (p := ⟨w.heap.size, 1, none⟩) (v := .int .i64 y) (by simp [go_sem]))
    | (go_at_call 36; go_fit (H2.out _ G1.out); rintro e V2 ⟨rfl, U2⟩; have k4 := U2.cell k2; have k5 := U2.cell k3)
    | (go_at_call 37; go_fit (H3.out _); rintro e V3 ⟨rfl, U3⟩))
  go_ret
  exact ⟨ret_bool rfl, (G1.out.trans U2).trans U3⟩
end Go.Proofs.YtcoooehcgbohgaaGreat

namespace Go.Proofs.YtcoooehcgbohgaaGreat
open Go

section
variable {P : Program} {ops : Array Oper} {Q : Exit → Act → World → Prop} {md : Region.Mode} {A S : World → Prop} {D : List Nat}

def wpLat (P : Program) (md : Region.Mode) (ops : Array Oper) (Q : Exit → Act → World → Prop) (A S : World → Prop) (D : List Nat) : Nat → Array Bool → Act → World → Prop
  | 0, l, a, w => Region.ready md ops l = [] ∧ Q .normal a w
  | n + 1, l, a, w => (Region.ready md ops l = [] → Q .normal a w) ∧ ∀ i ∈ Region.ready md ops l, wpOp P ops Q i (fun b v => (A v ∧ (fresh D (l.setIfInBounds i true) = true → S v)) ∧ wpLat P md ops Q A S D n (l.setIfInBounds i true) b v) a w
theorem lat_any : ∀ (n : Nat) (l : Array Bool) (a : Act) (w : World), wpLat P md ops Q A S D n l a w → wpAny P md ops Q n l a w := by
  intro n
  induction n with
  | zero => exact fun _ _ _ h => h
  | succ n ih => exact fun l a w h => ⟨h.1, fun i hi => wpOp_mono (fun b v g => ih _ b v g.2) (h.2 i hi)⟩
/-- What reads S is taken first, if all of D wait for it. -/
theorem lat_take {i : Nat} {oi : Oper} {v : Value} {n : Nat} {l : Array Bool} {a : Act} {w : World} (hi : ops[i]? = some oi)
    (hs : Region.noSelect ops = true) (hf0 : Region.free md ops l i = true) (hr0 : (Region.ready md ops l).contains i = true) (hw : waits md ops D i = true) (hfr : fresh D l = true)
    (hQ : ∀ c a w, Q (.panic c) (a.put oi.dst v) w → Q (.panic c) a w) (hy : YieldsIf P ops S oi v a) (hAS : A w ∧ S w)
    (h : wpLat P md ops Q A S D n (l.setIfInBounds i true) (a.put oi.dst v) w) : wpLat P md ops Q A S D (n + 1) l a w := by
  obtain ⟨hA, hS⟩ := hAS
  have hw := waits_spec hw
  have hf := fun j oj => Region.free_spec (ops := ops) (md := md) hi hf0 j oj
  have hr : i ∈ Region.ready md ops l := by simpa using hr0
  have sel := Region.noSelect_spec hs
  clear hs hf0 hr0
  revert l a w
  induction n with
  | zero =>
    intro l a w hfr hy h hA hS hf hr
    refine ⟨fun e => absurd hr (by rw [e]; exact List.not_mem_nil), fun j hj => ?_⟩
    rcases Decidable.em (j = i) with rfl | hji
    · exact hy.wpOp hi hS ⟨⟨hA, fun _ => hS⟩, h⟩
    · exact absurd (ready_mono hj hji) (by rw [h.1]; exact List.not_mem_nil)
  | succ n ih =>
    intro l a w hfr hy h hA hS hf hr
    refine ⟨fun e => absurd hr (by rw [e]; exact List.not_mem_nil), fun j hj => ?_⟩
    rcases Decidable.em (j = i) with rfl | hji
    · exact hy.wpOp hi hS ⟨⟨hA, fun _ => hS⟩, h⟩
    obtain ⟨hun, oj, hoj, hdone⟩ := mem_ready.1 hj
    have hlt : l.getD i false = false := by
      have := (mem_ready.1 hr).1
      rcases Nat.lt_or_ge i l.size with g | g
      · simp [g] at this ⊢; exact this
      · simp [Array.getElem?_eq_none g] at this
    have hno : ∀ e ∈ oj.after, Region.binds md e = true → e.on ≠ i := fun e he hb hon => by
      have := hdone e he hb
      rw [hon, hlt] at this
      cases this
    have hjd : ∀ d ∈ D, d ≠ j := fun d hd hdj => by
      obtain ⟨_, o, ho, e, he, hb, hon⟩ := hw d hd
      rw [hdj, hoj] at ho
      obtain rfl := Option.some.inj ho
      exact hno e he hb hon
    have hset : ∀ d ∈ D, d ≠ i := fun d hd => (hw d hd).1
    have f1 : fresh D (l.setIfInBounds j true) = true := fresh_set hfr hjd
    have f2 : fresh D ((l.setIfInBounds i true).setIfInBounds j true) = true := fresh_set (fresh_set hfr hset) hjd
    refine wpOp_mono (fun b u g => ⟨⟨g.2.1.1, fun _ => g.2.1.2 f2⟩, ih f1 g.1 ?_ g.2.1.1 (g.2.1.2 f2) ?_ (ready_mono hr (Ne.symm hji))⟩) (wpOp_putIf hoj (hf j oj hoj hji hun hno) (fun cs b => sel i oi cs b hi) (fun cs b => sel j oj cs b hoj) hQ hy (h.2 j (ready_mono hj hji)))
    · rw [Array.setIfInBounds_comm _ _ hji]
      exact g.2.2
    · intro m om hm hmi hmun hmno
      refine hf m om hm hmi ?_ hmno
      rcases Decidable.em (j = m) with rfl | hjm
      · exact hun
      · rw [getD_set_ne true hjm] at hmun; exact hmun
/-- What is pure, or reads A, is taken at any time. -/
theorem lat_free {i : Nat} {oi : Oper} {v : Value} {n : Nat} {l : Array Bool} {a : Act} {w : World} (hi : ops[i]? = some oi)
    (hs : Region.noSelect ops = true) (hf0 : Region.free md ops l i = true) (hr0 : (Region.ready md ops l).contains i = true) (hD : (D.all fun d => d != i) = true)
    (hQ : ∀ c a w, Q (.panic c) (a.put oi.dst v) w → Q (.panic c) a w) (hy : YieldsIf P ops A oi v a) (hAS : A w ∧ (fresh D l = true → S w))
    (h : wpLat P md ops Q A S D n (l.setIfInBounds i true) (a.put oi.dst v) w) : wpLat P md ops Q A S D (n + 1) l a w := by
  obtain ⟨hA, hS⟩ := hAS
  have hset : ∀ d ∈ D, d ≠ i := fun d hd => by simpa using List.all_eq_true.1 hD d hd
  have hf := fun j oj => Region.free_spec (ops := ops) (md := md) hi hf0 j oj
  have hr : i ∈ Region.ready md ops l := by simpa using hr0
  have sel := Region.noSelect_spec hs
  have back : ∀ (l : Array Bool), fresh D (l.setIfInBounds i true) = true → fresh D l = true := fun l g => by
    rw [fresh_spec] at *
    intro d hd
    have := g d hd
    rw [getD_set_ne false (Ne.symm (hset d hd))] at this
    exact this
  clear hs hf0 hr0
  revert l a w
  induction n with
  | zero =>
    intro l a w hy h hA hS hf hr
    refine ⟨fun e => absurd hr (by rw [e]; exact List.not_mem_nil), fun j hj => ?_⟩
    rcases Decidable.em (j = i) with rfl | hji
    · exact hy.wpOp hi hA ⟨⟨hA, fun g => hS (back _ g)⟩, h⟩
    · exact absurd (ready_mono hj hji) (by rw [h.1]; exact List.not_mem_nil)
  | succ n ih =>
    intro l a w hy h hA hS hf hr
    refine ⟨fun e => absurd hr (by rw [e]; exact List.not_mem_nil), fun j hj => ?_⟩
    rcases Decidable.em (j = i) with rfl | hji
    · exact hy.wpOp hi hA ⟨⟨hA, fun g => hS (back _ g)⟩, h⟩
    obtain ⟨hun, oj, hoj, hdone⟩ := mem_ready.1 hj
    have hlt : l.getD i false = false := by
      have := (mem_ready.1 hr).1
      rcases Nat.lt_or_ge i l.size with g | g
      · simp [g] at this ⊢; exact this
      · simp [Array.getElem?_eq_none g] at this
    have hno : ∀ e ∈ oj.after, Region.binds md e = true → e.on ≠ i := fun e he hb hon => by
      have := hdone e he hb
      rw [hon, hlt] at this
      cases this
    have fwd : fresh D (l.setIfInBounds j true) = true → fresh D ((l.setIfInBounds i true).setIfInBounds j true) = true := fun g => by
      rw [Array.setIfInBounds_comm _ _ (Ne.symm hji)]
      exact fresh_set g hset
    refine wpOp_mono (fun b u g => ⟨⟨g.2.1.1, fun e => g.2.1.2 (fwd e)⟩, ih g.1 ?_ g.2.1.1 (fun e => g.2.1.2 (fwd e)) ?_ (ready_mono hr (Ne.symm hji))⟩) (wpOp_putIf hoj (hf j oj hoj hji hun hno) (fun cs b => sel i oi cs b hi) (fun cs b => sel j oj cs b hoj) hQ hy (h.2 j (ready_mono hj hji)))
    · rw [Array.setIfInBounds_comm _ _ hji]
      exact g.2.2
    · intro m om hm hmi hmun hmno
      refine hf m om hm hmi ?_ hmno
      rcases Decidable.em (j = m) with rfl | hjm
      · exact hun
      · rw [getD_set_ne true hjm] at hmun; exact hmun

theorem lat_free2 {i : Nat} {oi : Oper} {v : Value} {n : Nat} {l : Array Bool} {a : Act} {w : World} (hi : ops[i]? = some oi)
    (hs : Region.noSelect ops = true) (hf0 : Region.free md ops l i = true) (hr0 : (Region.ready md ops l).contains i = true) (hD : (D.all fun d => d != i) = true) (hl : fresh D l = false)
    (hQ : ∀ c a w, Q (.panic c) (a.put oi.dst v) w → Q (.panic c) a w) (hy : YieldsIf P ops A oi v a) (hA : A w)
    (h : wpLat P md ops Q A S D n (l.setIfInBounds i true) (a.put oi.dst v) w) : wpLat P md ops Q A S D (n + 1) l a w :=
  lat_free hi hs hf0 hr0 hD hQ hy ⟨hA, fun e => by rw [hl] at e; cases e⟩ h

/-- What is handed to the walk for an operation that comes up: ahead of D's first (A and S are shown anew), or not (A alone). -/
def LatStep (P : Program) (md : Region.Mode) (ops : Array Oper) (Q : Exit → Act → World → Prop) (A S : World → Prop) (D : List Nat) (n : Nat) (l : Array Bool) (a : Act) (w : World) (i : Nat) : Prop :=
  wpOp P ops Q i (fun b v => (A v ∧ (fresh D (l.setIfInBounds i true) = true → S v)) ∧ wpLat P md ops Q A S D n (l.setIfInBounds i true) b v) a w
theorem lat_run {i : Nat} {o : Oper} {n : Nat} {l : Array Bool} {a : Act} {w : World} (ho : ops[i]? = some o)
    (h : ∀ K : Act → World → Prop, Shut (∀ a w, A w ∧ S w → (A w ∧ S w → wpLat P md ops Q A S D n (l.setIfInBounds i true) a w) → K a w) → if Region.wanted o (yielded ops a.tmps) = true then Oper.wp P o a w K Q else K (a.put o.dst undef) w) :
    LatStep P md ops Q A S D n l a w i := wpOp_step ho fun K hK => h K fun a w hS hW => hK a w ⟨⟨hS.1, fun _ => hS.2⟩, hW hS⟩
theorem lat_write {i : Nat} {o : Oper} {n : Nat} {l : Array Bool} {a : Act} {w : World} (ho : ops[i]? = some o) (hl : fresh D (l.setIfInBounds i true) = false)
    (h : ∀ K : Act → World → Prop, Shut (∀ a w, A w → (A w → wpLat P md ops Q A S D n (l.setIfInBounds i true) a w) → K a w) → if Region.wanted o (yielded ops a.tmps) = true then Oper.wp P o a w K Q else K (a.put o.dst undef) w) :
    LatStep P md ops Q A S D n l a w i := wpOp_step ho fun K hK => h K fun a w hA hW => hK a w ⟨⟨hA, fun e => (by rw [hl] at e; cases e)⟩, hW hA⟩
theorem lat_one {i : Nat} {n : Nat} {l : Array Bool} {a : Act} {w : World} (hr : Region.ready md ops l = [i]) (h : LatStep P md ops Q A S D n l a w i) : wpLat P md ops Q A S D (n + 1) l a w := by
  refine ⟨fun e => absurd (e.symm.trans hr) (by simp), fun j hj => ?_⟩
  rw [hr] at hj
  obtain rfl := List.mem_singleton.1 hj
  exact h
theorem lat_two {i k : Nat} {n : Nat} {l : Array Bool} {a : Act} {w : World} (hr : Region.ready md ops l = [i, k]) (h : LatStep P md ops Q A S D n l a w i) (g : LatStep P md ops Q A S D n l a w k) : wpLat P md ops Q A S D (n + 1) l a w := by
  refine ⟨fun e => absurd (e.symm.trans hr) (by simp), fun j hj => ?_⟩
  rw [hr] at hj
  rcases List.mem_cons.1 hj with rfl | hj
  · exact h
  · obtain rfl := List.mem_singleton.1 hj
    exact g
theorem lat_done {l : Array Bool} {a : Act} {w : World} (hr : Region.ready md ops l = []) (h : Q .normal a w) : ∀ n, wpLat P md ops Q A S D n l a w
  | 0 => ⟨hr, h⟩
  | _ + 1 => ⟨fun _ => h, fun i hi => by rw [hr] at hi; cases hi⟩
theorem lat_region {id : Nat} {a : Act} {w : World} (A S : World → Prop) (D : List Nat) (hm : P.follows .mixedOrders = true) (hS : A w.drew ∧ S w.drew)
    (h : A w.drew ∧ S w.drew → wpLat P .any ops Q A S D ops.size (Array.replicate ops.size false) a w.drew) : (Code.region id ops true).wp P Q a w :=
  wp_region_any hm (lat_any _ _ _ _ (h hS))
end
end Go.Proofs.YtcoooehcgbohgaaGreat

namespace Go.Proofs.YtcoooehcgbohgaaGreat
open Go Go.RowKit

theorem body_info : (Tryz.prog.info? 28).map (fun i => (i.zero, i.size, i.bytes)) = some (some (.agg #[.int .i64 0, .int .i64 0, .int .i64 0, .int .i64 0, .int .i64 0, .int .i64 0, .int .i64 0, .int .i64 0]), 8, 64) := by kernel_rfl
theorem joint_info : (Tryz.prog.info? 75).map (fun i => (i.zero, i.size, i.bytes)) = some (some (.agg #[.int .i64 0, .int .i64 0, .int .i64 0]), 3, 24) := by kernel_rfl
theorem bodies_reads {w : World} {a : Option Addr} {L : List Bd} (h : Bodies w a L) : Reads w a (L.flatMap Bd.row) := by
  rcases h.at' with e | ⟨b, off, e, k⟩
  · left; rw [e]; rfl
  · refine .inr ⟨b, off, e, fun j u hj => ?_⟩
    have hlt : j < L.length * 8 := by
      have := (List.getElem?_eq_some_iff.1 hj).1
      rw [flat_len Bd.row 8 (fun _ => rfl)] at this
      exact this
    have h1 := flat_at Bd.row 8 (fun _ => rfl) L (j / 8) _ (bd_get (by omega)) (j % 8) (by omega)
    rw [show j / 8 * 8 + j % 8 = j by omega] at h1
    rw [h1] at hj
    obtain ⟨c0, c1, c2, c3, c4, c5, c6, c7⟩ := k (j / 8) (by omega)
    obtain ⟨r, hr⟩ : ∃ r, j % 8 = r := ⟨_, rfl⟩
    have e : off + j = off + j / 8 * 8 + r := by omega
    rw [e]
    rw [hr] at hj
    have hr8 : r < 8 := by omega
    match r, hr8, hj with
    | 0, _, hj => rw [← hj]; exact c0
    | 1, _, hj => rw [← hj]; exact c1
    | 2, _, hj => rw [← hj]; exact c2
    | 3, _, hj => rw [← hj]; exact c3
    | 4, _, hj => rw [← hj]; exact c4
    | 5, _, hj => rw [← hj]; exact c5
    | 6, _, hj => rw [← hj]; exact c6
    | 7, _, hj => rw [← hj]; exact c7
theorem joints_reads {w : World} {a : Option Addr} {J : List Jt} (h : Joints w a J) : Reads w a (J.flatMap Jt.row) := by
  rcases h.at' with e | ⟨b, off, e, k⟩
  · left; rw [e]; rfl
  · refine .inr ⟨b, off, e, fun j u hj => ?_⟩
    have hlt : j < J.length * 3 := by
      have := (List.getElem?_eq_some_iff.1 hj).1
      rw [flat_len Jt.row 3 (fun _ => rfl)] at this
      exact this
    have h1 := flat_at Jt.row 3 (fun _ => rfl) J (j / 3) _ (jt_get (by omega)) (j % 3) (by omega)
    rw [show j / 3 * 3 + j % 3 = j by omega] at h1
    rw [h1] at hj
    obtain ⟨c0, c1, c2⟩ := k (j / 3) (by omega)
    obtain ⟨r, hr⟩ : ∃ r, j % 3 = r := ⟨_, rfl⟩
    have e : off + j = off + j / 3 * 3 + r := by omega
    rw [e]
    rw [hr] at hj
    have hr3 : r < 3 := by omega
    match r, hr3, hj with
    | 0, _, hj => rw [← hj]; exact c0
    | 1, _, hj => rw [← hj]; exact c1
    | 2, _, hj => rw [← hj]; exact c2
theorem one_body : ∀ (L : List Bd), ∀ u ∈ L.flatMap Bd.row, u.oneCell' = true := by
  intro L u hu
  obtain ⟨B, _, h⟩ := List.mem_flatMap.1 hu
  simp [Bd.row] at h
  rcases h with rfl | rfl | rfl | rfl | rfl | rfl | rfl | rfl <;> rfl
theorem one_joint : ∀ (J : List Jt), ∀ u ∈ J.flatMap Jt.row, u.oneCell' = true := by
  intro L u hu
  obtain ⟨B, _, h⟩ := List.mem_flatMap.1 hu
  simp [Jt.row] at h
  rcases h with rfl | rfl | rfl <;> rfl

/-- What a row of one's own is, in a block that is known. -/
theorem own_of_row {w : World} {base d n c : Nat} {a : Option Addr} {L : List Bd} (h : w.ownsRow base 28 8 (.slice a n c) n (L.flatMap Bd.row)) (hn : L.length = n) (hok : ∀ z ∈ L, z.ok) (hd2 : d < w.heap.size) : ∃ g, Own w base a g c L ∧ (g = d ∨ base ≤ g) ∧ g < w.heap.size := by
  subst hn
  have h2 := h
  rcases h.2 with ⟨e, h0⟩ | ⟨g, cap, cur, e, hb, hg, r⟩
  · simp only [Value.slice.injEq] at e
    obtain ⟨rfl, _, rfl⟩ := e
    exact ⟨d, ⟨hok, h2, .inl ⟨rfl, List.eq_nil_of_length_eq_zero h0⟩⟩, .inl rfl, hd2⟩
  · cases e
    exact ⟨g, ⟨hok, h2, .inr rfl⟩, .inr hb, (Array.getElem?_eq_some_iff.1 hg).1⟩
theorem joints_of_row {w : World} {base n c : Nat} {a : Option Addr} {J : List Jt} (h : w.ownsRow base 75 3 (.slice a n c) n (J.flatMap Jt.row)) (hn : J.length = n) (hok : ∀ z ∈ J, z.ok) : Joints w a J ∧ ∀ z off, a = some ⟨z, off, none⟩ → base ≤ z := by
  subst hn
  rcases h.2 with ⟨e, h0⟩ | ⟨g, cap, cur, e, hb, hg, r⟩
  · simp only [Value.slice.injEq] at e
    obtain ⟨rfl, _, rfl⟩ := e
    exact ⟨⟨hok, .inl (List.eq_nil_of_length_eq_zero h0)⟩, fun _ _ e => by cases e⟩
  · cases e
    refine ⟨⟨hok, .inr ⟨g, 0, rfl, fun i hi => ?_⟩⟩, fun _ _ e => by cases e; exact hb⟩
    have k : ∀ c, c < 3 → w.cell? ⟨g, i * 3 + c, none⟩ = ((jt J i).row)[c]? := fun c hc => by
      rw [h.cellAt _ (by omega), flat_at Jt.row 3 (fun _ => rfl) J i _ (jt_get hi) c hc]
    rw [Nat.zero_add]
    exact ⟨k 0 (by omega), k 1 (by omega), k 2 (by omega)⟩

theorem none_bodies (n c : Nat) (w : World) : (binOp .eql 22 (.slice none n c) (.slice none 0 0)).run Tryz.prog w = .ok (.bool true) w := by
  have hu := run_underlying Tryz.underlying22 w
  have hd : ∀ t x y, Op.equal t x y = Op.equalIn (9999 + 1) t x y := fun _ _ _ => rfl
  simp only [binOp, hd]
  rw [Op.equalIn]
  simp [go_sem, hu]
theorem some_bodies (p : Addr) (n c : Nat) (w : World) : (binOp .eql 22 (.slice (some p) n c) (.slice none 0 0)).run Tryz.prog w = .ok (.bool false) w := by
  have hu := run_underlying Tryz.underlying22 w
  have hd : ∀ t x y, Op.equal t x y = Op.equalIn (9999 + 1) t x y := fun _ _ _ => rfl
  simp only [binOp, hd]
  rw [Op.equalIn]
  simp [go_sem, hu]
theorem none_joints (n c : Nat) (w : World) : (binOp .eql 37 (.slice none n c) (.slice none 0 0)).run Tryz.prog w = .ok (.bool true) w := by
  have hu := run_underlying Tryz.underlying37 w
  have hd : ∀ t x y, Op.equal t x y = Op.equalIn (9999 + 1) t x y := fun _ _ _ => rfl
  simp only [binOp, hd]
  rw [Op.equalIn]
  simp [go_sem, hu]
theorem some_joints (p : Addr) (n c : Nat) (w : World) : (binOp .eql 37 (.slice (some p) n c) (.slice none 0 0)).run Tryz.prog w = .ok (.bool false) w := by
  have hu := run_underlying Tryz.underlying37 w
  have hd : ∀ t x y, Op.equal t x y = Op.equalIn (9999 + 1) t x y := fun _ _ _ => rfl
  simp only [binOp, hd]
  rw [Op.equalIn]
  simp [go_sem, hu]

set_option maxRecDepth 10000 in
theorem cloneb_any (L : List Bd) (a : Option Addr) (cap : Nat) (w : World) (hL : Bodies w a L) (hn : L.length ≤ 1000) :
    Calls Tryz.prog 38 #[.slice a L.length cap] w fun e w' => (∃ v, e = .returned v ∧ w'.ownsRow w.heap.size 28 8 v L.length (L.flatMap Bd.row)) ∧ Below w.heap.size w w' := by
  obtain ⟨i0, hi0, hz0, hz1, hz2⟩ := info_parts body_info
  cases a with
  | none =>
    obtain rfl : L = [] := by
      rcases hL.at' with e | ⟨_, _, e, _⟩
      · exact e
      · cases e
    go_enter Tryz.func38, Tryz.ntmps38
    have hnn := none_bodies
    go_wp2_with (fail)
    go_ret
    exact ⟨⟨_, rfl, World.ownsRow_nil _ _ _ _⟩, Below.refl _ _⟩
  | some p =>
    have HR : Hid (∀ c, Reads (w.alloc (.cells c 28)) (some p) (L.flatMap Bd.row)) := fun c => (bodies_reads hL).below (Go.RowKit.Below.alloc (Below.refl _ _) (Nat.le_refl _) _)
    clear hL
    have hns := some_bodies
    go_enter Tryz.func38, Tryz.ntmps38
    go_wp2_with (first
      | (at_builtin; refine wpList_app _ rfl (.tmp 5) (.tmp 6) 22 rfl w.heap.size 28 i0 _ 8 64 Tryz.underlying22 hi0 hz0 hz1 hz2 rfl (by decide) _ 0 [] rfl (World.ownsRow_made w #[] 0 (Nat.le_refl _) (by unfold maxLen; omega) rfl) (some p) L.length cap (L.flatMap Bd.row) rfl (flat_len Bd.row 8 (fun _ => rfl) L) (HR.out _) (one_body L) (by unfold maxLen; omega) (by omega) (by simp) ?_; intro v1 w1 ho1 hg1 _ _))
    go_ret
    rw [Nat.zero_add, List.nil_append] at ho1
    exact ⟨⟨_, rfl, ho1⟩, (Go.RowKit.Below.alloc (Below.refl _ _) (Nat.le_refl _) _).grown hg1 (by simp) (fun k h => by simp [Value.ownBlock, Act.eval] at h; omega)⟩
set_option maxRecDepth 10000 in
theorem clonej_any (L : List Jt) (a : Option Addr) (cap : Nat) (w : World) (hL : Joints w a L) (hn : L.length ≤ 1000) :
    Calls Tryz.prog 39 #[.slice a L.length cap] w fun e w' => (∃ v, e = .returned v ∧ w'.ownsRow w.heap.size 75 3 v L.length (L.flatMap Jt.row)) ∧ Below w.heap.size w w' := by
  obtain ⟨i0, hi0, hz0, hz1, hz2⟩ := info_parts joint_info
  cases a with
  | none =>
    obtain rfl : L = [] := by
      rcases hL.at' with e | ⟨_, _, e, _⟩
      · exact e
      · cases e
    go_enter Tryz.func39, Tryz.ntmps39
    have hnn := none_joints
    go_wp2_with (fail)
    go_ret
    exact ⟨⟨_, rfl, World.ownsRow_nil _ _ _ _⟩, Below.refl _ _⟩
  | some p =>
    have HR : Hid (∀ c, Reads (w.alloc (.cells c 75)) (some p) (L.flatMap Jt.row)) := fun c => (joints_reads hL).below (Go.RowKit.Below.alloc (Below.refl _ _) (Nat.le_refl _) _)
    clear hL
    have hns := some_joints
    go_enter Tryz.func39, Tryz.ntmps39
    go_wp2_with (first
      | (at_builtin; refine wpList_app _ rfl (.tmp 5) (.tmp 6) 37 rfl w.heap.size 75 i0 _ 3 24 Tryz.underlying37 hi0 hz0 hz1 hz2 rfl (by decide) _ 0 [] rfl (World.ownsRow_made w #[] 0 (Nat.le_refl _) (by unfold maxLen; omega) rfl) (some p) L.length cap (L.flatMap Jt.row) rfl (flat_len Jt.row 3 (fun _ => rfl) L) (HR.out _) (one_joint L) (by unfold maxLen; omega) (by omega) (by simp) ?_; intro v1 w1 ho1 hg1 _ _))
    go_ret
    rw [Nat.zero_add, List.nil_append] at ho1
    exact ⟨⟨_, rfl, ho1⟩, (Go.RowKit.Below.alloc (Below.refl _ _) (Nat.le_refl _) _).grown hg1 (by simp) (fun k h => by simp [Value.ownBlock, Act.eval] at h; omega)⟩
end Go.Proofs.YtcoooehcgbohgaaGreat

namespace Go.Proofs.YtcoooehcgbohgaaGreat
open Go Go.RowKit

theorem ifP_inv {k : Int} {r : (Bd × Bd) × Int} (h : (ifP k r).2 = 0) : k = 0 ∧ ifP k r = r := by
  by_cases e : k = 0
  · exact ⟨e, ifP_ok e r⟩
  · rw [ifP_no e] at h; exact absurd h e
theorem inR_val {x : Int} (h : (inR x).2 = 0) : (inR x).1 = x := by
  rcases inR_cases x with ⟨e, _⟩ | ⟨e, _⟩
  · rw [e]
  · rw [e] at h; cases h
theorem addR_val {a b : Int} (h : (addR a b).2 = 0) : (addR a b).1 = a + b := inR_val h
theorem subR_val {a b : Int} (h : (subR a b).2 = 0) : (subR a b).1 = a - b := inR_val h
theorem two_vals {r s : Int × Int} (h : (two r s).2.2 = 0) : r.2 = 0 ∧ s.2 = 0 ∧ (two r s).1 = r.1 ∧ (two r s).2.1 = s.1 := by
  obtain ⟨h1, h2⟩ := two_fst h
  rw [two_ok h1 h2]
  exact ⟨h1, h2, rfl, rfl⟩
theorem put_inv {t : Int × Int × Int} {f : Int → Int → Bd} (h : (put t f).2 = 0) : t.2.2 = 0 ∧ (put t f).1 = f t.1 t.2.1 := by
  by_cases e : t.2.2 = 0
  · rw [put_ok e]; exact ⟨e, rfl⟩
  · rw [put_no e] at h; exact absurd h e
theorem lessM_val {A : Bd} {x y : Int} (hm : ¬ A.m = 0) (h : (lessM A x y).2 = 0) : (lessM A x y).1 = A.mom (A.u - x) (A.v - y) := by
  unfold lessM at *
  rw [if_neg hm] at *
  obtain ⟨h1, h2⟩ := put_inv h
  unfold lessV at *
  obtain ⟨e1, e2, e3, e4⟩ := two_vals h1
  rw [h2, e3, e4, subR_val e1, subR_val e2]
theorem plusM_val {A : Bd} {x y : Int} (hm : ¬ A.m = 0) (h : (plusM A x y).2 = 0) : (plusM A x y).1 = A.mom (A.u + x) (A.v + y) := by
  unfold plusM at *
  rw [if_neg hm] at *
  obtain ⟨h1, h2⟩ := put_inv h
  unfold plusV at *
  obtain ⟨e1, e2, e3, e4⟩ := two_vals h1
  rw [h2, e3, e4, addR_val e1, addR_val e2]
theorem lessM_none {A : Bd} {x y : Int} (hm : A.m = 0) : lessM A x y = (A, 0) := if_pos hm
theorem plusM_none {A : Bd} {x y : Int} (hm : A.m = 0) : plusM A x y = (A, 0) := if_pos hm
theorem apply_inv {A B : Bd} {x y : Int} (h : (applyR A B x y).2 = 0) : (lessM A x y).2 = 0 ∧ (plusM B x y).2 = 0 ∧ (applyR A B x y).1 = ((lessM A x y).1, (plusM B x y).1) := by
  unfold applyR at *
  obtain ⟨h1, e1⟩ := ifP_inv h
  rw [e1] at h ⊢
  obtain ⟨h2, e2⟩ := ifP_inv h
  rw [e2]
  exact ⟨h1, h2, rfl⟩

/-- Two bodies that keep shape, size, mass, and the sum of what moves them. -/
structure Keeps (A B A' B' : Bd) : Prop where
  u : A'.u + B'.u = A.u + B.u
  v : A'.v + B'.v = A.v + B.v
  am : A'.m = A.m
  bm : B'.m = B.m
  sa : A'.s = A.s
  sb : B'.s = B.s
  aa : A'.a = A.a
  ab : A'.b = A.b
  ba : B'.a = B.a
  bb : B'.b = B.b
theorem Keeps.refl (A B : Bd) : Keeps A B A B := ⟨rfl, rfl, rfl, rfl, rfl, rfl, rfl, rfl, rfl, rfl⟩
theorem Keeps.pos {A B A' B' : Bd} (h : Keeps A B A' B') (p q r s : Int) : Keeps A B (A'.pos p q) (B'.pos r s) := ⟨h.u, h.v, h.am, h.bm, h.sa, h.sb, h.aa, h.ab, h.ba, h.bb⟩
theorem apply_keeps {A B : Bd} {x y : Int} (hA : ¬ A.m = 0) (hB : ¬ B.m = 0) (h : (applyR A B x y).2 = 0) : Keeps A B (applyR A B x y).1.1 (applyR A B x y).1.2 := by
  obtain ⟨h1, h2, h3⟩ := apply_inv h
  rw [h3]
  simp only
  rw [lessM_val hA h1, plusM_val hB h2]
  refine ⟨?_, ?_, rfl, rfl, rfl, rfl, rfl, rfl, rfl, rfl⟩
  · show A.u - x + (B.u + x) = A.u + B.u; omega
  · show A.v - y + (B.v + y) = A.v + B.v; omega
theorem met_inv {A B : Bd} {x y v k : Int} (h : (metR A B x y v k).2 = 0) : metR A B x y v k = ((A, B), 0) ∨ ∃ j, metR A B x y v k = applyR A B (scaleV x y j).1 (scaleV x y j).2.1 ∧ (scaleV x y j).2.2 = 0 ∧ v < 0 ∧ (jR v k).1 = j ∧ (jR v k).2 = 0 ∧ (halfR v).2 = 0 ∧ (turnR v).2 = 0 := by
  by_cases hv : v < 0
  · refine .inr ⟨(jR v k).1, ?_⟩
    have e : metR A B x y v k = pushR A B x y v k := if_pos hv
    rw [e] at h ⊢
    unfold pushR at *
    obtain ⟨h1, e1⟩ := ifP_inv h
    rw [e1] at h ⊢
    obtain ⟨h2, e2⟩ := ifP_inv h
    rw [e2] at h ⊢
    obtain ⟨h3, e3⟩ := ifP_inv h
    rw [e3] at h ⊢
    obtain ⟨h4, e4⟩ := ifP_inv h
    rw [e4]
    exact ⟨rfl, h4, hv, rfl, h3, h1, h2⟩
  · exact .inl (if_neg hv)
theorem apart_inv {A B : Bd} {x y c : Int} (h : (apartR A B x y c).2 = 0) : (lightR A).2 = 0 ∧ (offR A c).2 = 0 ∧ (offV A x y c).2.2 = 0 ∧ (backV A x y c).2.2 = 0 ∧ (lightR B).2 = 0 ∧ (offR B c).2 = 0 ∧ (offV B x y c).2.2 = 0 ∧ (forthV B x y c).2.2 = 0 ∧ (apartR A B x y c).1 = (A.pos (backV A x y c).1 (backV A x y c).2.1, B.pos (forthV B x y c).1 (forthV B x y c).2.1) := by
  unfold apartR at *
  obtain ⟨h1, e⟩ := ifP_inv h; rw [e] at h ⊢
  obtain ⟨h2, e⟩ := ifP_inv h; rw [e] at h ⊢
  obtain ⟨h3, e⟩ := ifP_inv h; rw [e] at h ⊢
  obtain ⟨h4, e⟩ := ifP_inv h; rw [e] at h ⊢
  obtain ⟨h5, e⟩ := ifP_inv h; rw [e] at h ⊢
  obtain ⟨h6, e⟩ := ifP_inv h; rw [e] at h ⊢
  obtain ⟨h7, e⟩ := ifP_inv h; rw [e] at h ⊢
  obtain ⟨h8, e⟩ := ifP_inv h; rw [e]
  exact ⟨h1, h2, h3, h4, h5, h6, h7, h8, rfl⟩
/-- What a contact that goes through is made of. -/
theorem contact_inv {A B : Bd} {h : Ht} (g : (contactR A B h).2 = 0) : (kR A B).2 = 0 ∧ ((kR A B).1 = 0 ∧ contactR A B h = ((A, B), 0) ∨ ¬ (kR A B).1 = 0 ∧ ∃ v M c, vR A B h.x h.y = (v, 0) ∧ metR A B h.x h.y v (kR A B).1 = (M, 0) ∧ cR h.d (kR A B).1 = (c, 0) ∧ (apartR M.1 M.2 h.x h.y c).2 = 0 ∧ contactR A B h = apartR M.1 M.2 h.x h.y c) := by
  unfold contactR at *
  obtain ⟨h1, e⟩ := ifP_inv g; rw [e] at g ⊢
  refine ⟨h1, ?_⟩
  by_cases hz : (kR A B).1 = 0
  · rw [if_pos hz]; exact .inl ⟨hz, rfl⟩
  · rw [if_neg hz] at g ⊢
    refine .inr ⟨hz, ?_⟩
    obtain ⟨h2, e⟩ := ifP_inv g; rw [e] at g ⊢
    unfold thenR at *
    obtain ⟨h3, e⟩ := ifP_inv g; rw [e] at g ⊢
    obtain ⟨h4, e⟩ := ifP_inv g; rw [e] at g ⊢
    exact ⟨_, _, _, Prod.ext rfl h2, Prod.ext rfl h3, Prod.ext rfl h4, g, rfl⟩
theorem contact_keeps {A B : Bd} {h : Ht} (hA : ¬ A.m = 0) (hB : ¬ B.m = 0) (g : (contactR A B h).2 = 0) : Keeps A B (contactR A B h).1.1 (contactR A B h).1.2 := by
  obtain ⟨_, ⟨_, e⟩ | ⟨_, v, M, c, _, hM, _, h4, e⟩⟩ := contact_inv g
  · rw [e]; exact Keeps.refl A B
  · rw [e, (apart_inv h4).2.2.2.2.2.2.2.2]
    refine Keeps.pos ?_ _ _ _ _
    rcases met_inv (show (metR A B h.x h.y v (kR A B).1).2 = 0 by rw [hM]) with e1 | ⟨j, e1, _⟩
    · rw [hM] at e1
      obtain rfl : M = (A, B) := congrArg Prod.fst e1
      exact Keeps.refl A B
    · have := apply_keeps (A := A) (B := B) hA hB (x := (scaleV h.x h.y j).1) (y := (scaleV h.x h.y j).2.1) (by rw [← e1, hM])
      rw [← e1, hM] at this
      exact this
/-- What a joint that goes through is made of. -/
theorem joint_inv {A B : Bd} {n : Int} (g : (jointR A B n).2 = 0) : jointR A B n = ((A, B), 0) ∧ (¬ (unitR (wayV A B).1 (wayV A B).2.1).2.1 = 0 → (kR A B).1 = 0) ∨ ∃ j, (scaleV (unitR (wayV A B).1 (wayV A B).2.1).1.1 (unitR (wayV A B).1 (wayV A B).2.1).1.2 j).2.2 = 0 ∧ ¬ (kR A B).1 = 0 ∧ jointR A B n = applyR A B (scaleV (unitR (wayV A B).1 (wayV A B).2.1).1.1 (unitR (wayV A B).1 (wayV A B).2.1).1.2 j).1 (scaleV (unitR (wayV A B).1 (wayV A B).2.1).1.1 (unitR (wayV A B).1 (wayV A B).2.1).1.2 j).2.1 := by
  unfold jointR at *
  obtain ⟨_, e⟩ := ifP_inv g; rw [e] at g ⊢
  generalize unitR (wayV A B).1 (wayV A B).2.1 = u at *
  unfold heldU at *
  obtain ⟨_, e⟩ := ifP_inv g; rw [e] at g ⊢
  by_cases hl : u.2.1 = 0
  · rw [if_pos hl]; exact .inl ⟨rfl, fun h => absurd hl h⟩
  rw [if_neg hl] at g ⊢
  obtain ⟨_, e⟩ := ifP_inv g; rw [e] at g ⊢
  by_cases hz : (kR A B).1 = 0
  · rw [if_pos hz]; exact .inl ⟨rfl, fun _ => hz⟩
  rw [if_neg hz] at g ⊢
  obtain ⟨_, e⟩ := ifP_inv g; rw [e] at g ⊢
  obtain ⟨_, e⟩ := ifP_inv g; rw [e] at g ⊢
  unfold heldR at *
  obtain ⟨_, e⟩ := ifP_inv g; rw [e] at g ⊢
  obtain ⟨_, e⟩ := ifP_inv g; rw [e] at g ⊢
  obtain ⟨h1, e⟩ := ifP_inv g; rw [e] at g ⊢
  exact .inr ⟨_, h1, hz, rfl⟩
theorem joint_keeps {A B : Bd} {n : Int} (hA : ¬ A.m = 0) (hB : ¬ B.m = 0) (g : (jointR A B n).2 = 0) : Keeps A B (jointR A B n).1.1 (jointR A B n).1.2 := by
  rcases joint_inv g with ⟨e, _⟩ | ⟨j, _, _, e⟩
  · rw [e]; exact Keeps.refl A B
  · rw [e] at g ⊢; exact apply_keeps hA hB g

/-! ### A body without mass -/
theorem light_none {A : Bd} (h : A.m = 0) : lightR A = (0, 0) := if_pos h
theorem k_none {A B : Bd} (h : A.m = 0) (g : B.m = 0) : kR A B = (0, 0) := by unfold kR; rw [light_none h, light_none g]; rfl
theorem subR_zero {a : Int} (h : inF a) : subR a 0 = (a, 0) := by unfold subR; rw [Int.sub_zero]; exact inR_ok h
theorem addR_zero {a : Int} (h : inF a) : addR a 0 = (a, 0) := by unfold addR; rw [Int.add_zero]; exact inR_ok h
theorem mulR_zero_left (a : Int) : mulR 0 a = (0, 0) := by rw [mulR_comm]; exact mulR_zero a
theorem scale_zero (x y : Int) : scaleV x y 0 = (0, 0, 0) := by unfold scaleV; rw [mulR_zero, mulR_zero]; rfl
theorem pos_self (A : Bd) : A.pos A.p A.q = A := rfl
theorem mom_self (A : Bd) : A.mom A.u A.v = A := rfl
theorem back_none {A : Bd} (hA : A.ok) (h : A.m = 0) (x y c : Int) : backV A x y c = (A.p, A.q, 0) := by
  unfold backV offV offR
  rw [light_none h]
  simp only
  rw [mulR_zero]
  simp only
  rw [scale_zero]
  simp only
  rw [subR_zero hA.p, subR_zero hA.q]; rfl
theorem contact_fixed {A B : Bd} {h : Ht} (hA : A.ok) (ha : A.m = 0) (g : (contactR A B h).2 = 0) : (contactR A B h).1.1 = A ∧ (B.m = 0 → (contactR A B h).1.2 = B) := by
  obtain ⟨_, ⟨_, e⟩ | ⟨hz, v, M, c, _, hM, _, h4, e⟩⟩ := contact_inv g
  · rw [e]; exact ⟨rfl, fun _ => rfl⟩
  · refine ⟨?_, fun hb => absurd (by rw [k_none ha hb]) hz⟩
    have hM1 : M.1 = A := by
      rcases met_inv (show (metR A B h.x h.y v (kR A B).1).2 = 0 by rw [hM]) with e1 | ⟨j, e1, _⟩
      · rw [hM] at e1
        obtain rfl : M = (A, B) := congrArg Prod.fst e1
        rfl
      · have := (apply_inv (A := A) (B := B) (x := (scaleV h.x h.y j).1) (y := (scaleV h.x h.y j).2.1) (by rw [← e1, hM])).2.2
        rw [← e1, hM, lessM_none ha] at this
        rw [show M = _ from this]
    rw [e, (apart_inv h4).2.2.2.2.2.2.2.2, hM1]
    simp only
    rw [back_none hA ha]
    exact pos_self A
theorem joint_fixed {A B : Bd} {n : Int} (ha : A.m = 0) (g : (jointR A B n).2 = 0) : (jointR A B n).1.1 = A ∧ (B.m = 0 → (jointR A B n).1.2 = B) := by
  rcases joint_inv g with ⟨e, _⟩ | ⟨j, _, hz, e⟩
  · rw [e]; exact ⟨rfl, fun _ => rfl⟩
  · refine ⟨?_, fun hb => absurd (by rw [k_none ha hb]) hz⟩
    rw [e] at g ⊢
    rw [(apply_inv g).2.2, lessM_none ha]

/-! ### Along X -/
theorem mulR_one_left {a : Int} (h : inF a) : mulR 4294967296 a = (a, 0) := by rw [mulR_comm]; exact mulR_one h
theorem sgR_nonneg {m : Int} (h : 0 ≤ m) : 0 ≤ (sgR false m).1 := by
  unfold sgR
  rw [if_neg (by decide)]
  split
  · exact h
  · exact Int.le_refl 0
theorem mulR_nonneg {a b : Int} (ha : 0 ≤ a) (hb : 0 ≤ b) : 0 ≤ (mulR a b).1 := by
  unfold mulR
  rw [show sgn a b = false by unfold sgn; rw [decide_eq_false (by omega), decide_eq_false (by omega)]; rfl]
  exact sgR_nonneg (mulM_nonneg a b)
theorem divR_nonneg {a b : Int} (ha : 0 ≤ a) (hb : 0 ≤ b) : 0 ≤ (divR a b).1 := by
  unfold divR
  split
  · exact Int.le_refl 0
  · rw [show sgn a b = false by unfold sgn; rw [decide_eq_false (by omega), decide_eq_false (by omega)]; rfl]
    exact sgR_nonneg (divM_nonneg a b)
theorem light_nonneg {A : Bd} (h : 0 ≤ A.m) : 0 ≤ (lightR A).1 := by
  unfold lightR
  split
  · exact Int.le_refl 0
  · exact divR_nonneg (by decide) h
theorem k_nonneg {A B : Bd} (h : 0 ≤ A.m) (g : 0 ≤ B.m) : 0 ≤ (kR A B).1 := by
  unfold kR behind
  split
  · split
    · have := light_nonneg h
      have := light_nonneg g
      rcases inR_cases ((lightR A).1 + (lightR B).1) with ⟨e, _⟩ | ⟨e, _⟩
      · show 0 ≤ (inR _).1; rw [e]; simp only; omega
      · show 0 ≤ (inR _).1; rw [e]; exact Int.le_refl 0
    · exact Int.le_refl 0
  · exact Int.le_refl 0
theorem scale_x {j : Int} (h : inF j) : scaleV 4294967296 0 j = (j, 0, 0) := by unfold scaleV; rw [mulR_one_left h, mulR_zero_left]; rfl
theorem off_in (A : Bd) (c : Int) : inF (offR A c).1 := (mulR_in _ _).1
theorem back_x {A : Bd} {c : Int} (h : (backV A 4294967296 0 c).2.2 = 0) : (backV A 4294967296 0 c).1 = A.p - (offR A c).1 ∧ (backV A 4294967296 0 c).2.1 = A.q := by
  unfold backV offV at *
  rw [scale_x (off_in A c)] at *
  obtain ⟨h1, h2, h3, h4⟩ := two_vals h
  rw [h3, h4]
  exact ⟨subR_val h1, by rw [subR_val h2]; exact Int.sub_zero _⟩
theorem forth_x {A : Bd} {c : Int} (h : (forthV A 4294967296 0 c).2.2 = 0) : (forthV A 4294967296 0 c).1 = A.p + (offR A c).1 ∧ (forthV A 4294967296 0 c).2.1 = A.q := by
  unfold forthV offV at *
  rw [scale_x (off_in A c)] at *
  obtain ⟨h1, h2, h3, h4⟩ := two_vals h
  rw [h3, h4]
  exact ⟨addR_val h1, by rw [addR_val h2]; exact Int.add_zero _⟩
/-- A contact along X, a push of which is j: of two with a mass. -/
theorem met_x {A B : Bd} {v k : Int} {M : Bd × Bd} (hA : ¬ A.m = 0) (hB : ¬ B.m = 0) (h : metR A B 4294967296 0 v k = (M, 0)) : M = (A, B) ∨ v < 0 ∧ ∃ j, j = (jR v k).1 ∧ M = (A.mom (A.u - j) A.v, B.mom (B.u + j) B.v) := by
  rcases met_inv (show (metR A B 4294967296 0 v k).2 = 0 by rw [h]) with e1 | ⟨j, e1, _, hv, hj, _⟩
  · rw [h] at e1
    exact .inl (congrArg Prod.fst e1)
  · refine .inr ⟨hv, j, hj.symm, ?_⟩
    have ij : inF j := by rw [← hj]; exact (divR_in _ _).1
    rw [scale_x ij] at e1
    simp only at e1
    obtain ⟨h1, h2, h3⟩ := apply_inv (A := A) (B := B) (x := j) (y := 0) (by rw [← e1, h])
    rw [← e1, h] at h3
    rw [lessM_val hA h1, plusM_val hB h2, Int.sub_zero, Int.add_zero] at h3
    exact h3
theorem contact_apart {A B : Bd} {d : Int} (hA : 0 < A.m) (hB : 0 < B.m) (hd : 0 ≤ d) (g : (contactR A B ⟨4294967296, 0, d⟩).2 = 0) :
    (contactR A B ⟨4294967296, 0, d⟩).1.1.p ≤ A.p ∧ B.p ≤ (contactR A B ⟨4294967296, 0, d⟩).1.2.p ∧ (contactR A B ⟨4294967296, 0, d⟩).1.1.q = A.q ∧ (contactR A B ⟨4294967296, 0, d⟩).1.2.q = B.q ∧ (contactR A B ⟨4294967296, 0, d⟩).1.1.v = A.v ∧ (contactR A B ⟨4294967296, 0, d⟩).1.2.v = B.v := by
  have kn := k_nonneg (A := A) (B := B) (by omega) (by omega)
  obtain ⟨_, ⟨_, e⟩ | ⟨hz, v, M, c, _, hM, hc, h4, e⟩⟩ := contact_inv g
  · rw [e]; exact ⟨Int.le_refl _, Int.le_refl _, rfl, rfl, rfl, rfl⟩
  simp only at hM hc h4 e
  obtain ⟨_, _, _, hb, _, _, _, hf, e2⟩ := apart_inv h4
  obtain ⟨b1, b2⟩ := back_x hb
  obtain ⟨f1, f2⟩ := forth_x hf
  rw [e, e2]
  simp only [Bd.pos]
  rw [b1, b2, f1, f2]
  have hc0 : 0 ≤ c := by
    have : 0 ≤ (cR d (kR A B).1).1 := divR_nonneg (Int.tdiv_nonneg hd (by decide)) kn
    rw [hc] at this; exact this
  have key : M.1.p = A.p ∧ M.2.p = B.p ∧ M.1.q = A.q ∧ M.2.q = B.q ∧ M.1.v = A.v ∧ M.2.v = B.v ∧ M.1.m = A.m ∧ M.2.m = B.m := by
    rcases met_x (by omega) (by omega) hM with rfl | ⟨_, j, _, rfl⟩
    · exact ⟨rfl, rfl, rfl, rfl, rfl, rfl, rfl, rfl⟩
    · exact ⟨rfl, rfl, rfl, rfl, rfl, rfl, rfl, rfl⟩
  obtain ⟨k1, k2, k3, k4, k5, k6, k7, k8⟩ := key
  have o1 : 0 ≤ (offR M.1 c).1 := mulR_nonneg hc0 (light_nonneg (by omega))
  have o2 : 0 ≤ (offR M.2 c).1 := mulR_nonneg hc0 (light_nonneg (by omega))
  rw [k1, k2]
  exact ⟨by omega, by omega, k3, k4, k5, k6⟩

/-! ### A push of nothing; joints between two at rest -/
theorem apply_none {A B : Bd} (hA : A.ok) (hB : B.ok) : applyR A B 0 0 = ((A, B), 0) := by
  have h1 : lessM A 0 0 = (A, 0) := by
    unfold lessM lessV
    rw [subR_zero hA.u, subR_zero hA.v]
    split
    · rfl
    · rfl
  have h2 : plusM B 0 0 = (B, 0) := by
    unfold plusM plusV
    rw [addR_zero hB.u, addR_zero hB.v]
    split
    · rfl
    · rfl
  unfold applyR
  rw [h1, h2]; rfl
end Go.Proofs.YtcoooehcgbohgaaGreat

namespace Go.Proofs.YtcoooehcgbohgaaGreat
open Go Go.RowKit

/-! ### Errors -/
theorem two_le {r s : Int × Int} (h : r.2 ≤ 4) (g : s.2 ≤ 4) : (two r s).2.2 ≤ 4 := by
  unfold two
  split
  · split
    · show (0 : Int) ≤ 4; decide
    · exact g
  · exact h
theorem addR_le (a b : Int) : (addR a b).2 ≤ 4 := by have : (addR a b).2 ≤ 3 := (inR_in _).2.2; omega
theorem subR_le (a b : Int) : (subR a b).2 ≤ 4 := by have : (subR a b).2 ≤ 3 := (inR_in _).2.2; omega
theorem mulR_le (a b : Int) : (mulR a b).2 ≤ 4 := by have := (mulR_in a b).2.2; omega
theorem divR_le (a b : Int) : (divR a b).2 ≤ 4 := (divR_in a b).2.2
theorem partR_le (a b : Int) : (partR a b).2 ≤ 4 := by
  unfold partR
  split
  · exact Int.le_refl 4
  · split
    · show (3 : Int) ≤ 4; decide
    · show (0 : Int) ≤ 4; decide
theorem lenR_le (a b : Int) : (lenR a b).2 ≤ 4 := by
  unfold lenR
  split
  · show (0 : Int) ≤ 4; decide
  · show (3 : Int) ≤ 4; decide
theorem behind_le {r : Int × Int} {f : Int → Int × Int} (h : r.2 ≤ 4) (g : ∀ x, (f x).2 ≤ 4) : (behind r f).2 ≤ 4 := by unfold behind; split; exact g _; exact h
theorem unitR_le (x y : Int) : (unitR x y).2.2 ≤ 4 := by
  unfold unitR
  split
  · split
    · show (0 : Int) ≤ 4; decide
    · split
      · show (0 : Int) ≤ 4; decide
      · exact two_le (divR_le _ _) (divR_le _ _)
  · exact lenR_le _ _
theorem ifP_le {k : Int} {r : (Bd × Bd) × Int} (h : k ≤ 4) (g : r.2 ≤ 4) : (ifP k r).2 ≤ 4 := by unfold ifP; split; exact g; exact h
theorem ifH_le {k : Int} {r : (Ht × Bool) × Int} (h : k ≤ 4) (g : r.2 ≤ 4) : (ifH k r).2 ≤ 4 := by unfold ifH; split; exact g; exact h
theorem ifV_le {k : Int} {t : Int × Int × Int} (h : k ≤ 4) (g : t.2.2 ≤ 4) : (ifV k t).2.2 ≤ 4 := by unfold ifV; split; exact g; exact h
theorem ifN_le {k : Int} {t : Int × Int} (h : k ≤ 4) (g : t.2 ≤ 4) : (ifN k t).2 ≤ 4 := by unfold ifN; split; exact g; exact h
theorem put_le {t : Int × Int × Int} {f : Int → Int → Bd} (h : t.2.2 ≤ 4) : (put t f).2 ≤ 4 := by unfold put; split; (show (0 : Int) ≤ 4; decide); exact h
theorem le40 : (0 : Int) ≤ 4 := by decide
theorem lightR_le (A : Bd) : (lightR A).2 ≤ 4 := by unfold lightR; split; exact le40; exact divR_le _ _
theorem speedR_le (A : Bd) : (speedR A).2.2 ≤ 4 := by unfold speedR; split; exact le40; exact two_le (divR_le _ _) (divR_le _ _)
theorem kR_le (A B : Bd) : (kR A B).2 ≤ 4 := behind_le (lightR_le A) fun _ => behind_le (lightR_le B) fun _ => addR_le _ _
theorem scaleV_le (x y j : Int) : (scaleV x y j).2.2 ≤ 4 := two_le (mulR_le _ _) (mulR_le _ _)
theorem dotV_le (x y u v : Int) : (dotV x y u v).2 ≤ 4 := by
  unfold dotV
  split
  · split
    · exact addR_le _ _
    · exact mulR_le _ _
  · exact mulR_le _ _
theorem vR_le (A B : Bd) (x y : Int) : (vR A B x y).2 ≤ 4 := ifN_le (speedR_le B) (ifN_le (speedR_le A) (ifN_le (two_le (subR_le _ _) (subR_le _ _)) (dotV_le _ _ _ _)))
theorem lessM_le (A : Bd) (x y : Int) : (lessM A x y).2 ≤ 4 := by unfold lessM; split; exact le40; exact put_le (two_le (subR_le _ _) (subR_le _ _))
theorem plusM_le (A : Bd) (x y : Int) : (plusM A x y).2 ≤ 4 := by unfold plusM; split; exact le40; exact put_le (two_le (addR_le _ _) (addR_le _ _))
theorem applyR_le (A B : Bd) (x y : Int) : (applyR A B x y).2 ≤ 4 := ifP_le (lessM_le _ _ _) (ifP_le (plusM_le _ _ _) le40)
theorem pushR_le (A B : Bd) (x y v k : Int) : (pushR A B x y v k).2 ≤ 4 := ifP_le (addR_le _ _) (ifP_le (subR_le _ _) (ifP_le (divR_le _ _) (ifP_le (scaleV_le _ _ _) (applyR_le _ _ _ _))))
theorem metR_le (A B : Bd) (x y v k : Int) : (metR A B x y v k).2 ≤ 4 := by unfold metR; split; exact pushR_le _ _ _ _ _ _; exact le40
theorem apartR_le (A B : Bd) (x y c : Int) : (apartR A B x y c).2 ≤ 4 :=
  ifP_le (lightR_le _) (ifP_le (mulR_le _ _) (ifP_le (scaleV_le _ _ _) (ifP_le (two_le (subR_le _ _) (subR_le _ _)) (ifP_le (lightR_le _) (ifP_le (mulR_le _ _) (ifP_le (scaleV_le _ _ _) (ifP_le (two_le (addR_le _ _) (addR_le _ _)) le40)))))))
theorem contactR_le (A B : Bd) (h : Ht) : (contactR A B h).2 ≤ 4 := by
  unfold contactR
  refine ifP_le (kR_le _ _) ?_
  split
  · exact le40
  · refine ifP_le (vR_le _ _ _ _) ?_
    unfold thenR
    exact ifP_le (metR_le _ _ _ _ _ _) (ifP_le (divR_le _ _) (apartR_le _ _ _ _ _))
theorem jointR_le (A B : Bd) (n : Int) : (jointR A B n).2 ≤ 4 := by
  unfold jointR
  refine ifP_le (two_le (subR_le _ _) (subR_le _ _)) ?_
  unfold heldU
  refine ifP_le (unitR_le _ _) ?_
  split
  · exact le40
  refine ifP_le (kR_le _ _) ?_
  split
  · exact le40
  refine ifP_le (vR_le _ _ _ _) (ifP_le (ifN_le (subR_le _ _) (ifN_le (mulR_le _ _) (addR_le _ _))) ?_)
  exact ifP_le (subR_le _ _) (ifP_le (divR_le _ _) (ifP_le (scaleV_le _ _ _) (applyR_le _ _ _ _)))
theorem pairX_le {s t : Int × Int × Int} (h : s.2.2 ≤ 4) (g : t.2.2 ≤ 4) : (pairX s t).2 ≤ 4 := by
  unfold pairX
  split
  · split
    · exact le40
    · exact g
  · exact h
theorem boxR_le (B : Bd) : (boxR B).2 ≤ 4 := pairX_le (two_le (subR_le _ _) (subR_le _ _)) (two_le (addR_le _ _) (addR_le _ _))
theorem amtR_le (d : Int) : (amtR d).2 ≤ 4 := by unfold amtR; split; exact subR_le _ _; exact le40
theorem overR_le (a b d : Int) : (overR a b d).2 ≤ 4 := behind_le (addR_le _ _) fun _ => behind_le (amtR_le _) fun _ => subR_le _ _
theorem gapV_le (A B : Bd) : (gapV A B).2.2 ≤ 4 := two_le (subR_le _ _) (subR_le _ _)
theorem cratesR_le (a b c d x y : Int) : (cratesR a b c d x y).2 ≤ 4 := by
  unfold cratesR
  refine ifH_le (overR_le _ _ _) ?_
  split
  · exact le40
  · exact ifH_le (overR_le _ _ _) le40
theorem crateR_le (A B : Bd) : (crateR A B).2 ≤ 4 := ifH_le (gapV_le _ _) (cratesR_le _ _ _ _ _ _)
theorem ballsR_le (A B : Bd) : (ballsR A B).2 ≤ 4 := ifH_le (gapV_le _ _) (ifH_le (unitR_le _ _) (ifH_le (behind_le (addR_le _ _) fun _ => subR_le _ _) le40))
theorem ballR_le (A B : Bd) : (ballR A B).2 ≤ 4 := by
  unfold ballR
  refine ifH_le (boxR_le _) (ifH_le (two_le (subR_le _ _) (subR_le _ _)) ?_)
  unfold ballU
  refine ifH_le (unitR_le _ _) ?_
  split
  · exact crateR_le _ _
  · exact ifH_le (subR_le _ _) le40
theorem flipR_le (h : Ht) : (flipR h).2 ≤ 4 := by
  unfold flipR
  split
  · exact le40
  · exact two_le (subR_le _ _) (subR_le _ _)
theorem hitR_le (A B : Bd) : (hitR A B).2 ≤ 4 := by
  unfold hitR
  split
  · exact ballsR_le _ _
  split
  · exact crateR_le _ _
  split
  · exact ballR_le _ _
  split
  · exact ifH_le (ballR_le _ _) (ifH_le (flipR_le _) le40)
  · exact le40
theorem upE_le {f : Nat → List Bd → List Bd × Int} (hf : ∀ k L, (f k L).2 ≤ 4) : ∀ m k L, (upE f m k L).2 ≤ 4
  | 0, _, _ => le40
  | m + 1, k, L => by
    unfold upE
    split
    · exact upE_le hf m _ _
    · exact hf _ _
theorem thenE_le {r : List Bd × Int} {f : List Bd → List Bd × Int} (h : r.2 ≤ 4) (hf : ∀ L, (f L).2 ≤ 4) : (thenE r f).2 ≤ 4 := by unfold thenE; split; exact hf _; exact h
theorem putE_le {L : List Bd} {i : Nat} {r : Bd × Int} (h : r.2 ≤ 4) : (putE L i r).2 ≤ 4 := by unfold putE; split; exact le40; exact h
theorem pairE_le {L : List Bd} {a b : Nat} {r : (Bd × Bd) × Int} (h : r.2 ≤ 4) : (pairE L a b r).2 ≤ 4 := by unfold pairE; split; exact le40; exact h
theorem shareV_le {t : Int × Int × Int} (h : t.2.2 ≤ 4) : (shareV t).2.2 ≤ 4 := ifV_le h (two_le (partR_le _ _) (partR_le _ _))
theorem fallB_le (x y : Int) (B : Bd) : (fallB x y B).2 ≤ 4 := by
  unfold fallB
  split
  · exact le40
  · exact put_le (ifV_le (shareV_le (scaleV_le _ _ _)) (two_le (addR_le _ _) (addR_le _ _)))
theorem moveB_le (B : Bd) : (moveB B).2 ≤ 4 := by
  unfold moveB
  split
  · exact le40
  · exact put_le (ifV_le (shareV_le (speedR_le _)) (two_le (addR_le _ _) (addR_le _ _)))
theorem boxE_le : ∀ L, (boxE L).2 ≤ 4
  | [] => le40
  | B :: L => by
    unfold boxE
    split
    · split
      · exact le40
      · exact boxE_le L
    · exact boxR_le B
theorem hitE_le (P : List (Nat × Nat)) (k : Nat) (L : List Bd) : (hitE P k L).2 ≤ 4 := by
  unfold hitE
  split
  · split
    · exact pairE_le (contactR_le _ _ _)
    · exact le40
  · exact hitR_le _ _
theorem bounceE_le (L : List Bd) : (bounceE L).2 ≤ 4 := by
  unfold bounceE
  split
  · exact upE_le (hitE_le _) _ _ _
  · exact boxE_le L
theorem advE_le (x y : Int) (J : List Jt) (L : List Bd) : (advE x y J L).2 ≤ 4 :=
  thenE_le (upE_le (fun _ _ => putE_le (fallB_le _ _ _)) _ _ _) fun _ => thenE_le (upE_le (fun _ _ => upE_le (fun _ _ => pairE_le (jointR_le _ _ _)) _ _ _) _ _ _) fun _ => thenE_le (bounceE_le _) fun _ => upE_le (fun _ _ => putE_le (moveB_le _)) _ _ _
theorem endE_le (L : List Bd) : (endE L).2 ≤ 4 := by unfold endE; split; exact le40; (show (3 : Int) ≤ 4; decide)
theorem stepE_le {x y : Int} {J : List Jt} {L : List Bd} (h : rightW x y L J = true) : (stepE x y J L).2 ≤ 4 := by unfold stepE; rw [if_pos h]; exact thenE_le (advE_le _ _ _ _) endE_le

/-! ### What a body keeps -/
/-- The same shape, size, mass; without a mass the same body. -/
structure KeepB (A A' : Bd) : Prop where
  s : A'.s = A.s
  a : A'.a = A.a
  b : A'.b = A.b
  m : A'.m = A.m
  z : A.m = 0 → A' = A
theorem KeepB.refl (A : Bd) : KeepB A A := ⟨rfl, rfl, rfl, rfl, fun _ => rfl⟩
theorem KeepB.trans {A B C : Bd} (h : KeepB A B) (g : KeepB B C) : KeepB A C := ⟨g.s.trans h.s, g.a.trans h.a, g.b.trans h.b, g.m.trans h.m, fun e => (g.z (h.m.trans e)).trans (h.z e)⟩
theorem KeepB.mom {A : Bd} (h : ¬ A.m = 0) (x y : Int) : KeepB A (A.mom x y) := ⟨rfl, rfl, rfl, rfl, fun e => absurd e h⟩
theorem lessM_keep {A : Bd} {x y : Int} (h : (lessM A x y).2 = 0) : KeepB A (lessM A x y).1 := by
  by_cases hm : A.m = 0
  · rw [lessM_none hm]; exact KeepB.refl A
  · rw [lessM_val hm h]; exact KeepB.mom hm _ _
theorem plusM_keep {A : Bd} {x y : Int} (h : (plusM A x y).2 = 0) : KeepB A (plusM A x y).1 := by
  by_cases hm : A.m = 0
  · rw [plusM_none hm]; exact KeepB.refl A
  · rw [plusM_val hm h]; exact KeepB.mom hm _ _
theorem apply_keep {A B : Bd} {x y : Int} (h : (applyR A B x y).2 = 0) : KeepB A (applyR A B x y).1.1 ∧ KeepB B (applyR A B x y).1.2 := by
  obtain ⟨h1, h2, h3⟩ := apply_inv h
  rw [h3]
  exact ⟨lessM_keep h1, plusM_keep h2⟩
theorem joint_keep {A B : Bd} {n : Int} (h : (jointR A B n).2 = 0) : KeepB A (jointR A B n).1.1 ∧ KeepB B (jointR A B n).1.2 := by
  rcases joint_inv h with ⟨e, _⟩ | ⟨j, _, _, e⟩
  · rw [e]; exact ⟨KeepB.refl A, KeepB.refl B⟩
  · rw [e] at h ⊢; exact apply_keep h
theorem forth_none {A : Bd} (hA : A.ok) (h : A.m = 0) (x y c : Int) : forthV A x y c = (A.p, A.q, 0) := by
  unfold forthV offV offR
  rw [light_none h]
  simp only
  rw [mulR_zero]
  simp only
  rw [scale_zero]
  simp only
  rw [addR_zero hA.p, addR_zero hA.q]; rfl
theorem contact_keep {A B : Bd} {h : Ht} (hA : A.ok) (hB : B.ok) (g : (contactR A B h).2 = 0) : KeepB A (contactR A B h).1.1 ∧ KeepB B (contactR A B h).1.2 := by
  obtain ⟨_, ⟨_, e⟩ | ⟨_, v, M, c, _, hM, _, h4, e⟩⟩ := contact_inv g
  · rw [e]; exact ⟨KeepB.refl A, KeepB.refl B⟩
  have hk : KeepB A M.1 ∧ KeepB B M.2 ∧ M.1.ok ∧ M.2.ok := by
    have ho := metR_in hA hB h.x h.y v (kR A B).1
    rw [hM] at ho
    rcases met_inv (show (metR A B h.x h.y v (kR A B).1).2 = 0 by rw [hM]) with e1 | ⟨j, e1, _⟩
    · rw [hM] at e1
      obtain rfl : M = (A, B) := congrArg Prod.fst e1
      exact ⟨KeepB.refl A, KeepB.refl B, ho⟩
    · have := apply_keep (A := A) (B := B) (x := (scaleV h.x h.y j).1) (y := (scaleV h.x h.y j).2.1) (by rw [← e1, hM])
      rw [← e1, hM] at this
      exact ⟨this.1, this.2, ho⟩
  obtain ⟨k1, k2, o1, o2⟩ := hk
  rw [e, (apart_inv h4).2.2.2.2.2.2.2.2]
  refine ⟨k1.trans ⟨rfl, rfl, rfl, rfl, fun hz => ?_⟩, k2.trans ⟨rfl, rfl, rfl, rfl, fun hz => ?_⟩⟩
  · simp only
    rw [back_none o1 hz]; rfl
  · simp only
    rw [forth_none o2 hz]; rfl
theorem fallB_keep {x y : Int} {B : Bd} (h : (fallB x y B).2 = 0) : KeepB B (fallB x y B).1 := by
  unfold fallB at *
  by_cases hm : B.m = 0
  · rw [if_pos hm]; exact KeepB.refl B
  · rw [if_neg hm] at h ⊢
    rw [(put_inv h).2]; exact KeepB.mom hm _ _
theorem moveB_keep {B : Bd} (h : (moveB B).2 = 0) : KeepB B (moveB B).1 := by
  unfold moveB at *
  by_cases hm : B.m = 0
  · rw [if_pos hm]; exact KeepB.refl B
  · rw [if_neg hm] at h ⊢
    rw [(put_inv h).2]; exact ⟨rfl, rfl, rfl, rfl, fun e => absurd e hm⟩

/-! ### What is an int64 stays one -/
theorem fallB_ok {x y : Int} {B : Bd} (h : B.ok) : (fallB x y B).1.ok := by
  unfold fallB
  split
  · exact h
  · refine put_in (h.mom ?_ ?_)
    · unfold fallV ifV; split; exact (two_in (addR_in _ _) (addR_in _ _)).1; exact inF0
    · unfold fallV ifV; split; exact (two_in (addR_in _ _) (addR_in _ _)).2; exact inF0
theorem moveB_ok {B : Bd} (h : B.ok) : (moveB B).1.ok := by
  unfold moveB
  split
  · exact h
  · refine put_in (h.pos ?_ ?_)
    · unfold moveV ifV; split; exact (two_in (addR_in _ _) (addR_in _ _)).1; exact inF0
    · unfold moveV ifV; split; exact (two_in (addR_in _ _) (addR_in _ _)).2; exact inF0
theorem jointR_ok {A B : Bd} (hA : A.ok) (hB : B.ok) (n : Int) : (jointR A B n).1.1.ok ∧ (jointR A B n).1.2.ok := by
  unfold jointR
  refine ifP_in ?_
  unfold heldU
  refine ifP_in ?_
  split
  · exact ⟨hA, hB⟩
  refine ifP_in ?_
  split
  · exact ⟨hA, hB⟩
  exact ifP_in (ifP_in (ifP_in (ifP_in (ifP_in (applyR_in hA hB _ _)))))
theorem apartR_ok {A B : Bd} (hA : A.ok) (hB : B.ok) (x y c : Int) : (apartR A B x y c).1.1.ok ∧ (apartR A B x y c).1.2.ok :=
  ifP_in (ifP_in (ifP_in (ifP_in (ifP_in (ifP_in (ifP_in (ifP_in ⟨hA.pos (two_in (subR_in _ _) (subR_in _ _)).1 (two_in (subR_in _ _) (subR_in _ _)).2, hB.pos (two_in (addR_in _ _) (addR_in _ _)).1 (two_in (addR_in _ _) (addR_in _ _)).2⟩)))))))
theorem contactR_ok {A B : Bd} (hA : A.ok) (hB : B.ok) (h : Ht) : (contactR A B h).1.1.ok ∧ (contactR A B h).1.2.ok := by
  unfold contactR
  refine ifP_in ?_
  split
  · exact ⟨hA, hB⟩
  refine ifP_in ?_
  unfold thenR
  have := metR_in hA hB h.x h.y (vR A B h.x h.y).1 (kR A B).1
  exact ifP_in (ifP_in (apartR_ok this.1 this.2 _ _ _))

/-! ### What a list keeps -/
structure Keep (L C : List Bd) : Prop where
  len : C.length = L.length
  ok : ∀ x ∈ C, x.ok
  each : ∀ i, i < L.length → KeepB (bd L i) (bd C i)
theorem Keep.refl {L : List Bd} (h : ∀ x ∈ L, x.ok) : Keep L L := ⟨rfl, h, fun _ _ => KeepB.refl _⟩
theorem Keep.trans {L C D : List Bd} (h : Keep L C) (g : Keep C D) : Keep L D := ⟨g.len.trans h.len, g.ok, fun i hi => (h.each i hi).trans (g.each i (by rw [h.len]; exact hi))⟩
theorem Keep.bd {L C : List Bd} (h : Keep L C) {i : Nat} (hi : i < L.length) : (bd C i).ok := h.ok _ (bd_mem (by rw [h.len]; exact hi))
theorem bd_out {L : List Bd} {i : Nat} (h : ¬ i < L.length) : bd L i = noB := by simp [Go.Proofs.YtcoooehcgbohgaaGreat.bd, List.getD, h]
theorem Keep.ok' {L C : List Bd} (h : Keep L C) (i : Nat) : (Go.Proofs.YtcoooehcgbohgaaGreat.bd C i).ok := by
  by_cases hi : i < L.length
  · exact h.bd hi
  · rw [bd_out (by rw [h.len]; exact hi)]; exact noB_ok
theorem set_out {L : List Bd} {i : Nat} (h : ¬ i < L.length) (B : Bd) : L.set i B = L := List.set_eq_of_length_le (by omega)
theorem Keep.put {C : List Bd} (h : ∀ x ∈ C, x.ok) {i : Nat} {B : Bd} (hB : B.ok) (k : KeepB (Go.Proofs.YtcoooehcgbohgaaGreat.bd C i) B) : Keep C (C.set i B) := by
  refine ⟨by simp, ok_set h hB i, fun j hj => ?_⟩
  by_cases e : i = j
  · subst e; rw [bd_set hj]; exact k
  · rw [bd_far e]; exact KeepB.refl _
theorem upE_keep {f : Nat → List Bd → List Bd × Int} {L : List Bd} {m k : Nat} {C : List Bd} (hf : ∀ j C, k ≤ j → j < k + m → Keep L C → (f j C).2 = 0 → Keep C (f j C).1) (h : Keep L C) (g : (upE f m k C).2 = 0) : Keep L (upE f m k C).1 :=
  upE_inv (I := Keep L) (fun j D h1 h2 hD he => hD.trans (hf j D h1 h2 hD he)) h g
theorem fallE_keep {x y : Int} {i : Nat} {C : List Bd} (h : ∀ x ∈ C, x.ok) (o : (bd C i).ok) (g : (fallE x y i C).2 = 0) : Keep C (fallE x y i C).1 := by
  unfold fallE at *
  obtain ⟨g1, g2⟩ := putE_inv g
  rw [g2]
  exact Keep.put h (fallB_ok o) (fallB_keep g1)
theorem moveE_keep {i : Nat} {C : List Bd} (h : ∀ x ∈ C, x.ok) (o : (bd C i).ok) (g : (moveE i C).2 = 0) : Keep C (moveE i C).1 := by
  unfold moveE at *
  obtain ⟨g1, g2⟩ := putE_inv g
  rw [g2]
  exact Keep.put h (moveB_ok o) (moveB_keep g1)
theorem pairE_keep {C : List Bd} {a b : Nat} {r : (Bd × Bd) × Int} (hab : a ≠ b) (h : ∀ x ∈ C, x.ok) (o : r.1.1.ok ∧ r.1.2.ok) (k : r.2 = 0 → KeepB (bd C a) r.1.1 ∧ KeepB (bd C b) r.1.2) (g : (pairE C a b r).2 = 0) : Keep C (pairE C a b r).1 := by
  obtain ⟨g1, g2⟩ := pairE_inv g
  rw [g2]
  refine (Keep.put h o.1 (k g1).1).trans (Keep.put (ok_set h o.1 a) o.2 ?_)
  rw [bd_far hab]
  exact (k g1).2
theorem falls_keep {x y : Int} {L : List Bd} (h : ∀ z ∈ L, z.ok) (g : (fallsE x y L).2 = 0) : Keep L (fallsE x y L).1 :=
  upE_keep (fun j _ _ _ hC he => fallE_keep hC.ok (hC.ok' j) he) (Keep.refl h) g
theorem moves_keep {L : List Bd} (h : ∀ z ∈ L, z.ok) (g : (movesE L).2 = 0) : Keep L (movesE L).1 :=
  upE_keep (fun j _ _ _ hC he => moveE_keep hC.ok (hC.ok' j) he) (Keep.refl h) g
theorem rightJ_ne {n : Nat} {j : Jt} (h : rightJ n j = true) : j.a.toNat ≠ j.b.toNat := by
  unfold rightJ at h
  rw [decide_eq_true_iff] at h
  omega
theorem pull_keep {J : List Jt} {L : List Bd} (hJ : J.all (rightJ L.length) = true) (h : ∀ z ∈ L, z.ok) (g : (pullE J L).2 = 0) : Keep L (pullE J L).1 :=
  upE_keep (fun j C _ hj hC he => by
    have hr := rightJ_ne (List.all_eq_true.1 hJ _ (jt_mem (i := j) (by omega)))
    exact pairE_keep hr hC.ok (jointR_ok (hC.ok' _) (hC.ok' _) _) (fun e => joint_keep e) he) (Keep.refl h) g
theorem round_keep {J : List Jt} {L : List Bd} (hJ : J.all (rightJ L.length) = true) (h : ∀ z ∈ L, z.ok) (g : (roundE J L).2 = 0) : Keep L (roundE J L).1 :=
  upE_keep (fun _ C _ _ hC he => pull_keep (by rw [hC.len]; exact hJ) hC.ok he) (Keep.refl h) g
theorem pr_mem {P : List (Nat × Nat)} {k : Nat} (h : k < P.length) : pr P k ∈ P := List.mem_of_getElem? (i := k) (by simp [pr, List.getD, h])
theorem hitE_keep {P : List (Nat × Nat)} {k : Nat} {C : List Bd} (hP : (pr P k).1 ≠ (pr P k).2) (h : ∀ z ∈ C, z.ok) (o : ∀ i, (bd C i).ok) (g : (hitE P k C).2 = 0) : Keep C (hitE P k C).1 := by
  unfold hitE at *
  split at g
  · rename_i h1
    rw [if_pos h1]
    split at g
    · rename_i h2
      rw [if_pos h2]
      exact pairE_keep hP h (contactR_ok (o _) (o _) _) (fun e => contact_keep (o _) (o _) e) g
    · rename_i h2
      rw [if_neg h2]; exact Keep.refl h
  · rename_i h1
    exact absurd g h1
theorem bounce_keep {L : List Bd} (h : ∀ z ∈ L, z.ok) (g : (bounceE L).2 = 0) : Keep L (bounceE L).1 := by
  unfold bounceE at *
  split at g
  · rename_i h1
    rw [if_pos h1]
    exact upE_keep (fun j C _ hj hC he => hitE_keep (by have := ((prs_mem _ _).1 (pr_mem (P := prs (boxE L).1) (k := j) (by omega))).1; omega) hC.ok hC.ok' he) (Keep.refl h) g
  · rename_i h1
    exact absurd g h1
theorem adv_keep {x y : Int} {J : List Jt} {L : List Bd} (hJ : J.all (rightJ L.length) = true) (h : ∀ z ∈ L, z.ok) (g : (advE x y J L).2 = 0) : Keep L (advE x y J L).1 := by
  unfold advE at *
  obtain ⟨h1, e1⟩ := thenE_inv g
  rw [e1] at g ⊢
  have k1 := falls_keep h h1
  obtain ⟨h2, e2⟩ := thenE_inv g
  rw [e2] at g ⊢
  have k2 := k1.trans (round_keep (by rw [k1.len]; exact hJ) k1.ok h2)
  obtain ⟨h3, e3⟩ := thenE_inv g
  rw [e3] at g ⊢
  have k3 := k2.trans (bounce_keep k2.ok h3)
  exact k3.trans (moves_keep k3.ok g)
/-- What a step that goes through is made of. -/
theorem step_inv {x y : Int} {J : List Jt} {L : List Bd} (g : (stepE x y J L).2 = 0) : rightW x y L J = true ∧ (advE x y J L).2 = 0 ∧ stepE x y J L = ((advE x y J L).1, 0) ∧ (advE x y J L).1.all rightB = true := by
  unfold stepE at *
  split at g
  · rename_i h
    rw [if_pos h]
    obtain ⟨h1, e1⟩ := thenE_inv g
    rw [e1] at g ⊢
    unfold endE at *
    split at g
    · rename_i h2
      rw [if_pos h2]
      exact ⟨h, h1, rfl, h2⟩
    · exact absurd g (by decide)
  · exact absurd g (by decide)
theorem rightW_iff {x y : Int} {L : List Bd} {J : List Jt} : rightW x y L J = true ↔ L.all rightB = true ∧ J.all (rightJ L.length) = true ∧ rightG x = true ∧ rightG y = true := by
  unfold rightW
  rw [Bool.and_eq_true, Bool.and_eq_true, Bool.and_eq_true, and_assoc]
theorem step_keep {x y : Int} {J : List Jt} {L : List Bd} (h : ∀ z ∈ L, z.ok) (g : (stepE x y J L).2 = 0) : Keep L (stepE x y J L).1 := by
  obtain ⟨h1, h2, h3, _⟩ := step_inv g
  rw [h3]
  exact adv_keep (rightW_iff.1 h1).2.1 h h2
theorem step_right {x y : Int} {J : List Jt} {L : List Bd} (h : ∀ z ∈ L, z.ok) (g : (stepE x y J L).2 = 0) : rightW x y (stepE x y J L).1 J = true := by
  have hk := step_keep h g
  obtain ⟨h1, h2, h3, h4⟩ := step_inv g
  obtain ⟨_, r2, r3, r4⟩ := rightW_iff.1 h1
  exact rightW_iff.2 ⟨by rw [h3]; exact h4, by rw [hk.len]; exact r2, r3, r4⟩
end Go.Proofs.YtcoooehcgbohgaaGreat

namespace Go.Proofs.YtcoooehcgbohgaaGreat
open Go.RowKit

/-- How a call ends that writes bodies where they are: the bodies L in block g became those of r; or it throws r's error. -/
def Done (base : Nat) (a : Option Addr) (g cap : Nat) (r : List Bd × Int) (w : World) (e : Ending) (w' : World) : Prop :=
  But (fun n => n = g) w w' ∧ ((r.2 = 0 ∧ e = .returned (.tuple #[]) ∧ Own w' base a g cap r.1) ∨ (¬ r.2 = 0 ∧ e = .panicked [fault r.2]))
theorem share_err (t : Int × Int × Int) : (two (partR t.1 64) (partR t.2.1 64)).2.2 = 0 := by
  unfold partR
  rw [if_neg (by decide), if_neg (by omega), if_neg (by decide), if_neg (by omega)]; rfl
theorem two_ok_in {r s : Int × Int} (h : inF r.1) (g : inF s.1) : inF (two r s).1 ∧ inF (two r s).2.1 := two_in h g
theorem tdiv64_in {v : Int} (h : inF v) : inF (partR v 64).1 := by
  unfold partR
  rw [if_neg (by decide), if_neg (by omega)]
  exact tdiv_in h (by decide) (by omega)

theorem fall_step (x y : Int) (B : Bd) (hm : ¬ B.m = 0) (h : (scaleV x y B.m).2.2 = 0) : fallB x y B = put (two (addR B.u (two (partR (scaleV x y B.m).1 64) (partR (scaleV x y B.m).2.1 64)).1) (addR B.v (two (partR (scaleV x y B.m).1 64) (partR (scaleV x y B.m).2.1 64)).2.1)) B.mom := by
  unfold fallB fallV gainV shareV
  rw [if_neg hm, ifV_ok h, ifV_ok (share_err _)]
theorem fall_stop (x y : Int) (B : Bd) (hm : ¬ B.m = 0) (h : ¬ (scaleV x y B.m).2.2 = 0) : (fallB x y B).2 = (scaleV x y B.m).2.2 := by
  unfold fallB fallV gainV shareV
  rw [if_neg hm, ifV_no h]
  rw [ifV_no (show ¬ (0, 0, (scaleV x y B.m).2.2).2.2 = 0 from h)]
  rw [put_no (show ¬ (0, 0, (scaleV x y B.m).2.2).2.2 = 0 from h)]


set_option maxRecDepth 10000 in
set_option maxHeartbeats 8000000 in
theorem fall_any (x y : Int) (hx : inF x) (hy : inF y) (L : List Bd) (base : Nat) (a : Option Addr) (g cap : Nat) (w : World) (hO : Own w base a g cap L) (hn : L.length ≤ 1000) :
    Calls Tryz.prog 42 #[.slice a L.length cap, vec x y] w fun e w' => Done base a g cap (fallsE x y L) w e w' := by
  unfold vec
  go_enter Tryz.func42, Tryz.ntmps42
  go_wp2_with (fail)
  have hlt0 : ∀ i, i < L.length → g < w.heap.size := fun i hi => (hO.lt hi).2
  go_loopw [7] (fun i wr => ∃ (k : Nat) (C : List Bd), k ≤ L.length ∧ i = .int .i64 k ∧ C.length = L.length ∧ Own wr base a g cap C ∧ Hid (fallsE x y L = upE (fallE x y) (L.length - k) k C) ∧ But (fun n => n = g) w wr ∧ At wr w.heap.size x y) (fun i _ => L.length - (intOf i).toNat)
  case atStart => exact ⟨0, L, by omega, rfl, rfl, hO.grew ((Grew.refl w).alloc _ _), rfl, ((Grew.refl w).alloc _ _).but, by constructor <;> simp [go_sem]⟩
  case round =>
    obtain ⟨k, C, hk, rfl, hl, hO, HU, hW, hg⟩ := hrel
    by_cases hlt : k < L.length
    · have hi : (k : Int) < (L.length : Int) := by omega
      have hlt' : k < C.length := by omega
      have ho := hO.ok _ (bd_mem hlt')
      have hb := hO.cells hlt'
      obtain rfl := hO.got hlt'
      have HE : Hid (fallE x y k C = putE C k (fallB x y (bd C k))) := rfl
      have HSt : Hid (∀ r, fallB x y (bd C k) = r → (fallE x y k C) = putE C k r) := fun r hr => by show putE C k _ = _; rw [hr]
      have HNo : Hid (∀ e, (fallE x y k C).2 = e → ¬ e = 0 → ¬ (fallsE x y L).2 = 0 ∧ Ending.panicked [fault e] = .panicked [fault (fallsE x y L).2]) := fun e he hz => by
        rw [HU.out, upE_no hlt (by rw [he]; exact hz), he]; exact ⟨hz, rfl⟩
      obtain ⟨B, eB⟩ : ∃ B, bd C k = B := ⟨_, rfl⟩
      have HBk : Hid (bd C k = B) := eB
      rw [eB] at ho hb HE HSt
      clear eB
      by_cases hm : B.m = 0
      · have h0 : (fallE x y k C) = (C, 0) := by
          rw [HE.out]
          unfold putE fallB
          rw [if_pos hm, if_pos rfl, ← HBk.out, set_bd hlt']
        obtain ⟨b0, b1, b2, b3, b4, b5, b6, b7⟩ := hb
        rw [hm] at b3
        have H0 : Hid _ := h0
        clear h0
        go_wp2_with (fail)
        refine ⟨⟨k + 1, C, by omega, rfl, hl, hO, ?_, hW, hg⟩, ?_⟩
        · show _ = _
          have h4 : (fallE x y k C).2 = 0 := by rw [H0.out]
          rw [HU.out, upE_ok hlt h4, H0.out]
        · simp [intOf]; omega
      · have hm' : (B.m != 0) = true := by simpa using hm
        have C1 : Hid (∀ W, _) := fun W => waysV_of (t := scaleV x y B.m) (vscale_any x y B.m W hx hy ho.m)
        have HZ : Hid ((two (partR (scaleV x y B.m).1 64) (partR (scaleV x y B.m).2.1 64)).2.2 = 0) := share_err _
        have HS1 : Hid (¬ (scaleV x y B.m).2.2 = 0 → (fallE x y k C).2 = (scaleV x y B.m).2.2) := fun h => by
          rw [HE.out]
          have := fall_stop x y B hm h
          unfold putE
          rw [this, if_neg h]
        have HS3 : Hid ((scaleV x y B.m).2.2 = 0 → ¬ (two (addR B.u (two (partR (scaleV x y B.m).1 64) (partR (scaleV x y B.m).2.1 64)).1) (addR B.v (two (partR (scaleV x y B.m).1 64) (partR (scaleV x y B.m).2.1 64)).2.1)).2.2 = 0 → (fallE x y k C).2 = (two (addR B.u (two (partR (scaleV x y B.m).1 64) (partR (scaleV x y B.m).2.1 64)).1) (addR B.v (two (partR (scaleV x y B.m).1 64) (partR (scaleV x y B.m).2.1 64)).2.1)).2.2) := fun h g => by
          rw [HSt.out _ (fall_step x y B hm h), put_no g]
          exact congrArg Prod.snd (if_neg g)
        have HS2 : Hid ((scaleV x y B.m).2.2 = 0 → (two (addR B.u (two (partR (scaleV x y B.m).1 64) (partR (scaleV x y B.m).2.1 64)).1) (addR B.v (two (partR (scaleV x y B.m).1 64) (partR (scaleV x y B.m).2.1 64)).2.1)).2.2 = 0 → (fallE x y k C) = (C.set k (B.mom (two (addR B.u (two (partR (scaleV x y B.m).1 64) (partR (scaleV x y B.m).2.1 64)).1) (addR B.v (two (partR (scaleV x y B.m).1 64) (partR (scaleV x y B.m).2.1 64)).2.1)).1 (two (addR B.u (two (partR (scaleV x y B.m).1 64) (partR (scaleV x y B.m).2.1 64)).1) (addR B.v (two (partR (scaleV x y B.m).1 64) (partR (scaleV x y B.m).2.1 64)).2.1)).2.1), 0)) := fun h g => by
          rw [HSt.out _ (fall_step x y B hm h), put_ok g]; rfl
        have i1 : inF (scaleV x y B.m).1 ∧ inF (scaleV x y B.m).2.1 := scaleV_in x y B.m
        generalize scaleV x y B.m = T1 at *
        have C2 : Hid (∀ W, _) := fun W => waysV_of (vshare_any T1.1 T1.2.1 64 W i1.1 i1.2 ⟨by decide, by decide⟩)
        have i2 : inF (two (partR T1.1 64) (partR T1.2.1 64)).1 ∧ inF (two (partR T1.1 64) (partR T1.2.1 64)).2.1 := two_in (tdiv64_in i1.1) (tdiv64_in i1.2)
        generalize two (partR T1.1 64) (partR T1.2.1 64) = T2 at *
        have C3 : Hid (∀ W, _) := fun W => waysV_of (vadd_any B.u B.v T2.1 T2.2.1 W ho.u ho.v i2.1 i2.2)
        have HI : Hid (inF (two (addR B.u T2.1) (addR B.v T2.2.1)).1 ∧ inF (two (addR B.u T2.1) (addR B.v T2.2.1)).2.1) := two_in (addR_in _ _) (addR_in _ _)
        generalize two (addR B.u T2.1) (addR B.v T2.2.1) = T3 at *
        unfold vec at C1 C2 C3
        clear i1 i2 ho
        go_upto_region 4 with (fail)
        obtain ⟨b0, b1, b2, b3, b4, b5, b6, b7⟩ := hb
        go_upto_region 5 with (fail)
        have hb : BatO wr g (k * 8) B := ⟨b0, b1, b2, b3, b4, b5, b6, b7⟩
        clear b0 b1 b2 b3 b4 b5 b6 b7
        refine late_region (S := (fun w' => BatO w' g (k * 8) B ∧ At w' w.heap.size x y)) [18] (by kernel_rfl) ?_ (fun hH0 => ?_)
        · exact ⟨hb.grew (Grew.refl wr).drew, hg.grew (Grew.refl wr).drew⟩
        refine late_take (i := 0) (oi := { dst := some 16, op := Go.Op.move (Go.Operand.tmp 0), type := 22, pos := "world.go:111", after := #[], guard := none }) (v := ?va1) rfl (by kernel_rfl) (by kernel_rfl) (by kernel_rfl) (by kernel_rfl) (by kernel_rfl) (fun _ _ _ h => h) (Or.inl ⟨by rfl, ?hya1⟩) hH0 ?resta1
        case hya1 => (intro w hSw; obtain ⟨⟨b0, b1, b2, b3, b4, b5, b6, b7⟩, m0, m1⟩ := hSw; go_simp; try (with_reducible rfl))
        simp only [Act.put, List.setIfInBounds_toArray, List.set_cons_zero, List.set_cons_succ]
        refine late_take (i := 1) (oi := { dst := some 17, op := Go.Op.move (Go.Operand.tmp 4), type := 3, pos := "world.go:111", after := #[], guard := none }) (v := ?va2) rfl (by kernel_rfl) (by kernel_rfl) (by kernel_rfl) (by kernel_rfl) (by kernel_rfl) (fun _ _ _ h => h) (Or.inl ⟨by rfl, ?hya2⟩) hH0 ?resta2
        case hya2 => (intro w hSw; obtain ⟨⟨b0, b1, b2, b3, b4, b5, b6, b7⟩, m0, m1⟩ := hSw; go_simp; try (with_reducible rfl))
        simp only [Act.put, List.setIfInBounds_toArray, List.set_cons_zero, List.set_cons_succ]
        refine late_take (i := 2) (oi := { dst := some 18, op := Go.Op.move (Go.Operand.tmp 0), type := 22, pos := "world.go:111", after := #[], guard := none }) (v := ?va3) rfl (by kernel_rfl) (by kernel_rfl) (by kernel_rfl) (by kernel_rfl) (by kernel_rfl) (fun _ _ _ h => h) (Or.inl ⟨by rfl, ?hya3⟩) hH0 ?resta3
        case hya3 => (intro w hSw; obtain ⟨⟨b0, b1, b2, b3, b4, b5, b6, b7⟩, m0, m1⟩ := hSw; go_simp; try (with_reducible rfl))
        simp only [Act.put, List.setIfInBounds_toArray, List.set_cons_zero, List.set_cons_succ]
        refine late_take (i := 3) (oi := { dst := some 19, op := Go.Op.move (Go.Operand.tmp 4), type := 3, pos := "world.go:111", after := #[], guard := none }) (v := ?va4) rfl (by kernel_rfl) (by kernel_rfl) (by kernel_rfl) (by kernel_rfl) (by kernel_rfl) (fun _ _ _ h => h) (Or.inl ⟨by rfl, ?hya4⟩) hH0 ?resta4
        case hya4 => (intro w hSw; obtain ⟨⟨b0, b1, b2, b3, b4, b5, b6, b7⟩, m0, m1⟩ := hSw; go_simp; try (with_reducible rfl))
        simp only [Act.put, List.setIfInBounds_toArray, List.set_cons_zero, List.set_cons_succ]
        refine late_take (i := 4) (oi := { dst := some 20, op := Go.Op.indexAddr 22 (Go.Operand.tmp 18) (Go.Operand.tmp 19), type := 0, pos := "world.go:111", after := #[{ on := 2, ground := Go.Ground.data }, { on := 3, ground := Go.Ground.data }], guard := none }) (v := ?va5) rfl (by kernel_rfl) (by kernel_rfl) (by kernel_rfl) (by kernel_rfl) (by kernel_rfl) (fun _ _ _ h => h) (Or.inl ⟨by rfl, ?hya5⟩) hH0 ?resta5
        case hya5 => (intro w hSw; obtain ⟨⟨b0, b1, b2, b3, b4, b5, b6, b7⟩, m0, m1⟩ := hSw; go_simp; try (with_reducible rfl))
        simp only [Act.put, List.setIfInBounds_toArray, List.set_cons_zero, List.set_cons_succ]
        refine late_take (i := 5) (oi := { dst := some 21, op := Go.Op.fieldAddr 28 (Go.Operand.tmp 20) 4, type := 0, pos := "world.go:111", after := #[{ on := 4, ground := Go.Ground.data }], guard := none }) (v := ?va6) rfl (by kernel_rfl) (by kernel_rfl) (by kernel_rfl) (by kernel_rfl) (by kernel_rfl) (fun _ _ _ h => h) (Or.inl ⟨by rfl, ?hya6⟩) hH0 ?resta6
        case hya6 => (intro w hSw; obtain ⟨⟨b0, b1, b2, b3, b4, b5, b6, b7⟩, m0, m1⟩ := hSw; go_simp; try (with_reducible rfl))
        simp only [Act.put, List.setIfInBounds_toArray, List.set_cons_zero, List.set_cons_succ]
        refine late_take (i := 6) (oi := { dst := some 22, op := Go.Op.load 26 (Go.Operand.tmp 21), type := 26, pos := "world.go:111", after := #[{ on := 5, ground := Go.Ground.data }], guard := none }) (v := ?va7) rfl (by kernel_rfl) (by kernel_rfl) (by kernel_rfl) (by kernel_rfl) (by kernel_rfl) (fun _ _ _ h => h) (Or.inl ⟨by rfl, ?hya7⟩) hH0 ?resta7
        case hya7 => (intro w hSw; obtain ⟨⟨b0, b1, b2, b3, b4, b5, b6, b7⟩, m0, m1⟩ := hSw; go_simp; try (with_reducible rfl))
        simp only [Act.put, List.setIfInBounds_toArray, List.set_cons_zero, List.set_cons_succ]
        refine late_take (i := 7) (oi := { dst := some 23, op := Go.Op.load 26 (Go.Operand.tmp 3), type := 26, pos := "world.go:111", after := #[], guard := none }) (v := ?va8) rfl (by kernel_rfl) (by kernel_rfl) (by kernel_rfl) (by kernel_rfl) (by kernel_rfl) (fun _ _ _ h => h) (Or.inl ⟨by rfl, ?hya8⟩) hH0 ?resta8
        case hya8 => (intro w hSw; obtain ⟨⟨b0, b1, b2, b3, b4, b5, b6, b7⟩, m0, m1⟩ := hSw; go_simp; try (with_reducible rfl))
        simp only [Act.put, List.setIfInBounds_toArray, List.set_cons_zero, List.set_cons_succ]
        refine late_take (i := 8) (oi := { dst := some 24, op := Go.Op.move (Go.Operand.tmp 0), type := 22, pos := "world.go:111", after := #[], guard := none }) (v := ?va9) rfl (by kernel_rfl) (by kernel_rfl) (by kernel_rfl) (by kernel_rfl) (by kernel_rfl) (fun _ _ _ h => h) (Or.inl ⟨by rfl, ?hya9⟩) hH0 ?resta9
        case hya9 => (intro w hSw; obtain ⟨⟨b0, b1, b2, b3, b4, b5, b6, b7⟩, m0, m1⟩ := hSw; go_simp; try (with_reducible rfl))
        simp only [Act.put, List.setIfInBounds_toArray, List.set_cons_zero, List.set_cons_succ]
        refine late_take (i := 9) (oi := { dst := some 25, op := Go.Op.move (Go.Operand.tmp 4), type := 3, pos := "world.go:111", after := #[], guard := none }) (v := ?va10) rfl (by kernel_rfl) (by kernel_rfl) (by kernel_rfl) (by kernel_rfl) (by kernel_rfl) (fun _ _ _ h => h) (Or.inl ⟨by rfl, ?hya10⟩) hH0 ?resta10
        case hya10 => (intro w hSw; obtain ⟨⟨b0, b1, b2, b3, b4, b5, b6, b7⟩, m0, m1⟩ := hSw; go_simp; try (with_reducible rfl))
        simp only [Act.put, List.setIfInBounds_toArray, List.set_cons_zero, List.set_cons_succ]
        refine late_take (i := 10) (oi := { dst := some 26, op := Go.Op.indexAddr 22 (Go.Operand.tmp 24) (Go.Operand.tmp 25), type := 0, pos := "world.go:111", after := #[{ on := 8, ground := Go.Ground.data }, { on := 9, ground := Go.Ground.data }], guard := none }) (v := ?va11) rfl (by kernel_rfl) (by kernel_rfl) (by kernel_rfl) (by kernel_rfl) (by kernel_rfl) (fun _ _ _ h => h) (Or.inl ⟨by rfl, ?hya11⟩) hH0 ?resta11
        case hya11 => (intro w hSw; obtain ⟨⟨b0, b1, b2, b3, b4, b5, b6, b7⟩, m0, m1⟩ := hSw; go_simp; try (with_reducible rfl))
        simp only [Act.put, List.setIfInBounds_toArray, List.set_cons_zero, List.set_cons_succ]
        refine late_take (i := 11) (oi := { dst := some 27, op := Go.Op.fieldAddr 28 (Go.Operand.tmp 26) 2, type := 0, pos := "world.go:111", after := #[{ on := 10, ground := Go.Ground.data }], guard := none }) (v := ?va12) rfl (by kernel_rfl) (by kernel_rfl) (by kernel_rfl) (by kernel_rfl) (by kernel_rfl) (fun _ _ _ h => h) (Or.inl ⟨by rfl, ?hya12⟩) hH0 ?resta12
        case hya12 => (intro w hSw; obtain ⟨⟨b0, b1, b2, b3, b4, b5, b6, b7⟩, m0, m1⟩ := hSw; go_simp; try (with_reducible rfl))
        simp only [Act.put, List.setIfInBounds_toArray, List.set_cons_zero, List.set_cons_succ]
        refine late_take (i := 12) (oi := { dst := some 28, op := Go.Op.load 24 (Go.Operand.tmp 27), type := 24, pos := "world.go:111", after := #[{ on := 11, ground := Go.Ground.data }], guard := none }) (v := ?va13) rfl (by kernel_rfl) (by kernel_rfl) (by kernel_rfl) (by kernel_rfl) (by kernel_rfl) (fun _ _ _ h => h) (Or.inl ⟨by rfl, ?hya13⟩) hH0 ?resta13
        case hya13 => (intro w hSw; obtain ⟨⟨b0, b1, b2, b3, b4, b5, b6, b7⟩, m0, m1⟩ := hSw; go_simp; try (with_reducible rfl))
        simp only [Act.put, List.setIfInBounds_toArray, List.set_cons_zero, List.set_cons_succ]
        refine late_one (i := 13) (by kernel_rfl) ?_
        refine late_run (o := { dst := some 29, op := Go.Op.call { callee := Go.Callee.value (Go.Operand.func 57), args := #[Go.Operand.tmp 23, Go.Operand.tmp 28], argTypes := #[26, 24] }, type := 26, pos := "world.go:111", after := #[{ on := 7, ground := Go.Ground.data }, { on := 12, ground := Go.Ground.data }], guard := none }) rfl (fun K hK => ?_)
        go_simp
        go_wp2_with (first
          | (go_at_call 57; go_fit (C1.out _); rintro e V1 ⟨(⟨rfl, h1⟩ | ⟨rfl, h1⟩), U1⟩; rotate_left; (exact post_panic (P := Tryz.prog) (fn := Tryz.f42) (R := fun e w' => Done base (some ⟨g, 0, none⟩) g cap (fallsE x y L) w e w') rfl ⟨(hW.trans ((Grew.refl wr).drew.trans U1).but), .inr (HNo.out _ (HS1.out h1.out) h1.out)⟩))
          | fail)
        refine hK.out _ _ (⟨hH0.1.grew U1, hH0.2.grew U1⟩) (fun hHa14 => ?_)
        clear hK K
        refine late_one (i := 14) (by kernel_rfl) ?_
        refine late_run (o := { dst := some 30, op := Go.Op.call { callee := Go.Callee.value (Go.Operand.func 56), args := #[Go.Operand.tmp 29, Go.Operand.const (Go.Value.int Go.IntKind.i64 64)], argTypes := #[26, 3] }, type := 26, pos := "world.go:111", after := #[{ on := 13, ground := Go.Ground.data }, { on := 13, ground := Go.Ground.chain }], guard := none }) rfl (fun K hK => ?_)
        go_simp
        go_wp2_with (first
          | (go_at_call 56; go_fit (C2.out _); rintro e V2 ⟨(⟨rfl, h2⟩ | ⟨rfl, h2⟩), U2⟩; rotate_left; (exact absurd (HZ.out) h2.out))
          | fail)
        refine hK.out _ _ (⟨hHa14.1.grew U2, hHa14.2.grew U2⟩) (fun hHa15 => ?_)
        clear hK K
        refine late_one (i := 15) (by kernel_rfl) ?_
        refine late_run (o := { dst := some 31, op := Go.Op.call { callee := Go.Callee.value (Go.Operand.func 29), args := #[Go.Operand.tmp 22, Go.Operand.tmp 30], argTypes := #[26, 26] }, type := 26, pos := "world.go:111", after := #[{ on := 6, ground := Go.Ground.data }, { on := 14, ground := Go.Ground.data }, { on := 14, ground := Go.Ground.chain }], guard := none }) rfl (fun K hK => ?_)
        go_simp
        go_wp2_with (first
          | (go_at_call 29; go_fit (C3.out _); rintro e V3 ⟨(⟨rfl, h3⟩ | ⟨rfl, h3⟩), U3⟩; rotate_left; (exact post_panic (P := Tryz.prog) (fn := Tryz.f42) (R := fun e w' => Done base (some ⟨g, 0, none⟩) g cap (fallsE x y L) w e w') rfl ⟨(hW.trans ((((Grew.refl wr).drew.trans U1).trans U2).trans U3).but), .inr (HNo.out _ (HS3.out h1.out h3.out) h3.out)⟩))
          | fail)
        refine hK.out _ _ (⟨hHa15.1.grew U3, hHa15.2.grew U3⟩) (fun hHa16 => ?_)
        clear hK K
        refine late_one (i := 16) (by kernel_rfl) ?_
        refine late_run (o := { dst := some 32, op := Go.Op.indexAddr 22 (Go.Operand.tmp 16) (Go.Operand.tmp 17), type := 0, pos := "world.go:111", after := #[{ on := 0, ground := Go.Ground.data }, { on := 1, ground := Go.Ground.data }, { on := 0, ground := Go.Ground.phase }, { on := 1, ground := Go.Ground.phase }, { on := 2, ground := Go.Ground.phase }, { on := 3, ground := Go.Ground.phase }, { on := 4, ground := Go.Ground.phase }, { on := 5, ground := Go.Ground.phase }, { on := 6, ground := Go.Ground.phase }, { on := 7, ground := Go.Ground.phase }, { on := 8, ground := Go.Ground.phase }, { on := 9, ground := Go.Ground.phase }, { on := 10, ground := Go.Ground.phase }, { on := 11, ground := Go.Ground.phase }, { on := 12, ground := Go.Ground.phase }, { on := 13, ground := Go.Ground.phase }, { on := 14, ground := Go.Ground.phase }, { on := 15, ground := Go.Ground.phase }], guard := none }) rfl (fun K hK => ?_)
        go_simp
        refine hK.out _ _ hHa16 (fun hHa17 => ?_)
        clear hK K
        refine late_take (i := 17) (oi := { dst := some 33, op := Go.Op.fieldAddr 28 (Go.Operand.tmp 32) 4, type := 0, pos := "world.go:111", after := #[{ on := 16, ground := Go.Ground.data }, { on := 0, ground := Go.Ground.phase }, { on := 1, ground := Go.Ground.phase }, { on := 2, ground := Go.Ground.phase }, { on := 3, ground := Go.Ground.phase }, { on := 4, ground := Go.Ground.phase }, { on := 5, ground := Go.Ground.phase }, { on := 6, ground := Go.Ground.phase }, { on := 7, ground := Go.Ground.phase }, { on := 8, ground := Go.Ground.phase }, { on := 9, ground := Go.Ground.phase }, { on := 10, ground := Go.Ground.phase }, { on := 11, ground := Go.Ground.phase }, { on := 12, ground := Go.Ground.phase }, { on := 13, ground := Go.Ground.phase }, { on := 14, ground := Go.Ground.phase }, { on := 15, ground := Go.Ground.phase }], guard := none }) (v := ?va18) rfl (by kernel_rfl) (by kernel_rfl) (by kernel_rfl) (by kernel_rfl) (by kernel_rfl) (fun _ _ _ h => h) (Or.inl ⟨by rfl, ?hya18⟩) hHa17 ?resta18
        case hya18 => (intro w hSw; obtain ⟨⟨b0, b1, b2, b3, b4, b5, b6, b7⟩, m0, m1⟩ := hSw; go_simp; try (with_reducible rfl))
        simp only [Act.put, List.setIfInBounds_toArray, List.set_cons_zero, List.set_cons_succ]
        refine late_one (i := 18) (by kernel_rfl) ?_
        refine late_write (o := { dst := none, op := Go.Op.store 26 (Go.Operand.tmp 33) (Go.Operand.tmp 31), type := 0, pos := "world.go:111", after := #[{ on := 17, ground := Go.Ground.data }, { on := 15, ground := Go.Ground.data }, { on := 15, ground := Go.Ground.chain }, { on := 0, ground := Go.Ground.phase }, { on := 1, ground := Go.Ground.phase }, { on := 2, ground := Go.Ground.phase }, { on := 3, ground := Go.Ground.phase }, { on := 4, ground := Go.Ground.phase }, { on := 5, ground := Go.Ground.phase }, { on := 6, ground := Go.Ground.phase }, { on := 7, ground := Go.Ground.phase }, { on := 8, ground := Go.Ground.phase }, { on := 9, ground := Go.Ground.phase }, { on := 10, ground := Go.Ground.phase }, { on := 11, ground := Go.Ground.phase }, { on := 12, ground := Go.Ground.phase }, { on := 13, ground := Go.Ground.phase }, { on := 14, ground := Go.Ground.phase }, { on := 15, ground := Go.Ground.phase }], guard := none }) rfl (by kernel_rfl) (fun K hK => ?_)
        have G3 : Grew wr V3 := (((Grew.refl wr).drew.trans U1).trans U2).trans U3
        have hO3 := hO.grew G3
        have ⟨a0, a1, a2, a3, a4, a5, a6, a7⟩ := hO3.cells hlt'
        have z1 := hO3.free hlt' (k * 8 + 6)
        have z2 := hO3.free hlt' (k * 8 + 7)
        go_simp
        refine hK.out _ _ ?_
        clear hK K
        refine late_done (by kernel_rfl) ?_ _
        go_wp2_with (fail)
        have hE := HS2.out h1.out h3.out
        refine ⟨⟨k + 1, C.set k (B.mom T3.1 T3.2.1), by omega, rfl, by rw [List.length_set]; exact hl, ?_, ?_, ?_, ?_⟩, ?_⟩
        · have := hO3.mom hlt' HI.out.1 HI.out.2
          rw [HBk.out] at this
          exact this
        · have h4 : (fallE x y k C).2 = 0 := by rw [hE]
          have h5 : (fallE x y k C).1 = C.set k (B.mom T3.1 T3.2.1) := by rw [hE]
          show _ = _
          rw [HU.out, upE_ok hlt h4, h5]
        · exact (((hW.trans G3.but).set rfl _ _ _).set rfl _ _ _)
        · have := hlt0 k hlt
          have f := set_far (a := g) (c := w.heap.size) (by omega)
          have hg3 := hg.grew G3
          exact ⟨by rw [f, f]; exact hg3.1, by rw [f, f]; exact hg3.2⟩
        · simp [intOf]; omega
    · have hi : ¬ (k : Int) < (L.length : Int) := by omega
      obtain rfl : k = L.length := by omega
      have hE : Hid (fallsE x y L = (C, 0)) := by show _ = _; rw [HU.out, Nat.sub_self]; rfl
      clear HU
      go_wp2_with (fail)
      go_end0
      exact ⟨hW, .inl ⟨by rw [hE.out], rfl, by rw [hE.out]; exact hO⟩⟩
end Go.Proofs.YtcoooehcgbohgaaGreat
