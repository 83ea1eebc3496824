/-
  Plain numbers, no program in sight: what chapter 12's calls answer. Nothing is claimed here.
-/
import Derived.Test.YtnkhknmpffcfbaaGreatJNum
import Derived.Test.YtnkhknmpffcfbaaGreatPNum
namespace Go.Proofs.YtnkhknmpffcfbaaGreat
open Go Go.RowKit

/-- A joint: its two ends, its length. -/
structure Jt where
  a : Int
  b : Int
  n : Int
/-- .. as the code has it. -/
def Jt.val (j : Jt) : Value := .agg #[.int .i64 j.a, .int .i64 j.b, .int .i64 j.n]
/-- .. its cells. -/
def Jt.row (j : Jt) : List Value := [.int .i64 j.a, .int .i64 j.b, .int .i64 j.n]
structure Jt.ok (j : Jt) : Prop where
  a : inF j.a
  b : inF j.b
  n : inF j.n

def bd (L : List Bd) (i : Nat) : Bd := L.getD i noB
def jt (J : List Jt) (i : Nat) : Jt := J.getD i ⟨0, 0, 0⟩
theorem bd_get {L : List Bd} {i : Nat} (h : i < L.length) : L[i]? = some (bd L i) := by simp [bd, List.getD, h]
theorem jt_get {J : List Jt} {i : Nat} (h : i < J.length) : J[i]? = some (jt J i) := by simp [jt, List.getD, h]
theorem bd_mem {L : List Bd} {i : Nat} (h : i < L.length) : bd L i ∈ L := List.mem_of_getElem? (bd_get h)
theorem jt_mem {J : List Jt} {i : Nat} (h : i < J.length) : jt J i ∈ J := List.mem_of_getElem? (jt_get h)
theorem bd_set {L : List Bd} {i : Nat} (h : i < L.length) (B : Bd) : bd (L.set i B) i = B := by simp [bd, List.getD, h]
theorem bd_far {L : List Bd} {i k : Nat} (h : i ≠ k) (B : Bd) : bd (L.set i B) k = bd L k := by simp [bd, List.getD, List.getElem?_set_ne h]
theorem set_bd {L : List Bd} {i : Nat} (h : i < L.length) : L.set i (bd L i) = L := by
  apply List.ext_getElem?
  intro j
  rw [List.getElem?_set]
  by_cases e : i = j
  · subst e; rw [if_pos rfl, if_pos h, bd_get h]
  · rw [if_neg e]
theorem bd_ext {L M : List Bd} (hl : L.length = M.length) (h : ∀ i, i < L.length → bd L i = bd M i) : L = M := by
  apply List.ext_getElem?
  intro j
  by_cases hj : j < L.length
  · rw [bd_get hj, bd_get (by omega), h j hj]
  · rw [List.getElem?_eq_none (by omega), List.getElem?_eq_none (by omega)]
theorem ok_set {L : List Bd} (h : ∀ x ∈ L, x.ok) {B : Bd} (hB : B.ok) (i : Nat) : ∀ x ∈ L.set i B, x.ok := by
  intro x hx
  rcases List.mem_or_eq_of_mem_set hx with g | rfl
  · exact h x g
  · exact hB

/-- What is done at k, k + 1 .. (m times), up to the first error. -/
def upE (f : Nat → List Bd → List Bd × Int) : Nat → Nat → List Bd → List Bd × Int
  | 0, _, L => (L, 0)
  | m + 1, k, L => if (f k L).2 = 0 then upE f m (k + 1) (f k L).1 else ([], (f k L).2)
theorem upE_end (f : Nat → List Bd → List Bd × Int) (k : Nat) (L : List Bd) : upE f 0 k L = (L, 0) := rfl
theorem upE_ok {f : Nat → List Bd → List Bd × Int} {n k : Nat} {L : List Bd} (h : k < n) (g : (f k L).2 = 0) : upE f (n - k) k L = upE f (n - (k + 1)) (k + 1) (f k L).1 := by
  rw [show n - k = (n - (k + 1)) + 1 by omega]
  exact if_pos g
theorem upE_no {f : Nat → List Bd → List Bd × Int} {n k : Nat} {L : List Bd} (h : k < n) (g : ¬ (f k L).2 = 0) : upE f (n - k) k L = ([], (f k L).2) := by
  rw [show n - k = (n - (k + 1)) + 1 by omega]
  exact if_neg g
/-- What each turn keeps all of them keep. -/
theorem upE_inv {f : Nat → List Bd → List Bd × Int} {I : List Bd → Prop} : ∀ {m k : Nat} {L : List Bd}, (∀ j C, k ≤ j → j < k + m → I C → (f j C).2 = 0 → I (f j C).1) → I L → (upE f m k L).2 = 0 → I (upE f m k L).1
  | 0, _, _, _, h, _ => h
  | m + 1, k, L, hf, h, g => by
    unfold upE at g ⊢
    by_cases e : (f k L).2 = 0
    · rw [if_pos e] at g ⊢
      exact upE_inv (fun j C h1 h2 => hf j C (by omega) (by omega)) (hf k L (by omega) (by omega) h e) g
    · rw [if_neg e] at g; exact absurd g e

def thenE (r : List Bd × Int) (f : List Bd → List Bd × Int) : List Bd × Int := if r.2 = 0 then f r.1 else ([], r.2)
theorem thenE_ok {r : List Bd × Int} {f : List Bd → List Bd × Int} (h : r.2 = 0) : thenE r f = f r.1 := if_pos h
theorem thenE_no {r : List Bd × Int} {f : List Bd → List Bd × Int} (h : ¬ r.2 = 0) : thenE r f = ([], r.2) := if_neg h
theorem thenE_inv {r : List Bd × Int} {f : List Bd → List Bd × Int} (h : (thenE r f).2 = 0) : r.2 = 0 ∧ thenE r f = f r.1 := by
  by_cases e : r.2 = 0
  · exact ⟨e, if_pos e⟩
  · unfold thenE at h; rw [if_neg e] at h; exact absurd h e

/-- A body that is put at i; two that are put at a and b; or the error. -/
def putE (L : List Bd) (i : Nat) (r : Bd × Int) : List Bd × Int := if r.2 = 0 then (L.set i r.1, 0) else ([], r.2)
def pairE (L : List Bd) (a b : Nat) (r : (Bd × Bd) × Int) : List Bd × Int := if r.2 = 0 then ((L.set a r.1.1).set b r.1.2, 0) else ([], r.2)
theorem putE_inv {L : List Bd} {i : Nat} {r : Bd × Int} (h : (putE L i r).2 = 0) : r.2 = 0 ∧ putE L i r = (L.set i r.1, 0) := by
  by_cases e : r.2 = 0
  · exact ⟨e, if_pos e⟩
  · unfold putE at h; rw [if_neg e] at h; exact absurd h e
theorem pairE_inv {L : List Bd} {a b : Nat} {r : (Bd × Bd) × Int} (h : (pairE L a b r).2 = 0) : r.2 = 0 ∧ pairE L a b r = ((L.set a r.1.1).set b r.1.2, 0) := by
  by_cases e : r.2 = 0
  · exact ⟨e, if_pos e⟩
  · unfold pairE at h; rw [if_neg e] at h; exact absurd h e

/-- 1. What gravity gives. -/
def shareV (t : Int × Int × Int) : Int × Int × Int := ifV t.2.2 (two (partR t.1 64) (partR t.2.1 64))
def gainV (x y m : Int) : Int × Int × Int := shareV (scaleV x y m)
def fallV (x y : Int) (B : Bd) : Int × Int × Int := ifV (gainV x y B.m).2.2 (two (addR B.u (gainV x y B.m).1) (addR B.v (gainV x y B.m).2.1))
def fallB (x y : Int) (B : Bd) : Bd × Int := if B.m = 0 then (B, 0) else put (fallV x y B) B.mom
def fallE (x y : Int) (i : Nat) (L : List Bd) : List Bd × Int := putE L i (fallB x y (bd L i))
/-- 2. The joints, one after another. -/
def jointE (J : List Jt) (k : Nat) (L : List Bd) : List Bd × Int := pairE L (jt J k).a.toNat (jt J k).b.toNat (jointR (bd L (jt J k).a.toNat) (bd L (jt J k).b.toNat) (jt J k).n)
def pullE (J : List Jt) (L : List Bd) : List Bd × Int := upE (jointE J) J.length 0 L
/-- 3. The boxes, and those that touch. -/
def boxE : List Bd → List Bx × Int
  | [] => ([], 0)
  | B :: L => if (boxR B).2 = 0 then (if (boxE L).2 = 0 then ((boxR B).1 :: (boxE L).1, 0) else ([], (boxE L).2)) else ([], (boxR B).2)
def pr (P : List (Nat × Nat)) (k : Nat) : Nat × Nat := P.getD k (0, 0)
def hitE (P : List (Nat × Nat)) (k : Nat) (L : List Bd) : List Bd × Int :=
  if (hitR (bd L (pr P k).1) (bd L (pr P k).2)).2 = 0 then
    (if (hitR (bd L (pr P k).1) (bd L (pr P k).2)).1.2 = true then pairE L (pr P k).1 (pr P k).2 (contactR (bd L (pr P k).1) (bd L (pr P k).2) (hitR (bd L (pr P k).1) (bd L (pr P k).2)).1.1) else (L, 0))
  else ([], (hitR (bd L (pr P k).1) (bd L (pr P k).2)).2)
def bounceE (L : List Bd) : List Bd × Int := if (boxE L).2 = 0 then upE (hitE (prs (boxE L).1)) (prs (boxE L).1).length 0 L else ([], (boxE L).2)
/-- 4. Where each goes. -/
def moveV (B : Bd) : Int × Int × Int := ifV (shareV (speedR B)).2.2 (two (addR B.p (shareV (speedR B)).1) (addR B.q (shareV (speedR B)).2.1))
def moveB (B : Bd) : Bd × Int := if B.m = 0 then (B, 0) else put (moveV B) B.pos
def moveE (i : Nat) (L : List Bd) : List Bd × Int := putE L i (moveB (bd L i))

def fallsE (x y : Int) (L : List Bd) : List Bd × Int := upE (fallE x y) L.length 0 L
def roundE (J : List Jt) (L : List Bd) : List Bd × Int := upE (fun _ => pullE J) 4 0 L
def movesE (L : List Bd) : List Bd × Int := upE moveE L.length 0 L
/-- All four. -/
def advE (x y : Int) (J : List Jt) (L : List Bd) : List Bd × Int := thenE (fallsE x y L) fun A => thenE (roundE J A) fun B => thenE (bounceE B) movesE

/-- Which worlds may be. -/
def rightJ (n : Nat) (j : Jt) : Bool := decide (0 ≤ j.a ∧ j.a < n ∧ 0 ≤ j.b ∧ j.b < n ∧ ¬ j.a = j.b ∧ 0 ≤ j.n ∧ j.n ≤ 4294967296000)
def rightG (x : Int) : Bool := decide (-4294967296000 ≤ x ∧ x ≤ 4294967296000)
def rightW (x y : Int) (L : List Bd) (J : List Jt) : Bool := L.all rightB && J.all (rightJ L.length) && (rightG x && rightG y)
def endE (L : List Bd) : List Bd × Int := if L.all rightB = true then (L, 0) else ([], 3)
/-- What Step answers. -/
def stepE (x y : Int) (J : List Jt) (L : List Bd) : List Bd × Int := if rightW x y L J = true then thenE (advE x y J L) endE else ([], 9)
/-- What Run answers: the bodies, at which step, the error. -/
def goE (x y : Int) (J : List Jt) : Nat → Nat → List Bd → (List Bd × Int) × Int
  | 0, _, L => ((L, 0), 0)
  | m + 1, k, L => if (stepE x y J L).2 = 0 then goE x y J m (k + 1) (stepE x y J L).1 else (([], (k : Int) + 1), (stepE x y J L).2)
def runE (x y : Int) (J : List Jt) (L : List Bd) (n : Int) : (List Bd × Int) × Int :=
  if n < 0 ∨ 200 < n then (([], 0), 9) else if n = 0 then (if rightW x y L J = true then ((L, 0), 0) else (([], 0), 9)) else goE x y J n.toNat 0 L
/-- What Momentum answers. -/
def sumE : List Bd → Int → Int → Int × Int × Int
  | [], x, y => (x, y, 0)
  | B :: L, x, y => if (two (addR x B.u) (addR y B.v)).2.2 = 0 then sumE L (two (addR x B.u) (addR y B.v)).1 (two (addR x B.u) (addR y B.v)).2.1 else (0, 0, (two (addR x B.u) (addR y B.v)).2.2)
end Go.Proofs.YtnkhknmpffcfbaaGreat
